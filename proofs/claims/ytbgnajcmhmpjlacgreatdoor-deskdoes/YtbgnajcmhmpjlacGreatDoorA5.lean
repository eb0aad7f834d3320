/- The contracts of a clerk's hold, end and Answer. -/
import Derived.BigQuiet
import Derived.Deep.RegionHeld3
import Derived.Deep.CutBlock
import Derived.WalkKit
import Derived.Test.YtbgnajcmhmpjlacGreatDoorA3
import Derived.Test.YtbgnajcmhmpjlacGreatDoorA4
set_option maxRecDepth 100000
set_option maxHeartbeats 100000000
namespace Go.Proofs.YtbgnajcmhmpjlacGreatDoor
open Go.RowKit
def rchk (r:Stp):Int:=if r.what=1 then (if r.done=true then 2 else 0) else if r.what=2 then (if r.c=0∧r.d=0 then 0 else 2) else 10
def tellR (A:Bk) (r:Stp):Int × Bk:=if rchk r=0 then (if r.what=1 then holdR A r.deal r.c r.d else endR A r.deal r.done) else (rchk r,A)
theorem tellR_bad {A:Bk} {r:Stp} (h:rchk r ≠ 0):tellR A r=(rchk r,A):=by unfold tellR;rw [if_neg h]
theorem tellR_hold {A:Bk} {r:Stp} (h:rchk r=0) (h1:r.what=1):tellR A r=holdR A r.deal r.c r.d:=by unfold tellR;rw [if_pos h,if_pos h1]
theorem tellR_end {A:Bk} {r:Stp} (h:rchk r=0) (h1:r.what ≠ 1):tellR A r=endR A r.deal r.done:=by unfold tellR;rw [if_pos h,if_neg h1]
theorem good_tell {A:Bk} (hG:Good A) (r:Stp):Good (tellR A r).2:=by
 unfold tellR
 split
 ·split
  ·exact good_hold hG _ _ _
  ·exact good_end hG _ _
 ·exact hG
theorem tell_len (A:Bk) (r:Stp):(tellR A r).2.hs.length<=A.hs.length+1∧(tellR A r).2.es.length<=A.es.length+1∧(tellR A r).2.no=A.no:=by
 unfold tellR
 split
 ·split
  ·obtain ⟨a,b,c⟩:=hold_len A r.deal r.c r.d
   exact ⟨a,by rw [b];omega,c⟩
  ·obtain ⟨a,b,c⟩:=end_len A r.deal r.done
   exact ⟨by omega,b,c⟩
 ·exact ⟨by simp,by simp,rfl⟩
theorem tell_code {A:Bk} {r:Stp} (h:(tellR A r).1 ≠ 0):(tellR A r).2=A:=by
 by_cases hc:rchk r=0
 ·by_cases h1:r.what=1
  ·have:=@step_code A { r with what:=0 }
   rw [stepR_hold (x:={ r with what:=0 }) rfl] at this
   rw [tellR_hold hc h1] at h ⊢
   exact this h
  ·have:=@step_code A { r with what:=1 }
   rw [stepR_end (x:={ r with what:=1 }) rfl] at this
   rw [tellR_end hc h1] at h ⊢
   exact this h
 ·rw [tellR_bad hc]
def Wrote (A:Bk) (r:Stp):Prop:=rchk r=0∧(r.what=1->(∃x,A.hs.find? (same r.deal r.c)=some x∧x.2.2=r.d)∨(over A.es r.deal).isSome=true)∧(r.what ≠ 1->over A.es r.deal=some r.done)
theorem over_keep {es m:List (Int × Bool)} {x:Int} {b:Bool} (h:over es x=some b):over (es++m) x=some b:=by rw [over_append,h]
theorem over_keep' {es m:List (Int × Bool)} {x:Int} (h:(over es x).isSome=true):(over (es++m) x).isSome=true:=by
 obtain ⟨b,hb⟩:=Option.isSome_iff_exists.1 h
 rw [over_keep hb];rfl
theorem find_filter {l:List H3} {deal c x:Int} {h:H3} (hx:deal ≠ x) (hf:l.find? (same deal c)=some h):(l.filter (fun h=>h.1 != x)).find? (same deal c)=some h:=by
 induction l with
 | nil=>simp at hf
 | cons y r ih=>
   rw [List.find?_cons] at hf
   cases hs:same deal c y with
   | true=>
     rw [hs] at hf
     have hy:y.1=deal:=by unfold same at hs;simp at hs;exact hs.1
     rw [List.filter_cons,if_pos (by simp [hy,hx]),List.find?_cons,hs]
     exact hf
   | false=>
     rw [hs] at hf
     by_cases hy:(y.1 != x)=true
     ·rw [List.filter_cons,if_pos hy,List.find?_cons,hs];exact ih hf
     ·rw [List.filter_cons,if_neg hy];exact ih hf
theorem Wrote.hold {A:Bk} {r:Stp} (h:Wrote A r) (deal c d:Int):Wrote (holdR A deal c d).2 r:=by
 obtain ⟨h0,h1,h2⟩:=h
 rcases holdR_cases A deal c d with ⟨_,e⟩ | ⟨hc,m,hm,_,⟨y,_,e⟩ | ⟨_,_,e⟩ | ⟨_,hz,e⟩⟩
 ·rw [e];exact ⟨h0,h1,h2⟩
 ·rw [e];exact ⟨h0,h1,h2⟩
 ·rw [e];exact ⟨h0,h1,h2⟩
 ·rw [e]
  refine ⟨h0,fun q=>?_,h2⟩
  rcases h1 q with ⟨x,hx,hd⟩ | ho
  ·left
   refine ⟨x,?_,hd⟩
   show (A.hs++[(deal,c,d)]).find? _=_
   rw [List.find?_append,hx];rfl
  ·exact .inr ho
theorem Wrote.fin {A:Bk} {r:Stp} (h:Wrote A r) (deal:Int) (done:Bool):Wrote (endR A deal done).2 r:=by
 obtain ⟨h0,h1,h2⟩:=h
 rcases endR_cases A deal done with ⟨_,e⟩ | ⟨_,_,⟨b,_,e⟩ | ⟨hn,e⟩⟩
 ·rw [e];exact ⟨h0,h1,h2⟩
 ·rw [e];exact ⟨h0,h1,h2⟩
 ·rw [e]
  refine ⟨h0,fun q=>?_,fun q=>?_⟩
  ·by_cases hd:r.deal=deal
   ·right
    show (over (A.es++[(deal,done)]) r.deal).isSome=true
    rw [over_append,hd,hn]
    simp [over]
   ·rcases h1 q with ⟨x,hx,hxd⟩ | ho
    ·exact .inl ⟨x,find_filter hd hx,hxd⟩
    ·exact .inr (over_keep' ho)
  ·exact over_keep (h2 q)
theorem Wrote.tell {A:Bk} {r:Stp} (h:Wrote A r) (s:Stp):Wrote (tellR A s).2 r:=by
 unfold tellR
 split
 ·split
  ·exact h.hold _ _ _
  ·exact h.fin _ _
 ·exact h
theorem Wrote.again {A:Bk} {r:Stp} (h:Wrote A r):(tellR A r).2=A:=by
 obtain ⟨h0,h1,h2⟩:=h
 by_cases e1:r.what=1
 ·rw [tellR_hold h0 e1]
  rcases holdR_cases A r.deal r.c r.d with ⟨_,e⟩ | ⟨hc,m,hm,_,⟨y,_,e⟩ | ⟨_,_,e⟩ | ⟨hf,_,e⟩⟩
  ·rw [e]
  ·rw [e]
  ·rw [e]
  ·rcases h1 e1 with ⟨x,hx,_⟩ | ho
   ·rw [hf] at hx;cases hx
   ·rw [(chkS_zero hc).2.2.2.2] at ho;cases ho
 ·rw [tellR_end h0 e1]
  rcases endR_cases A r.deal r.done with ⟨_,e⟩ | ⟨_,_,⟨b,_,e⟩ | ⟨hn,e⟩⟩
  ·rw [e]
  ·rw [e]
  ·rw [h2 e1] at hn;cases hn
theorem wrote_new {A:Bk} {r:Stp} (hz:(tellR A r).1=0):Wrote (tellR A r).2 r:=by
 by_cases h0:rchk r=0
 ·by_cases e1:r.what=1
  ·rw [tellR_hold h0 e1] at hz ⊢
   refine ⟨h0,fun _=>?_,fun q=>absurd e1 q⟩
   rcases holdR_cases A r.deal r.c r.d with ⟨hc,e⟩ | ⟨hc,m,hm,_,⟨y,hy,e⟩ | ⟨_,hz',e⟩ | ⟨hf,_,e⟩⟩
   ·rw [e] at hz;exact absurd hz hc
   ·rw [e] at hz
    rw [e]
    left
    refine ⟨y,hy,?_⟩
    have hz1:(if y.2.2=r.d then (0:Int) else 9)=0:=hz
    by_cases q:y.2.2=r.d
    ·exact q
    ·rw [if_neg q] at hz1;omega
   ·rw [e] at hz;exact absurd hz hz'
   ·rw [e]
    exact .inl ⟨(r.deal,r.c,r.d),find_snoc hf (by simp [same]),rfl⟩
  ·rw [tellR_end h0 e1] at hz ⊢
   refine ⟨h0,fun q=>absurd q e1,fun _=>?_⟩
   rcases endR_cases A r.deal r.done with ⟨_,e⟩ | ⟨_,_,⟨b,hb,e⟩ | ⟨hn,e⟩⟩
   ·rw [e] at hz;exact absurd (show (1:Int)=0 from hz) (by decide)
   ·rw [e] at hz
    rw [e]
    have hz1:(if b=r.done then (0:Int) else 9)=0:=hz
    by_cases q:b=r.done
    ·rw [<-q];exact hb
    ·rw [if_neg q] at hz1;omega
   ·rw [e]
    show over (A.es++[(r.deal,r.done)]) r.deal=_
    rw [over_append,hn]
    simp [over]
 ·rw [tellR_bad h0] at hz;exact absurd hz h0
def faultR:Bk->List Stp->Nat->Int × Int
 | _,[],_=>(0,0)
 | A,r :: t,i=>if (tellR A r).1=0 then faultR (tellR A r).2 t (i+1) else ((tellR A r).1,i)
def runR:Bk->List Stp->Bk
 | A,[]=>A
 | A,r :: t=>runR (tellR A r).2 t
theorem runR_append (A:Bk) (l m:List Stp):runR A (l++m)=runR (runR A l) m:=by
 induction l generalizing A with
 | nil=>rfl
 | cons r t ih=>exact ih _
theorem faultR_append {l m:List Stp}:∀{A:Bk} {i:Nat},faultR A l i=(0,0)->(∀A',A'=runR A l->∀j,j=i+l.length->faultR A' m j=(0,0))->faultR A (l++m) i=(0,0):=by
 induction l with
 | nil=>intro A i _ h;exact h A rfl i (by simp)
 | cons r t ih=>
   intro A i h1 h2
   simp only [List.cons_append,faultR] at h1 ⊢
   by_cases hz:(tellR A r).1=0
   ·rw [if_pos hz] at h1 ⊢
    exact ih h1 (fun A' e j hj=>h2 A' e j (by simp;omega))
   ·rw [if_neg hz] at h1
    simp only [Prod.mk.injEq] at h1
    exact absurd h1.1 hz
structure Kb where
 A:Bk
 rs:List Stp
def eqS (a b:Stp):Bool:=a.what == b.what && (a.deal == b.deal && (a.c == b.c && (a.d == b.d && a.done == b.done)))
theorem eqS_iff {a b:Stp}:eqS a b=true ↔ a=b:=by
 rcases a with ⟨a1,a2,a3,a4,a5⟩
 rcases b with ⟨b1,b2,b3,b4,b5⟩
 unfold eqS
 simp
def hasS (rs:List Stp) (r:Stp):Bool:=rs.any (fun s=>eqS s r)
theorem hasS_iff {rs:List Stp} {r:Stp}:hasS rs r=true ↔ r∈rs:=by
 unfold hasS
 rw [List.any_eq_true]
 constructor
 ·rintro ⟨s,hs,he⟩
  rw [<-eqS_iff.1 he];exact hs
 ·intro h
  exact ⟨r,h,eqS_iff.2 rfl⟩
def noteR (rs:List Stp) (r:Stp):List Stp:=if hasS rs r=true then rs else rs++[r]
theorem noteR_in {rs:List Stp} {r:Stp} (h:r∈rs):noteR rs r=rs:=by unfold noteR;rw [if_pos (hasS_iff.2 h)]
theorem noteR_out {rs:List Stp} {r:Stp} (h:¬r∈rs):noteR rs r=rs++[r]:=by unfold noteR;rw [if_neg (fun q=>h (hasS_iff.1 q))]
def doR (K:Kb) (r:Stp):Int × Kb:=if (tellR K.A r).1=0 then (0,⟨(tellR K.A r).2,noteR K.rs r⟩) else ((tellR K.A r).1,K)
theorem doR_code {K:Kb} {r:Stp} (h:(tellR K.A r).1 ≠ 0):doR K r=((tellR K.A r).1,K):=by unfold doR;rw [if_neg h]
theorem doR_done {K:Kb} {r:Stp} (h:(tellR K.A r).1=0):doR K r=(0,⟨(tellR K.A r).2,noteR K.rs r⟩):=by unfold doR;rw [if_pos h]
theorem doR_fst (K:Kb) (r:Stp):(doR K r).1=(tellR K.A r).1:=by
 unfold doR
 split
 ·rename_i h;rw [h]
 ·rfl
theorem doR_book (K:Kb) (r:Stp):(doR K r).2.A=(tellR K.A r).2:=by
 unfold doR
 split
 ·rfl
 ·rename_i h;rw [tell_code h]
structure GoodK (A0:Bk) (K:Kb):Prop where
 good:Good K.A
 no:K.A.no=A0.no
 run:runR A0 K.rs=K.A
 fault:faultR A0 K.rs 0=(0,0)
 wrote:∀r∈K.rs,Wrote K.A r
 hl:K.A.hs.length<=K.rs.length
 el:K.A.es.length<=K.rs.length
 nodup:K.rs.Nodup
theorem goodK_new {A0:Bk} (h:Good A0) (hh:A0.hs=[]) (he:A0.es=[]):GoodK A0 ⟨A0,[]⟩:=
 ⟨h,rfl,rfl,rfl,by simp,by rw [hh];exact Nat.le_refl _,by rw [he];exact Nat.le_refl _,List.nodup_nil⟩
theorem goodK_do {A0:Bk} {K:Kb} (h:GoodK A0 K) (r:Stp):GoodK A0 (doR K r).2:=by
 unfold doR
 split
 ·rename_i hz
  by_cases hm:r∈K.rs
  ·have e:=(h.wrote r hm).again
   have e2:=noteR_in hm
   simp only [e,e2]
   exact h
  ·have e2:=noteR_out hm
   have hlen:=tell_len K.A r
   refine ⟨good_tell h.good r,hlen.2.2.trans h.no,?_,?_,?_,?_,?_,?_⟩
   ·show runR A0 (noteR K.rs r)=_
    rw [e2,runR_append,h.run]
    rfl
   ·show faultR A0 (noteR K.rs r) 0=_
    rw [e2]
    refine faultR_append h.fault (fun A' e j hj=>?_)
    rw [e,h.run]
    unfold faultR
    rw [if_pos hz]
    rfl
   ·show ∀s∈noteR K.rs r,Wrote (tellR K.A r).2 s
    rw [e2]
    intro s hs
    rcases List.mem_append.1 hs with hs | hs
    ·exact (h.wrote s hs).tell r
    ·rw [List.mem_singleton.1 hs];exact wrote_new hz
   ·show (tellR K.A r).2.hs.length<=(noteR K.rs r).length
    rw [e2]
    have:=h.hl
    simp
    omega
   ·show (tellR K.A r).2.es.length<=(noteR K.rs r).length
    rw [e2]
    have:=h.el
    simp
    omega
   ·show (noteR K.rs r).Nodup
    rw [e2]
    refine List.nodup_append.2 ⟨h.nodup,by simp,?_⟩
    intro a ha b hb
    rw [List.mem_singleton.1 hb]
    intro e
    subst e
    exact hm ha
 ·exact h
theorem do_len (K:Kb) (r:Stp):(doR K r).2.rs.length<=K.rs.length+1:=by
 unfold doR
 split
 ·show (noteR K.rs r).length<=_
  unfold noteR
  split
  ·omega
  ·simp
 ·exact Nat.le_succ _
def flat5 (l:List Stp):List Value:=l.flatMap Stp.cells
theorem flat5_length (l:List Stp):(flat5 l).length=l.length * 5:=by
 unfold flat5
 induction l with
 | nil=>rfl
 | cons x r ih=>rw [List.flatMap_cons,List.length_append,ih];simp [Stp.cells];omega
theorem flat5_append (l m:List Stp):flat5 (l++m)=flat5 l++flat5 m:=by unfold flat5;simp
theorem flat5_snoc (l:List Stp) (x:Stp):flat5 (l++[x])=flat5 l++x.cells:=by unfold flat5;simp
theorem flat5_at (l:List Stp):∀k x,l[k]?=some x->∀j v,x.cells[j]?=some v->(flat5 l)[k * 5+j]?=some v:=by
 intro k x h j v hj
 have hk:=(List.getElem?_eq_some_iff.1 h).1
 have hj5:j<5:=(List.getElem?_eq_some_iff.1 hj).1
 have e:l=l.take k++x :: l.drop (k+1):=by rw [<-drop_cons h,List.take_append_drop]
 have hl:(flat5 (l.take k)).length=k * 5:=by rw [flat5_length,List.length_take,Nat.min_eq_left (by omega)]
 have e2:flat5 l=flat5 (l.take k)++(x.cells++flat5 (l.drop (k+1))):=by
  conv=>lhs;rw [e]
  rw [flat5_append]
  rfl
 rw [e2,List.getElem?_append_right (by omega),hl,show k * 5+j - k * 5=j by omega,List.getElem?_append_left (by simpa [Stp.cells] using hj5)]
 exact hj
theorem steps_of_own {w:World} {B e n:Nat} {v:Value} {l:List Stp} (h:w.ownsRow B e 5 v n (flat5 l)):∃ga cap,v=.slice ga n cap∧StepsAt w ga l∧l.length=n:=by
 have hn:l.length=n:=by have:=h.1;rw [flat5_length] at this;omega
 rcases h.2 with ⟨e1,e0⟩ | ⟨g,cap,cur,e1,hb,hg,hc,hm,hz,ht⟩
 ·refine ⟨none,0,by rw [e1,e0],?_,hn⟩
  intro k x hk
  have:=(List.getElem?_eq_some_iff.1 hk).1
  omega
 ·refine ⟨_,cap,e1,fun k x hk=>⟨g,0,rfl,(Array.getElem?_eq_some_iff.1 hg).1,fun j u hj=>?_⟩,hn⟩
  have hk':=(List.getElem?_eq_some_iff.1 hk).1
  have hj5:j<5:=(List.getElem?_eq_some_iff.1 hj).1
  have hu:=flat5_at l k x hk j u hj
  have h1:(cur.toList.take (n * 5))[k * 5+j]?=(flat5 l)[k * 5+j]?:=by rw [ht]
  rw [List.getElem?_take_of_lt (by omega),hu] at h1
  simp only [World.cell?,hg]
  simpa using h1
structure KeepRaw (w:World) (q p:Nat) (no:Int) (ws:Nat->Int) (rv:Value):Prop where
 lt:q<w.heap.size
 c0:w.cell? ⟨q,0,none⟩=some (.pointer (some ⟨p,0,none⟩))
 c1:w.cell? ⟨q,1,none⟩=some (.int .i64 no)
 cw:∀j:Nat,j<6->w.cell? ⟨q,2+j,none⟩=some (.int .i64 (ws j))
 c8:w.cell? ⟨q,8,none⟩=some rv
 loose:∀k,w.frozen? ⟨q,k,none⟩=false
theorem KeepRaw.save {O:Nat->Prop} {w w1:World} {q p:Nat} {no:Int} {ws:Nat->Int} {rv:Value} (h:KeepRaw w q p no ws rv) (hb:Save O w w1) (hn:¬O q):KeepRaw w1 q p no ws rv:=by
 have hl:=h.lt
 have e:∀o,w1.cell? ⟨q,o,none⟩=w.cell? ⟨q,o,none⟩:=fun o=>hb.cell (p:=⟨q,o,none⟩) hl hn
 exact ⟨Nat.lt_of_lt_of_le hl hb.size,(e _).trans h.c0,(e _).trans h.c1,fun j hj=>(e _).trans (h.cw j hj),(e _).trans h.c8,fun k=>(hb.frozen (p:=⟨q,k,none⟩) hl hn).trans (h.loose k)⟩
theorem KeepRaw.set8 {w:World} {q p:Nat} {no:Int} {ws:Nat->Int} {rv:Value} (h:KeepRaw w q p no ws rv) (u:Value):KeepRaw (w.setCell ⟨q,8,none⟩ u) q p no ws u:=
 ⟨by simpa using h.lt,(cell_set_off (by omega)).trans h.c0,(cell_set_off (by omega)).trans h.c1,fun j hj=>(cell_set_off (by omega)).trans (h.cw j hj),cell_set_same h.c8,by simpa [go_sem] using h.loose⟩
theorem KeepRaw.set0 {w:World} {q p:Nat} {no:Int} {ws:Nat->Int} {rv:Value} (h:KeepRaw w q p no ws rv) (p':Nat):KeepRaw (w.setCell ⟨q,0,none⟩ (.pointer (some ⟨p',0,none⟩))) q p' no ws rv:=
 ⟨by simpa using h.lt,cell_set_same h.c0,(cell_set_off (by omega)).trans h.c1,fun j hj=>(cell_set_off (by omega)).trans (h.cw j hj),(cell_set_off (by omega)).trans h.c8,by simpa [go_sem] using h.loose⟩
structure KeepIn (O:Nat->Prop) (w:World) (q:Nat) (no:Int) (ws:Nat->Int) (K:Kb):Prop where
 own:∀k,O k->k<w.heap.size
 mine:O q
 raw:∃(Os:Nat->Prop) (p:Nat) (rv:Value),KeepRaw w q p no ws rv∧ShopIn Os w p K.A∧(∀k,Os k->O k)∧¬Os q∧w.ownsRow (q+1) 177 5 rv K.rs.length (flat5 K.rs)∧∀k,rv.ownBlock=some k->O k∧¬Os k
theorem KeepIn.save {O O':Nat->Prop} {w w1:World} {q:Nat} {no:Int} {ws:Nat->Int} {K:Kb} (h:KeepIn O w q no ws K) (hb:Save O' w w1) (hn:∀k,O k->¬O' k):KeepIn O w1 q no ws K:=by
 obtain ⟨Os,p,rv,h1,h2,h3,h4,h5,h6⟩:=h.raw
 exact ⟨fun k hk=>Nat.lt_of_lt_of_le (h.own k hk) hb.size,h.mine,Os,p,rv,h1.save hb (hn q h.mine),h2.save hb (fun k hk=>hn k (h3 k hk)),h3,h4,own_save h5 hb (fun k hk=>hn k (h6 k hk).1),h6⟩
theorem KeepIn.next {O:Nat->Prop} {w w1:World} {q:Nat} {no:Int} {ws:Nat->Int} {K:Kb} (h:KeepIn O w q no ws K) (hb:Below w.heap.size w w1):KeepIn O w1 q no ws K:=
 h.save (O':=fun _=>False) (.of_below hb) (fun _ _ q=>q)
def recV (r:Stp):Value:=.agg #[.int .i64 r.what,.int .i64 r.deal,.int .i64 r.c,.int .i64 r.d,.bool r.done]
theorem kchk_any (r:Stp) (w:World):Calls Tryz.prog 182 #[recV r] w fun e w'=>e=.returned (.int .i64 (rchk r))∧Below w.heap.size w w':=by
 obtain ⟨what,deal,c,d,done⟩:=r
 unfold recV rchk
 dsimp only
 by_cases h1:what=1
 ·subst h1
  rw [if_pos rfl]
  cases done
  ·go_enter Tryz.func182,Tryz.ntmps182
   go_wp2_with fail
   go_ret
   exact ⟨rfl,by go_grown⟩
  ·go_enter Tryz.func182,Tryz.ntmps182
   go_wp2_with fail
   go_ret
   exact ⟨rfl,by go_grown⟩
 ·rw [if_neg h1]
  have h1':(what == 1)=false:=by simpa using h1
  by_cases h2:what=2
  ·subst h2
   clear h1 h1'
   rw [if_pos rfl]
   by_cases hc:c=0
   ·by_cases hd:d=0
    ·rw [if_pos ⟨hc,hd⟩]
     subst hc
     subst hd
     go_enter Tryz.func182,Tryz.ntmps182
     go_wp2_with fail
     go_ret
     exact ⟨rfl,by go_grown⟩
    ·rw [if_neg (fun q=>hd q.2)]
     subst hc
     have hd':(d != 0)=true:=by simpa using hd
     clear hd
     go_enter Tryz.func182,Tryz.ntmps182
     go_wp2_with fail
     go_ret
     exact ⟨rfl,by go_grown⟩
   ·rw [if_neg (fun q=>hc q.1)]
    have hc':(c != 0)=true:=by simpa using hc
    clear hc
    go_enter Tryz.func182,Tryz.ntmps182
    go_wp2_with fail
    go_ret
    exact ⟨rfl,by go_grown⟩
  ·rw [if_neg h2]
   have h2':(what == 2)=false:=by simpa using h2
   clear h1 h2
   go_enter Tryz.func182,Tryz.ntmps182
   go_wp2_with fail
   go_ret
   exact ⟨rfl,by go_grown⟩
theorem eqR (a b:Stp) (W:World):(Op.equalIn 10000 177 (.agg #[.int .i64 a.what,.int .i64 a.deal,.int .i64 a.c,.int .i64 a.d,.bool a.done]) (.agg #[.int .i64 b.what,.int .i64 b.deal,.int .i64 b.c,.int .i64 b.d,.bool b.done])).run Tryz.prog W=.ok (eqS a b) W:=by
 unfold eqS
 rw [show (10000:Nat)=9999+1 from rfl]
 simp [Op.eqFields,go_sem]
 repeat' split
 all_goals simp_all
theorem has_out {rs:List Stp} {r:Stp} (h:∀x∈rs,eqS r x=false):hasS rs r=false:=by
 rw [<-Bool.not_eq_true,hasS_iff]
 intro hm
 have:=h r hm
 rw [eqS_iff.2 rfl] at this
 cases this
theorem has_in {rs:List Stp} {r x:Stp} {k:Nat} (h:rs[k]?=some x) (he:eqS r x=true):hasS rs r=true:=by
 rw [hasS_iff,eqS_iff.1 he]
 exact List.mem_of_getElem? h
theorem none_snoc {rs:List Stp} {r x:Stp} {k:Nat} (h:rs[k]?=some x) (hn:∀y∈rs.take k,eqS r y=false) (he:eqS r x=false):∀y∈rs.take (k+1),eqS r y=false:=by
 rw [take_snoc h]
 intro y hy
 rcases List.mem_append.1 hy with hy | hy
 ·exact hn y hy
 ·rw [List.mem_singleton.1 hy];exact he
def IdxIs (rs:List Stp) (r:Stp) (i:Int):Prop:=(0<=i∧hasS rs r=true)∨(i= -1∧hasS rs r=false)
theorem kidx_any (la:Option Addr) (n ca:Nat) (rs:List Stp) (r:Stp) (w:World) (hl:StepsAt w la rs) (hn:rs.length=n) (hs:n<2 ^ 62):
 Calls Tryz.prog 185 #[.slice la n ca,recV r] w fun e w'=>(∃i,e=.returned (.int .i64 i)∧IdxIs rs r i)∧Below w.heap.size w w':=by
 unfold recV
 go_enter Tryz.func185,Tryz.ntmps185
 go_upto_region 1 with fail
 have hX:=BoxAt.new w [.int .i64 r.what,.int .i64 r.deal,.int .i64 r.c,.int .i64 r.d,.bool r.done] 177
 have hb:Below w.heap.size w (w.alloc (.cells #[.int .i64 r.what,.int .i64 r.deal,.int .i64 r.c,.int .i64 r.d,.bool r.done] 177)):=(Below.refl _ _).alloc (Nat.le_refl _) _
 change BoxAt (w.alloc (.cells #[.int .i64 r.what,.int .i64 r.deal,.int .i64 r.c,.int .i64 r.d,.bool r.done] 177)) _ _ at hX
 generalize (w.alloc (.cells #[.int .i64 r.what,.int .i64 r.deal,.int .i64 r.c,.int .i64 r.d,.bool r.done] 177))=W at hX hb ⊢
 generalize w.heap.size=bx at hX ⊢
 have hl':=hl.below hb (Nat.le_refl _)
 clear hl
 go_wp2_with fail
 go_loopg [5,8] n (fun g _ s8 wr=>∃k:Nat,k<=n∧g=n - k∧s8=.int .i64 k∧Hid (∀y∈rs.take k,eqS r y=false)∧Below W.heap.size W wr)
 case atStart=>exact ⟨0,Nat.zero_le _,rfl,rfl,by intro y hy;simp at hy,Below.refl _ _⟩
 case round=>
  obtain ⟨k,hk,rfl,rfl,HE,hS⟩:=hrel
  by_cases hlt:k<n
  ·obtain ⟨x,hkx⟩:∃x,rs[k]?=some x:=⟨_,List.getElem?_eq_getElem (by omega)⟩
   obtain ⟨bl,ol,rfl,hbl,hcell⟩:=hl' k x hkx
   have hcell':∀j v,x.cells[j]?=some v->wr.cell? ⟨bl,ol+k * 5+j,none⟩=some v:=fun j v hj=>(hS.cell (p:=⟨bl,_,none⟩) hbl).trans (hcell j v hj)
   have p0:wr.cell? ⟨bl,ol+k * 5,none⟩=some (.int .i64 x.what):=hcell' 0 _ rfl
   have p1:wr.cell? ⟨bl,ol+k * 5+1,none⟩=some (.int .i64 x.deal):=hcell' 1 _ rfl
   have p2:wr.cell? ⟨bl,ol+k * 5+2,none⟩=some (.int .i64 x.c):=hcell' 2 _ rfl
   have p3:wr.cell? ⟨bl,ol+k * 5+3,none⟩=some (.int .i64 x.d):=hcell' 3 _ rfl
   have p4:wr.cell? ⟨bl,ol+k * 5+4,none⟩=some (.bool x.done):=hcell' 4 _ rfl
   have hX':=hX.next hS
   have y0:=hX'.2 0 _ rfl
   have y1:=hX'.2 1 _ rfl
   have y2:=hX'.2 2 _ rfl
   have y3:=hX'.2 3 _ rfl
   have y4:=hX'.2 4 _ rfl
   have j0:(0:Int)<=(k:Int):=by omega
   have j1:(k:Int)<(n:Int):=by omega
   have j2:(n:Int)<2 ^ 62:=by omega
   clear hcell hcell' hl' hX'
   cases hq:eqS r x with
   | true=>
     have hq1:∀W:World,(Op.equalIn 10000 177 (.agg #[.int .i64 r.what,.int .i64 r.deal,.int .i64 r.c,.int .i64 r.d,.bool r.done]) (.agg #[.int .i64 x.what,.int .i64 x.deal,.int .i64 x.c,.int .i64 x.d,.bool x.done])).run Tryz.prog W=.ok true W:=fun W=>by rw [eqR,hq]
     have HQ:Hid (hasS rs r=true):=has_in hkx hq
     clear hq hkx
     go_wp2_with fail
     go_quiet (fail)
     go_wp2_with fail
     go_ret
     exact ⟨⟨_,rfl,.inl ⟨by omega,HQ.out⟩⟩,after hb (bdrewN hS _) hb.size⟩
   | false=>
     have hq1:∀W:World,(Op.equalIn 10000 177 (.agg #[.int .i64 r.what,.int .i64 r.deal,.int .i64 r.c,.int .i64 r.d,.bool r.done]) (.agg #[.int .i64 x.what,.int .i64 x.deal,.int .i64 x.c,.int .i64 x.d,.bool x.done])).run Tryz.prog W=.ok false W:=fun W=>by rw [eqR,hq]
     have HQ:Hid _:=none_snoc hkx HE.out hq
     clear hq hkx
     go_wp2_with fail
     go_quiet (fail)
     go_wp2_with fail
     go_roundg (n - (k+1))
     case measure=>omega
     case rel=>exact ⟨k+1,by omega,rfl,by simp,HQ,bdrewN hS _⟩
  ·have hkk:k=n:=by omega
   subst hkk
   have HQ:Hid (hasS rs r=false):=has_out (by have:=HE.out;rwa [List.take_of_length_le (by omega)] at this)
   go_wp2_with fail
   go_ret
   exact ⟨⟨_,rfl,.inr ⟨rfl,HQ.out⟩⟩,after hb hS hb.size⟩
theorem khas_any (la:Option Addr) (n ca:Nat) (rs:List Stp) (r:Stp) (w:World) (hl:StepsAt w la rs) (hn:rs.length=n) (hs:n<2 ^ 62):
 Calls Tryz.prog 181 #[.slice la n ca,recV r] w fun e w'=>e=.returned (.bool (hasS rs r))∧Below w.heap.size w w':=by
 have HI:Hid (∀W:World,Below w.heap.size w W->Calls Tryz.prog 185 #[.slice la n ca,.agg #[.int .i64 r.what,.int .i64 r.deal,.int .i64 r.c,.int .i64 r.d,.bool r.done]] W fun e w'=>(∃i,e=.returned (.int .i64 i)∧IdxIs rs r i)∧Below W.heap.size W w'):=fun W hW=>kidx_any la n ca rs r W (hl.below hW (Nat.le_refl _)) hn hs
 unfold recV
 clear hl
 go_enter Tryz.func181,Tryz.ntmps181
 go_wp2_with fail
 refine Calls.mono (HI.out _ (by go_grown)) ?_
 rintro e w1 ⟨⟨i,rfl,hi⟩,hb1⟩
 have hb2:Below w.heap.size w w1:=after (by go_grown) hb1 (by simp)
 rcases hi with ⟨h0,h1⟩ | ⟨rfl,h1⟩
 ·have H1:Hid _:=h1
  clear h1
  go_wp2_with fail
  go_ret
  exact ⟨by rw [H1.out];simp,hb2⟩
 ·have H1:Hid _:=h1
  clear h1
  go_wp2_with fail
  go_ret
  exact ⟨by rw [H1.out];rfl,hb2⟩
theorem keep_moved {O Os Os':Nat->Prop} {w w1:World} {q p:Nat} {no:Int} {ws:Nat->Int} {rv:Value} {rs:List Stp} {A':Bk} (hI:∀k,O k->k<w.heap.size) (hm:O q) (hR:KeepRaw w q p no ws rv) (hsub:∀k,Os k->O k) (hq:¬Os q)
 (hrow:w.ownsRow (q+1) 177 5 rv rs.length (flat5 rs)) (hrb:∀k,rv.ownBlock=some k->O k∧¬Os k) (h3:ShopIn Os' w1 p A') (h4:Save Os w w1) (h5:Moved Os Os' w):
 KeepIn (fun k=>O k∨Os' k) w1 q no ws ⟨A',rs⟩∧Save O w w1∧Moved O (fun k=>O k∨Os' k) w:=by
 have hout:∀k,k<w.heap.size->¬Os k->¬Os' k:=fun k hk hn hk'=>(h5 k hk').elim hn (fun h=>by omega)
 refine ⟨⟨fun k hk=>?_,.inl hm,Os',p,rv,hR.save h4 hq,h3,fun k hk=>.inr hk,hout q hR.lt hq,own_save hrow h4 (fun k hk=>(hrb k hk).2),fun k hk=>⟨.inl (hrb k hk).1,hout k (hI k (hrb k hk).1) (hrb k hk).2⟩⟩,h4.mono (fun k _ hk=>hsub k hk),fun k hk=>?_⟩
 ·rcases hk with hk | hk
  ·exact Nat.lt_of_lt_of_le (hI k hk) h4.size
  ·exact h3.own k hk
 ·rcases hk with hk | hk
  ·exact .inl hk
  ·exact (h5 k hk).imp (hsub k) id
theorem ktell_any (O:Nat->Prop) (no:Int) (ws:Nat->Int) (K:Kb) (q:Nat) (r:Stp) (w:World) (h:KeepIn O w q no ws K) (hG:Good K.A) (hl:K.A.hs.length<2 ^ 40):
 Calls Tryz.prog 180 #[.pointer (some ⟨q,0,none⟩),recV r] w fun e w'=>e=.returned (.int .i64 (tellR K.A r).1)∧∃O',KeepIn O' w' q no ws ⟨(tellR K.A r).2,K.rs⟩∧Save O w w'∧Moved O O' w:=by
 have HC:Hid (∀W:World,Calls Tryz.prog 182 #[.agg #[.int .i64 r.what,.int .i64 r.deal,.int .i64 r.c,.int .i64 r.d,.bool r.done]] W fun e w'=>e=.returned (.int .i64 (rchk r))∧Below W.heap.size W w'):=kchk_any r
 have HI:Hid (KeepIn O w q no ws K):=h
 unfold recV
 by_cases hc:rchk r=0
 ·obtain ⟨Os,p,rv,hR,hS,hsub,hqs,hrow,hrb⟩:=h.raw
  have HM:Hid (∀(W w1:World) (Os':Nat->Prop) (A':Bk),Below w.heap.size w W->ShopIn Os' w1 p A'->Save Os W w1->Moved Os Os' W->∃O',KeepIn O' w1 q no ws ⟨A',K.rs⟩∧Save O w w1∧Moved O O' w):=by
   intro W w1 Os' A' hW h3 h4 h5
   have hI:=h.next hW
   obtain ⟨k1,k2,k3⟩:=keep_moved (rs:=K.rs) (O:=O) (fun k hk=>Nat.lt_of_lt_of_le (h.own k hk) hW.size) h.mine (hR.save (O:=fun _=>False) (.of_below hW) (fun q=>q)) hsub hqs (own_next hrow hW) hrb h3 h4 h5
   exact ⟨_,k1,(Save.of_below hW).trans k2 (fun j _ hj=>hj),fun k hk=>(k3 k hk).imp id (fun q=>Nat.le_trans hW.size q)⟩
  have hql:=hR.lt
  have c0:=hR.c0
  have hno0:=hG.no0
  have hno3:=hG.no3
  have HCq:Hid (∀W w1:World,Below w.heap.size w W->Save Os W w1->w1.cell? ⟨q,0,none⟩=some (.pointer (some ⟨p,0,none⟩))):=fun W w1 hW h4=>(h4.cell (p:=⟨q,0,none⟩) (Nat.lt_of_lt_of_le hql hW.size) hqs).trans ((hW.cell (p:=⟨q,0,none⟩) hql).trans c0)
  have HOs:Hid (∀k,Os k->k<w.heap.size):=hS.own
  have HZ:Hid (rchk r=0):=hc
  by_cases h1:r.what=1
  ·have HH:Hid (∀W:World,Below w.heap.size w W->Calls Tryz.prog 183 #[.pointer (some ⟨p,0,none⟩),.int .i64 r.deal,.agg #[.int .i64 r.c,.int .i64 r.d]] W fun e w'=>e=.returned (.int .i64 (tellR K.A r).1)∧∃O',ShopIn O' w' p (tellR K.A r).2∧Save Os W w'∧Moved Os O' W):=by
    intro W hW
    rw [tellR_hold hc h1]
    exact shold_any Os K.A p r.deal r.c r.d W (hS.next hW) hno0 hno3 hl
   have h1':(r.what == 1)=true:=by simpa using h1
   clear h hR hS hsub hrow hrb hG hl hc h1
   go_enter Tryz.func180,Tryz.ntmps180
   go_wp2_with fail
   refine Calls.mono (HC.out _) ?_
   rw [HZ.out]
   rintro e w1 ⟨rfl,hb1⟩
   have hX:=(BoxAt.new w [.int .i64 r.what,.int .i64 r.deal,.int .i64 r.c,.int .i64 r.d,.bool r.done] 177).next hb1
   have hW1:Below w.heap.size w w1:=after (by go_grown) hb1 (by simp)
   have y0:=hX.2 0 _ rfl
   have y1:=hX.2 1 _ rfl
   have y2:=hX.2 2 _ rfl
   have y3:=hX.2 3 _ rfl
   have hlx:=hX.1
   have c1:w1.cell? ⟨q,0,none⟩=some (.pointer (some ⟨p,0,none⟩)):=(hW1.cell (p:=⟨q,0,none⟩) hql).trans c0
   have hq1:q<w1.heap.size:=Nat.lt_of_lt_of_le hql hW1.size
   clear hX hb1 c0
   have hnx:¬Os w.heap.size:=fun hh=>by have:=HOs.out _ hh;omega
   have HK:Hid (∀w',Below w1.heap.size w1 w'->w'.cell? ⟨q,0,none⟩=some (.pointer (some ⟨p,0,none⟩))∧w'.cell? ⟨w.heap.size,1,none⟩=some (.int .i64 r.deal)∧w'.cell? ⟨w.heap.size,2,none⟩=some (.int .i64 r.c)∧w'.cell? ⟨w.heap.size,3,none⟩=some (.int .i64 r.d)):=fun w' hb=>⟨((bcell hb).1 _ _ hq1).trans c1,((bcell hb).1 _ _ hlx).trans y1,((bcell hb).1 _ _ hlx).trans y2,((bcell hb).1 _ _ hlx).trans y3⟩
   have HK2:Hid (∀W w',Below w1.heap.size w1 W->Save Os W w'->w'.cell? ⟨q,0,none⟩=some (.pointer (some ⟨p,0,none⟩))∧w'.cell? ⟨w.heap.size,1,none⟩=some (.int .i64 r.deal)∧w'.cell? ⟨w.heap.size,2,none⟩=some (.int .i64 r.c)∧w'.cell? ⟨w.heap.size,3,none⟩=some (.int .i64 r.d)):=fun W w' hb hs=>by
    obtain ⟨k0,k1,k2,k3⟩:=HK.out W hb
    have hz:=hb.size
    exact ⟨(hs.cell (p:=⟨q,0,none⟩) (Nat.lt_of_lt_of_le hq1 hz) hqs).trans k0,(hs.cell (p:=⟨w.heap.size,1,none⟩) (Nat.lt_of_lt_of_le hlx hz) hnx).trans k1,(hs.cell (p:=⟨w.heap.size,2,none⟩) (Nat.lt_of_lt_of_le hlx hz) hnx).trans k2,(hs.cell (p:=⟨w.heap.size,3,none⟩) (Nat.lt_of_lt_of_le hlx hz) hnx).trans k3⟩
   go_upto_region 5 with fail
   go_region_held3 (fun w'=>w'.cell? ⟨q,0,none⟩=some (.pointer (some ⟨p,0,none⟩))∧w'.cell? ⟨w.heap.size,1,none⟩=some (.int .i64 r.deal)∧w'.cell? ⟨w.heap.size,2,none⟩=some (.int .i64 r.c)∧w'.cell? ⟨w.heap.size,3,none⟩=some (.int .i64 r.d))
    (first | exact HK9 | exact HK.out _ (by go_grown))
    (first | (go_at_call 183;refine Calls.mono (HH.out _ (after hW1 (by go_grown) hW1.size)) ?_;rintro e w9 ⟨rfl,O9,h91,h92,h93⟩;have HK9:=HK2.out _ w9 (by go_grown) h92;have HE9:=HM.out _ w9 O9 _ (after hW1 (by go_grown) hW1.size) h91 h92 h93;clear h91 h92 h93))
   all_goals
    go_wp2_with fail
    go_ret
    exact ⟨rfl,HE9⟩
  ·have HH:Hid (∀W:World,Below w.heap.size w W->Calls Tryz.prog 184 #[.pointer (some ⟨p,0,none⟩),.int .i64 r.deal,.bool r.done] W fun e w'=>e=.returned (.int .i64 (tellR K.A r).1)∧∃O',ShopIn O' w' p (tellR K.A r).2∧Save Os W w'∧Moved Os O' W):=by
    intro W hW
    rw [tellR_end hc h1]
    exact send_any Os K.A p r.deal r.done W (hS.next hW) hG hl
   have h1':(r.what == 1)=false:=by simpa using h1
   clear h hR hS hsub hrow hrb hG hl hc h1
   go_enter Tryz.func180,Tryz.ntmps180
   go_wp2_with fail
   refine Calls.mono (HC.out _) ?_
   rw [HZ.out]
   rintro e w1 ⟨rfl,hb1⟩
   have hX:=(BoxAt.new w [.int .i64 r.what,.int .i64 r.deal,.int .i64 r.c,.int .i64 r.d,.bool r.done] 177).next hb1
   have hW1:Below w.heap.size w w1:=after (by go_grown) hb1 (by simp)
   have y0:=hX.2 0 _ rfl
   have y1:=hX.2 1 _ rfl
   have y4:=hX.2 4 _ rfl
   have hlx:=hX.1
   have c1:w1.cell? ⟨q,0,none⟩=some (.pointer (some ⟨p,0,none⟩)):=(hW1.cell (p:=⟨q,0,none⟩) hql).trans c0
   have hq1:q<w1.heap.size:=Nat.lt_of_lt_of_le hql hW1.size
   clear hX hb1 c0
   have hnx:¬Os w.heap.size:=fun hh=>by have:=HOs.out _ hh;omega
   have HK:Hid (∀w',Below w1.heap.size w1 w'->w'.cell? ⟨q,0,none⟩=some (.pointer (some ⟨p,0,none⟩))∧w'.cell? ⟨w.heap.size,1,none⟩=some (.int .i64 r.deal)∧w'.cell? ⟨w.heap.size,4,none⟩=some (.bool r.done)):=fun w' hb=>⟨((bcell hb).1 _ _ hq1).trans c1,((bcell hb).1 _ _ hlx).trans y1,((bcell hb).1 _ _ hlx).trans y4⟩
   have HK2:Hid (∀W w',Below w1.heap.size w1 W->Save Os W w'->w'.cell? ⟨q,0,none⟩=some (.pointer (some ⟨p,0,none⟩))∧w'.cell? ⟨w.heap.size,1,none⟩=some (.int .i64 r.deal)∧w'.cell? ⟨w.heap.size,4,none⟩=some (.bool r.done)):=fun W w' hb hs=>by
    obtain ⟨k0,k1,k4⟩:=HK.out W hb
    have hz:=hb.size
    exact ⟨(hs.cell (p:=⟨q,0,none⟩) (Nat.lt_of_lt_of_le hq1 hz) hqs).trans k0,(hs.cell (p:=⟨w.heap.size,1,none⟩) (Nat.lt_of_lt_of_le hlx hz) hnx).trans k1,(hs.cell (p:=⟨w.heap.size,4,none⟩) (Nat.lt_of_lt_of_le hlx hz) hnx).trans k4⟩
   go_upto_region 6 with fail
   go_region_held3 (fun w'=>w'.cell? ⟨q,0,none⟩=some (.pointer (some ⟨p,0,none⟩))∧w'.cell? ⟨w.heap.size,1,none⟩=some (.int .i64 r.deal)∧w'.cell? ⟨w.heap.size,4,none⟩=some (.bool r.done))
    (first | exact HK9 | exact HK.out _ (by go_grown))
    (first | (go_at_call 184;refine Calls.mono (HH.out _ (after hW1 (by go_grown) hW1.size)) ?_;rintro e w9 ⟨rfl,O9,h91,h92,h93⟩;have HK9:=HK2.out _ w9 (by go_grown) h92;have HE9:=HM.out _ w9 O9 _ (after hW1 (by go_grown) hW1.size) h91 h92 h93;clear h91 h92 h93))
   all_goals
    go_wp2_with fail
    go_ret
    exact ⟨rfl,HE9⟩
 ·have hc':(rchk r != 0)=true:=by simpa using hc
  have HE:Hid (tellR K.A r=(rchk r,K.A)):=tellR_bad hc
  clear h hG hl hc
  go_enter Tryz.func180,Tryz.ntmps180
  go_wp2_with fail
  refine Calls.mono (HC.out _) ?_
  rintro e w1 ⟨rfl,hb1⟩
  have hW1:Below w.heap.size w w1:=after (by go_grown) hb1 (by simp)
  go_wp2_with fail
  go_ret
  rw [HE.out]
  exact ⟨rfl,O,HI.out.next hW1,.of_below hW1,.refl _ _⟩
theorem q_val {P:Program} {C:World->Prop} {o:Oper} {a:Act} {K:Act->Prop} {v:Value} (h:∀w,C w->(execOp a.eval o).run P w=.ok (.value v) w) (hk:K (a.put o.dst v)):o.quiet P a C K:=
 ⟨v,fun w hw=>by unfold Oper.quietAt;rw [h w hw];exact ⟨rfl,rfl⟩,hk⟩
theorem q_call {P:Program} {C:World->Prop} {o:Oper} {a:Act} {K:Act->Prop} {v:Value} {f:FuncId} {args:Array Value} (h:∀w,C w->(execOp a.eval o).run P w=.ok (.enter f args) w)
 (hc:∀w,C w->Calls P f args w fun e w'=>e=.returned v∧C w') (hk:K (a.put o.dst v)):o.quiet P a C K:=
 ⟨v,fun w hw=>by unfold Oper.quietAt;rw [h w hw];exact ⟨rfl,hc w hw⟩,hk⟩
theorem region_class {P:Program} {C:World->Prop} {id:Nat} {Q:Exit->Act->World->Prop} {a:Act} {w:World} {l:List Oper} (hm:P.follows .mixedOrders=true) (hB:Region.lexB .any l.toArray=true) (hC:C w.drew)
 (h:wpQuiet P l.toArray C (fun a'=>∀w',C w'->Q .normal a' w') l a):(Code.region id l.toArray true).wp P Q a w:=
 wp_region_quiet (C:=C) hm hB hC (by simpa using h)
theorem infoRec:(Tryz.prog.info? 177).map (fun i=>(i.zero,i.size,i.bytes))=some (some (.agg #[.int .i64 0,.int .i64 0,.int .i64 0,.int .i64 0,.bool false]),5,40):=by kernel_rfl
theorem rec_lies {W:World} {H:Nat} {a b c d e:Value} (h0:W.cell? ⟨H,0,none⟩=some a) (h1:W.cell? ⟨H,1,none⟩=some b) (h2:W.cell? ⟨H,2,none⟩=some c) (h3:W.cell? ⟨H,3,none⟩=some d) (h4:W.cell? ⟨H,4,none⟩=some e):∀j u,[a,b,c,d,e][j]?=some u->W.cell? ((⟨H,0,none⟩:Addr).add j)=some u:=by
 intro j u hj
 match j,hj with
 | 0,hj=>simp at hj;subst hj;simpa [Addr.add] using h0
 | 1,hj=>simp at hj;subst hj;simpa [Addr.add] using h1
 | 2,hj=>simp at hj;subst hj;simpa [Addr.add] using h2
 | 3,hj=>simp at hj;subst hj;simpa [Addr.add] using h3
 | 4,hj=>simp at hj;subst hj;simpa [Addr.add] using h4
 | j+5,hj=>simp at hj
theorem rec_cell {a b c d:Int} {e:Bool}:∀u∈[Value.int .i64 a,.int .i64 b,.int .i64 c,.int .i64 d,.bool e],u.oneCell'=true:=by
 intro u hu
 simp only [List.mem_cons,List.not_mem_nil,or_false] at hu
 rcases hu with rfl | rfl | rfl | rfl | rfl <;> rfl
theorem kdo_any (O:Nat->Prop) (no:Int) (ws:Nat->Int) (K:Kb) (q:Nat) (r:Stp) (w:World) (h:KeepIn O w q no ws K) (hG:Good K.A) (hl:K.A.hs.length<2 ^ 40) (hr:K.rs.length<2 ^ 40):
 Calls Tryz.prog 178 #[.pointer (some ⟨q,0,none⟩),recV r] w fun e w'=>e=.returned (.int .i64 (doR K r).1)∧∃O',KeepIn O' w' q no ws (doR K r).2∧Save O w w'∧Moved O O' w:=by
 obtain ⟨i0,hi,hz0,hz1,hz2⟩:=info_parts infoRec
 have HT:Hid (∀W:World,Below w.heap.size w W->Calls Tryz.prog 180 #[.pointer (some ⟨q,0,none⟩),.agg #[.int .i64 r.what,.int .i64 r.deal,.int .i64 r.c,.int .i64 r.d,.bool r.done]] W fun e w'=>e=.returned (.int .i64 (tellR K.A r).1)∧∃O',KeepIn O' w' q no ws ⟨(tellR K.A r).2,K.rs⟩∧Save O W w'∧Moved O O' W):=fun W hW=>ktell_any O no ws K q r W (h.next hW) hG hl
 have HOwn:Hid (∀k,O k->k<w.heap.size):=h.own
 unfold recV
 clear h hG hl
 go_enter Tryz.func178,Tryz.ntmps178
 go_wp2_with fail
 refine Calls.mono (HT.out _ (by go_grown)) ?_
 rintro e w1 ⟨rfl,O1,hI1,hS1,hM1⟩
 have hX:=(BoxAt.new w [.int .i64 r.what,.int .i64 r.deal,.int .i64 r.c,.int .i64 r.d,.bool r.done] 177).save hS1 (fun hh=>by have:=HOwn.out _ hh;omega)
 have hSw:Save O w w1:=(Save.of_below (by go_grown)).trans hS1 (fun _ _ hj=>hj)
 have hMw:Moved O O1 w:=fun k hk=>(hM1 k hk).imp id (fun h=>Nat.le_trans (by simp) h)
 have hnO1:¬O1 w.heap.size:=fun hh=>(hM1 _ hh).elim (fun h2=>by have:=HOwn.out _ h2;omega) (fun h2=>absurd (show w.heap.size+1<=w.heap.size by simpa using h2) (by omega))
 clear hS1 hM1
 by_cases hz:(tellR K.A r).1=0
 ·have HD:Hid (doR K r=(0,⟨(tellR K.A r).2,noteR K.rs r⟩)):=doR_done hz
  have hz':((tellR K.A r).1 != 0)=false:=by simp [hz]
  have HZ:Hid _:=hz
  clear hz
  generalize hA':(tellR K.A r).2=A' at hI1 HD
  clear hA'
  obtain ⟨Os,p,rv,hR1,hP1,hsub1,hqs1,hrow1,hrb1⟩:=hI1.raw
  obtain ⟨ga,cap,rfl,hA1,hrn⟩:=steps_of_own hrow1
  have c8:=hR1.c8
  have hql:=hR1.lt
  have y0:=hX.2 0 _ rfl
  have y1:=hX.2 1 _ rfl
  have y2:=hX.2 2 _ rfl
  have y3:=hX.2 3 _ rfl
  have y4:=hX.2 4 _ rfl
  have hlx:=hX.1
  have HK:Hid (∀w',Below w1.heap.size w1 w'->w'.cell? ⟨q,8,none⟩=some (.slice ga K.rs.length cap)∧w'.cell? ⟨w.heap.size,0,none⟩=some (.int .i64 r.what)∧w'.cell? ⟨w.heap.size,1,none⟩=some (.int .i64 r.deal)∧w'.cell? ⟨w.heap.size,2,none⟩=some (.int .i64 r.c)∧w'.cell? ⟨w.heap.size,3,none⟩=some (.int .i64 r.d)∧w'.cell? ⟨w.heap.size,4,none⟩=some (.bool r.done)∧Below w1.heap.size w1 w'):=fun w' hb=>⟨((bcell hb).1 _ _ hql).trans c8,((bcell hb).1 _ _ hlx).trans y0,((bcell hb).1 _ _ hlx).trans y1,((bcell hb).1 _ _ hlx).trans y2,((bcell hb).1 _ _ hlx).trans y3,((bcell hb).1 _ _ hlx).trans y4,hb⟩
  have HH:Hid (∀W:World,Below w1.heap.size w1 W->Calls Tryz.prog 181 #[.slice ga K.rs.length cap,.agg #[.int .i64 r.what,.int .i64 r.deal,.int .i64 r.c,.int .i64 r.d,.bool r.done]] W fun e w'=>e=.returned (.bool (hasS K.rs r))∧Below W.heap.size W w'):=fun W hW=>khas_any ga K.rs.length cap K.rs r W (hA1.below hW (Nat.le_refl _)) rfl (by omega)
  have HI1:Hid (KeepIn O1 w1 q no ws ⟨A',K.rs⟩):=hI1
  have HX:Hid (BoxAt w1 w.heap.size [.int .i64 r.what,.int .i64 r.deal,.int .i64 r.c,.int .i64 r.d,.bool r.done]):=hX
  have HSw:Hid (Save O w w1):=hSw
  clear hI1 hR1 hP1 hsub1 hqs1 hrow1 hrb1 hA1 hX c8 y0 y1 y2 y3 y4 hSw
  have HN1:Hid (hasS K.rs r=true->noteR K.rs r=K.rs):=fun e=>by unfold noteR;rw [if_pos e]
  have HN2:Hid (hasS K.rs r=false->noteR K.rs r=K.rs++[r]):=fun e=>by unfold noteR;rw [if_neg (by rw [e];simp)]
  generalize hasS K.rs r=hb at *
  go_upto_region 4 with fail
  refine region_class (C:=(fun w'=>w'.cell? ⟨q,8,none⟩=some (.slice ga K.rs.length cap)∧w'.cell? ⟨w.heap.size,0,none⟩=some (.int .i64 r.what)∧w'.cell? ⟨w.heap.size,1,none⟩=some (.int .i64 r.deal)∧w'.cell? ⟨w.heap.size,2,none⟩=some (.int .i64 r.c)∧w'.cell? ⟨w.heap.size,3,none⟩=some (.int .i64 r.d)∧w'.cell? ⟨w.heap.size,4,none⟩=some (.bool r.done)∧Below w1.heap.size w1 w')) (by kernel_rfl) (by kernel_rfl) (HK.out _ ((Below.refl _ _).drew)) ?_
  repeat (first
   | go_big_quiet_skip
   | (go_big_quiet_want
      refine q_val (v:=?_) (fun w' hS=>?_) ?_
      rotate_left
      focus
       go_simp
       all_goals (with_reducible rfl)
      go_big_quiet_on
      (try simp only [Act.put,List.setIfInBounds_toArray,List.set_cons_zero,List.set_cons_succ]))
   | (go_big_quiet_want
      refine q_call (v:=?_) (f:=?_) (args:=?_) (fun w' hS=>?_) (fun w' hS=>?_) ?_
      rotate_left 3
      focus
       go_simp
       constructor <;> with_reducible rfl
      focus
       go_at_call 181
       refine Calls.mono (HH.out _ hS.2.2.2.2.2.2) ?_
       rintro e w7 ⟨rfl,hb7⟩
       refine ⟨?_,HK.out _ (after hS.2.2.2.2.2.2 hb7 hS.2.2.2.2.2.2.size)⟩
       with_reducible rfl
      go_big_quiet_on
      (try simp only [Act.put,List.setIfInBounds_toArray,List.set_cons_zero,List.set_cons_succ])))
  refine wpQuiet_nil ?_
  intro w2 hC2
  have hb2:=hC2.2.2.2.2.2.2
  clear hC2 HH HK HT
  have hI2:=HI1.out.next hb2
  have hX2:=HX.out.next hb2
  have hS2:=HSw.out.next hb2
  clear HI1 HX HSw
  cases hb
  ·obtain ⟨Os,p,rv,hR2,hP2,hsub2,hqs2,hrow2,hrb2⟩:=hI2.raw
   have HOwn2:Hid (∀k,O1 k->k<w2.heap.size):=hI2.own
   have HMine2:Hid (O1 q):=hI2.mine
   have g0:=hR2.c8
   have x0:=hX2.2 0 _ rfl
   have x1:=hX2.2 1 _ rfl
   have x2:=hX2.2 2 _ rfl
   have x3:=hX2.2 3 _ rfl
   have x4:=hX2.2 4 _ rfl
   have hp3:=hR2.lt
   have hl3:=hX2.1
   have hf3:=hR2.loose
   have HR2:Hid (KeepRaw w2 q p no ws rv):=hR2
   have HP2:Hid (ShopIn Os w2 p A'):=hP2
   have HSub:Hid (∀k,Os k->O1 k):=hsub2
   have HQs:Hid (¬Os q):=hqs2
   have HRow:Hid (w2.ownsRow (q+1) 177 5 rv K.rs.length (flat5 K.rs)):=hrow2
   have HRb:Hid (∀k,rv.ownBlock=some k->O1 k∧¬Os k):=hrb2
   have HS2:Hid (Save O w w2):=hS2
   have HM:Hid (Moved O O1 w):=hMw
   have HE1:Hid (some q ≠ rv.ownBlock):=fun e=>by have:=(HRow.out.lt q e.symm).1;omega
   have HE2:Hid (some w.heap.size ≠ rv.ownBlock):=fun e=>hnO1 (HRb.out _ e.symm).1
   clear hI2 hX2 hR2 hP2 hsub2 hqs2 hrow2 hrb2 hS2 hMw hnO1 hb2 hql hlx hrn
   go_upto_region 5 with fail
   go_region_law
    (first | (refine step_append_two (by rfl) (.tmp 23) (.tmp 25) 112 (by rfl) (q+1) 177 i0 (.agg #[.int .i64 0,.int .i64 0,.int .i64 0,.int .i64 0,.bool false]) 5 40 Tryz.underlying112 hi hz0 hz1 hz2 rfl (by decide) rv _ _ (by simp [Act.eval]) (own_next HRow.out (by go_grown)) ⟨w2.heap.size,0,none⟩ 1 1 [.int .i64 r.what,.int .i64 r.deal,.int .i64 r.c,.int .i64 r.d,.bool r.done] (by simp [Act.eval]) rfl (rec_lies (by simp [go_sem]) (by simp [go_sem]) (by simp [go_sem]) (by simp [go_sem]) (by simp [go_sem])) rec_cell (by unfold maxLen;omega) (by omega) (by simp;omega) (by decide) ?_;intro v8 w8 hown8 hgrow8 hwh8;obtain ⟨ga8,cap8,rfl⟩:=own_slice hown8;have HO8:Hid (w8.ownsRow (q+1) 177 5 (.slice ga8 (K.rs.length+1) cap8) (K.rs.length+1) (flat5 K.rs++[.int .i64 r.what,.int .i64 r.deal,.int .i64 r.c,.int .i64 r.d,.bool r.done])):=hown8;clear hown8;have HW8:Hid _:=hwh8;clear hwh8;have hk8:w8.cell? ⟨q,8,none⟩=some rv∧w8.cell? ⟨w.heap.size,0,none⟩=some (.int .i64 r.what)∧w8.cell? ⟨w.heap.size,1,none⟩=some (.int .i64 r.deal)∧w8.cell? ⟨w.heap.size,2,none⟩=some (.int .i64 r.c)∧w8.cell? ⟨w.heap.size,3,none⟩=some (.int .i64 r.d)∧w8.cell? ⟨w.heap.size,4,none⟩=some (.bool r.done):=⟨hgrow8.cell (by simp [go_sem,g0,hp3]) HE1.out,hgrow8.cell (by simp [go_sem,x0,hl3]) HE2.out,hgrow8.cell (by simp [go_sem,x1,hl3]) HE2.out,hgrow8.cell (by simp [go_sem,x2,hl3]) HE2.out,hgrow8.cell (by simp [go_sem,x3,hl3]) HE2.out,hgrow8.cell (by simp [go_sem,x4,hl3]) HE2.out⟩;have q78:=hk8.1;have hf8:∀k,w8.frozen? ⟨q,k,none⟩=false:=fun k=>(World.frozen?_of_block (hgrow8.block q (by simp;omega) HE1.out)).trans (by simp [go_sem,hf3,hp3])))
   all_goals
    have hR8:KeepRaw w8 q p no ws rv:=(HR2.out.save (O:=fun _=>False) (.of_below (by go_grown)) (fun e=>e)).save (O:=fun k=>rv.ownBlock=some k) ((Save.refl _ _).grown hgrow8 (fun k e _=>e)) (fun e=>HE1.out e.symm)
    have hP8:ShopIn Os w8 p A':=(HP2.out.next (by go_grown)).save (O':=fun k=>rv.ownBlock=some k) ((Save.refl _ _).grown hgrow8 (fun k e _=>e)) (fun k hk e=>(HRb.out k e).2 hk)
    have hS8:Save (fun k=>O k∨O1 k) w w8:=((HS2.out.mono (fun k _ hk=>.inl hk)).next (by go_grown)).grown hgrow8 (fun k e _=>.inr (HRb.out k e).1)
    have hsz8:w2.heap.size<=w8.heap.size:=Nat.le_trans (by simp) hgrow8.size
    clear hk8 hf8 q78 g0 x0 x1 x2 x3 x4
    go_wp2_with fail
    go_ret
    rw [HD.out,HN2.out (by simp)]
    have hSO:Save O w w8:=hS8.mono (fun k hk hh=>hh.elim id (fun h1=>(HM.out k h1).elim id (fun h2=>absurd h2 (by omega))))
    refine ⟨rfl,fun k=>O1 k∨(.slice ga8 (K.rs.length+1) cap8:Value).ownBlock=some k,?_,hSO.setCell (p:=⟨q,8,none⟩) (fun hk=>(HM.out q HMine2.out).elim id (fun h2=>absurd hk (by simp only;omega))) _,fun k hk=>?_⟩
    ·refine ⟨fun k hk=>?_,.inl HMine2.out,Os,p,.slice ga8 (K.rs.length+1) cap8,hR8.set8 _,?_,fun k hk=>.inl (HSub.out k hk),HQs.out,?_,fun k hk=>⟨.inr hk,fun hk2=>?_⟩⟩
     ·show k<(w8.setCell _ _).heap.size
      rw [show (w8.setCell (⟨q,8,none⟩:Addr) (.slice ga8 (K.rs.length+1) cap8)).heap.size=w8.heap.size by simp]
      rcases hk with hk | hk
      ·have:=HOwn2.out k hk
       omega
      ·exact (HO8.out.lt k hk).2
     ·exact hP8.save (O':=fun k=>k=q) (Save.setCell (O:=fun k=>k=q) (Save.refl _ _) (p:=⟨q,8,none⟩) (fun _=>rfl) _) (fun k hk e=>HQs.out (e ▸ hk))
     ·have e1:(K.rs++[r]).length=K.rs.length+1:=by simp
      have e2:flat5 (K.rs++[r])=flat5 K.rs++[.int .i64 r.what,.int .i64 r.deal,.int .i64 r.c,.int .i64 r.d,.bool r.done]:=flat5_snoc _ _
      show World.ownsRow _ _ _ _ _ (K.rs++[r]).length (flat5 (K.rs++[r]))
      rw [e1,e2]
      exact ownsRow_setCell_below HO8.out (Nat.lt_succ_self q) _
     ·rcases HW8.out k hk with h1 | h1
      ·exact (HRb.out k h1).2 hk2
      ·have h2:=HP2.out.own k hk2
       simp at h1
       omega
    ·rcases hk with hk | hk
     ·exact HM.out k hk
     ·rcases HW8.out k hk with h1 | h1
      ·exact HM.out k (HRb.out k h1).1
      ·right
       have:=HS2.out.size
       simp at h1
       omega
  ·go_wp2_with fail
   go_ret
   rw [HD.out,HN1.out (by simp)]
   exact ⟨rfl,O1,hI2,hS2,hMw⟩
 ·have HD:Hid (doR K r=((tellR K.A r).1,K)):=doR_code hz
  have HA:Hid ((tellR K.A r).2=K.A):=tell_code hz
  have hz':((tellR K.A r).1 != 0)=true:=by simpa using hz
  clear hz
  go_wp2_with fail
  go_ret
  rw [HD.out]
  exact ⟨rfl,O1,by have h9:=hI1;rw [HA.out] at h9;exact h9,hSw,hMw⟩
def NewKIs (no:Int) (ws:Nat->Int) (w w':World) (e:Ending):Prop:=
 if newOk no ws=true then ∃q O,e=.returned (.pointer (some ⟨q,0,none⟩))∧KeepIn O w' q no ws ⟨book0 no ws,[]⟩∧∀k,O k->w.heap.size<=k else e=.returned (.pointer none)
theorem newKIs_nil {no:Int} {ws:Nat->Int} {w w':World} {e:Ending} (h:newOk no ws=false) (he:e=.returned (.pointer none)):NewKIs no ws w w' e:=by
 unfold NewKIs;rw [if_neg (by rw [h];simp)];exact he
theorem kraw_new (w:World) (p:Nat) (no:Int) (ws:Nat->Int) (t:TypeId):KeepRaw (w.alloc (.cells #[.pointer (some ⟨p,0,none⟩),.int .i64 no,.int .i64 (ws 0),.int .i64 (ws 1),.int .i64 (ws 2),.int .i64 (ws 3),.int .i64 (ws 4),.int .i64 (ws 5),.slice none 0 0] t)) w.heap.size p no ws (.slice none 0 0):=by
 refine ⟨by simp,by simp [go_sem],by simp [go_sem],?_,by simp [go_sem],by simp [go_sem]⟩
 intro j hj
 rcases six_cases hj with rfl | rfl | rfl | rfl | rfl | rfl <;> simp [go_sem]
theorem knew_any (no:Int) (ws:Nat->Int) (w:World):
 Calls Tryz.prog 46 #[.int .i64 no,.agg #[.int .i64 (ws 0),.int .i64 (ws 1),.int .i64 (ws 2),.int .i64 (ws 3),.int .i64 (ws 4),.int .i64 (ws 5)]] w fun e w'=>NewKIs no ws w w' e∧Below w.heap.size w w':=by
 go_enter Tryz.func46,Tryz.ntmps46
 go_wp2_with fail
 refine (snew_any no ws _).mono ?_
 rintro e w1 ⟨hN,hb1⟩
 have hX:=(box_new6 w ws 40).next hb1
 have hw1:Below w.heap.size w w1:=after (by go_grown) hb1 (by simp)
 unfold NewIs at hN
 by_cases hok:newOk no ws=true
 ·rw [if_pos hok] at hN
  obtain ⟨p,O,rfl,hI,hO⟩:=hN
  have HOk:Hid _:=hok
  have HI:Hid (ShopIn O w1 p (book0 no ws)):=hI
  have HO:Hid (∀k,O k->w.heap.size<=k):=fun k hk=>Nat.le_trans (by simp) (hO k hk)
  have x0:=hX.2 0 _ rfl
  have x1:=hX.2 1 _ rfl
  have x2:=hX.2 2 _ rfl
  have x3:=hX.2 3 _ rfl
  have x4:=hX.2 4 _ rfl
  have x5:=hX.2 5 _ rfl
  clear hok hI hO hb1 hX
  go_wp2_with fail
  have hR:=kraw_new w1 p no ws 158
  have hn:Below w1.heap.size w1 (w1.alloc (.cells #[.pointer (some ⟨p,0,none⟩),.int .i64 no,.int .i64 (ws 0),.int .i64 (ws 1),.int .i64 (ws 2),.int .i64 (ws 3),.int .i64 (ws 4),.int .i64 (ws 5),.slice none 0 0] 158)):=(Below.refl _ _).alloc (Nat.le_refl _) _
  have hI2:=HI.out.next hn
  have hw2:=after hw1 hn hw1.size
  go_ret
  refine ⟨?_,hw2⟩
  unfold NewKIs
  rw [if_pos HOk.out]
  have nn:∀k,¬(Value.slice none 0 0).ownBlock=some k:=fun k e=>by simp [Value.ownBlock] at e
  have nq:¬O w1.heap.size:=fun hk=>by have:=HI.out.own _ hk;omega
  refine ⟨w1.heap.size,fun k=>O k∨k=w1.heap.size,rfl,⟨fun k hk=>?_,.inr rfl,O,p,.slice none 0 0,hR,hI2,fun k hk=>.inl hk,nq,World.ownsRow_nil _ _ _ _,fun k e=>absurd e (nn k)⟩,fun k hk=>?_⟩
  ·rcases hk with hk | rfl
   ·exact hI2.own k hk
   ·exact hR.lt
  ·rcases hk with hk | rfl
   ·exact HO.out k hk
   ·exact hw1.size
 ·rw [if_neg hok] at hN
  subst hN
  have HOk:Hid (newOk no ws=false):=by show _=_;simpa using hok
  clear hok
  go_wp2_with fail
  go_ret
  exact ⟨newKIs_nil HOk.out rfl,hw1⟩
structure KLive (w0:World) (Z:Nat->Prop) (w:World) (q:Nat) (no:Int) (ws:Nat->Int) (K:Kb):Prop where
 inn:∃O,KeepIn O w q no ws K∧∀k,O k->w0.heap.size<=k∧¬Z k
 below:Below w0.heap.size w0 w
 kept:∀k,Z k->k<w.heap.size
theorem KLive.next {w0 w w1:World} {Z:Nat->Prop} {q:Nat} {no:Int} {ws:Nat->Int} {K:Kb} (h:KLive w0 Z w q no ws K) (hb:Below w.heap.size w w1):KLive w0 Z w1 q no ws K:=by
 obtain ⟨O,h1,h2⟩:=h.inn
 exact ⟨⟨O,h1.next hb,h2⟩,after h.below hb h.below.size,fun k hk=>Nat.lt_of_lt_of_le (h.kept k hk) hb.size⟩
theorem KLive.step {O O':Nat->Prop} {w0 w w1:World} {Z:Nat->Prop} {q:Nat} {no:Int} {ws:Nat->Int} {K K':Kb} (h:KLive w0 Z w q no ws K) (h2:∀k,O k->w0.heap.size<=k∧¬Z k) (h3:KeepIn O' w1 q no ws K') (h4:Save O w w1) (h5:Moved O O' w):KLive w0 Z w1 q no ws K'∧Save (fun k=>¬Z k) w w1:=
 ⟨⟨⟨O',h3,fun k hk=>(h5 k hk).elim (h2 k) (fun q=>⟨Nat.le_trans h.below.size q,fun hk'=>by have:=h.kept k hk';omega⟩)⟩,h.below.trans (h4.below (fun k hk hO=>by have:=(h2 k hO).1;omega) h.below.size),fun k hk=>Nat.lt_of_lt_of_le (h.kept k hk) h4.size⟩,h4.mono (fun k _ hk=>(h2 k hk).2)⟩
theorem do_live {w0 w:World} {Z:Nat->Prop} {q:Nat} {no:Int} {ws:Nat->Int} {K:Kb} (r:Stp) (h:KLive w0 Z w q no ws K) (hG:Good K.A) (hl:K.A.hs.length<2 ^ 40) (hr:K.rs.length<2 ^ 40):Calls Tryz.prog 178 #[.pointer (some ⟨q,0,none⟩),.agg #[.int .i64 r.what,.int .i64 r.deal,.int .i64 r.c,.int .i64 r.d,.bool r.done]] w fun e w'=>e=.returned (.int .i64 (doR K r).1)∧KLive w0 Z w' q no ws (doR K r).2∧Save (fun k=>¬Z k) w w':=by
 obtain ⟨O,h1,h2⟩:=h.inn
 refine (kdo_any O no ws K q r w h1 hG hl hr).mono ?_
 rintro e w' ⟨he,O',h3,h4,h5⟩
 exact ⟨he,KLive.step h h2 h3 h4 h5⟩
theorem KLive.shop {w0 w:World} {Z:Nat->Prop} {q:Nat} {no:Int} {ws:Nat->Int} {K:Kb} (h:KLive w0 Z w q no ws K):∃p,w.cell? ⟨q,0,none⟩=some (.pointer (some ⟨p,0,none⟩))∧q<w.heap.size∧Live w0 Z w p K.A:=by
 obtain ⟨O,h1,h2⟩:=h.inn
 obtain ⟨Os,p,rv,hR,hS,hsub,_⟩:=h1.raw
 exact ⟨p,hR.c0,hR.lt,⟨Os,hS,fun k hk=>h2 k (hsub k hk)⟩,h.below,h.kept⟩
structure Box2 (w:World) (b:Nat) (x y:Int):Prop where
 lt:b<w.heap.size
 c0:w.cell? ⟨b,0,none⟩=some (.int .i64 x)
 c1:w.cell? ⟨b,1,none⟩=some (.int .i64 y)
 loose:∀k,w.frozen? ⟨b,k,none⟩=false
theorem Box2.save {O:Nat->Prop} {w w1:World} {b:Nat} {x y:Int} (h:Box2 w b x y) (hb:Save O w w1) (hn:¬O b):Box2 w1 b x y:=
 ⟨Nat.lt_of_lt_of_le h.lt hb.size,(hb.cell (p:=⟨b,0,none⟩) h.lt hn).trans h.c0,(hb.cell (p:=⟨b,1,none⟩) h.lt hn).trans h.c1,fun k=>(hb.frozen (p:=⟨b,k,none⟩) h.lt hn).trans (h.loose k)⟩
theorem Box2.next {w w1:World} {b:Nat} {x y:Int} (h:Box2 w b x y) (hb:Below w.heap.size w w1):Box2 w1 b x y:=h.save (O:=fun _=>False) (.of_below hb) (fun q=>q)
theorem Box2.new (w:World) (t:TypeId) (x y:Int):Box2 (w.alloc (.cells #[.int .i64 x,.int .i64 y] t)) w.heap.size x y:=⟨by simp,by simp [go_sem],by simp [go_sem],by simp [go_sem]⟩
def RepIs (no:Int) (ws:Nat->Int) (l:List Stp) (w:World) (e:Ending) (w':World):Prop:=
 if newOk no ws=true then (if (faultR (book0 no ws) l 0).1=0 then ∃p O,e=.returned (.tuple #[.pointer (some ⟨p,0,none⟩),.agg #[.int .i64 0,.int .i64 0]])∧ShopIn O w' p (runR (book0 no ws) l)∧∀k,O k->w.heap.size<=k
  else e=.returned (.tuple #[.pointer none,.agg #[.int .i64 (faultR (book0 no ws) l 0).1,.int .i64 (faultR (book0 no ws) l 0).2]])) else e=.returned (.tuple #[.pointer none,.agg #[.int .i64 1,.int .i64 (-1)]])
theorem repIs_nil {no:Int} {ws:Nat->Int} {l:List Stp} {w w':World} {e:Ending} (h:newOk no ws=false) (he:e=.returned (.tuple #[.pointer none,.agg #[.int .i64 1,.int .i64 (-1)]])):RepIs no ws l w e w':=by
 unfold RepIs;rw [if_neg (by rw [h];simp)];exact he
theorem repIs_code {no:Int} {ws:Nat->Int} {l:List Stp} {w w':World} {e:Ending} {c i:Int} (h:newOk no ws=true) (hf:faultR (book0 no ws) l 0=(c,i)) (hc:c ≠ 0) (he:e=.returned (.tuple #[.pointer none,.agg #[.int .i64 c,.int .i64 i]])):RepIs no ws l w e w':=by
 unfold RepIs;rw [if_pos h,hf,if_neg hc];exact he
theorem repIs_all {no:Int} {ws:Nat->Int} {l:List Stp} {w w':World} {e:Ending} {i:Int} (h:newOk no ws=true) (hf:faultR (book0 no ws) l 0=(0,i)) (he:∃p O,e=.returned (.tuple #[.pointer (some ⟨p,0,none⟩),.agg #[.int .i64 0,.int .i64 0]])∧ShopIn O w' p (runR (book0 no ws) l)∧∀k,O k->w.heap.size<=k):RepIs no ws l w e w':=by
 unfold RepIs;rw [if_pos h,hf,if_pos rfl];exact he
theorem krep_any (no:Int) (ws:Nat->Int) (la:Option Addr) (n ca:Nat) (l:List Stp) (w:World) (hl:StepsAt w la l) (hn:l.length=n) (hs:n<1000000):
 Calls Tryz.prog 172 #[.int .i64 no,.agg #[.int .i64 (ws 0),.int .i64 (ws 1),.int .i64 (ws 2),.int .i64 (ws 3),.int .i64 (ws 4),.int .i64 (ws 5)],.slice la n ca] w fun e w'=>RepIs no ws l w e w'∧Below w.heap.size w w':=by
 go_enter Tryz.func172,Tryz.ntmps172
 go_upto_region 1 with fail
 have hX:=(box_new6 w ws 40).next ((Below.refl _ _).alloc (Nat.le_refl _) (.cells #[.int .i64 0,.int .i64 0] 31))
 have hB:=Box2.new (w.alloc (.cells #[.int .i64 (ws 0),.int .i64 (ws 1),.int .i64 (ws 2),.int .i64 (ws 3),.int .i64 (ws 4),.int .i64 (ws 5)] 40)) 31 0 0
 have hb:Below w.heap.size w ((w.alloc (.cells #[.int .i64 (ws 0),.int .i64 (ws 1),.int .i64 (ws 2),.int .i64 (ws 3),.int .i64 (ws 4),.int .i64 (ws 5)] 40)).alloc (.cells #[.int .i64 0,.int .i64 0] 31)):=by go_grown
 have hz:(w.alloc (.cells #[.int .i64 (ws 0),.int .i64 (ws 1),.int .i64 (ws 2),.int .i64 (ws 3),.int .i64 (ws 4),.int .i64 (ws 5)] 40)).heap.size=w.heap.size+1:=by simp
 rw [hz] at hB
 generalize ((w.alloc (.cells #[.int .i64 (ws 0),.int .i64 (ws 1),.int .i64 (ws 2),.int .i64 (ws 3),.int .i64 (ws 4),.int .i64 (ws 5)] 40)).alloc (.cells #[.int .i64 0,.int .i64 0] 31))=W at hX hB hb ⊢
 clear hz
 have hfb:w.heap.size<=w.heap.size+1:=Nat.le_succ _
 have x0:=hX.2 0 _ rfl
 have x1:=hX.2 1 _ rfl
 have x2:=hX.2 2 _ rfl
 have x3:=hX.2 3 _ rfl
 have x4:=hX.2 4 _ rfl
 have x5:=hX.2 5 _ rfl
 generalize w.heap.size+1=fb at hB hfb ⊢
 clear hX
 go_wp2_with fail
 refine (knew_any no ws _).mono ?_
 rintro e w1 ⟨hN,hb1⟩
 have hB1:=hB.next hb1
 have hw1:Below w.heap.size w w1:=after hb hb1 hb.size
 have hWs:=hb.size
 clear x0 x1 x2 x3 x4 x5
 unfold NewKIs at hN
 by_cases hok:newOk no ws=true
 ·rw [if_pos hok] at hN
  obtain ⟨q,O,rfl,hI,hO⟩:=hN
  have hL1:KLive w (fun b=>b=fb) w1 q no ws ⟨book0 no ws,[]⟩:=⟨⟨O,hI,fun k hk=>⟨Nat.le_trans hWs (hO k hk),fun e=>by have:=hO k hk;have:=hB.lt;omega⟩⟩,hw1,fun k e=>by rw [e];exact hB1.lt⟩
  have HG1:Hid (GoodK (book0 no ws) ⟨book0 no ws,[]⟩):=goodK_new (good_new hok) rfl rfl
  have HOk:Hid (newOk no ws=true):=hok
  have HT:Hid (StepsAt w la l):=hl
  clear hI hO hB hb hb1 hw1 hWs hok hl
  go_wp2_with fail
  go_loopg [9,10,11,20] n (fun g _ _ _ s20 wr=>∃(k:Nat) (K:Kb),k<=n∧g=n - k∧s20=.int .i64 k∧KLive w (fun b=>b=fb) wr q no ws K∧Box2 wr fb 0 0∧Hid (GoodK (book0 no ws) K)∧Hid (K.rs.length<=k)∧Hid (faultR (book0 no ws) l 0=faultR K.A (l.drop k) k∧runR (book0 no ws) l=runR K.A (l.drop k)))
  case atStart=>exact ⟨0,_,Nat.zero_le _,rfl,rfl,hL1,hB1,HG1,Nat.le_refl _,⟨rfl,rfl⟩⟩
  case round=>
   obtain ⟨k,K,hk,rfl,rfl,hL,hB2,HG,HLn,HF⟩:=hrel
   clear hL1 hB1
   by_cases hlt:k<n
   ·obtain ⟨x,hkx⟩:∃x,l[k]?=some x:=⟨_,List.getElem?_eq_getElem (by omega)⟩
    obtain ⟨bl,ol,rfl,hbl,hcell⟩:=HT.out k x hkx
    have hcell':∀j v,x.cells[j]?=some v->wr.cell? ⟨bl,ol+k * 5+j,none⟩=some v:=fun j v hj=>(hL.below.cell (p:=⟨bl,_,none⟩) hbl).trans (hcell j v hj)
    have p0:wr.cell? ⟨bl,ol+k * 5,none⟩=some (.int .i64 x.what):=hcell' 0 _ rfl
    have p1:wr.cell? ⟨bl,ol+k * 5+1,none⟩=some (.int .i64 x.deal):=hcell' 1 _ rfl
    have p2:wr.cell? ⟨bl,ol+k * 5+2,none⟩=some (.int .i64 x.c):=hcell' 2 _ rfl
    have p3:wr.cell? ⟨bl,ol+k * 5+3,none⟩=some (.int .i64 x.d):=hcell' 3 _ rfl
    have p4:wr.cell? ⟨bl,ol+k * 5+4,none⟩=some (.bool x.done):=hcell' 4 _ rfl
    have j0:(0:Int)<=(k:Int):=by omega
    have j1:(k:Int)<(n:Int):=by omega
    have j2:(n:Int)<1000000:=by omega
    have HD:Hid (l.drop k=x :: l.drop (k+1)):=drop_cons hkx
    have HS:Hid (n<1000000):=hs
    have HKN:Hid (k<n):=hlt
    clear hcell hcell' hbl hkx hs hlt hk
    go_upto_region 7 with fail
    have hX:=BoxAt.new wr x.cells 177
    have hbn:Below wr.heap.size wr (wr.alloc (.cells x.cells.toArray 177)):=(Below.refl _ _).alloc (Nat.le_refl _) _
    have hL2:=hL.next hbn
    have hB3:=hB2.next hbn
    change KLive w _ (wr.alloc (.cells #[.int .i64 x.what,.int .i64 x.deal,.int .i64 x.c,.int .i64 x.d,.bool x.done] _)) q no ws K at hL2
    change BoxAt (wr.alloc (.cells #[.int .i64 x.what,.int .i64 x.deal,.int .i64 x.c,.int .i64 x.d,.bool x.done] _)) _ _ at hX
    change Box2 (wr.alloc (.cells #[.int .i64 x.what,.int .i64 x.deal,.int .i64 x.c,.int .i64 x.d,.bool x.done] _)) _ _ _ at hB3
    generalize (wr.alloc (.cells #[.int .i64 x.what,.int .i64 x.deal,.int .i64 x.c,.int .i64 x.d,.bool x.done] 177))=W1 at hX hL2 hB3 ⊢
    generalize wr.heap.size=bx at hX ⊢
    clear hL p0 p1 p2 p3 p4 hB2 hbn
    have y0:W1.cell? ⟨bx,0,none⟩=some (.int .i64 x.what):=hX.2 0 _ rfl
    have y1:W1.cell? ⟨bx,1,none⟩=some (.int .i64 x.deal):=hX.2 1 _ rfl
    have y2:W1.cell? ⟨bx,2,none⟩=some (.int .i64 x.c):=hX.2 2 _ rfl
    have y3:W1.cell? ⟨bx,3,none⟩=some (.int .i64 x.d):=hX.2 3 _ rfl
    have y4:W1.cell? ⟨bx,4,none⟩=some (.bool x.done):=hX.2 4 _ rfl
    have HL40:Hid (K.A.hs.length<2 ^ 40∧K.rs.length<2 ^ 40):=by
     have:=HLn.out
     have:=HG.out.hl
     have:=HS.out
     have:=HKN.out
     exact ⟨by omega,by omega⟩
    go_wp2_with fail
    refine Calls.mono (do_live x hL2 HG.out.good HL40.out.1 HL40.out.2) ?_
    rintro e w3 ⟨rfl,hL3,hS3⟩
    have hB4:=hB3.save hS3 (fun q=>q rfl)
    have f0:=hB4.c0
    have f1:=hB4.c1
    have fl:=hB4.loose
    have fz:=hB4.lt
    clear hL2 hX hB3 y0 y1 y2 y3 y4 hS3
    by_cases hz:(doR K x).1=0
    ·have hz':((doR K x).1 != 0)=false:=by simp [hz]
     have HG2:Hid (GoodK (book0 no ws) (doR K x).2):=goodK_do HG.out x
     have HL2:Hid ((doR K x).2.rs.length<=k+1):=by have:=do_len K x;have:=HLn.out;show _<=_;omega
     have HF2:Hid (faultR (book0 no ws) l 0=faultR (doR K x).2.A (l.drop (k+1)) (k+1)∧runR (book0 no ws) l=runR (doR K x).2.A (l.drop (k+1))):=by
      obtain ⟨a1,a2⟩:=HF.out
      rw [HD.out] at a1 a2
      rw [doR_book]
      refine ⟨a1.trans ?_,a2⟩
      rw [doR_fst] at hz
      show (if (tellR K.A x).1=0 then _ else _)=_
      rw [if_pos hz]
     clear hz
     generalize doR K x=r at *
     go_wp2_with fail
     go_roundg (n - (k+1))
     case measure=>have:=HKN.out;omega
     case rel=>exact ⟨k+1,r.2,HKN.out,rfl,by simp,hL3,hB4,HG2,HL2,HF2⟩
    ·have hz':((doR K x).1 != 0)=true:=by simpa using hz
     have HF2:Hid (faultR (book0 no ws) l 0=((doR K x).1,(k:Int))∧(doR K x).1 ≠ 0):=by
      obtain ⟨a1,a2⟩:=HF.out
      rw [HD.out] at a1
      refine ⟨a1.trans ?_,hz⟩
      rw [doR_fst] at hz ⊢
      show (if (tellR K.A x).1=0 then _ else _)=_
      rw [if_neg hz]
     clear hz
     generalize doR K x=r at *
     have hb9:=hL3.below
     clear hL3 hB4
     go_wp2_with fail
     exact bodyPost_ret (v:=.tuple #[.pointer none,.agg #[.int .i64 r.1,.int .i64 (k:Int)]]) (by simp [results,Tryz.results172,go_sem,f0,f1]) rfl ⟨repIs_code HOk.out HF2.out.1 HF2.out.2 rfl,(hb9.setCell (p:=⟨fb,0,none⟩) hfb _).setCell (p:=⟨fb,1,none⟩) hfb _⟩
   ·have hkk:k=n:=by omega
    subst hkk
    have HF2:Hid (faultR (book0 no ws) l 0=(0,0)∧runR (book0 no ws) l=K.A):=by
     obtain ⟨a1,a2⟩:=HF.out
     rw [List.drop_of_length_le (by omega)] at a1 a2
     exact ⟨a1,a2⟩
    obtain ⟨p,c0,hql,hLs⟩:=hL.shop
    have f0:=hB2.c0
    have f1:=hB2.c1
    have fl:=hB2.loose
    have fz:=hB2.lt
    have HSh:Hid (∀u v:Value,∃O,ShopIn O ((wr.setCell ⟨fb,0,none⟩ u).setCell ⟨fb,1,none⟩ v) p K.A∧∀k,O k->w.heap.size<=k):=by
     intro u v
     obtain ⟨O,h1,h2⟩:=hLs.inn
     exact ⟨O,h1.save (O':=fun b=>b=fb) (Save.setCell (O:=fun b=>b=fb) (Save.setCell (O:=fun b=>b=fb) (Save.refl _ _) (p:=⟨fb,0,none⟩) (fun _=>rfl) _) (p:=⟨fb,1,none⟩) (fun _=>rfl) _) (fun k hk e=>(h2 k hk).2 e),fun k hk=>(h2 k hk).1⟩
    have hb9:=hL.below
    clear hL hLs hB2
    go_wp2_with fail
    refine bodyPost_ret (v:=.tuple #[.pointer (some ⟨p,0,none⟩),.agg #[.int .i64 0,.int .i64 0]]) (by simp [results,Tryz.results172,go_sem,f0,f1]) rfl ⟨repIs_all HOk.out HF2.out.1 ?_,(hb9.setCell (p:=⟨fb,0,none⟩) hfb _).setCell (p:=⟨fb,1,none⟩) hfb _⟩
    obtain ⟨O,h1,h2⟩:=HSh.out (.int .i64 0) (.int .i64 0)
    exact ⟨p,O,rfl,by rw [HF2.out.2];exact h1,h2⟩
 ·rw [if_neg hok] at hN
  subst hN
  have HOk:Hid (newOk no ws=false):=by show _=_;simpa using hok
  have f0:=hB1.c0
  have f1:=hB1.c1
  have fl:=hB1.loose
  have fz:=hB1.lt
  clear hok hB hB1
  go_wp2_with fail
  exact bodyPost_ret (v:=.tuple #[.pointer none,.agg #[.int .i64 1,.int .i64 (-1)]]) (by simp [results,Tryz.results172,go_sem,f0,f1]) rfl ⟨repIs_nil HOk.out rfl,(hw1.setCell (p:=⟨fb,0,none⟩) hfb _).setCell (p:=⟨fb,1,none⟩) hfb _⟩
theorem rep_again {no:Int} {ws:Nat->Int} {K:Kb} {w w':World} {e:Ending} (hok:newOk no ws=true) (hG:GoodK (book0 no ws) K) (h:RepIs no ws K.rs w e w'):∃p O,e=.returned (.tuple #[.pointer (some ⟨p,0,none⟩),.agg #[.int .i64 0,.int .i64 0]])∧ShopIn O w' p K.A∧∀k,O k->w.heap.size<=k:=by
 unfold RepIs at h
 rw [if_pos hok,hG.fault,if_pos rfl,hG.run] at h
 exact h
theorem kcrash_any (O:Nat->Prop) (no:Int) (ws:Nat->Int) (K:Kb) (q:Nat) (w:World) (h:KeepIn O w q no ws K) (hG:GoodK (book0 no ws) K) (hok:newOk no ws=true) (hr:K.rs.length<1000000):
 Calls Tryz.prog 162 #[.pointer (some ⟨q,0,none⟩)] w fun e w'=>e=.returned (.tuple #[])∧∃O',KeepIn O' w' q no ws K∧Save O w w'∧Moved O O' w:=by
 obtain ⟨Os,p,rv,hR,hS,hsub,hqs,hrow,hrb⟩:=h.raw
 obtain ⟨ga,cap,rfl,hA,hrn⟩:=steps_of_own hrow
 have HC:Hid (∀W:World,Below w.heap.size w W->Calls Tryz.prog 172 #[.int .i64 no,.agg #[.int .i64 (ws 0),.int .i64 (ws 1),.int .i64 (ws 2),.int .i64 (ws 3),.int .i64 (ws 4),.int .i64 (ws 5)],.slice ga K.rs.length cap] W fun e w'=>(∃p O,e=.returned (.tuple #[.pointer (some ⟨p,0,none⟩),.agg #[.int .i64 0,.int .i64 0]])∧ShopIn O w' p K.A∧∀k,O k->W.heap.size<=k)∧Below W.heap.size W w'):=fun W hW=>(krep_any no ws ga K.rs.length cap K.rs W (hA.below hW (Nat.le_refl _)) rfl hr).mono (fun e w' h=>⟨rep_again hok hG h.1,h.2⟩)
 have HF:Hid (∀(W w9:World) (p9:Nat) (O9:Nat->Prop),Below w.heap.size w W->Below W.heap.size W w9->ShopIn O9 w9 p9 K.A->(∀k,O9 k->W.heap.size<=k)->∃O',KeepIn O' (w9.setCell ⟨q,0,none⟩ (.pointer (some ⟨p9,0,none⟩))) q no ws K∧Save O w (w9.setCell ⟨q,0,none⟩ (.pointer (some ⟨p9,0,none⟩)))∧Moved O O' w):=by
  intro W w9 p9 O9 hW h9 hI9 hO9
  have hw9:Below w.heap.size w w9:=after hW h9 hW.size
  have hs:w.heap.size<=W.heap.size:=hW.size
  have hql:=hR.lt
  have hno:∀k,k<w.heap.size->¬O9 k:=fun k hk hk'=>by have:=hO9 k hk';omega
  refine ⟨fun k=>O k∨O9 k,⟨fun k hk=>?_,.inl h.mine,O9,p9,.slice ga K.rs.length cap,(hR.save (O:=fun _=>False) (.of_below hw9) (fun e=>e)).set0 p9,?_,fun k hk=>.inr hk,hno q hql,?_,fun k hk=>⟨.inl (hrb k hk).1,hno k (h.own k (hrb k hk).1)⟩⟩,(Save.of_below hw9).setCell (p:=⟨q,0,none⟩) (fun _=>h.mine) _,fun k hk=>?_⟩
  ·show k<(w9.setCell _ _).heap.size
   rw [show (w9.setCell (⟨q,0,none⟩:Addr) (.pointer (some ⟨p9,0,none⟩))).heap.size=w9.heap.size by simp]
   rcases hk with hk | hk
   ·exact Nat.lt_of_lt_of_le (h.own k hk) hw9.size
   ·exact hI9.own k hk
  ·exact hI9.save (O':=fun k=>k=q) (Save.setCell (O:=fun k=>k=q) (Save.refl _ _) (p:=⟨q,0,none⟩) (fun _=>rfl) _) (fun k hk e=>hno q hql (e ▸ hk))
  ·exact ownsRow_setCell_below (own_next hrow hw9) (Nat.lt_succ_self q) _
  ·rcases hk with hk | hk
   ·exact .inl hk
   ·exact .inr (Nat.le_trans hs (hO9 k hk))
 have hql:=hR.lt
 have c0:=hR.c0
 have c1:=hR.c1
 have k0:w.cell? ⟨q,2,none⟩=some (.int .i64 (ws 0)):=hR.cw 0 (by omega)
 have k1:w.cell? ⟨q,3,none⟩=some (.int .i64 (ws 1)):=hR.cw 1 (by omega)
 have k2:w.cell? ⟨q,4,none⟩=some (.int .i64 (ws 2)):=hR.cw 2 (by omega)
 have k3:w.cell? ⟨q,5,none⟩=some (.int .i64 (ws 3)):=hR.cw 3 (by omega)
 have k4:w.cell? ⟨q,6,none⟩=some (.int .i64 (ws 4)):=hR.cw 4 (by omega)
 have k5:w.cell? ⟨q,7,none⟩=some (.int .i64 (ws 5)):=hR.cw 5 (by omega)
 have c8:=hR.c8
 have fl:=hR.loose
 clear h hG hok hR hS hsub hqs hrow hrb hA hrn hr
 have HK:Hid (∀w',Below w.heap.size w w'->w'.cell? ⟨q,1,none⟩=some (.int .i64 no)∧w'.cell? ⟨q,2,none⟩=some (.int .i64 (ws 0))∧w'.cell? ⟨q,3,none⟩=some (.int .i64 (ws 1))∧w'.cell? ⟨q,4,none⟩=some (.int .i64 (ws 2))∧w'.cell? ⟨q,5,none⟩=some (.int .i64 (ws 3))∧w'.cell? ⟨q,6,none⟩=some (.int .i64 (ws 4))∧w'.cell? ⟨q,7,none⟩=some (.int .i64 (ws 5))∧w'.cell? ⟨q,8,none⟩=some (.slice ga K.rs.length cap)):=fun w' hb=>⟨((bcell hb).1 _ _ hql).trans c1,((bcell hb).1 _ _ hql).trans k0,((bcell hb).1 _ _ hql).trans k1,((bcell hb).1 _ _ hql).trans k2,((bcell hb).1 _ _ hql).trans k3,((bcell hb).1 _ _ hql).trans k4,((bcell hb).1 _ _ hql).trans k5,((bcell hb).1 _ _ hql).trans c8⟩
 have HKs:Hid (∀(w':World) (u:Value),(w'.cell? ⟨q,1,none⟩=some (.int .i64 no)∧w'.cell? ⟨q,2,none⟩=some (.int .i64 (ws 0))∧w'.cell? ⟨q,3,none⟩=some (.int .i64 (ws 1))∧w'.cell? ⟨q,4,none⟩=some (.int .i64 (ws 2))∧w'.cell? ⟨q,5,none⟩=some (.int .i64 (ws 3))∧w'.cell? ⟨q,6,none⟩=some (.int .i64 (ws 4))∧w'.cell? ⟨q,7,none⟩=some (.int .i64 (ws 5))∧w'.cell? ⟨q,8,none⟩=some (.slice ga K.rs.length cap))->(w'.setCell ⟨q,0,none⟩ u).cell? ⟨q,1,none⟩=some (.int .i64 no)∧(w'.setCell ⟨q,0,none⟩ u).cell? ⟨q,2,none⟩=some (.int .i64 (ws 0))∧(w'.setCell ⟨q,0,none⟩ u).cell? ⟨q,3,none⟩=some (.int .i64 (ws 1))∧(w'.setCell ⟨q,0,none⟩ u).cell? ⟨q,4,none⟩=some (.int .i64 (ws 2))∧(w'.setCell ⟨q,0,none⟩ u).cell? ⟨q,5,none⟩=some (.int .i64 (ws 3))∧(w'.setCell ⟨q,0,none⟩ u).cell? ⟨q,6,none⟩=some (.int .i64 (ws 4))∧(w'.setCell ⟨q,0,none⟩ u).cell? ⟨q,7,none⟩=some (.int .i64 (ws 5))∧(w'.setCell ⟨q,0,none⟩ u).cell? ⟨q,8,none⟩=some (.slice ga K.rs.length cap)):=fun w' u h=>⟨(cell_set_off (by omega)).trans h.1,(cell_set_off (by omega)).trans h.2.1,(cell_set_off (by omega)).trans h.2.2.1,(cell_set_off (by omega)).trans h.2.2.2.1,(cell_set_off (by omega)).trans h.2.2.2.2.1,(cell_set_off (by omega)).trans h.2.2.2.2.2.1,(cell_set_off (by omega)).trans h.2.2.2.2.2.2.1,(cell_set_off (by omega)).trans h.2.2.2.2.2.2.2⟩
 go_enter Tryz.func162,Tryz.ntmps162
 go_region_held3 (fun w'=>w'.cell? ⟨q,1,none⟩=some (.int .i64 no)∧w'.cell? ⟨q,2,none⟩=some (.int .i64 (ws 0))∧w'.cell? ⟨q,3,none⟩=some (.int .i64 (ws 1))∧w'.cell? ⟨q,4,none⟩=some (.int .i64 (ws 2))∧w'.cell? ⟨q,5,none⟩=some (.int .i64 (ws 3))∧w'.cell? ⟨q,6,none⟩=some (.int .i64 (ws 4))∧w'.cell? ⟨q,7,none⟩=some (.int .i64 (ws 5))∧w'.cell? ⟨q,8,none⟩=some (.slice ga K.rs.length cap))
  (first | exact HK9 | exact HKs.out _ _ HK9 | exact HK.out _ (by go_grown))
  (first | (go_at_call 172;refine Calls.mono (HC.out _ (by go_grown)) ?_;rintro e w9 ⟨⟨p9,O9,rfl,hI9,hO9⟩,hb9⟩;have hw9:Below w.heap.size w w9:=after (by go_grown) hb9 (by simp);have HK9:=HK.out _ hw9;have e9:w9.cell? ⟨q,0,none⟩=some (.pointer (some ⟨p,0,none⟩)):=(hw9.cell (p:=⟨q,0,none⟩) hql).trans c0;have f9:∀k,w9.frozen? ⟨q,k,none⟩=false:=loose q hw9 hql fl;have HE9:=HF.out _ w9 p9 O9 (by go_grown) hb9 hI9 hO9;clear hI9 hO9 hb9))
 all_goals
  go_wp2_with fail
  exact bodyPost_end (v:=.tuple #[]) (by simp [results,Tryz.results162,go_sem]) rfl ⟨rfl,HE9⟩
def askS (m:Ml):Stp:=⟨1,m.deal,m.c,m.d,false⟩
def endS (m:Ml):Stp:=⟨2,m.deal,0,0,m.yes⟩
def ansR (no:Int) (K:Kb) (m:Ml):Ml × Bool × Kb:=
 if m.shop=no then (if m.kind=1 then (⟨2,m.deal,m.shop,m.c,m.d,(doR K (askS m)).1 == 0⟩,true,(doR K (askS m)).2)
  else if m.kind=3 then (if (doR K (endS m)).1=0 then (⟨4,m.deal,m.shop,m.c,m.d,m.yes⟩,true,(doR K (endS m)).2) else (noMl,false,K)) else (noMl,false,K)) else (noMl,false,K)
theorem ans_shop {no:Int} {K:Kb} {m:Ml} (h:m.shop ≠ no):ansR no K m=(noMl,false,K):=by unfold ansR;rw [if_neg h]
theorem ans_ask {no:Int} {K:Kb} {m:Ml} (h:m.shop=no) (h1:m.kind=1):ansR no K m=(⟨2,m.deal,m.shop,m.c,m.d,(doR K (askS m)).1 == 0⟩,true,(doR K (askS m)).2):=by unfold ansR;rw [if_pos h,if_pos h1]
theorem ans_end {no:Int} {K:Kb} {m:Ml} (h:m.shop=no) (h3:m.kind=3) (hz:(doR K (endS m)).1=0):ansR no K m=(⟨4,m.deal,m.shop,m.c,m.d,m.yes⟩,true,(doR K (endS m)).2):=by unfold ansR;rw [if_pos h,if_neg (by omega),if_pos h3,if_pos hz]
theorem ans_noend {no:Int} {K:Kb} {m:Ml} (h:m.shop=no) (h3:m.kind=3) (hz:(doR K (endS m)).1 ≠ 0):ansR no K m=(noMl,false,K):=by unfold ansR;rw [if_pos h,if_neg (by omega),if_pos h3,if_neg hz]
theorem ans_kind {no:Int} {K:Kb} {m:Ml} (h:m.shop=no) (h1:m.kind ≠ 1) (h3:m.kind ≠ 3):ansR no K m=(noMl,false,K):=by unfold ansR;rw [if_pos h,if_neg h1,if_neg h3]
theorem do_code {K:Kb} {r:Stp} (h:(doR K r).1 ≠ 0):(doR K r).2=K:=by
 rw [doR_fst] at h
 rw [doR_code h]
theorem ask_yes {K:Kb} {m:Ml} (h:(doR K (askS m)).1=0):(m.deal,m.c,m.d)∈(doR K (askS m)).2.A.hs∧over K.A.es m.deal=none:=by
 rw [doR_fst] at h
 rw [doR_book]
 rw [tellR_hold (r:=askS m) (by rfl) (by rfl)] at h ⊢
 rcases holdR_cases K.A (askS m).deal (askS m).c (askS m).d with ⟨hc,e⟩ | ⟨hc,k,hk,_,⟨y,hy,e⟩ | ⟨_,hz,e⟩ | ⟨hf,hz,e⟩⟩
 ·rw [e] at h;exact absurd h hc
 ·rw [e] at h
  have h':(if y.2.2=m.d then (0:Int) else 9)=0:=h
  refine ⟨?_,(chkS_zero hc).2.2.2.2⟩
  rw [e]
  show (m.deal,m.c,m.d)∈K.A.hs
  have hm:=List.mem_of_find?_eq_some hy
  have hs:=List.find?_some hy
  unfold same at hs
  simp only [Bool.and_eq_true,beq_iff_eq] at hs
  by_cases q:y.2.2=m.d
  ·have:y=(m.deal,m.c,m.d):=by
    obtain ⟨y0,y1,y2⟩:=y
    simp only at hs q
    rw [hs.1,hs.2,q];rfl
   rw [<-this];exact hm
  ·rw [if_neg q] at h';omega
 ·rw [e] at h;exact absurd h hz
 ·refine ⟨?_,(chkS_zero hc).2.2.2.2⟩
  rw [e]
  show (m.deal,m.c,m.d)∈K.A.hs++[(m.deal,m.c,m.d)]
  simp
structure ClkRaw (w:World) (c q:Nat) (no:Int):Prop where
 lt:c<w.heap.size
 c0:w.cell? ⟨c,0,none⟩=some (.pointer (some ⟨q,0,none⟩))
 c1:w.cell? ⟨c,1,none⟩=some (.int .i64 no)
 loose:∀k,w.frozen? ⟨c,k,none⟩=false
theorem ClkRaw.save {O:Nat->Prop} {w w1:World} {c q:Nat} {no:Int} (h:ClkRaw w c q no) (hb:Save O w w1) (hn:¬O c):ClkRaw w1 c q no:=by
 have hl:=h.lt
 have e:∀o,w1.cell? ⟨c,o,none⟩=w.cell? ⟨c,o,none⟩:=fun o=>hb.cell (p:=⟨c,o,none⟩) hl hn
 exact ⟨Nat.lt_of_lt_of_le hl hb.size,(e _).trans h.c0,(e _).trans h.c1,fun k=>(hb.frozen (p:=⟨c,k,none⟩) hl hn).trans (h.loose k)⟩
theorem craw_new (w:World) (q:Nat) (no:Int) (t:TypeId):ClkRaw (w.alloc (.cells #[.pointer (some ⟨q,0,none⟩),.int .i64 no] t)) w.heap.size q no:=
 ⟨by simp,by simp [go_sem],by simp [go_sem],by simp [go_sem]⟩
structure ClkIn (O:Nat->Prop) (w:World) (c:Nat) (no:Int) (ws:Nat->Int) (K:Kb):Prop where
 own:∀k,O k->k<w.heap.size
 mine:O c
 raw:∃(Ok:Nat->Prop) (q:Nat),ClkRaw w c q no∧KeepIn Ok w q no ws K∧(∀k,Ok k->O k)∧¬Ok c
theorem ClkIn.save {O O':Nat->Prop} {w w1:World} {c:Nat} {no:Int} {ws:Nat->Int} {K:Kb} (h:ClkIn O w c no ws K) (hb:Save O' w w1) (hn:∀k,O k->¬O' k):ClkIn O w1 c no ws K:=by
 obtain ⟨Ok,q,h1,h2,h3,h4⟩:=h.raw
 exact ⟨fun k hk=>Nat.lt_of_lt_of_le (h.own k hk) hb.size,h.mine,Ok,q,h1.save hb (hn c h.mine),h2.save hb (fun k hk=>hn k (h3 k hk)),h3,h4⟩
theorem ClkIn.next {O:Nat->Prop} {w w1:World} {c:Nat} {no:Int} {ws:Nat->Int} {K:Kb} (h:ClkIn O w c no ws K) (hb:Below w.heap.size w w1):ClkIn O w1 c no ws K:=
 h.save (O':=fun _=>False) (.of_below hb) (fun _ _ q=>q)
theorem clk_moved {O Ok Ok':Nat->Prop} {w w1:World} {c q:Nat} {no:Int} {ws:Nat->Int} {K':Kb} (hI:∀k,O k->k<w.heap.size) (hm:O c) (hR:ClkRaw w c q no) (hsub:∀k,Ok k->O k) (hq:¬Ok c)
 (h3:KeepIn Ok' w1 q no ws K') (h4:Save Ok w w1) (h5:Moved Ok Ok' w):ClkIn (fun k=>O k∨Ok' k) w1 c no ws K'∧Save O w w1∧Moved O (fun k=>O k∨Ok' k) w:=by
 have hout:∀k,k<w.heap.size->¬Ok k->¬Ok' k:=fun k hk hn hk'=>(h5 k hk').elim hn (fun h=>by omega)
 refine ⟨⟨fun k hk=>?_,.inl hm,Ok',q,hR.save h4 hq,h3,fun k hk=>.inr hk,hout c hR.lt hq⟩,h4.mono (fun k _ hk=>hsub k hk),fun k hk=>?_⟩
 ·rcases hk with hk | hk
  ·exact Nat.lt_of_lt_of_le (hI k hk) h4.size
  ·exact h3.own k hk
 ·rcases hk with hk | hk
  ·exact .inl hk
  ·exact (h5 k hk).imp (hsub k) id
theorem clk_step {O Ok Ok':Nat->Prop} {w W w1:World} {c q:Nat} {no:Int} {ws:Nat->Int} {K K':Kb} (h:ClkIn O w c no ws K) (hW:Below w.heap.size w W) (hR:ClkRaw w c q no) (hsub:∀k,Ok k->O k) (hq:¬Ok c)
 (h3:KeepIn Ok' w1 q no ws K') (h4:Save Ok W w1) (h5:Moved Ok Ok' W):∃O',ClkIn O' w1 c no ws K'∧Save O w w1∧Moved O O' w:=by
 obtain ⟨k1,k2,k3⟩:=clk_moved (O:=O) (fun k hk=>Nat.lt_of_lt_of_le (h.own k hk) hW.size) h.mine (hR.save (O:=fun _=>False) (.of_below hW) (fun q=>q)) hsub hq h3 h4 h5
 exact ⟨_,k1,(Save.of_below hW).trans k2 (fun j _ hj=>hj),fun k hk=>(k3 k hk).imp id (fun q=>Nat.le_trans hW.size q)⟩
def NewCIs (no:Int) (ws:Nat->Int) (w w':World) (e:Ending):Prop:=
 if newOk no ws=true then ∃c O,e=.returned (.pointer (some ⟨c,0,none⟩))∧ClkIn O w' c no ws ⟨book0 no ws,[]⟩∧∀k,O k->w.heap.size<=k else e=.returned (.pointer none)
theorem newCIs_nil {no:Int} {ws:Nat->Int} {w w':World} {e:Ending} (h:newOk no ws=false) (he:e=.returned (.pointer none)):NewCIs no ws w w' e:=by
 unfold NewCIs;rw [if_neg (by rw [h];simp)];exact he
theorem cnew_any (no:Int) (ws:Nat->Int) (w:World):
 Calls Tryz.prog 22 #[.int .i64 no,.agg #[.int .i64 (ws 0),.int .i64 (ws 1),.int .i64 (ws 2),.int .i64 (ws 3),.int .i64 (ws 4),.int .i64 (ws 5)]] w fun e w'=>NewCIs no ws w w' e∧Below w.heap.size w w':=by
 go_enter Tryz.func22,Tryz.ntmps22
 go_wp2_with fail
 refine (knew_any no ws _).mono ?_
 rintro e w1 ⟨hN,hb1⟩
 have hw1:Below w.heap.size w w1:=after (by go_grown) hb1 (by simp)
 unfold NewKIs at hN
 by_cases hok:newOk no ws=true
 ·rw [if_pos hok] at hN
  obtain ⟨q,O,rfl,hI,hO⟩:=hN
  have HOk:Hid _:=hok
  have HI:Hid (KeepIn O w1 q no ws ⟨book0 no ws,[]⟩):=hI
  have HO:Hid (∀k,O k->w.heap.size<=k):=fun k hk=>Nat.le_trans (by simp) (hO k hk)
  clear hok hI hO hb1
  go_wp2_with fail
  have hR:=craw_new w1 q no 129
  have hn:Below w1.heap.size w1 (w1.alloc (.cells #[.pointer (some ⟨q,0,none⟩),.int .i64 no] 129)):=(Below.refl _ _).alloc (Nat.le_refl _) _
  have hI2:=HI.out.next hn
  have hw2:=after hw1 hn hw1.size
  go_ret
  refine ⟨?_,hw2⟩
  unfold NewCIs
  rw [if_pos HOk.out]
  have nq:¬O w1.heap.size:=fun hk=>by have:=HI.out.own _ hk;omega
  refine ⟨w1.heap.size,fun k=>O k∨k=w1.heap.size,rfl,⟨fun k hk=>?_,.inr rfl,O,q,hR,hI2,fun k hk=>.inl hk,nq⟩,fun k hk=>?_⟩
  ·rcases hk with hk | rfl
   ·exact hI2.own k hk
   ·exact hR.lt
  ·rcases hk with hk | rfl
   ·exact HO.out k hk
   ·exact hw1.size
 ·rw [if_neg hok] at hN
  subst hN
  have HOk:Hid (newOk no ws=false):=by show _=_;simpa using hok
  clear hok
  go_wp2_with fail
  go_ret
  exact ⟨newCIs_nil HOk.out rfl,hw1⟩
def ClkTo (O:Nat->Prop) (w w':World) (c:Nat) (no:Int) (ws:Nat->Int) (K':Kb):Prop:=∃O',ClkIn O' w' c no ws K'∧Save O w w'∧Moved O O' w
theorem ClkTo.stay {O:Nat->Prop} {w w':World} {c:Nat} {no:Int} {ws:Nat->Int} {K:Kb} (h:ClkIn O w c no ws K) (hb:Below w.heap.size w w'):ClkTo O w w' c no ws K:=⟨O,h.next hb,.of_below hb,.refl _ _⟩
theorem cdo_any {O:Nat->Prop} {w:World} {c:Nat} {no:Int} {ws:Nat->Int} {K:Kb} (h:ClkIn O w c no ws K) (r:Stp) (hG:Good K.A) (hl:K.A.hs.length<2 ^ 40) (hr:K.rs.length<2 ^ 40):∃q,ClkRaw w c q no∧∀W:World,Below w.heap.size w W->Calls Tryz.prog 178 #[.pointer (some ⟨q,0,none⟩),.agg #[.int .i64 r.what,.int .i64 r.deal,.int .i64 r.c,.int .i64 r.d,.bool r.done]] W fun e w'=>e=.returned (.int .i64 (doR K r).1)∧ClkTo O W w' c no ws (doR K r).2∧ClkRaw w' c q no:=by
 obtain ⟨Ok,q,hR,hK,hsub,hq⟩:=h.raw
 refine ⟨q,hR,fun W hW=>?_⟩
 refine (kdo_any Ok no ws K q r W (hK.next hW) hG hl hr).mono ?_
 rintro e w' ⟨he,O',k1,k2,k3⟩
 have hR2:=hR.save (O:=fun _=>False) (.of_below hW) (fun q=>q)
 exact ⟨he,clk_step (h.next hW) (Below.refl _ _) hR2 hsub hq k1 k2 k3,hR2.save k2 hq⟩
theorem ccrash_any {O:Nat->Prop} {w:World} {c:Nat} {no:Int} {ws:Nat->Int} {K:Kb} (h:ClkIn O w c no ws K) (hG:GoodK (book0 no ws) K) (hok:newOk no ws=true) (hr:K.rs.length<1000000):∃q,ClkRaw w c q no∧∀W:World,Below w.heap.size w W->Calls Tryz.prog 162 #[.pointer (some ⟨q,0,none⟩)] W fun e w'=>e=.returned (.tuple #[])∧ClkTo O W w' c no ws K:=by
 obtain ⟨Ok,q,hR,hK,hsub,hq⟩:=h.raw
 refine ⟨q,hR,fun W hW=>?_⟩
 refine (kcrash_any Ok no ws K q W (hK.next hW) hG hok hr).mono ?_
 rintro e w' ⟨he,O',k1,k2,k3⟩
 exact ⟨he,clk_step (h.next hW) (Below.refl _ _) (hR.save (O:=fun _=>False) (.of_below hW) (fun q=>q)) hsub hq k1 k2 k3⟩
structure MlBox (w:World) (b:Nat) (m:Ml):Prop where
 lt:b<w.heap.size
 c0:w.cell? ⟨b,0,none⟩=some (.int .i64 m.kind)
 c1:w.cell? ⟨b,1,none⟩=some (.int .i64 m.deal)
 c2:w.cell? ⟨b,2,none⟩=some (.int .i64 m.shop)
 c3:w.cell? ⟨b,3,none⟩=some (.int .i64 m.c)
 c4:w.cell? ⟨b,4,none⟩=some (.int .i64 m.d)
 c5:w.cell? ⟨b,5,none⟩=some (.bool m.yes)
 loose:∀k,w.frozen? ⟨b,k,none⟩=false
theorem MlBox.save {O:Nat->Prop} {w w1:World} {b:Nat} {m:Ml} (h:MlBox w b m) (hb:Save O w w1) (hn:¬O b):MlBox w1 b m:=by
 have q:∀o,w1.cell? ⟨b,o,none⟩=w.cell? ⟨b,o,none⟩:=fun o=>hb.cell (p:=⟨b,o,none⟩) h.lt hn
 exact ⟨Nat.lt_of_lt_of_le h.lt hb.size,(q _).trans h.c0,(q _).trans h.c1,(q _).trans h.c2,(q _).trans h.c3,(q _).trans h.c4,(q _).trans h.c5,fun k=>(hb.frozen (p:=⟨b,k,none⟩) h.lt hn).trans (h.loose k)⟩
theorem MlBox.next {w w1:World} {b:Nat} {m:Ml} (h:MlBox w b m) (hb:Below w.heap.size w w1):MlBox w1 b m:=h.save (O:=fun _=>False) (.of_below hb) (fun q=>q)
theorem MlBox.new (w:World) (m:Ml) (t:TypeId):MlBox (w.alloc (.cells #[.int .i64 m.kind,.int .i64 m.deal,.int .i64 m.shop,.int .i64 m.c,.int .i64 m.d,.bool m.yes] t)) w.heap.size m:=
 ⟨by simp,by simp [go_sem],by simp [go_sem],by simp [go_sem],by simp [go_sem],by simp [go_sem],by simp [go_sem],by simp [go_sem]⟩
def ClkBy (O:Nat->Prop) (w w':World) (c:Nat) (no:Int) (ws:Nat->Int) (K':Kb) (b:Nat):Prop:=∃O',ClkIn O' w' c no ws K'∧Save O w w'∧Moved O O' w∧¬O' b∧¬O' (b+1)
theorem ClkBy.to {O:Nat->Prop} {w w':World} {c b:Nat} {no:Int} {ws:Nat->Int} {K':Kb} (h:ClkBy O w w' c no ws K' b):ClkTo O w w' c no ws K':=by
 obtain ⟨O',h1,h2,h3,_⟩:=h
 exact ⟨O',h1,h2,h3⟩
theorem ClkBy.set {O:Nat->Prop} {w w1 w2:World} {c b:Nat} {no:Int} {ws:Nat->Int} {K:Kb} (h:ClkBy O w w1 c no ws K b) (hb:w.heap.size<=b) (hs:Save (fun k=>k=b+1) w1 w2):ClkBy O w w2 c no ws K b:=by
 obtain ⟨O',h1,h2,h3,h4,h5⟩:=h
 exact ⟨O',h1.save hs (fun k hk e=>h5 (e ▸ hk)),h2.trans hs (fun j hj e=>by omega),h3,h4,h5⟩
theorem ClkBy.set0 {O:Nat->Prop} {w w1 w2:World} {c b:Nat} {no:Int} {ws:Nat->Int} {K:Kb} (h:ClkBy O w w1 c no ws K b) (hb:w.heap.size<=b) (hs:Save (fun k=>k=b) w1 w2):ClkBy O w w2 c no ws K b:=by
 obtain ⟨O',h1,h2,h3,h4,h5⟩:=h
 exact ⟨O',h1.save hs (fun k hk e=>h4 (e ▸ hk)),h2.trans hs (fun j hj e=>by omega),h3,h4,h5⟩
theorem clk_by {O:Nat->Prop} {w W w':World} {c b:Nat} {no:Int} {ws:Nat->Int} {K:Kb} (hO:∀k,O k->k<w.heap.size) (hW:Below w.heap.size w W) (hb:w.heap.size<=b) (hb1:b+1<W.heap.size) (h:ClkTo O W w' c no ws K):ClkBy O w w' c no ws K b:=by
 obtain ⟨O',h1,h2,h3⟩:=h
 have no:∀k,w.heap.size<=k->k<W.heap.size->¬O' k:=fun k h1 h2 hk=>(h3 k hk).elim (fun q=>by have:=hO k q;omega) (fun q=>by omega)
 exact ⟨O',h1,(Save.of_below hW).trans h2 (fun _ _ hj=>hj),fun k hk=>(h3 k hk).imp id (fun q=>Nat.le_trans hW.size q),no _ hb (by omega),no _ (by omega) hb1⟩
theorem save_ml (w:World) (b:Nat) (v0 v1 v2 v3 v4 v5:Value):Save (fun k=>k=b) w ((((((w.setCell ⟨b,0,none⟩ v0).setCell ⟨b,1,none⟩ v1).setCell ⟨b,2,none⟩ v2).setCell ⟨b,3,none⟩ v3).setCell ⟨b,4,none⟩ v4).setCell ⟨b,5,none⟩ v5):=
 ((((((Save.refl (fun k=>k=b) w).setCell (p:=⟨b,0,none⟩) (fun _=>rfl) v0).setCell (p:=⟨b,1,none⟩) (fun _=>rfl) v1).setCell (p:=⟨b,2,none⟩) (fun _=>rfl) v2).setCell (p:=⟨b,3,none⟩) (fun _=>rfl) v3).setCell (p:=⟨b,4,none⟩) (fun _=>rfl) v4).setCell (p:=⟨b,5,none⟩) (fun _=>rfl) v5
theorem clk_two {O:Nat->Prop} {w W w':World} {c:Nat} {no:Int} {ws:Nat->Int} {K:Kb} {m m0:Ml} (hO:∀k,O k->k<w.heap.size) (hW:Below w.heap.size w W) (hX:MlBox W w.heap.size m) (hY:MlBox W (w.heap.size+1) m0) (h:ClkTo O W w' c no ws K):MlBox w' w.heap.size m∧MlBox w' (w.heap.size+1) m0∧ClkBy O w w' c no ws K w.heap.size:=by
 have n0:¬O w.heap.size:=fun hh=>by have:=hO _ hh;omega
 have n1:¬O (w.heap.size+1):=fun hh=>by have:=hO _ hh;omega
 have hB:=clk_by (b:=w.heap.size) hO hW (Nat.le_refl _) hY.lt h
 obtain ⟨_,_,hS,_⟩:=h
 exact ⟨hX.save hS n0,hY.save hS n1,hB⟩
theorem chold_any (O:Nat->Prop) (no:Int) (ws:Nat->Int) (K:Kb) (c:Nat) (m:Ml) (w:World) (h:ClkIn O w c no ws K) (hG:Good K.A) (hl:K.A.hs.length<2 ^ 40) (hr:K.rs.length<2 ^ 40):
 Calls Tryz.prog 176 #[.pointer (some ⟨c,0,none⟩),.agg #[.int .i64 m.kind,.int .i64 m.deal,.int .i64 m.shop,.int .i64 m.c,.int .i64 m.d,.bool m.yes]] w fun e w'=>e=.returned (.agg #[.int .i64 2,.int .i64 m.deal,.int .i64 m.shop,.int .i64 m.c,.int .i64 m.d,.bool ((doR K (askS m)).1 == 0)])∧ClkTo O w w' c no ws (doR K (askS m)).2:=by
 obtain ⟨q,hR,hC⟩:=cdo_any h (askS m) hG hl hr
 have c0:=hR.c0
 have hcl:=hR.lt
 have HC:Hid (∀W:World,Below w.heap.size w W->Calls Tryz.prog 178 #[.pointer (some ⟨q,0,none⟩),.agg #[.int .i64 1,.int .i64 m.deal,.int .i64 m.c,.int .i64 m.d,.bool false]] W fun e w'=>e=.returned (.int .i64 (doR K (askS m)).1)∧ClkTo O W w' c no ws (doR K (askS m)).2∧ClkRaw w' c q no):=hC
 have HN:Hid (∀k,O k->k<w.heap.size):=h.own
 clear h hG hl hr hR hC
 generalize doR K (askS m)=r at *
 go_enter Tryz.func176,Tryz.ntmps176
 go_upto_region 1 with fail
 have hX:=(MlBox.new w m 142).next ((Below.refl _ _).alloc (Nat.le_refl _) (.cells #[.int .i64 0,.int .i64 0,.int .i64 0,.int .i64 0,.int .i64 0,.bool false] 142))
 have hY:=MlBox.new (w.alloc (.cells #[.int .i64 m.kind,.int .i64 m.deal,.int .i64 m.shop,.int .i64 m.c,.int .i64 m.d,.bool m.yes] 142)) noMl 142
 have hz:(w.alloc (.cells #[.int .i64 m.kind,.int .i64 m.deal,.int .i64 m.shop,.int .i64 m.c,.int .i64 m.d,.bool m.yes] 142)).heap.size=w.heap.size+1:=by simp
 rw [hz] at hY
 change MlBox ((w.alloc (.cells #[.int .i64 m.kind,.int .i64 m.deal,.int .i64 m.shop,.int .i64 m.c,.int .i64 m.d,.bool m.yes] 142)).alloc (.cells #[.int .i64 0,.int .i64 0,.int .i64 0,.int .i64 0,.int .i64 0,.bool false] 142)) _ _ at hY
 have hb:Below w.heap.size w ((w.alloc (.cells #[.int .i64 m.kind,.int .i64 m.deal,.int .i64 m.shop,.int .i64 m.c,.int .i64 m.d,.bool m.yes] 142)).alloc (.cells #[.int .i64 0,.int .i64 0,.int .i64 0,.int .i64 0,.int .i64 0,.bool false] 142)):=by go_grown
 generalize ((w.alloc (.cells #[.int .i64 m.kind,.int .i64 m.deal,.int .i64 m.shop,.int .i64 m.c,.int .i64 m.d,.bool m.yes] 142)).alloc (.cells #[.int .i64 0,.int .i64 0,.int .i64 0,.int .i64 0,.int .i64 0,.bool false] 142))=W at hX hY hb ⊢
 clear hz
 have HX:Hid (MlBox W w.heap.size m):=hX
 have HY:Hid (MlBox W (w.heap.size+1) noMl):=hY
 have HW:Hid (Below w.heap.size w W):=hb
 have HK:Hid (∀w',w'.cell? ⟨c,0,none⟩=some (.pointer (some ⟨q,0,none⟩))->MlBox w' w.heap.size m->w'.cell? ⟨c,0,none⟩=some (.pointer (some ⟨q,0,none⟩))∧w'.cell? ⟨w.heap.size,1,none⟩=some (.int .i64 m.deal)∧w'.cell? ⟨w.heap.size,3,none⟩=some (.int .i64 m.c)∧w'.cell? ⟨w.heap.size,4,none⟩=some (.int .i64 m.d)):=fun w' h0 h=>⟨h0,h.c1,h.c3,h.c4⟩
 have HC0:Hid (∀w',Below W.heap.size W w'->w'.cell? ⟨c,0,none⟩=some (.pointer (some ⟨q,0,none⟩))):=fun w' hb'=>((after hb hb' hb.size).cell (p:=⟨c,0,none⟩) hcl).trans c0
 have HA:Hid (∀W':World,Below W.heap.size W W'->Calls Tryz.prog 178 #[.pointer (some ⟨q,0,none⟩),.agg #[.int .i64 1,.int .i64 m.deal,.int .i64 m.c,.int .i64 m.d,.bool false]] W' fun e w'=>e=.returned (.int .i64 r.1)∧w'.cell? ⟨c,0,none⟩=some (.pointer (some ⟨q,0,none⟩))∧MlBox w' w.heap.size m∧MlBox w' (w.heap.size+1) noMl∧ClkBy O w w' c no ws r.2 w.heap.size):=by
  intro W' hW'
  have hw:=after HW.out hW' HW.out.size
  refine (HC.out W' hw).mono ?_
  rintro e w' ⟨he,hT,hR'⟩
  have hl:=HY.out.lt
  have hs:=hW'.size
  have n0:¬O w.heap.size:=fun hh=>by have:=HN.out _ hh;omega
  have n1:¬O (w.heap.size+1):=fun hh=>by have:=HN.out _ hh;omega
  have hB:=clk_by (b:=w.heap.size) HN.out hw (Nat.le_refl _) (by omega) hT
  obtain ⟨_,_,hS,_⟩:=hT
  exact ⟨he,hR'.c0,(HX.out.next hW').save hS n0,(HY.out.next hW').save hS n1,hB⟩
 clear HC
 go_cut [5] (fun s5 wx=>s5=.int .i64 r.1∧MlBox wx w.heap.size m∧MlBox wx (w.heap.size+1) noMl∧ClkBy O w wx c no ws r.2 w.heap.size)
 case first=>
  go_region_held3 (fun w'=>w'.cell? ⟨c,0,none⟩=some (.pointer (some ⟨q,0,none⟩))∧w'.cell? ⟨w.heap.size,1,none⟩=some (.int .i64 m.deal)∧w'.cell? ⟨w.heap.size,3,none⟩=some (.int .i64 m.c)∧w'.cell? ⟨w.heap.size,4,none⟩=some (.int .i64 m.d))
   (first | exact HK9 | exact HK.out _ (HC0.out _ (by go_grown)) (HX.out.next (by go_grown)))
   (first | (go_at_call 178;refine Calls.mono (HA.out _ (by go_grown)) ?_;rintro e w9 ⟨rfl,h91,h92,h93,h94⟩;have HK9:=HK.out _ h91 h92;have HX9:Hid (MlBox w9 w.heap.size m):=h92;have HY9:Hid (MlBox w9 (w.heap.size+1) noMl):=h93;have HE9:Hid (ClkBy O w w9 c no ws r.2 w.heap.size):=h94;clear h91 h92 h93 h94))
  all_goals
   go_wp2_with fail
   go_meet
   case rel=>exact ⟨rfl,HX9.out,HY9.out,HE9.out⟩
 case rest=>
  obtain ⟨rfl,hX1,hY1,hE1⟩:=hcut
  clear HA HX HY HW HK HC0 hX hY hb
  obtain ⟨xl,x0,x1,x2,x3,x4,x5,xf⟩:=hX1
  obtain ⟨yl,y0,y1,y2,y3,y4,y5,yf⟩:=hY1
  go_wp2_with fail
  exact bodyPost_ret (v:=.agg #[.int .i64 2,.int .i64 m.deal,.int .i64 m.shop,.int .i64 m.c,.int .i64 m.d,.bool (r.1 == 0)]) (by simp [results,Tryz.results176,go_sem,y0,y1,y2,y3,y4,y5]) rfl ⟨rfl,(hE1.set (Nat.le_refl _) (save_ml _ _ _ _ _ _ _ _)).to⟩
def endV (m:Ml) (z:Int):Value:=if z=0 then .tuple #[.agg #[.int .i64 4,.int .i64 m.deal,.int .i64 m.shop,.int .i64 m.c,.int .i64 m.d,.bool m.yes],.bool true] else .tuple #[.agg #[.int .i64 0,.int .i64 0,.int .i64 0,.int .i64 0,.int .i64 0,.bool false],.bool false]
theorem cend_any (O:Nat->Prop) (no:Int) (ws:Nat->Int) (K:Kb) (c:Nat) (m:Ml) (w:World) (h:ClkIn O w c no ws K) (hG:Good K.A) (hl:K.A.hs.length<2 ^ 40) (hr:K.rs.length<2 ^ 40):
 Calls Tryz.prog 177 #[.pointer (some ⟨c,0,none⟩),.agg #[.int .i64 m.kind,.int .i64 m.deal,.int .i64 m.shop,.int .i64 m.c,.int .i64 m.d,.bool m.yes]] w fun e w'=>e=.returned (endV m (doR K (endS m)).1)∧ClkTo O w w' c no ws (doR K (endS m)).2:=by
 obtain ⟨q,hR,hC⟩:=cdo_any h (endS m) hG hl hr
 have c0:=hR.c0
 have hcl:=hR.lt
 have HC:Hid (∀W:World,Below w.heap.size w W->Calls Tryz.prog 178 #[.pointer (some ⟨q,0,none⟩),.agg #[.int .i64 2,.int .i64 m.deal,.int .i64 0,.int .i64 0,.bool m.yes]] W fun e w'=>e=.returned (.int .i64 (doR K (endS m)).1)∧ClkTo O W w' c no ws (doR K (endS m)).2∧ClkRaw w' c q no):=hC
 have HN:Hid (∀k,O k->k<w.heap.size):=h.own
 clear h hG hl hr hR hC
 generalize doR K (endS m)=r at *
 go_enter Tryz.func177,Tryz.ntmps177
 go_upto_region 1 with fail
 have hX:=(MlBox.new w m 142).next ((Below.refl _ _).alloc (Nat.le_refl _) (.cells #[.int .i64 0,.int .i64 0,.int .i64 0,.int .i64 0,.int .i64 0,.bool false] 142))
 have hY:=MlBox.new (w.alloc (.cells #[.int .i64 m.kind,.int .i64 m.deal,.int .i64 m.shop,.int .i64 m.c,.int .i64 m.d,.bool m.yes] 142)) noMl 142
 have hz:(w.alloc (.cells #[.int .i64 m.kind,.int .i64 m.deal,.int .i64 m.shop,.int .i64 m.c,.int .i64 m.d,.bool m.yes] 142)).heap.size=w.heap.size+1:=by simp
 rw [hz] at hY
 change MlBox ((w.alloc (.cells #[.int .i64 m.kind,.int .i64 m.deal,.int .i64 m.shop,.int .i64 m.c,.int .i64 m.d,.bool m.yes] 142)).alloc (.cells #[.int .i64 0,.int .i64 0,.int .i64 0,.int .i64 0,.int .i64 0,.bool false] 142)) _ _ at hY
 have hb:Below w.heap.size w ((w.alloc (.cells #[.int .i64 m.kind,.int .i64 m.deal,.int .i64 m.shop,.int .i64 m.c,.int .i64 m.d,.bool m.yes] 142)).alloc (.cells #[.int .i64 0,.int .i64 0,.int .i64 0,.int .i64 0,.int .i64 0,.bool false] 142)):=by go_grown
 generalize ((w.alloc (.cells #[.int .i64 m.kind,.int .i64 m.deal,.int .i64 m.shop,.int .i64 m.c,.int .i64 m.d,.bool m.yes] 142)).alloc (.cells #[.int .i64 0,.int .i64 0,.int .i64 0,.int .i64 0,.int .i64 0,.bool false] 142))=W at hX hY hb ⊢
 clear hz
 have HX:Hid (MlBox W w.heap.size m):=hX
 have HY:Hid (MlBox W (w.heap.size+1) noMl):=hY
 have HW:Hid (Below w.heap.size w W):=hb
 have HK:Hid (∀w',w'.cell? ⟨c,0,none⟩=some (.pointer (some ⟨q,0,none⟩))->MlBox w' w.heap.size m->w'.cell? ⟨c,0,none⟩=some (.pointer (some ⟨q,0,none⟩))∧w'.cell? ⟨w.heap.size,1,none⟩=some (.int .i64 m.deal)∧w'.cell? ⟨w.heap.size,5,none⟩=some (.bool m.yes)):=fun w' h0 h=>⟨h0,h.c1,h.c5⟩
 have HC0:Hid (∀w',Below W.heap.size W w'->w'.cell? ⟨c,0,none⟩=some (.pointer (some ⟨q,0,none⟩))):=fun w' hb'=>((after hb hb' hb.size).cell (p:=⟨c,0,none⟩) hcl).trans c0
 have HA:Hid (∀W':World,Below W.heap.size W W'->Calls Tryz.prog 178 #[.pointer (some ⟨q,0,none⟩),.agg #[.int .i64 2,.int .i64 m.deal,.int .i64 0,.int .i64 0,.bool m.yes]] W' fun e w'=>e=.returned (.int .i64 r.1)∧w'.cell? ⟨c,0,none⟩=some (.pointer (some ⟨q,0,none⟩))∧MlBox w' w.heap.size m∧MlBox w' (w.heap.size+1) noMl∧ClkBy O w w' c no ws r.2 w.heap.size):=by
  intro W' hW'
  have hw:=after HW.out hW' HW.out.size
  refine (HC.out W' hw).mono ?_
  rintro e w' ⟨he,hT,hR'⟩
  have hl:=HY.out.lt
  have hs:=hW'.size
  have n0:¬O w.heap.size:=fun hh=>by have:=HN.out _ hh;omega
  have n1:¬O (w.heap.size+1):=fun hh=>by have:=HN.out _ hh;omega
  have hB:=clk_by (b:=w.heap.size) HN.out hw (Nat.le_refl _) (by omega) hT
  obtain ⟨_,_,hS,_⟩:=hT
  exact ⟨he,hR'.c0,(HX.out.next hW').save hS n0,(HY.out.next hW').save hS n1,hB⟩
 clear HC
 have HV1:Hid (r.1=0->endV m r.1=.tuple #[.agg #[.int .i64 4,.int .i64 m.deal,.int .i64 m.shop,.int .i64 m.c,.int .i64 m.d,.bool m.yes],.bool true]):=fun e=>by unfold endV;rw [if_pos e]
 have HV2:Hid (r.1 ≠ 0->endV m r.1=.tuple #[.agg #[.int .i64 0,.int .i64 0,.int .i64 0,.int .i64 0,.int .i64 0,.bool false],.bool false]):=fun e=>by unfold endV;rw [if_neg e]
 go_cut [6] (fun s6 wx=>s6=.int .i64 r.1∧MlBox wx w.heap.size m∧MlBox wx (w.heap.size+1) noMl∧ClkBy O w wx c no ws r.2 w.heap.size)
 case first=>
  go_region_held3 (fun w'=>w'.cell? ⟨c,0,none⟩=some (.pointer (some ⟨q,0,none⟩))∧w'.cell? ⟨w.heap.size,1,none⟩=some (.int .i64 m.deal)∧w'.cell? ⟨w.heap.size,5,none⟩=some (.bool m.yes))
   (first | exact HK9 | exact HK.out _ (HC0.out _ (by go_grown)) (HX.out.next (by go_grown)))
   (first | (go_at_call 178;refine Calls.mono (HA.out _ (by go_grown)) ?_;rintro e w9 ⟨rfl,h91,h92,h93,h94⟩;have HK9:=HK.out _ h91 h92;have HX9:Hid (MlBox w9 w.heap.size m):=h92;have HY9:Hid (MlBox w9 (w.heap.size+1) noMl):=h93;have HE9:Hid (ClkBy O w w9 c no ws r.2 w.heap.size):=h94;clear h91 h92 h93 h94))
  all_goals
   go_wp2_with fail
   go_meet
   case rel=>exact ⟨rfl,HX9.out,HY9.out,HE9.out⟩
 case rest=>
  obtain ⟨rfl,hX1,hY1,hE1⟩:=hcut
  clear HA HX HY HW HK HC0 hX hY hb
  obtain ⟨xl,x0,x1,x2,x3,x4,x5,xf⟩:=hX1
  obtain ⟨yl,y0,y1,y2,y3,y4,y5,yf⟩:=hY1
  by_cases hz:r.1=0
  ·have hz':(r.1 != 0)=false:=by simp [hz]
   have HV:Hid _:=HV1.out hz
   clear hz HV1 HV2
   go_wp2_with fail
   exact bodyPost_ret (v:=.tuple #[.agg #[.int .i64 4,.int .i64 m.deal,.int .i64 m.shop,.int .i64 m.c,.int .i64 m.d,.bool m.yes],.bool true]) (by simp [results,Tryz.results177,go_sem,y0,y1,y2,y3,y4,y5]) rfl ⟨by rw [HV.out],((hE1.set0 (Nat.le_refl _) (Save.setCell (O:=fun k=>k=w.heap.size) (Save.refl _ _) (p:=⟨w.heap.size,0,none⟩) (fun _=>rfl) _)).set (Nat.le_refl _) (save_ml _ _ _ _ _ _ _ _)).to⟩
  ·have hz':(r.1 != 0)=true:=by simpa using hz
   have HV:Hid _:=HV2.out hz
   clear hz HV1 HV2
   go_wp2_with fail
   exact bodyPost_ret (v:=.tuple #[.agg #[.int .i64 0,.int .i64 0,.int .i64 0,.int .i64 0,.int .i64 0,.bool false],.bool false]) (by simp [results,Tryz.results177,go_sem,y0,y1,y2,y3,y4,y5]) rfl ⟨by rw [HV.out],(hE1.set (Nat.le_refl _) (save_ml _ _ _ _ _ _ _ _)).to⟩
def ansV (x:Ml × Bool × Kb):Value:=.tuple #[mlV x.1,.bool x.2.1]
theorem ansV_none (K:Kb):ansV (noMl,false,K)=.tuple #[.agg #[.int .i64 0,.int .i64 0,.int .i64 0,.int .i64 0,.int .i64 0,.bool false],.bool false]:=rfl
theorem ansV_ask {no:Int} {K:Kb} {m:Ml} (h:m.shop=no) (h1:m.kind=1):ansV (ansR no K m)=.tuple #[.agg #[.int .i64 2,.int .i64 m.deal,.int .i64 m.shop,.int .i64 m.c,.int .i64 m.d,.bool ((doR K (askS m)).1 == 0)],.bool true]∧(ansR no K m).2.2=(doR K (askS m)).2:=by
 rw [ans_ask h h1];exact ⟨rfl,rfl⟩
theorem ansV_end {no:Int} {K:Kb} {m:Ml} (h:m.shop=no) (h3:m.kind=3):ansV (ansR no K m)=endV m (doR K (endS m)).1∧(ansR no K m).2.2=(doR K (endS m)).2:=by
 by_cases hz:(doR K (endS m)).1=0
 ·rw [ans_end h h3 hz]
  refine ⟨?_,rfl⟩
  unfold endV
  rw [if_pos hz];rfl
 ·rw [ans_noend h h3 hz]
  refine ⟨?_,(do_code hz).symm⟩
  unfold endV
  rw [if_neg hz];rfl
theorem cans_any (O:Nat->Prop) (no:Int) (ws:Nat->Int) (K:Kb) (c:Nat) (m:Ml) (w:World) (h:ClkIn O w c no ws K) (hG:Good K.A) (hl:K.A.hs.length<2 ^ 40) (hr:K.rs.length<2 ^ 40):
 Calls Tryz.prog 171 #[.pointer (some ⟨c,0,none⟩),.agg #[.int .i64 m.kind,.int .i64 m.deal,.int .i64 m.shop,.int .i64 m.c,.int .i64 m.d,.bool m.yes]] w fun e w'=>e=.returned (ansV (ansR no K m))∧ClkTo O w w' c no ws (ansR no K m).2.2:=by
 obtain ⟨Ok,q,hR,_⟩:=h.raw
 have c1:=hR.c1
 have hcl:=hR.lt
 have HI:Hid (ClkIn O w c no ws K):=h
 have HG:Hid (Good K.A∧K.A.hs.length<2 ^ 40∧K.rs.length<2 ^ 40):=⟨hG,hl,hr⟩
 clear h hG hl hr hR
 by_cases hs:m.shop=no
 ·have hs':(m.shop != no)=false:=by simp [hs]
  by_cases h1:m.kind=1
  ·have HE:Hid _:=ansV_ask (K:=K) hs h1
   have h1':(m.kind == 1)=true:=by simp [h1]
   clear hs h1
   go_enter Tryz.func171,Tryz.ntmps171
   go_upto_region 1 with fail
   have hX:=(MlBox.new w m 142).next ((Below.refl _ _).alloc (Nat.le_refl _) (.cells #[.int .i64 0,.int .i64 0,.int .i64 0,.int .i64 0,.int .i64 0,.bool false] 142))
   have hY:=MlBox.new (w.alloc (.cells #[.int .i64 m.kind,.int .i64 m.deal,.int .i64 m.shop,.int .i64 m.c,.int .i64 m.d,.bool m.yes] 142)) noMl 142
   have hz:(w.alloc (.cells #[.int .i64 m.kind,.int .i64 m.deal,.int .i64 m.shop,.int .i64 m.c,.int .i64 m.d,.bool m.yes] 142)).heap.size=w.heap.size+1:=by simp
   rw [hz] at hY
   change MlBox ((w.alloc (.cells #[.int .i64 m.kind,.int .i64 m.deal,.int .i64 m.shop,.int .i64 m.c,.int .i64 m.d,.bool m.yes] 142)).alloc (.cells #[.int .i64 0,.int .i64 0,.int .i64 0,.int .i64 0,.int .i64 0,.bool false] 142)) _ _ at hY
   have hb:Below w.heap.size w ((w.alloc (.cells #[.int .i64 m.kind,.int .i64 m.deal,.int .i64 m.shop,.int .i64 m.c,.int .i64 m.d,.bool m.yes] 142)).alloc (.cells #[.int .i64 0,.int .i64 0,.int .i64 0,.int .i64 0,.int .i64 0,.bool false] 142)):=by go_grown
   generalize ((w.alloc (.cells #[.int .i64 m.kind,.int .i64 m.deal,.int .i64 m.shop,.int .i64 m.c,.int .i64 m.d,.bool m.yes] 142)).alloc (.cells #[.int .i64 0,.int .i64 0,.int .i64 0,.int .i64 0,.int .i64 0,.bool false] 142))=W at hX hY hb ⊢
   clear hz
   have HX:Hid (MlBox W w.heap.size m):=hX
   have HY:Hid (MlBox W (w.heap.size+1) noMl):=hY
   have k1:W.cell? ⟨c,1,none⟩=some (.int .i64 no):=(hb.cell (p:=⟨c,1,none⟩) hcl).trans c1
   obtain ⟨xl,x0,x1,x2,x3,x4,x5,xf⟩:=hX
   obtain ⟨yl,y0,y1,y2,y3,y4,y5,yf⟩:=hY
   go_wp2_with fail
   go_quiet (fail)
   go_wp2_with fail
   have hd:=bdrewN (Below.refl W.heap.size W) nq
   refine Calls.mono (chold_any O no ws K c m _ (HI.out.next (bdrewN hb nq)) HG.out.1 HG.out.2.1 HG.out.2.2) ?_
   rintro e w9 ⟨rfl,hT⟩
   obtain ⟨hX1,hY1,hE1⟩:=clk_two HI.out.own (bdrewN hb nq) (HX.out.next hd) (HY.out.next hd) hT
   clear hT x0 x1 x2 x3 x4 x5 xf xl y0 y1 y2 y3 y4 y5 yf yl
   obtain ⟨yl,y0,y1,y2,y3,y4,y5,yf⟩:=hY1
   generalize (doR K (askS m))=r at *
   go_wp2_with fail
   exact bodyPost_ret (v:=.tuple #[.agg #[.int .i64 2,.int .i64 m.deal,.int .i64 m.shop,.int .i64 m.c,.int .i64 m.d,.bool (r.1 == 0)],.bool true]) (by simp [results,Tryz.results171,go_sem,y0,y1,y2,y3,y4,y5]) rfl ⟨by rw [HE.out.1],by rw [HE.out.2];exact (hE1.set (Nat.le_refl _) (save_ml _ _ _ _ _ _ _ _)).to⟩
  ·have h1':(m.kind == 1)=false:=by simpa using h1
   by_cases h3:m.kind=3
   ·have HE:Hid _:=ansV_end (K:=K) hs h3
    have h3':(m.kind == 3)=true:=by simp [h3]
    clear hs h1 h3
    go_enter Tryz.func171,Tryz.ntmps171
    go_upto_region 1 with fail
    have hX:=(MlBox.new w m 142).next ((Below.refl _ _).alloc (Nat.le_refl _) (.cells #[.int .i64 0,.int .i64 0,.int .i64 0,.int .i64 0,.int .i64 0,.bool false] 142))
    have hY:=MlBox.new (w.alloc (.cells #[.int .i64 m.kind,.int .i64 m.deal,.int .i64 m.shop,.int .i64 m.c,.int .i64 m.d,.bool m.yes] 142)) noMl 142
    have hz:(w.alloc (.cells #[.int .i64 m.kind,.int .i64 m.deal,.int .i64 m.shop,.int .i64 m.c,.int .i64 m.d,.bool m.yes] 142)).heap.size=w.heap.size+1:=by simp
    rw [hz] at hY
    change MlBox ((w.alloc (.cells #[.int .i64 m.kind,.int .i64 m.deal,.int .i64 m.shop,.int .i64 m.c,.int .i64 m.d,.bool m.yes] 142)).alloc (.cells #[.int .i64 0,.int .i64 0,.int .i64 0,.int .i64 0,.int .i64 0,.bool false] 142)) _ _ at hY
    have hb:Below w.heap.size w ((w.alloc (.cells #[.int .i64 m.kind,.int .i64 m.deal,.int .i64 m.shop,.int .i64 m.c,.int .i64 m.d,.bool m.yes] 142)).alloc (.cells #[.int .i64 0,.int .i64 0,.int .i64 0,.int .i64 0,.int .i64 0,.bool false] 142)):=by go_grown
    generalize ((w.alloc (.cells #[.int .i64 m.kind,.int .i64 m.deal,.int .i64 m.shop,.int .i64 m.c,.int .i64 m.d,.bool m.yes] 142)).alloc (.cells #[.int .i64 0,.int .i64 0,.int .i64 0,.int .i64 0,.int .i64 0,.bool false] 142))=W at hX hY hb ⊢
    clear hz
    have HX:Hid (MlBox W w.heap.size m):=hX
    have HY:Hid (MlBox W (w.heap.size+1) noMl):=hY
    have k1:W.cell? ⟨c,1,none⟩=some (.int .i64 no):=(hb.cell (p:=⟨c,1,none⟩) hcl).trans c1
    obtain ⟨xl,x0,x1,x2,x3,x4,x5,xf⟩:=hX
    obtain ⟨yl,y0,y1,y2,y3,y4,y5,yf⟩:=hY
    go_wp2_with fail
    go_quiet (fail)
    go_wp2_with fail
    have hd:=bdrewN (Below.refl W.heap.size W) nq
    refine Calls.mono (cend_any O no ws K c m _ (HI.out.next (bdrewN hb nq)) HG.out.1 HG.out.2.1 HG.out.2.2) ?_
    rintro e w9 ⟨rfl,hT⟩
    obtain ⟨hX1,hY1,hE1⟩:=clk_two HI.out.own (bdrewN hb nq) (HX.out.next hd) (HY.out.next hd) hT
    clear hT x0 x1 x2 x3 x4 x5 xf xl y0 y1 y2 y3 y4 y5 yf yl
    obtain ⟨yl,y0,y1,y2,y3,y4,y5,yf⟩:=hY1
    generalize (doR K (endS m))=r at *
    by_cases hz:r.1=0
    ·have HV:Hid (endV m r.1=.tuple #[.agg #[.int .i64 4,.int .i64 m.deal,.int .i64 m.shop,.int .i64 m.c,.int .i64 m.d,.bool m.yes],.bool true]):=by show _=_;unfold endV;rw [if_pos hz]
     rw [HV.out]
     clear hz
     go_wp2_with fail
     exact bodyPost_ret (v:=.tuple #[.agg #[.int .i64 4,.int .i64 m.deal,.int .i64 m.shop,.int .i64 m.c,.int .i64 m.d,.bool m.yes],.bool true]) (by simp [results,Tryz.results171,go_sem,y0,y1,y2,y3,y4,y5]) rfl ⟨by rw [HE.out.1,HV.out],by rw [HE.out.2];exact (hE1.set (Nat.le_refl _) (save_ml _ _ _ _ _ _ _ _)).to⟩
    ·have HV:Hid (endV m r.1=.tuple #[.agg #[.int .i64 0,.int .i64 0,.int .i64 0,.int .i64 0,.int .i64 0,.bool false],.bool false]):=by show _=_;unfold endV;rw [if_neg hz]
     rw [HV.out]
     clear hz
     go_wp2_with fail
     exact bodyPost_ret (v:=.tuple #[.agg #[.int .i64 0,.int .i64 0,.int .i64 0,.int .i64 0,.int .i64 0,.bool false],.bool false]) (by simp [results,Tryz.results171,go_sem,y0,y1,y2,y3,y4,y5]) rfl ⟨by rw [HE.out.1,HV.out],by rw [HE.out.2];exact (hE1.set (Nat.le_refl _) (save_ml _ _ _ _ _ _ _ _)).to⟩
   ·have h3':(m.kind == 3)=false:=by simpa using h3
    have HE:Hid _:=ans_kind (K:=K) hs h1 h3
    clear hs h1 h3
    go_enter Tryz.func171,Tryz.ntmps171
    go_upto_region 1 with fail
    have hX:=(MlBox.new w m 142).next ((Below.refl _ _).alloc (Nat.le_refl _) (.cells #[.int .i64 0,.int .i64 0,.int .i64 0,.int .i64 0,.int .i64 0,.bool false] 142))
    have hY:=MlBox.new (w.alloc (.cells #[.int .i64 m.kind,.int .i64 m.deal,.int .i64 m.shop,.int .i64 m.c,.int .i64 m.d,.bool m.yes] 142)) noMl 142
    have hz:(w.alloc (.cells #[.int .i64 m.kind,.int .i64 m.deal,.int .i64 m.shop,.int .i64 m.c,.int .i64 m.d,.bool m.yes] 142)).heap.size=w.heap.size+1:=by simp
    rw [hz] at hY
    change MlBox ((w.alloc (.cells #[.int .i64 m.kind,.int .i64 m.deal,.int .i64 m.shop,.int .i64 m.c,.int .i64 m.d,.bool m.yes] 142)).alloc (.cells #[.int .i64 0,.int .i64 0,.int .i64 0,.int .i64 0,.int .i64 0,.bool false] 142)) _ _ at hY
    have hb:Below w.heap.size w ((w.alloc (.cells #[.int .i64 m.kind,.int .i64 m.deal,.int .i64 m.shop,.int .i64 m.c,.int .i64 m.d,.bool m.yes] 142)).alloc (.cells #[.int .i64 0,.int .i64 0,.int .i64 0,.int .i64 0,.int .i64 0,.bool false] 142)):=by go_grown
    generalize ((w.alloc (.cells #[.int .i64 m.kind,.int .i64 m.deal,.int .i64 m.shop,.int .i64 m.c,.int .i64 m.d,.bool m.yes] 142)).alloc (.cells #[.int .i64 0,.int .i64 0,.int .i64 0,.int .i64 0,.int .i64 0,.bool false] 142))=W at hX hY hb ⊢
    clear hz
    have HX:Hid (MlBox W w.heap.size m):=hX
    have HY:Hid (MlBox W (w.heap.size+1) noMl):=hY
    have k1:W.cell? ⟨c,1,none⟩=some (.int .i64 no):=(hb.cell (p:=⟨c,1,none⟩) hcl).trans c1
    obtain ⟨xl,x0,x1,x2,x3,x4,x5,xf⟩:=hX
    obtain ⟨yl,y0,y1,y2,y3,y4,y5,yf⟩:=hY
    go_wp2_with fail
    go_quiet (fail)
    go_wp2_with fail
    refine bodyPost_ret (v:=.tuple #[.agg #[.int .i64 0,.int .i64 0,.int .i64 0,.int .i64 0,.int .i64 0,.bool false],.bool false]) (by simp [results,Tryz.results171,go_sem,y0,y1,y2,y3,y4,y5]) rfl ⟨by rw [HE.out,ansV_none],?_⟩
    rw [HE.out]
    exact ClkTo.stay HI.out (((((((bdrewN hb nq).setCell (p:=⟨w.heap.size+1,0,none⟩) (Nat.le_succ _) _).setCell (p:=⟨w.heap.size+1,1,none⟩) (Nat.le_succ _) _).setCell (p:=⟨w.heap.size+1,2,none⟩) (Nat.le_succ _) _).setCell (p:=⟨w.heap.size+1,3,none⟩) (Nat.le_succ _) _).setCell (p:=⟨w.heap.size+1,4,none⟩) (Nat.le_succ _) _).setCell (p:=⟨w.heap.size+1,5,none⟩) (Nat.le_succ _) _)
 ·have hs':(m.shop != no)=true:=by simpa using hs
  have HE:Hid _:=ans_shop (K:=K) hs
  clear hs
  go_enter Tryz.func171,Tryz.ntmps171
  go_upto_region 1 with fail
  have hX:=(MlBox.new w m 142).next ((Below.refl _ _).alloc (Nat.le_refl _) (.cells #[.int .i64 0,.int .i64 0,.int .i64 0,.int .i64 0,.int .i64 0,.bool false] 142))
  have hY:=MlBox.new (w.alloc (.cells #[.int .i64 m.kind,.int .i64 m.deal,.int .i64 m.shop,.int .i64 m.c,.int .i64 m.d,.bool m.yes] 142)) noMl 142
  have hz:(w.alloc (.cells #[.int .i64 m.kind,.int .i64 m.deal,.int .i64 m.shop,.int .i64 m.c,.int .i64 m.d,.bool m.yes] 142)).heap.size=w.heap.size+1:=by simp
  rw [hz] at hY
  change MlBox ((w.alloc (.cells #[.int .i64 m.kind,.int .i64 m.deal,.int .i64 m.shop,.int .i64 m.c,.int .i64 m.d,.bool m.yes] 142)).alloc (.cells #[.int .i64 0,.int .i64 0,.int .i64 0,.int .i64 0,.int .i64 0,.bool false] 142)) _ _ at hY
  have hb:Below w.heap.size w ((w.alloc (.cells #[.int .i64 m.kind,.int .i64 m.deal,.int .i64 m.shop,.int .i64 m.c,.int .i64 m.d,.bool m.yes] 142)).alloc (.cells #[.int .i64 0,.int .i64 0,.int .i64 0,.int .i64 0,.int .i64 0,.bool false] 142)):=by go_grown
  generalize ((w.alloc (.cells #[.int .i64 m.kind,.int .i64 m.deal,.int .i64 m.shop,.int .i64 m.c,.int .i64 m.d,.bool m.yes] 142)).alloc (.cells #[.int .i64 0,.int .i64 0,.int .i64 0,.int .i64 0,.int .i64 0,.bool false] 142))=W at hX hY hb ⊢
  clear hz
  have HX:Hid (MlBox W w.heap.size m):=hX
  have HY:Hid (MlBox W (w.heap.size+1) noMl):=hY
  have k1:W.cell? ⟨c,1,none⟩=some (.int .i64 no):=(hb.cell (p:=⟨c,1,none⟩) hcl).trans c1
  obtain ⟨xl,x0,x1,x2,x3,x4,x5,xf⟩:=hX
  obtain ⟨yl,y0,y1,y2,y3,y4,y5,yf⟩:=hY
  go_wp2_with fail
  go_quiet (fail)
  go_wp2_with fail
  refine bodyPost_ret (v:=.tuple #[.agg #[.int .i64 0,.int .i64 0,.int .i64 0,.int .i64 0,.int .i64 0,.bool false],.bool false]) (by simp [results,Tryz.results171,go_sem,y0,y1,y2,y3,y4,y5]) rfl ⟨by rw [HE.out,ansV_none],?_⟩
  rw [HE.out]
  exact ClkTo.stay HI.out (((((((bdrewN hb nq).setCell (p:=⟨w.heap.size+1,0,none⟩) (Nat.le_succ _) _).setCell (p:=⟨w.heap.size+1,1,none⟩) (Nat.le_succ _) _).setCell (p:=⟨w.heap.size+1,2,none⟩) (Nat.le_succ _) _).setCell (p:=⟨w.heap.size+1,3,none⟩) (Nat.le_succ _) _).setCell (p:=⟨w.heap.size+1,4,none⟩) (Nat.le_succ _) _).setCell (p:=⟨w.heap.size+1,5,none⟩) (Nat.le_succ _) _)
end Go.Proofs.YtbgnajcmhmpjlacGreatDoor
