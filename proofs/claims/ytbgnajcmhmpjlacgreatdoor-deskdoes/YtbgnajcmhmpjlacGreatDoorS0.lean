/- How a shop and what it holds lie in memory, and what a step of it leaves of all else. -/
import Derived.Lib.SliceRun
import Derived.Test.YtbgnajcmhmpjlacGreatDoorA0
import Derived.Test.YtbgnajcmhmpjlacGreatDoorA1
import Derived.Test.YtbgnajcmhmpjlacGreatDoorA2
set_option maxRecDepth 100000
set_option maxHeartbeats 100000000
namespace Go.Proofs.YtbgnajcmhmpjlacGreatDoor
open Go.RowKit
abbrev H3:=Int × Int × Int
def outOf (h:H3) (c:Int):Int:=if h.2.1=c then (if h.2.2<0 then -h.2.2 else 0) else 0
def innOf (h:H3) (c:Int):Int:=if h.2.1=c then (if h.2.2<0 then 0 else h.2.2) else 0
def gainOf (deal:Int) (done:Bool) (h:H3) (c:Int):Int:=if h.1=deal∧h.2.1=c∧done=true then h.2.2 else 0
def outs:List H3->Int->Int
 | [],_=>0
 | h :: r,c=>outOf h c+outs r c
def inns:List H3->Int->Int
 | [],_=>0
 | h :: r,c=>innOf h c+inns r c
def gain (deal:Int) (done:Bool):List H3->Int->Int
 | [],_=>0
 | h :: r,c=>gainOf deal done h c+gain deal done r c
theorem outs_append (l m:List H3) (c:Int):outs (l++m) c=outs l c+outs m c:=by
 induction l with
 | nil=>simp [outs]
 | cons h r ih=>simp only [List.cons_append,outs,ih];omega
theorem inns_append (l m:List H3) (c:Int):inns (l++m) c=inns l c+inns m c:=by
 induction l with
 | nil=>simp [inns]
 | cons h r ih=>simp only [List.cons_append,inns,ih];omega
theorem gain_append (deal:Int) (done:Bool) (l m:List H3) (c:Int):gain deal done (l++m) c=gain deal done l c+gain deal done m c:=by
 induction l with
 | nil=>simp [gain]
 | cons h r ih=>simp only [List.cons_append,gain,ih];omega
theorem outOf_nonneg (h:H3) (c:Int):0<=outOf h c:=by unfold outOf;repeat' split
                                                     all_goals omega
theorem innOf_nonneg (h:H3) (c:Int):0<=innOf h c:=by unfold innOf;repeat' split
                                                     all_goals omega
theorem outs_nonneg (l:List H3) (c:Int):0<=outs l c:=by
 induction l with
 | nil=>simp [outs]
 | cons h r ih=>have:=outOf_nonneg h c;simp only [outs];omega
theorem inns_nonneg (l:List H3) (c:Int):0<=inns l c:=by
 induction l with
 | nil=>simp [inns]
 | cons h r ih=>have:=innOf_nonneg h c;simp only [inns];omega
theorem outs_snoc {l:List H3} {k:Nat} {h:H3} (e:l[k]?=some h) (c:Int):outs (l.take (k+1)) c=outs (l.take k) c+outOf h c:=by
 rw [take_snoc e,outs_append];simp [outs]
theorem inns_snoc {l:List H3} {k:Nat} {h:H3} (e:l[k]?=some h) (c:Int):inns (l.take (k+1)) c=inns (l.take k) c+innOf h c:=by
 rw [take_snoc e,inns_append];simp [inns]
theorem gain_snoc {deal:Int} {done:Bool} {l:List H3} {k:Nat} {h:H3} (e:l[k]?=some h) (c:Int):gain deal done (l.take (k+1)) c=gain deal done (l.take k) c+gainOf deal done h c:=by
 rw [take_snoc e,gain_append];simp [gain]
theorem outs_take_le (l:List H3) (k:Nat) (c:Int):outs (l.take k) c<=outs l c:=by
 have h:=outs_append (l.take k) (l.drop k) c
 rw [List.take_append_drop] at h
 have:=outs_nonneg (l.drop k) c
 omega
theorem inns_take_le (l:List H3) (k:Nat) (c:Int):inns (l.take k) c<=inns l c:=by
 have h:=inns_append (l.take k) (l.drop k) c
 rw [List.take_append_drop] at h
 have:=inns_nonneg (l.drop k) c
 omega
def over:List (Int × Bool)->Int->Option Bool
 | [],_=>none
 | e :: r,x=>if e.1=x then some e.2 else over r x
theorem over_append (l m:List (Int × Bool)) (x:Int):over (l++m) x=(match over l x with | some b=>some b | none=>over m x):=by
 induction l with
 | nil=>rfl
 | cons e r ih=>
   simp only [List.cons_append,over]
   split
   ·rfl
   ·exact ih
def ovB (es:List (Int × Bool)) (x:Int):Bool:=(over es x).isSome
def dnB (es:List (Int × Bool)) (x:Int):Bool:=over es x == some true
structure Bk where
 no:Int
 v0:Int
 v1:Int
 hs:List H3
 es:List (Int × Bool)
def Bk.val (A:Bk):Nat->Int
 | 0=>A.v0
 | _=>A.v1
def Bk.out (A:Bk) (k:Nat):Int:=outs A.hs (A.no * 2+k)
def Bk.inn (A:Bk) (k:Nat):Int:=inns A.hs (A.no * 2+k)
def same (deal c:Int) (h:H3):Bool:=h.1 == deal && h.2.1 == c
def holdR (A:Bk) (deal c d:Int):Int × Bk:=
 if deal<0 then (1,A) else if 8<=deal then (1,A) else if wnt c d=0 then (if shp c=A.no then (match over A.es deal with
  | some _=>(8,A)
  | none=>match A.hs.find? (same deal c) with
    | some h=>if h.2.2=d then (0,A) else (9,A)
    | none=>if hC (A.val (c % 2).toNat) (outs A.hs c) (inns A.hs c) d=0 then (0,{ A with hs:=A.hs++[(deal,c,d)] }) else (hC (A.val (c % 2).toNat) (outs A.hs c) (inns A.hs c) d,A)) else (1,A)) else (wnt c d,A)
def endA (A:Bk) (deal:Int) (done:Bool):Bk:={ A with v0:=A.v0+gain deal done A.hs (A.no * 2),v1:=A.v1+gain deal done A.hs (A.no * 2+1),hs:=A.hs.filter (fun h=>h.1 != deal),es:=A.es++[(deal,done)] }
def endR (A:Bk) (deal:Int) (done:Bool):Int × Bk:=
 if deal<0 then (1,A) else if 8<=deal then (1,A) else match over A.es deal with
  | some b=>if b=done then (0,A) else (9,A)
  | none=>(0,endA A deal done)
structure Good (A:Bk):Prop where
 no0:0<=A.no
 no3:A.no<3
 cnt:∀k:Nat,k<2->chk (A.val k) (A.out k) (A.inn k)=0
 each:∀h∈A.hs,0<=h.1∧h.1<8∧shp h.2.1=A.no∧wnt h.2.1 h.2.2=0∧over A.es h.1=none
 ends:∀e∈A.es,0<=e.1∧e.1<8
theorem over_none {es:List (Int × Bool)} {x:Int} (h:∀e∈es,e.1 ≠ x):over es x=none:=by
 induction es with
 | nil=>rfl
 | cons e r ih=>rw [over,if_neg (h e (by simp)),ih (fun e' he'=>h e' (by simp [he']))]
theorem shp_place {c n:Int} (h0:0<=c) (h1:c<6) (h:shp c=n):c=n * 2+c % 2∧0<=c % 2∧c % 2<2:=by
 rw [shp_eq h0 h1] at h
 omega
def left (deal:Int) (l:List H3) (k:Nat):List H3:=(l.take k).filter (fun h=>h.1 != deal)++l.drop k
theorem left_zero (deal:Int) (l:List H3):left deal l 0=l:=rfl
theorem left_all (deal:Int) (l:List H3) (k:Nat) (hk:l.length<=k):left deal l k=l.filter (fun h=>h.1 != deal):=by
 unfold left
 rw [List.take_of_length_le hk,List.drop_of_length_le hk,List.append_nil]
theorem left_other {deal:Int} {l:List H3} {k:Nat} {h:H3} (e:l[k]?=some h) (hd:h.1 ≠ deal):left deal l (k+1)=left deal l k:=by
 unfold left
 rw [take_snoc e,List.filter_append,drop_cons e]
 simp [hd]
theorem left_own {deal:Int} {l:List H3} {k:Nat} {h:H3} (e:l[k]?=some h) (hd:h.1=deal) (c:Int):outs (left deal l k) c=outs (left deal l (k+1)) c+outOf h c∧inns (left deal l k) c=inns (left deal l (k+1)) c+innOf h c:=by
 unfold left
 rw [take_snoc e,List.filter_append,drop_cons e]
 simp only [outs_append,inns_append,outs,inns]
 simp [hd,outs,inns]
 omega
theorem end_one {v o i n o' i':Int} (done:Bool) (hc:chk v o i=0) (hd:dlt n=0) (ho:o=o'+(if n<0 then -n else 0)) (hi:i=i'+(if n<0 then 0 else n)) (ho':0<=o') (hi':0<=i'):
 EndIs v o i n done (v+if done=true then n else 0) o' i' 0∧chk (v+if done=true then n else 0) o' i'=0:=by
 obtain ⟨c1,c2,c3,c4,c5,c6⟩:=chk_ok hc
 obtain ⟨d1,d2,d3⟩:=dlt_ok hd
 have hb:=both_of hc hd
 by_cases hn:n<0
 ·rw [if_pos hn] at ho hi
  have h1:=endIs_less done hb hn (by omega)
  have e1:o+n=o':=by omega
  have e2:i'=i:=by omega
  subst e2
  rw [e1] at h1
  cases done
  ·simp only [Bool.false_eq_true,if_false,Int.add_zero] at h1 ⊢
   exact ⟨h1,chk_of (by omega) (by omega) (by omega) (by omega) (by omega) (by omega)⟩
  ·simp only [if_true] at h1 ⊢
   exact ⟨h1,chk_of (by omega) (by omega) (by omega) (by omega) (by omega) (by omega)⟩
 ·rw [if_neg hn] at ho hi
  have h1:=endIs_more done hb (by omega) (by omega)
  have e1:i - n=i':=by omega
  have e2:o'=o:=by omega
  subst e2
  rw [e1] at h1
  cases done
  ·simp only [Bool.false_eq_true,if_false,Int.add_zero] at h1 ⊢
   exact ⟨h1,chk_of (by omega) (by omega) (by omega) (by omega) (by omega) (by omega)⟩
  ·simp only [if_true] at h1 ⊢
   exact ⟨h1,chk_of (by omega) (by omega) (by omega) (by omega) (by omega) (by omega)⟩
def HoldsAt (w:World) (la:Option Addr) (l:List H3):Prop:=∀k a c d,l[k]?=some (a,c,d)->∃b off,la=some ⟨b,off,none⟩∧b<w.heap.size∧w.cell? ⟨b,off+k * 3,none⟩=some (.int .i64 a)∧w.cell? ⟨b,off+k * 3+1,none⟩=some (.int .i64 c)∧w.cell? ⟨b,off+k * 3+2,none⟩=some (.int .i64 d)
theorem HoldsAt.below {w w':World} {B:Nat} {la:Option Addr} {l:List H3} (h:HoldsAt w la l) (hb:Below B w w') (hB:w.heap.size<=B):HoldsAt w' la l:=by
 intro k a c d hk
 obtain ⟨b,off,e,hlt,h0,h1,h2⟩:=h k a c d hk
 have hb':b<B:=by omega
 refine ⟨b,off,e,?_,(hb.cell (p:=⟨b,off+k * 3,none⟩) hb').trans h0,(hb.cell (p:=⟨b,off+k * 3+1,none⟩) hb').trans h1,(hb.cell (p:=⟨b,off+k * 3+2,none⟩) hb').trans h2⟩
 have:=hb.size
 omega
def flat3 (l:List H3):List Value:=l.flatMap (fun x=>[.int .i64 x.1,.int .i64 x.2.1,.int .i64 x.2.2])
theorem flat3_length (l:List H3):(flat3 l).length=l.length * 3:=by
 unfold flat3
 induction l with
 | nil=>rfl
 | cons x r ih=>rw [List.flatMap_cons,List.length_append,ih];simp;omega
theorem flat3_append (l m:List H3):flat3 (l++m)=flat3 l++flat3 m:=by unfold flat3;simp
theorem flat3_snoc (l:List H3) (a c d:Int):flat3 (l++[(a,c,d)])=flat3 l++[.int .i64 a,.int .i64 c,.int .i64 d]:=by
 unfold flat3;simp
theorem flat3_at (l:List H3):∀k a c d,l[k]?=some (a,c,d)->(flat3 l)[k * 3]?=some (.int .i64 a)∧(flat3 l)[k * 3+1]?=some (.int .i64 c)∧(flat3 l)[k * 3+2]?=some (.int .i64 d):=by
 intro k a c d h
 have hk:=(List.getElem?_eq_some_iff.1 h).1
 have e:l=l.take k++(a,c,d) :: l.drop (k+1):=by rw [<-drop_cons h,List.take_append_drop]
 have hl:(flat3 (l.take k)).length=k * 3:=by rw [flat3_length,List.length_take,Nat.min_eq_left (by omega)]
 have e2:flat3 l=flat3 (l.take k)++(.int .i64 a :: .int .i64 c :: .int .i64 d :: flat3 (l.drop (k+1))):=by
  conv=>lhs;rw [e]
  rw [flat3_append]
  rfl
 rw [e2]
 refine ⟨?_,?_,?_⟩
 ·rw [List.getElem?_append_right (by omega),hl,Nat.sub_self];rfl
 ·rw [List.getElem?_append_right (by omega),hl,show k * 3+1 - k * 3=1 by omega];rfl
 ·rw [List.getElem?_append_right (by omega),hl,show k * 3+2 - k * 3=2 by omega];rfl
theorem holds_of_own {w:World} {B e n:Nat} {v:Value} {l:List H3} (h:w.ownsRow B e 3 v n (flat3 l)):∃ga cap,v=.slice ga n cap∧HoldsAt w ga l∧l.length=n:=by
 have hn:l.length=n:=by have:=h.1;rw [flat3_length] at this;omega
 rcases h.2 with ⟨e1,e0⟩ | ⟨g,cap,cur,e1,hb,hg,hc,hm,hz,ht⟩
 ·refine ⟨none,0,by rw [e1,e0],?_,hn⟩
  intro k a c d hk
  have:=(List.getElem?_eq_some_iff.1 hk).1
  omega
 ·refine ⟨_,cap,e1,fun k a c d hk=>⟨g,0,rfl,(Array.getElem?_eq_some_iff.1 hg).1,?_⟩,hn⟩
  have hk':=(List.getElem?_eq_some_iff.1 hk).1
  obtain ⟨f0,f1,f2⟩:=flat3_at l k a c d hk
  have q:∀j u,j<n * 3->(flat3 l)[j]?=some u->w.cell? ⟨g,0+j,none⟩=some u:=by
   intro j u hj hu
   have h1:(cur.toList.take (n * 3))[j]?=(flat3 l)[j]?:=by rw [ht]
   rw [List.getElem?_take_of_lt hj,hu] at h1
   simp only [World.cell?,hg]
   simpa using h1
  exact ⟨by simpa using q _ _ (by omega) f0,by simpa using q _ _ (by omega) f1,by simpa using q _ _ (by omega) f2⟩
def Row (w:World) (g e n:Nat):Prop:=∃cur,w.heap[g]?=some (.cells cur e (0,0))∧cur.size=n
theorem Row.setCell {w:World} {g e n:Nat} (h:Row w g e n) (p:Addr) (u:Value):Row (w.setCell p u) g e n:=by
 obtain ⟨cur,hg,hs⟩:=h
 by_cases hp:g=p.block
 ·subst hp
  refine ⟨if p.spot.isSome then cur else cur.setIfInBounds p.off u,?_,by split <;> simp [hs]⟩
  simp [World.setCell,Array.getElem?_modify,hg]
 ·exact ⟨cur,by rw [Below.heap_setCell _ _ _ _ hp];exact hg,hs⟩
theorem Row.setCells {g e n:Nat} (b:Nat):∀(vs:List Value) (o:Nat) (w:World),Row w g e n->Row (w.setCells b o vs) g e n
 | [],_,_,h=>h
 | v :: r,o,w,h=>by rw [World.setCells];exact Row.setCells b r (o+1) _ (h.setCell _ _)
theorem Row.below {w w':World} {B g e n:Nat} (h:Row w g e n) (hb:Below B w w') (hB:g<B):Row w' g e n:=by
 obtain ⟨cur,hg,hs⟩:=h
 exact ⟨cur,by rw [hb.block g hB];exact hg,hs⟩
theorem Row.lt {w:World} {g e n:Nat} (h:Row w g e n):g<w.heap.size:=by
 obtain ⟨cur,hg,hs⟩:=h
 exact (Array.getElem?_eq_some_iff.1 hg).1
theorem Row.loose {w:World} {g e n:Nat} (h:Row w g e n):∀k,w.frozen? ⟨g,k,none⟩=false:=by
 obtain ⟨cur,hg,hs⟩:=h
 intro k
 simp [World.frozen?,hg]
theorem Row.some {w:World} {g e n j:Nat} (h:Row w g e n) (hj:j<n):(w.cell? ⟨g,j,none⟩).isSome=true:=by
 obtain ⟨cur,hg,hs⟩:=h
 simp [World.cell?,hg,hs,hj]
theorem own_row {w:World} {B e s n g cap:Nat} {xs:List Value} (h:w.ownsRow B e s (.slice (Option.some ⟨g,0,none⟩) n cap) n xs):B<=g∧Row w g e (cap * s)∧n<=cap∧cap<=maxLen∧∀j u,xs[j]?=Option.some u->w.cell? ⟨g,j,none⟩=Option.some u:=by
 rcases h.2 with ⟨e1,e0⟩ | ⟨g',cap',cur,e1,hb,hg,hc,hm,hz,ht⟩
 ·simp at e1
 ·simp only [Value.slice.injEq,Option.some.injEq,Addr.mk.injEq,and_true,true_and] at e1
  obtain ⟨rfl,rfl⟩:=e1
  refine ⟨hb,⟨cur,hg,hz⟩,hc,hm,fun j u hu=>?_⟩
  have hj:j<n * s:=by have:=(List.getElem?_eq_some_iff.1 hu).1;rw [h.1] at this;exact this
  have h1:(cur.toList.take (n * s))[j]?=xs[j]?:=by rw [ht]
  rw [List.getElem?_take_of_lt hj,hu] at h1
  simp only [World.cell?,hg]
  simpa using h1
theorem row_own {w:World} {B e s n g cap:Nat} {xs:List Value} (hr:Row w g e (cap * s)) (hB:B<=g) (hc:n<=cap) (hm:cap<=maxLen) (hl:xs.length=n * s) (hx:∀j u,xs[j]?=Option.some u->w.cell? ⟨g,j,none⟩=Option.some u):w.ownsRow B e s (.slice (Option.some ⟨g,0,none⟩) n cap) n xs:=by
 obtain ⟨cur,hg,hs⟩:=hr
 refine ⟨hl,.inr ⟨g,cap,cur,rfl,hB,hg,hc,hm,hs,?_⟩⟩
 have hle:n * s<=cap * s:=Nat.mul_le_mul_right _ hc
 apply List.ext_getElem?
 intro j
 by_cases hj:j<n * s
 ·rw [List.getElem?_take_of_lt hj]
  obtain ⟨u,hu⟩:∃u,xs[j]?=Option.some u:=⟨_,List.getElem?_eq_getElem (by omega)⟩
  have:=hx j u hu
  rw [hu,<-this]
  simp [World.cell?,hg]
 ·rw [List.getElem?_eq_none (by simp;omega),List.getElem?_eq_none (by omega)]
structure Save (O:Nat->Prop) (a b:World):Prop where
 os:b.os=a.os
 tape:b.tape=a.tape
 output:b.output=a.output
 size:a.heap.size<=b.heap.size
 block:∀k,k<a.heap.size->¬O k->b.heap[k]?=a.heap[k]?
theorem Save.refl (O:Nat->Prop) (a:World):Save O a a:=⟨rfl,rfl,rfl,Nat.le_refl _,fun _ _ _=>rfl⟩
theorem Save.trans {O O':Nat->Prop} {a b c:World} (h:Save O a b) (k:Save O' b c) (hO:∀j,j<a.heap.size->O' j->O j):Save O a c:=
 ⟨k.os.trans h.os,k.tape.trans h.tape,k.output.trans h.output,Nat.le_trans h.size k.size,fun j hj hn=>(k.block j (Nat.lt_of_lt_of_le hj h.size) (fun q=>hn (hO j hj q))).trans (h.block j hj hn)⟩
theorem Save.of_below {O:Nat->Prop} {a b:World} (h:Below a.heap.size a b):Save O a b:=⟨h.os,h.tape,h.output,h.size,fun j hj _=>h.block j hj⟩
theorem Save.next {O:Nat->Prop} {a b c:World} (h:Save O a b) (k:Below b.heap.size b c):Save O a c:=
 h.trans (O':=fun _=>False) (.of_below k) (fun _ _ q=>q.elim)
theorem Save.mono {O O':Nat->Prop} {a b:World} (h:Save O a b) (hO:∀j,j<a.heap.size->O j->O' j):Save O' a b:=⟨h.os,h.tape,h.output,h.size,fun j hj hn=>h.block j hj (fun q=>hn (hO j hj q))⟩
theorem Save.below {O:Nat->Prop} {B:Nat} {a b:World} (h:Save O a b) (hB:∀k,k<B->¬O k) (hs:B<=a.heap.size):Below B a b:=⟨h.os,h.tape,h.output,h.size,fun j hj=>h.block j (Nat.lt_of_lt_of_le hj hs) (hB j hj)⟩
theorem Save.setCell {O:Nat->Prop} {a b:World} (h:Save O a b) {p:Addr} (hp:p.block<a.heap.size->O p.block) (u:Value):Save O a (b.setCell p u):=
 ⟨h.os,h.tape,h.output,by simpa using h.size,fun j hj hn=>(Below.heap_setCell _ _ _ _ (fun e=>hn (by subst e;exact hp hj))).trans (h.block j hj hn)⟩
theorem Save.set3 {O:Nat->Prop} {a b:World} (h:Save O a b) (g:Nat) (hg:O g) (o1 o2 o3:Nat) (u1 u2 u3:Value):Save O a (((b.setCell ⟨g,o1,none⟩ u1).setCell ⟨g,o2,none⟩ u2).setCell ⟨g,o3,none⟩ u3):=
 ((h.setCell (p:=⟨g,o1,none⟩) (fun _=>hg) u1).setCell (p:=⟨g,o2,none⟩) (fun _=>hg) u2).setCell (p:=⟨g,o3,none⟩) (fun _=>hg) u3
theorem Save.setCells {O:Nat->Prop} {a:World} (g:Nat) (hg:g<a.heap.size->O g):∀(vs:List Value) (o:Nat) (b:World),Save O a b->Save O a (b.setCells g o vs)
 | [],_,_,h=>h
 | v :: r,o,b,h=>by rw [World.setCells];exact Save.setCells g hg r (o+1) _ (h.setCell (p:=⟨g,o,none⟩) hg v)
theorem Save.grown {O:Nat->Prop} {a b c:World} {row:Option Nat} (h:Save O a b) (hg:b.grownBy c row) (hr:∀k,row=some k->k<a.heap.size->O k):Save O a c:=
 ⟨hg.os.trans h.os,hg.tape.trans h.tape,hg.output.trans h.output,Nat.le_trans h.size hg.size,fun j hj hn=>(hg.block j (Nat.lt_of_lt_of_le hj h.size) (fun e=>hn (hr j e.symm hj))).trans (h.block j hj hn)⟩
theorem Save.cell {O:Nat->Prop} {a b:World} (h:Save O a b) {p:Addr} (hp:p.block<a.heap.size) (hn:¬O p.block):b.cell? p=a.cell? p:=World.cell?_of_block (h.block _ hp hn)
theorem Save.frozen {O:Nat->Prop} {a b:World} (h:Save O a b) {p:Addr} (hp:p.block<a.heap.size) (hn:¬O p.block):b.frozen? p=a.frozen? p:=World.frozen?_of_block (h.block _ hp hn)
theorem own_save {O:Nat->Prop} {w w1:World} {B e s n:Nat} {v:Value} {xs:List Value} (h:w.ownsRow B e s v n xs) (hb:Save O w w1) (hn:∀k,v.ownBlock=some k->¬O k):w1.ownsRow B e s v n xs:=by
 refine ⟨h.1,?_⟩
 rcases h.2 with h2 | ⟨g,cap,cur,hv,hg,hh,r⟩
 ·exact .inl h2
 ·refine .inr ⟨g,cap,cur,hv,hg,?_,r⟩
  rw [hb.block g (Array.getElem?_eq_some_iff.1 hh).1 (hn g (by rw [hv];rfl))]
  exact hh
theorem BoxAt.save {O:Nat->Prop} {w w1:World} {b:Nat} {vs:List Value} (h:BoxAt w b vs) (hb:Save O w w1) (hn:¬O b):BoxAt w1 b vs:=
 ⟨Nat.lt_of_lt_of_le h.1 hb.size,fun j v hj=>(hb.cell (p:=⟨b,j,none⟩) h.1 hn).trans (h.2 j v hj)⟩
theorem addr_add (g j:Nat):(⟨g,0,none⟩:Addr).add j=⟨g,j,none⟩:=by unfold Addr.add;split <;> simp_all
theorem own_cap {w:World} {B e s n cap:Nat} {ga:Option Addr} {xs:List Value} (h:w.ownsRow B e s (.slice ga n cap) n xs):n<=cap:=by
 rcases h.2 with ⟨e1,e0⟩ | ⟨g',cap',cur,e1,hb,hg,hc,hm,hz,ht⟩
 ·omega
 ·simp only [Value.slice.injEq] at e1
  omega
structure ShopRaw (w:World) (p:Nat) (no:Int) (c:Nat->Int) (hv:Value) (ov dn:Nat->Bool):Prop where
 lt:p<w.heap.size
 no:w.cell? ⟨p,0,none⟩=some (.int .i64 no)
 cs:∀j:Nat,j<6->w.cell? ⟨p,1+j,none⟩=some (.int .i64 (c j))
 hv:w.cell? ⟨p,7,none⟩=some hv
 ov:∀d:Nat,d<8->w.cell? ⟨p,8+d * 2,none⟩=some (.bool (ov d))
 dn:∀d:Nat,d<8->w.cell? ⟨p,8+d * 2+1,none⟩=some (.bool (dn d))
 loose:∀k,w.frozen? ⟨p,k,none⟩=false
theorem ShopRaw.save {O:Nat->Prop} {w w1:World} {p:Nat} {no:Int} {c:Nat->Int} {hv:Value} {ov dn:Nat->Bool} (h:ShopRaw w p no c hv ov dn) (hb:Save O w w1) (hn:¬O p):ShopRaw w1 p no c hv ov dn:=by
 have hl:=h.lt
 have hs:=hb.size
 have q:∀o,w1.cell? ⟨p,o,none⟩=w.cell? ⟨p,o,none⟩:=fun o=>hb.cell (p:=⟨p,o,none⟩) hl hn
 exact ⟨by omega,(q _).trans h.no,fun j hj=>(q _).trans (h.cs j hj),(q _).trans h.hv,fun d hd=>(q _).trans (h.ov d hd),fun d hd=>(q _).trans (h.dn d hd),fun k=>(hb.frozen (p:=⟨p,k,none⟩) hl hn).trans (h.loose k)⟩
theorem ShopRaw.next {w w1:World} {p:Nat} {no:Int} {c:Nat->Int} {hv:Value} {ov dn:Nat->Bool} (h:ShopRaw w p no c hv ov dn) (hb:Below w.heap.size w w1):ShopRaw w1 p no c hv ov dn:=
 h.save (O:=fun _=>False) (.of_below hb) (fun q=>q)
theorem cell_set_same {w:World} {p o:Nat} {u v:Value} (h:w.cell? ⟨p,o,none⟩=some v):(w.setCell ⟨p,o,none⟩ u).cell? ⟨p,o,none⟩=some u:=World.cell?_setCell_same _ _ _ h
theorem cell_set_off {w:World} {p o o':Nat} {u:Value} (h:o ≠ o'):(w.setCell ⟨p,o',none⟩ u).cell? ⟨p,o,none⟩=w.cell? ⟨p,o,none⟩:=World.cell?_setCell_other _ _ _ _ (by intro e;simp only [Addr.mk.injEq] at e;omega)
theorem cell_set_block {w:World} {p b o o':Nat} {u:Value} (h:p ≠ b):(w.setCell ⟨b,o',none⟩ u).cell? ⟨p,o,none⟩=w.cell? ⟨p,o,none⟩:=World.cell?_setCell_other _ _ _ _ (by intro e;simp only [Addr.mk.injEq] at e;omega)
theorem ShopRaw.setC {w:World} {p:Nat} {no:Int} {c:Nat->Int} {hv:Value} {ov dn:Nat->Bool} (h:ShopRaw w p no c hv ov dn) (m:Nat) (hm:m<6) (v:Int):ShopRaw (w.setCell ⟨p,1+m,none⟩ (.int .i64 v)) p no (upd c m v) hv ov dn:=by
 refine ⟨by simpa using h.lt,(cell_set_off (by omega)).trans h.no,?_,(cell_set_off (by omega)).trans h.hv,fun d hd=>(cell_set_off (by omega)).trans (h.ov d hd),fun d hd=>(cell_set_off (by omega)).trans (h.dn d hd),by simpa [go_sem] using h.loose⟩
 intro j hj
 unfold upd
 by_cases e:j=m
 ·subst e
  rw [cell_set_same (h.cs j hj),if_pos rfl]
 ·rw [cell_set_off (by omega),h.cs j hj,if_neg e]
theorem ShopRaw.setH {w:World} {p:Nat} {no:Int} {c:Nat->Int} {hv:Value} {ov dn:Nat->Bool} (h:ShopRaw w p no c hv ov dn) (u:Value):ShopRaw (w.setCell ⟨p,7,none⟩ u) p no c u ov dn:=
 ⟨by simpa using h.lt,(cell_set_off (by omega)).trans h.no,fun j hj=>(cell_set_off (by omega)).trans (h.cs j hj),cell_set_same h.hv,fun d hd=>(cell_set_off (by omega)).trans (h.ov d hd),fun d hd=>(cell_set_off (by omega)).trans (h.dn d hd),by simpa [go_sem] using h.loose⟩
def updB (f:Nat->Bool) (k:Nat) (b:Bool):Nat->Bool:=fun j=>if j=k then b else f j
theorem ShopRaw.setE {w:World} {p:Nat} {no:Int} {c:Nat->Int} {hv:Value} {ov dn:Nat->Bool} (h:ShopRaw w p no c hv ov dn) (n:Nat) (hn:n<8) (a b:Bool):ShopRaw ((w.setCell ⟨p,8+n * 2,none⟩ (.bool a)).setCell ⟨p,8+n * 2+1,none⟩ (.bool b)) p no c hv (updB ov n a) (updB dn n b):=by
 refine ⟨by simpa using h.lt,((cell_set_off (by omega)).trans (cell_set_off (by omega))).trans h.no,fun j hj=>((cell_set_off (by omega)).trans (cell_set_off (by omega))).trans (h.cs j hj),((cell_set_off (by omega)).trans (cell_set_off (by omega))).trans h.hv,?_,?_,by simpa [go_sem] using h.loose⟩
 ·intro d hd
  unfold updB
  by_cases e:d=n
  ·subst e
   rw [if_pos rfl,cell_set_off (by omega),cell_set_same (h.ov d hd)]
  ·rw [if_neg e,cell_set_off (by omega),cell_set_off (by omega),h.ov d hd]
 ·intro d hd
  unfold updB
  by_cases e:d=n
  ·subst e
   rw [if_pos rfl,cell_set_same ((cell_set_off (by omega)).trans (h.dn d hd))]
  ·rw [if_neg e,cell_set_off (by omega),cell_set_off (by omega),h.dn d hd]
def cnt6 (A:Bk):Nat->Int
 | 0=>A.v0
 | 1=>outs A.hs (A.no * 2)
 | 2=>inns A.hs (A.no * 2)
 | 3=>A.v1
 | 4=>outs A.hs (A.no * 2+1)
 | _=>inns A.hs (A.no * 2+1)
structure ShopIn (O:Nat->Prop) (w:World) (p:Nat) (A:Bk):Prop where
 own:∀k,O k->k<w.heap.size
 mine:O p
 raw:∃hv,ShopRaw w p A.no (cnt6 A) hv (fun d=>ovB A.es d) (fun d=>dnB A.es d)∧w.ownsRow (p+1) 120 3 hv A.hs.length (flat3 A.hs)∧∀k,hv.ownBlock=some k->O k
theorem ShopIn.save {O O':Nat->Prop} {w w1:World} {p:Nat} {A:Bk} (h:ShopIn O w p A) (hb:Save O' w w1) (hn:∀k,O k->¬O' k):ShopIn O w1 p A:=by
 obtain ⟨hv,h1,h2,h3⟩:=h.raw
 exact ⟨fun k hk=>Nat.lt_of_lt_of_le (h.own k hk) hb.size,h.mine,hv,h1.save hb (hn p h.mine),own_save h2 hb (fun k hk=>hn k (h3 k hk)),h3⟩
theorem ShopIn.next {O:Nat->Prop} {w w1:World} {p:Nat} {A:Bk} (h:ShopIn O w p A) (hb:Below w.heap.size w w1):ShopIn O w1 p A:=
 h.save (O':=fun _=>False) (.of_below hb) (fun _ _ q=>q)
def Moved (O O':Nat->Prop) (w:World):Prop:=∀k,O' k->O k∨w.heap.size<=k
theorem Moved.refl (O:Nat->Prop) (w:World):Moved O O w:=fun _ h=>.inl h
end Go.Proofs.YtbgnajcmhmpjlacGreatDoor
