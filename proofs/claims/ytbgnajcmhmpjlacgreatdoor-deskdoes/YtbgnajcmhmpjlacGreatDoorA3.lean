/- More about a shop of one's own: other memory is written. -/
import Derived.Shelf.Abstract
import Derived.Deep.RegionHeld3
import Derived.Deep.RegionLaw
import Derived.Test.YtbgnajcmhmpjlacGreatDoorS0
import Derived.Test.YtbgnajcmhmpjlacGreatDoorA2
set_option maxRecDepth 100000
set_option maxHeartbeats 100000000
namespace Go.Proofs.YtbgnajcmhmpjlacGreatDoor
open Go.RowKit
structure PredIs (g:Nat) (lb:Array Value) (q:H3->Bool) (C:World->Prop):Prop where
 enters:∀args w,(callFunc g args).run Tryz.prog w=.ok (.enter g args) w
 keeps:∀W W',C W->Below W.heap.size W W'->C W'
 says:∀W a c d,C W->Calls Tryz.prog g (#[.agg #[.int .i64 a,.int .i64 c,.int .i64 d]]++lb) W fun e w'=>e=.returned (.bool (q (a,c,d)))∧Below W.heap.size W w'
theorem holdPred (deal c0 d0:Int) (bd bw:Nat):PredIs 188 #[.pointer (some ⟨bd,0,none⟩),.pointer (some ⟨bw,0,none⟩)] (same deal c0) (fun W=>BoxAt W bd [.int .i64 deal]∧BoxAt W bw [.int .i64 c0,.int .i64 d0]):=by
 refine ⟨enters_of Tryz.func188 (by kernel_rfl) rfl,fun W W' h hb=>⟨h.1.next hb,h.2.next hb⟩,?_⟩
 intro W a c d hC
 have x0:=hC.1.2 0 _ rfl
 have y0:=hC.2.2 0 _ rfl
 have hb:=hC.1.1
 have hw:=hC.2.1
 have hbn:bd ≠ W.heap.size:=by omega
 have hwn:bw ≠ W.heap.size:=by omega
 clear hC
 show Calls Tryz.prog 188 #[.agg #[.int .i64 a,.int .i64 c,.int .i64 d],.pointer (some ⟨bd,0,none⟩),.pointer (some ⟨bw,0,none⟩)] W _
 cases h1:(a == deal)
 ·have e1:same deal c0 (a,c,d)=false:=by simp [same,h1]
  rw [e1]
  clear e1
  go_enter Tryz.func188,Tryz.ntmps188
  go_wp2_with fail
  go_ret
  exact ⟨rfl,by go_grown⟩
 ·have e1:same deal c0 (a,c,d)=(c == c0):=by simp [same,h1]
  rw [e1]
  clear e1
  go_enter Tryz.func188,Tryz.ntmps188
  go_wp2_with fail
  go_ret
  exact ⟨rfl,by go_grown⟩
theorem endPred (deal:Int) (bd:Nat):PredIs 191 #[.pointer (some ⟨bd,0,none⟩)] (fun h=>h.1 == deal) (fun W=>BoxAt W bd [.int .i64 deal]):=by
 refine ⟨enters_of Tryz.func191 (by kernel_rfl) rfl,fun W W' h hb=>h.next hb,?_⟩
 intro W a c d hC
 have x0:=hC.2 0 _ rfl
 have hb:=hC.1
 have hbn:bd ≠ W.heap.size:=by omega
 clear hC
 show Calls Tryz.prog 191 #[.agg #[.int .i64 a,.int .i64 c,.int .i64 d],.pointer (some ⟨bd,0,none⟩)] W _
 go_enter Tryz.func191,Tryz.ntmps191
 go_wp2_with fail
 go_ret
 exact ⟨rfl,by go_grown⟩
def IxIs (q:H3->Bool) (l:List H3) (r:Int):Prop:=(r= -1∧∀x∈l,q x=false)∨∃(k:Nat) (x:H3),r=(k:Int)∧l[k]?=some x∧q x=true∧∀y∈l.take k,q y=false
theorem idx_any {g:Nat} {lb:Array Value} {q:H3->Bool} {C:World->Prop} (hp:PredIs g lb q C) (la:Option Addr) (n cap:Nat) (l:List H3) (w:World) (hl:HoldsAt w la l) (hll:l.length=n) (hs:n<2 ^ 62) (hC:C w):
 Calls Tryz.prog 187 #[.slice la n cap,.func (.func g) #[] lb] w fun e w'=>(∃r,e=.returned (.int .i64 r)∧IxIs q l r)∧Below w.heap.size w w':=by
 have eg:=hp.enters
 go_enter Tryz.func187,Tryz.ntmps187
 go_wp2_with fail
 go_loopg [5,8] n (fun gg _ s8 wr=>∃k:Nat,k<=n∧gg=n - k∧s8=.int .i64 k∧Hid (∀y∈l.take k,q y=false)∧Hid (C wr)∧Below w.heap.size w wr)
 case atStart=>exact ⟨0,Nat.zero_le _,rfl,rfl,by simp [Hid],hC,Below.refl _ _⟩
 case round=>
  obtain ⟨k,hk,rfl,rfl,HE,HC,hS⟩:=hrel
  by_cases hlt:k<n
  ·obtain ⟨⟨a,c,d⟩,hkl⟩:∃x,l[k]?=some x:=⟨_,List.getElem?_eq_getElem (by omega)⟩
   obtain ⟨bl,ol,rfl,hbl,h0,h1,h2⟩:=hl k a c d hkl
   have j0:(0:Int)<=(k:Int):=by omega
   have j1:(k:Int)<(n:Int):=by omega
   have j2:(n:Int)<2 ^ 62:=by omega
   have p0:wr.cell? ⟨bl,ol+k * 3,none⟩=some (.int .i64 a):=(hS.cell (p:=⟨bl,ol+k * 3,none⟩) hbl).trans h0
   have p1:wr.cell? ⟨bl,ol+k * 3+1,none⟩=some (.int .i64 c):=(hS.cell (p:=⟨bl,ol+k * 3+1,none⟩) hbl).trans h1
   have p2:wr.cell? ⟨bl,ol+k * 3+2,none⟩=some (.int .i64 d):=(hS.cell (p:=⟨bl,ol+k * 3+2,none⟩) hbl).trans h2
   have HP:Hid _:=hp.says wr a c d HC.out
   have hz:=hS.size
   clear h0 h1 h2 hl
   cases hq:q (a,c,d)
   ·rw [hq] at HP
    have HE2:Hid (∀y∈l.take (k+1),q y=false):=by
     intro y hy
     rw [take_snoc hkl,List.mem_append,List.mem_singleton] at hy
     rcases hy with hy | rfl
     ·exact HE.out y hy
     ·exact hq
    clear hq
    go_wp2_with fail
    refine Calls.mono HP.out ?_
    rintro e w1 ⟨rfl,hb1⟩
    go_wp2_with fail
    go_roundg (n - (k+1))
    case measure=>omega
    case rel=>exact ⟨k+1,by omega,rfl,by simp,HE2,hp.keeps _ _ HC.out hb1,after hS hb1 hz⟩
   ·rw [hq] at HP
    have HQ:Hid _:=hq
    clear hq
    go_wp2_with fail
    refine Calls.mono HP.out ?_
    rintro e w1 ⟨rfl,hb1⟩
    go_wp2_with fail
    go_ret
    exact ⟨⟨_,rfl,.inr ⟨k,_,rfl,hkl,HQ.out,HE.out⟩⟩,after hS hb1 hz⟩
  ·have hkk:k=n:=by omega
   subst hkk
   go_wp2_with fail
   go_ret
   refine ⟨⟨_,rfl,.inl ⟨rfl,?_⟩⟩,hS⟩
   have q:=HE.out
   rw [List.take_of_length_le (by omega)] at q
   exact q
def zeros (n:Nat):List Value:=(Builtin.zeroCells (Value.agg #[.int .i64 0,.int .i64 0,.int .i64 0]).cells n).toList
theorem zeros_length (n:Nat):(zeros n).length=n * 3:=by
 unfold zeros
 rw [Array.length_toList,size_zeroCells]
 rfl
theorem zeros_one (n:Nat):∀v∈zeros n,v.oneCell'=true:=by
 intro v hv
 unfold zeros at hv
 simp only [Builtin.zeroCells,Array.toList_map,List.mem_map] at hv
 obtain ⟨i,_,rfl⟩:=hv
 have h:i % 3=0∨i % 3=1∨i % 3=2:=by omega
 show Value.oneCell' (#[Value.int .i64 0,.int .i64 0,.int .i64 0][i % 3]!)=true
 rcases h with h | h | h <;> rw [h] <;> rfl
theorem run_clear3 (w:World) (ty:TypeId) (b o n c:Nat) (hc:∀j,j<n * 3->(w.cell? ⟨b,o+j,none⟩).isSome=true) (hf:∀j,j<n * 3->w.frozen? ⟨b,o+j,none⟩=false):
 (Builtin.clear_ #[116] ty #[.slice (some ⟨b,o,none⟩) n c]).run Tryz.prog w=.ok (.tuple #[]) (w.setCells b o (zeros n)):=by
 have hst:=run_storeCells_cells (P:=Tryz.prog) b o (zeros n) 0 w (by rw [zeros_length];simpa using hc) (by rw [zeros_length];simpa using hf) (zeros_one n)
 simp only [Nat.add_zero] at hst
 unfold zeros at hst ⊢
 cases n with
 | zero=>simp [Builtin.clear_,run_underlying Tryz.underlying116,Builtin.zeroCells,World.setCells]
 | succ m=>simp [Builtin.clear_,run_underlying Tryz.underlying116,hst]
structure Kept (q:H3->Bool) (l:List H3) (g cap j i:Nat) (w:World):Prop where
 row:Row w g 120 (cap * 3)
 len:i=((l.take j).filter (fun h=> !q h)).length
 done:∀t u,(flat3 ((l.take j).filter (fun h=> !q h)))[t]?=some u->w.cell? ⟨g,t,none⟩=some u
 todo:∀m a c d,j<=m->l[m]?=some (a,c,d)->w.cell? ⟨g,m * 3,none⟩=some (.int .i64 a)∧w.cell? ⟨g,m * 3+1,none⟩=some (.int .i64 c)∧w.cell? ⟨g,m * 3+2,none⟩=some (.int .i64 d)
theorem Kept.next {q:H3->Bool} {l:List H3} {g cap j i:Nat} {w w1:World} (h:Kept q l g cap j i w) (hb:Below w.heap.size w w1):Kept q l g cap j i w1:=by
 have hg:=h.row.lt
 have e:∀t,w1.cell? ⟨g,t,none⟩=w.cell? ⟨g,t,none⟩:=fun t=>hb.cell (p:=⟨g,t,none⟩) hg
 exact ⟨h.row.below hb hg,h.len,fun t u hu=>(e t).trans (h.done t u hu),fun m a c d hm hl=>by rw [e,e,e];exact h.todo m a c d hm hl⟩
theorem Kept.le {q:H3->Bool} {l:List H3} {g cap j i:Nat} {w:World} (h:Kept q l g cap j i w):i<=j:=by
 rw [h.len]
 exact Nat.le_trans (List.length_filter_le _ _) (by rw [List.length_take];omega)
theorem Kept.skip {q:H3->Bool} {l:List H3} {g cap j i:Nat} {w:World} {x:H3} (h:Kept q l g cap j i w) (hx:l[j]?=some x) (hq:q x=true):Kept q l g cap (j+1) i w:=by
 have e:(l.take (j+1)).filter (fun h=> !q h)=(l.take j).filter (fun h=> !q h):=by
  rw [take_snoc hx,List.filter_append];simp [hq]
 exact ⟨h.row,by rw [e];exact h.len,by rw [e];exact h.done,fun m a c d hm hl=>h.todo m a c d (by omega) hl⟩
theorem Kept.keep {q:H3->Bool} {l:List H3} {g cap j i:Nat} {w:World} {a c d:Int} (h:Kept q l g cap j i w) (hx:l[j]?=some (a,c,d)) (hq:q (a,c,d)=false) (hcap:j<cap):
 Kept q l g cap (j+1) (i+1) (((w.setCell ⟨g,i * 3,none⟩ (.int .i64 a)).setCell ⟨g,i * 3+1,none⟩ (.int .i64 c)).setCell ⟨g,i * 3+2,none⟩ (.int .i64 d)):=by
 have e:(l.take (j+1)).filter (fun h=> !q h)=(l.take j).filter (fun h=> !q h)++[(a,c,d)]:=by
  rw [take_snoc hx,List.filter_append];simp [hq]
 have hij:=h.le
 have hl:(flat3 ((l.take j).filter (fun h=> !q h))).length=i * 3:=by rw [flat3_length,<-h.len]
 have hsome:∀t,t<cap * 3->∃u,w.cell? ⟨g,t,none⟩=some u:=fun t ht=>Option.isSome_iff_exists.1 (h.row.some ht)
 refine ⟨((h.row.setCell _ _).setCell _ _).setCell _ _,?_,?_,?_⟩
 ·rw [e,List.length_append,<-h.len];rfl
 ·rw [e,flat3_snoc]
  intro t u hu
  by_cases ht:t<i * 3
  ·rw [List.getElem?_append_left (by omega)] at hu
   rw [cell_set_off (by omega),cell_set_off (by omega),cell_set_off (by omega)]
   exact h.done t u hu
  ·rw [List.getElem?_append_right (by omega),hl] at hu
   have hlt:=(List.getElem?_eq_some_iff.1 hu).1
   simp only [List.length_cons,List.length_nil] at hlt
   obtain ⟨s,rfl⟩:∃s,t=i * 3+s:=⟨t - i * 3,by omega⟩
   rw [show i * 3+s - i * 3=s by omega] at hu hlt
   obtain ⟨u0,h0⟩:=hsome (i * 3) (by omega)
   obtain ⟨u1,h1⟩:=hsome (i * 3+1) (by omega)
   obtain ⟨u2,h2⟩:=hsome (i * 3+2) (by omega)
   match s,hlt,hu with
   | 0,_,hu=>simp only [List.getElem?_cons_zero] at hu
             simp only [Nat.add_zero]
             rw [cell_set_off (by omega),cell_set_off (by omega),cell_set_same h0,hu]
   | 1,_,hu=>simp only [List.getElem?_cons_succ,List.getElem?_cons_zero] at hu
             rw [cell_set_off (by omega),cell_set_same ((cell_set_off (by omega)).trans h1),hu]
   | 2,_,hu=>simp only [List.getElem?_cons_succ,List.getElem?_cons_zero] at hu
             rw [cell_set_same ((cell_set_off (by omega)).trans ((cell_set_off (by omega)).trans h2)),hu]
 ·intro m a' c' d' hm hl'
  obtain ⟨t0,t1,t2⟩:=h.todo m a' c' d' (by omega) hl'
  refine ⟨?_,?_,?_⟩
  ·rw [cell_set_off (by omega),cell_set_off (by omega),cell_set_off (by omega)];exact t0
  ·rw [cell_set_off (by omega),cell_set_off (by omega),cell_set_off (by omega)];exact t1
  ·rw [cell_set_off (by omega),cell_set_off (by omega),cell_set_off (by omega)];exact t2
theorem filter_none {q:H3->Bool} {l:List H3} (h:∀x∈l,q x=false):l.filter (fun h=> !q h)=l:=by
 rw [List.filter_eq_self]
 intro x hx
 rw [h x hx];rfl
theorem del_any {g:Nat} {lb:Array Value} {q:H3->Bool} {C:World->Prop} (hp:PredIs g lb q C) (hv:Value) (B:Nat) (l:List H3) (w:World) (hown:w.ownsRow B 120 3 hv l.length (flat3 l)) (hs:l.length<2 ^ 62) (hC:C w) (hset:∀W k o u,hv.ownBlock=some k->C W->C (W.setCell ⟨k,o,none⟩ u)):
 Calls Tryz.prog 194 #[hv,.func (.func g) #[] lb] w fun e w'=>(∃hv',e=.returned hv'∧w'.ownsRow B 120 3 hv' (l.filter (fun h=> !q h)).length (flat3 (l.filter (fun h=> !q h)))∧∀k,hv'.ownBlock=some k->hv.ownBlock=some k)∧Save (fun k=>hv.ownBlock=some k) w w':=by
 obtain ⟨ga,cap,rfl,hA,_⟩:=holds_of_own hown
 have eg:=hp.enters
 have HI:=idx_any hp ga l.length cap l w hA rfl hs hC
 go_enter Tryz.func194,Tryz.ntmps194
 go_wp2_with fail
 refine HI.mono ?_
 rintro e w1 ⟨⟨r,rfl,hr⟩,hb1⟩
 have HO:Hid (w.ownsRow B 120 3 (.slice ga l.length cap) l.length (flat3 l)):=hown
 clear HI hown
 rcases hr with ⟨rfl,hall⟩ | ⟨k,x,rfl,hx,hqx,hall⟩
 ·go_wp2_with fail
  go_ret
  exact ⟨⟨_,rfl,by rw [filter_none hall];exact own_next HO.out hb1,fun k hk=>hk⟩,.of_below hb1⟩
 ·have hk:=(List.getElem?_eq_some_iff.1 hx).1
  obtain ⟨a0,c0,d0⟩:=x
  obtain ⟨gb,off,rfl,hgb,_⟩:=hA k a0 c0 d0 hx
  obtain ⟨rfl⟩:off=0:=by
   rcases HO.out.2 with ⟨e1,_⟩ | ⟨g',cap',cur,e1,_⟩
   ·simp at e1
   ·simp at e1;exact e1.1.2
  obtain ⟨hB,hrow,hnc,hcm,hcell⟩:=own_row HO.out
  have hne1:((k:Int) == -1)=false:=beq_eq_false_iff_ne.2 (by omega)
  have e0:(l.take k).filter (fun h=> !q h)=l.take k:=filter_none hall
  have hK0:Kept q l gb cap (k+1) k w1:=by
   have hk1:Kept q l gb cap k k w:=by
    refine ⟨hrow,by rw [e0,List.length_take];omega,?_,?_⟩
    ·rw [e0]
     intro t u hu
     refine hcell t u ?_
     have e:flat3 l=flat3 (l.take k)++flat3 (l.drop k):=by rw [<-flat3_append,List.take_append_drop]
     rw [e,List.getElem?_append_left (List.getElem?_eq_some_iff.1 hu).1]
     exact hu
    ·intro m a c d _ hl
     obtain ⟨f0,f1,f2⟩:=flat3_at l m a c d hl
     exact ⟨hcell _ _ f0,hcell _ _ f1,hcell _ _ f2⟩
   exact (hk1.skip hx hqx).next hb1
  have HC1:Hid (C w1):=hp.keeps _ _ hC hb1
  have hS1:Save (fun k=>(Value.slice (some ⟨gb,0,none⟩) l.length cap).ownBlock=some k) w w1:=.of_below hb1
  have hgO:(Value.slice (some ⟨gb,0,none⟩) l.length cap).ownBlock=some gb:=rfl
  have hlen:(l.length:Int)<2 ^ 62:=by omega
  have hbp:0<=(k:Int):=by omega
  have hkl:(k:Int)<(l.length:Int):=by omega
  clear hcell hrow hb1 hA hall hqx hC e0
  go_wp2_with fail
  go_loopg [5,6,7] l.length (fun gg s5 s6 _ wr=>∃(i j:Nat),s5=.int .i64 i∧s6=.int .i64 j∧j<=l.length∧l.length - j<=gg∧i<j∧Kept q l gb cap j i wr∧Hid (C wr)∧Save (fun k=>(Value.slice (some ⟨gb,0,none⟩) l.length cap).ownBlock=some k) w wr)
  case atStart=>exact ⟨k,k+1,rfl,by simp,by omega,by omega,by omega,hK0,HC1,hS1⟩
  case round=>
   obtain ⟨i,j,rfl,rfl,hj,hgg,hij,hK,HC,hS⟩:=hrel
   clear hK0 HC1 hS1
   by_cases hlt:j<l.length
   ·obtain ⟨⟨a,c,d⟩,hjl⟩:∃x,l[j]?=some x:=⟨_,List.getElem?_eq_getElem (by omega)⟩
    obtain ⟨p0,p1,p2⟩:=hK.todo j a c d (Nat.le_refl _) hjl
    have j0:(0:Int)<=(j:Int):=by omega
    have j1:(j:Int)<(l.length:Int):=by omega
    have i0:(0:Int)<=(i:Int):=by omega
    have i1:(i:Int)<(l.length:Int):=by omega
    have hgl:=hK.row.lt
    have hnew:Below wr.heap.size wr (wr.alloc (.cells #[.int .i64 a,.int .i64 c,.int .i64 d] 120)):=(Below.refl _ _).alloc (Nat.le_refl _) _
    have HP:Hid _:=hp.says _ a c d (hp.keeps _ _ HC.out hnew)
    have hK1:=hK.next hnew
    have HC1:Hid (C (wr.alloc (.cells #[.int .i64 a,.int .i64 c,.int .i64 d] 120))):=hp.keeps _ _ HC.out hnew
    have hS1:=hS.next hnew
    have hX1:=BoxAt.new wr [.int .i64 a,.int .i64 c,.int .i64 d] 120
    clear hnew
    cases hq:q (a,c,d)
    ·rw [hq] at HP
     have HQ:Hid _:=hq
     clear hq
     go_wp2_with fail
     refine Calls.mono HP.out ?_
     rintro e w2 ⟨rfl,hb2⟩
     have hK2:=hK1.next hb2
     have HC2:Hid (C w2):=hp.keeps _ _ HC1.out hb2
     have hS2:=hS1.next hb2
     have hX2:=hX1.next hb2
     have x0:=hX2.2 0 _ rfl
     have x1:=hX2.2 1 _ rfl
     have x2:=hX2.2 2 _ rfl
     clear hK1 HC1 hS1 hX1 hb2 HP p0 p1 p2 hK HC hS
     have hfr:=hK2.row.loose
     obtain ⟨u0,q0⟩:∃u,w2.cell? ⟨gb,i * 3,none⟩=some u:=Option.isSome_iff_exists.1 (hK2.row.some (by omega))
     obtain ⟨u1,q1⟩:∃u,w2.cell? ⟨gb,i * 3+1,none⟩=some u:=Option.isSome_iff_exists.1 (hK2.row.some (by omega))
     obtain ⟨u2,q2⟩:∃u,w2.cell? ⟨gb,i * 3+2,none⟩=some u:=Option.isSome_iff_exists.1 (hK2.row.some (by omega))
     go_wp2_with fail
     go_roundg (l.length - (j+1))
     case measure=>omega
     case rel=>
      refine ⟨i+1,j+1,by simp,by simp,by omega,Nat.le_refl _,by omega,hK2.keep hjl HQ.out (by omega),?_,?_⟩
      ·show C _
       exact hset _ gb _ _ rfl (hset _ gb _ _ rfl (hset _ gb _ _ rfl HC2.out))
      ·exact hS2.set3 gb hgO _ _ _ _ _ _
    ·rw [hq] at HP
     have HQ:Hid _:=hq
     clear hq
     go_wp2_with fail
     refine Calls.mono HP.out ?_
     rintro e w2 ⟨rfl,hb2⟩
     go_wp2_with fail
     go_roundg (l.length - (j+1))
     case measure=>omega
     case rel=>exact ⟨i,j+1,rfl,by simp,by omega,Nat.le_refl _,by omega,(hK1.next hb2).skip hjl HQ.out,hp.keeps _ _ HC1.out hb2,hS1.next hb2⟩
   ·have hjj:j=l.length:=by omega
    subst hjj
    have hx1:∀ty,(Builtin.clear_ #[116] ty #[.slice (some ⟨gb,i * 3,none⟩) (l.length - i) (cap - i)]).run Tryz.prog wr=.ok (.tuple #[]) (wr.setCells gb (i * 3) (zeros (l.length - i))):=fun ty=>run_clear3 wr ty gb (i * 3) _ _ (fun t ht=>hK.row.some (by omega)) (fun t ht=>hK.row.loose _)
    have hil:i<=l.length:=by omega
    have hic:i<=cap:=by omega
    have hni:¬cap=i:=by omega
    have i0:(0:Int)<=(i:Int):=by omega
    have i1:(i:Int)<=(l.length:Int):=by omega
    have i2:(i:Int)<=(cap:Int):=by omega
    have i3:(l.length:Int)<=(cap:Int):=by omega
    go_wp2_with fail
    go_ret
    refine ⟨⟨_,rfl,?_,fun k hk=>hk⟩,hS.setCells gb (fun _=>hgO) _ _ _⟩
    have hl:=hK.len
    have hd:=hK.done
    rw [List.take_of_length_le (Nat.le_refl _)] at hl hd
    rw [<-hl]
    refine row_own (Row.setCells gb _ _ _ hK.row) hB hic hcm (by rw [flat3_length,<-hl]) (fun t u hu=>?_)
    have ht:=(List.getElem?_eq_some_iff.1 hu).1
    rw [flat3_length,<-hl] at ht
    rw [World.cell?_setCells_out gb _ _ _ _ (fun _ _=>.inl ht)]
    exact hd t u hu
theorem isDeal_no (n:Int) (w:World) (h:n<0∨8<=n):Calls Tryz.prog 190 #[.int .i64 n] w fun e w'=>e=.returned (.bool false)∧w'=w:=by
 rcases h with h | h
 ·have h':¬0<=n:=by omega
  go_enter Tryz.func190,Tryz.ntmps190
  go_wp2_with fail
  go_ret
  exact ⟨rfl,rfl⟩
 ·have h':0<=n:=by omega
  have h'':¬n<8:=by omega
  go_enter Tryz.func190,Tryz.ntmps190
  go_wp2_with fail
  go_ret
  exact ⟨rfl,rfl⟩
theorem isDeal_yes (n:Int) (w:World) (h0:0<=n) (h8:n<8):Calls Tryz.prog 190 #[.int .i64 n] w fun e w'=>e=.returned (.bool true)∧w'=w:=by
 go_enter Tryz.func190,Tryz.ntmps190
 go_wp2_with fail
 go_ret
 exact ⟨rfl,rfl⟩
theorem place_even (k:Nat) (w:World) (h:k<3):Calls Tryz.prog 192 #[.int .i64 ((k:Int) * 2)] w fun e w'=>e=.returned (.int .i64 0)∧w'=w:=by
 have:k=0∨k=1∨k=2:=by omega
 rcases this with rfl | rfl | rfl
 all_goals
  go_enter Tryz.func192,Tryz.ntmps192
  go_wp2_with fail
  go_ret
  exact ⟨rfl,rfl⟩
theorem place_odd (k:Nat) (w:World) (h:k<3):Calls Tryz.prog 192 #[.int .i64 ((k:Int) * 2+1)] w fun e w'=>e=.returned (.int .i64 1)∧w'=w:=by
 have:k=0∨k=1∨k=2:=by omega
 rcases this with rfl | rfl | rfl
 all_goals
  go_enter Tryz.func192,Tryz.ntmps192
  go_wp2_with fail
  go_ret
  exact ⟨rfl,rfl⟩
theorem place_any (n c:Int) (w:World) (h0:0<=n) (h3:n<3) (hc:c=n * 2∨c=n * 2+1):Calls Tryz.prog 192 #[.int .i64 c] w fun e w'=>e=.returned (.int .i64 (c - n * 2))∧w'=w:=by
 obtain ⟨k,rfl⟩:=Int.eq_ofNat_of_zero_le h0
 rcases hc with rfl | rfl
 ·have:=place_even k w (by omega)
  rwa [show (k:Int) * 2 - (k:Int) * 2=0 by omega]
 ·have:=place_odd k w (by omega)
  rwa [show (k:Int) * 2+1 - (k:Int) * 2=1 by omega]
def chkS (no:Int) (es:List (Int × Bool)) (deal c d:Int):Int:=
 if deal<0 then 1 else if 8<=deal then 1 else if wnt c d=0 then (if shp c=no then (if ovB es deal=true then 8 else 0) else 1) else wnt c d
theorem scheck_any (p:Nat) (no:Int) (es:List (Int × Bool)) (deal c d:Int) (w:World) (hlt:p<w.heap.size) (h0:w.cell? ⟨p,0,none⟩=some (.int .i64 no)) (hov:∀k:Nat,k<8->w.cell? ⟨p,8+k * 2,none⟩=some (.bool (ovB es k))):
 Calls Tryz.prog 186 #[.pointer (some ⟨p,0,none⟩),.int .i64 deal,.agg #[.int .i64 c,.int .i64 d]] w fun e w'=>e=.returned (.int .i64 (chkS no es deal c d))∧Below w.heap.size w w':=by
 have hne:p ≠ w.heap.size:=by omega
 by_cases hd:deal<0∨8<=deal
 ·have e1:chkS no es deal c d=1:=by
   unfold chkS
   repeat' split
   all_goals first | rfl | omega
  rw [e1]
  clear e1
  go_enter Tryz.func186,Tryz.ntmps186
  go_wp2_with fail
  refine (isDeal_no _ _ hd).mono ?_
  rintro e w1 ⟨rfl,rfl⟩
  go_wp2_with fail
  go_ret
  exact ⟨rfl,by go_grown⟩
 ·have d0:0<=deal:=by omega
  have d8:deal<8:=by omega
  by_cases hw:wnt c d=0
  ·by_cases hs:shp c=no
   ·obtain ⟨n,rfl⟩:=Int.eq_ofNat_of_zero_le d0
    have hn:n<8:=by omega
    have HV:=hov n hn
    have hsn:(shp c != no)=false:=by simp [hs]
    cases hb:ovB es n
    all_goals
     first
      | (have e1:chkS no es n c d=8:=by
          unfold chkS
          rw [if_neg (by omega),if_neg (by omega),if_pos hw,if_pos hs,if_pos hb]
         rw [e1]
         clear e1)
      | (have e1:chkS no es n c d=0:=by
          unfold chkS
          rw [if_neg (by omega),if_neg (by omega),if_pos hw,if_pos hs,if_neg (by rw [hb];decide)]
         rw [e1]
         clear e1)
     have HW:Hid _:=hw
     rw [hb] at HV
     clear hb hov hs hw hd
     go_enter Tryz.func186,Tryz.ntmps186
     go_wp2_with fail
     refine (isDeal_yes _ _ d0 d8).mono ?_
     rintro e w1 ⟨rfl,rfl⟩
     go_wp2_with fail
     refine (want_any _ _ _).mono ?_
     rw [HW.out]
     rintro e w1 ⟨rfl,hb1⟩
     have hX:=(BoxAt.new w [.int .i64 c,.int .i64 d] 97).next hb1
     have x0:=hX.2 0 _ rfl
     have hb2:Below w.heap.size w w1:=after (by go_grown) hb1 (by simp)
     have q0:w1.cell? ⟨p,0,none⟩=some (.int .i64 no):=(hb2.cell (p:=⟨p,0,none⟩) hlt).trans h0
     have q1:=(hb2.cell (p:=⟨p,8+n * 2,none⟩) hlt).trans HV
     clear hb1 hX HV h0
     go_wp2_with fail
     go_quiet ((go_at_call 144;exact Calls.quiet_of_same (shop_any _ _)))
     go_wp2_with fail
     go_ret
     exact ⟨rfl,bdrewN hb2 _⟩
   ·have e1:chkS no es deal c d=1:=by
     unfold chkS
     rw [if_neg (by omega),if_neg (by omega),if_pos hw,if_neg hs]
    rw [e1]
    have HW:Hid _:=hw
    have hsn:(shp c != no)=true:=by simpa using hs
    clear e1 hd hov hs hw
    go_enter Tryz.func186,Tryz.ntmps186
    go_wp2_with fail
    refine (isDeal_yes _ _ d0 d8).mono ?_
    rintro e w1 ⟨rfl,rfl⟩
    go_wp2_with fail
    refine (want_any _ _ _).mono ?_
    rw [HW.out]
    rintro e w1 ⟨rfl,hb1⟩
    have hX:=(BoxAt.new w [.int .i64 c,.int .i64 d] 97).next hb1
    have x0:=hX.2 0 _ rfl
    have hb2:Below w.heap.size w w1:=after (by go_grown) hb1 (by simp)
    have q0:w1.cell? ⟨p,0,none⟩=some (.int .i64 no):=(hb2.cell (p:=⟨p,0,none⟩) hlt).trans h0
    clear hb1 hX h0
    go_wp2_with fail
    go_quiet ((go_at_call 144;exact Calls.quiet_of_same (shop_any _ _)))
    go_wp2_with fail
    go_ret
    exact ⟨rfl,bdrewN hb2 _⟩
  ·have e1:chkS no es deal c d=wnt c d:=by
    unfold chkS
    rw [if_neg (by omega),if_neg (by omega),if_neg hw]
   rw [e1]
   have hwn:(wnt c d != 0)=true:=by simpa using hw
   clear e1 hd hov hw
   go_enter Tryz.func186,Tryz.ntmps186
   go_wp2_with fail
   refine (isDeal_yes _ _ d0 d8).mono ?_
   rintro e w1 ⟨rfl,rfl⟩
   go_wp2_with fail
   refine (want_any _ _ _).mono ?_
   rintro e w1 ⟨rfl,hb1⟩
   go_wp2_with fail
   go_ret
   exact ⟨rfl,after (by go_grown) hb1 (by simp)⟩
theorem ShopRaw.congr {w:World} {p:Nat} {no:Int} {c c':Nat->Int} {hv:Value} {ov dn ov' dn':Nat->Bool} (h:ShopRaw w p no c hv ov dn) (hc:∀j,j<6->c j=c' j) (ho:∀d,d<8->ov d=ov' d) (hd:∀d,d<8->dn d=dn' d):ShopRaw w p no c' hv ov' dn':=
 ⟨h.lt,h.no,fun j hj=>by rw [<-hc j hj];exact h.cs j hj,h.hv,fun d hd'=>by rw [<-ho d hd'];exact h.ov d hd',fun d hd'=>by rw [<-hd d hd'];exact h.dn d hd',h.loose⟩
def upd3 (c:Nat->Int) (m:Nat) (a b e:Int):Nat->Int:=upd (upd (upd c (m * 3) a) (m * 3+1) b) (m * 3+2) e
theorem ShopRaw.set3 {w:World} {p:Nat} {no:Int} {c:Nat->Int} {hv:Value} {ov dn:Nat->Bool} (h:ShopRaw w p no c hv ov dn) (m:Nat) (hm:m<2) (a b e:Int):
 ShopRaw (((w.setCell ⟨p,1+m * 3,none⟩ (.int .i64 a)).setCell ⟨p,1+m * 3+1,none⟩ (.int .i64 b)).setCell ⟨p,1+m * 3+2,none⟩ (.int .i64 e)) p no (upd3 c m a b e) hv ov dn:=
 ((h.setC (m * 3) (by omega) a).setC (m * 3+1) (by omega) b).setC (m * 3+2) (by omega) e
theorem ShopRaw.c3 {w:World} {p:Nat} {no:Int} {c:Nat->Int} {hv:Value} {ov dn:Nat->Bool} (h:ShopRaw w p no c hv ov dn) (m:Nat) (hm:m<2):
 w.cell? ⟨p,1+m * 3,none⟩=some (.int .i64 (c (m * 3)))∧w.cell? ⟨p,1+m * 3+1,none⟩=some (.int .i64 (c (m * 3+1)))∧w.cell? ⟨p,1+m * 3+2,none⟩=some (.int .i64 (c (m * 3+2))):=
 ⟨h.cs (m * 3) (by omega),h.cs (m * 3+1) (by omega),h.cs (m * 3+2) (by omega)⟩
theorem cnt6_at (A:Bk) (m:Nat) (hm:m<2):cnt6 A (m * 3)=A.val m∧cnt6 A (m * 3+1)=A.out m∧cnt6 A (m * 3+2)=A.inn m:=by
 have:m=0∨m=1:=by omega
 rcases this with rfl | rfl
 ·exact ⟨rfl,by show outs _ _=outs _ _;congr 1;omega,by show inns _ _=inns _ _;congr 1;omega⟩
 ·exact ⟨rfl,rfl,rfl⟩
theorem cnt6_of (A A':Bk) (m:Nat) (hm:m<2) (a b e:Int) (h0:A'.val m=a) (h1:A'.out m=b) (h2:A'.inn m=e) (ho:∀k,k<2->k ≠ m->A'.val k=A.val k∧A'.out k=A.out k∧A'.inn k=A.inn k):∀j,j<6->upd3 (cnt6 A) m a b e j=cnt6 A' j:=by
 intro j hj
 obtain ⟨k,s,hk,hs,rfl⟩:∃k s,k<2∧s<3∧j=k * 3+s:=⟨j / 3,j % 3,by omega,by omega,by omega⟩
 obtain ⟨a0,a1,a2⟩:=cnt6_at A' k hk
 obtain ⟨b0,b1,b2⟩:=cnt6_at A k hk
 by_cases e1:k=m
 ·subst e1
  match s,hs with
  | 0,_=>rw [show k * 3+0=k * 3 from rfl,a0,h0];simp [upd3,upd]
  | 1,_=>rw [a1,h1];simp [upd3,upd]
  | 2,_=>rw [a2,h2];simp [upd3,upd]
 ·obtain ⟨o0,o1,o2⟩:=ho k hk e1
  have q:upd3 (cnt6 A) m a b e (k * 3+s)=cnt6 A (k * 3+s):=by
   unfold upd3 upd
   rw [if_neg (by omega),if_neg (by omega),if_neg (by omega)]
  rw [q]
  match s,hs with
  | 0,_=>rw [show k * 3+0=k * 3 from rfl,a0,b0,o0]
  | 1,_=>rw [a1,b1,o1]
  | 2,_=>rw [a2,b2,o2]
def addB (A:Bk) (code deal c d:Int):Bk:=if code=0 then { A with hs:=A.hs++[(deal,c,d)] } else A
def more1 (A:Bk) (deal c d:Int):Bk:={ A with hs:=A.hs++[(deal,c,d)] }
theorem more1_out (A:Bk) (deal c d:Int) (k:Nat):(more1 A deal c d).out k=A.out k+outOf (deal,c,d) (A.no * 2+k)∧(more1 A deal c d).inn k=A.inn k+innOf (deal,c,d) (A.no * 2+k)∧(more1 A deal c d).val k=A.val k:=by
 refine ⟨?_,?_,by cases k <;> rfl⟩
 ·show outs (A.hs++_) _=_;rw [outs_append];simp [outs,Bk.out,more1]
 ·show inns (A.hs++_) _=_;rw [inns_append];simp [inns,Bk.inn,more1]
theorem more1_cnt (A:Bk) (deal d:Int) (m:Nat) (hm:m<2) (h:hC (A.val m) (A.out m) (A.inn m) d=0):
 ∀j,j<6->upd3 (cnt6 A) m (hV (A.val m) (A.out m) (A.inn m) d) (hO (A.val m) (A.out m) (A.inn m) d) (hI (A.val m) (A.out m) (A.inn m) d) j=cnt6 (more1 A deal (A.no * 2+m) d) j:=by
 obtain ⟨_,n0,n1,n2,hw⟩:=hold_zero h
 obtain ⟨m1,m2,m3⟩:=more1_out A deal (A.no * 2+m) d m
 refine cnt6_of A _ m hm _ _ _ ?_ ?_ ?_ ?_
 ·rw [m3]
  rcases hw with ⟨_,_,e,_⟩ | ⟨_,_,e,_⟩ <;> rw [e]
 ·rw [m1]
  rcases hw with ⟨hn,_,_,e,_⟩ | ⟨hn,_,_,e,_⟩
  ·rw [e];simp only [outOf,if_true,if_pos hn];omega
  ·rw [e];simp only [outOf,if_true];rw [if_neg (by omega)];omega
 ·rw [m2]
  rcases hw with ⟨hn,_,_,_,e⟩ | ⟨hn,_,_,_,e⟩
  ·rw [e];simp only [innOf,if_true,if_pos hn];omega
  ·rw [e];simp only [innOf,if_true];rw [if_neg (by omega)]
 ·intro k hk hne
  obtain ⟨k1,k2,k3⟩:=more1_out A deal (A.no * 2+m) d k
  have q:¬(A.no * 2+(m:Int)=A.no * 2+(k:Int)):=by omega
  refine ⟨k3,?_,?_⟩
  ·rw [k1];simp only [outOf,if_neg q];omega
  ·rw [k2];simp only [innOf,if_neg q];omega
theorem infoHold:(Tryz.prog.info? 120).map (fun i=>(i.zero,i.size,i.bytes))=some (some (.agg #[.int .i64 0,.int .i64 0,.int .i64 0]),3,24):=by kernel_rfl
theorem hold_lies {W:World} {H:Nat} {x y z:Value} (h0:W.cell? ⟨H,0,none⟩=some x) (h1:W.cell? ⟨H,1,none⟩=some y) (h2:W.cell? ⟨H,2,none⟩=some z):∀j u,[x,y,z][j]?=some u->W.cell? ((⟨H,0,none⟩:Addr).add j)=some u:=by
 intro j u hj
 match j,hj with
 | 0,hj=>simp at hj;subst hj;simpa [Addr.add] using h0
 | 1,hj=>simp at hj;subst hj;simpa [Addr.add] using h1
 | 2,hj=>simp at hj;subst hj;simpa [Addr.add] using h2
 | j+3,hj=>simp at hj
theorem hold_cell {a c d:Int}:∀u∈[Value.int .i64 a,.int .i64 c,.int .i64 d],u.oneCell'=true:=by
 intro u hu
 simp only [List.mem_cons,List.not_mem_nil,or_false] at hu
 rcases hu with rfl | rfl | rfl <;> rfl
theorem box_three {W:World} {H:Nat} {x y z:Value} (hl:H<W.heap.size) (h0:W.cell? ⟨H,0,none⟩=some x) (h1:W.cell? ⟨H,1,none⟩=some y) (h2:W.cell? ⟨H,2,none⟩=some z):BoxAt W H [x,y,z]:=by
 refine ⟨hl,fun j u hj=>?_⟩
 match j,hj with
 | 0,hj=>simp at hj;subst hj;exact h0
 | 1,hj=>simp at hj;subst hj;exact h1
 | 2,hj=>simp at hj;subst hj;exact h2
 | j+3,hj=>simp at hj
theorem own_slice {w:World} {B e s n:Nat} {v:Value} {xs:List Value} (h:w.ownsRow B e s v n xs):∃ga cap,v=.slice ga n cap:=by
 rcases h.2 with ⟨e1,e0⟩ | ⟨g,cap,cur,e1,_⟩
 ·exact ⟨none,0,by rw [e1,e0]⟩
 ·exact ⟨_,cap,e1⟩
theorem add_any (O:Nat->Prop) (A:Bk) (p:Nat) (deal d:Int) (m:Nat) (hm:m<2) (w:World) (h:ShopIn O w p A) (n0:0<=A.no) (n3:A.no<3) (hlen:A.hs.length<2 ^ 40):
 Calls Tryz.prog 189 #[.pointer (some ⟨p,0,none⟩),.agg #[.int .i64 deal,.int .i64 (A.no * 2+m),.int .i64 d]] w fun e w'=>e=.returned (.int .i64 (hC (A.val m) (A.out m) (A.inn m) d))∧∃O',ShopIn O' w' p (addB A (hC (A.val m) (A.out m) (A.inn m) d) deal (A.no * 2+m) d)∧Save O w w'∧Moved O O' w:=by
 obtain ⟨i0,hi,hz0,hz1,hz2⟩:=info_parts infoHold
 obtain ⟨hv,hR,hown,hsub⟩:=h.raw
 have HOwn:Hid (∀k,O k->k<w.heap.size):=h.own
 have HMine:Hid (O p):=h.mine
 have HIn:Hid (ShopIn O w p A):=h
 have HRow:Hid (w.ownsRow (p+1) 120 3 hv A.hs.length (flat3 A.hs)):=hown
 have HSub:Hid (∀k,hv.ownBlock=some k->O k):=hsub
 obtain ⟨e0,e1,e2⟩:=cnt6_at A m hm
 obtain ⟨c0,c1,c2⟩:=hR.c3 m hm
 rw [e0] at c0
 rw [e1] at c1
 rw [e2] at c2
 have HC:Hid _:=more1_cnt A deal d m hm
 have HH:=holdIs (A.val m) (A.out m) (A.inn m) d
 have hlt:=hR.lt
 have hne:p ≠ w.heap.size:=by omega
 generalize hq:A.no * 2+(m:Int)=c at HC ⊢
 have hc:c=A.no * 2∨c=A.no * 2+1:=by omega
 have hcm:c - A.no * 2=m:=by omega
 generalize A.val m=v at c0 HC HH ⊢
 generalize A.out m=o at c1 HC HH ⊢
 generalize A.inn m=i at c2 HC HH ⊢
 have m0:(0:Int)<=(m:Int):=by omega
 have m2:(m:Int)<2:=by omega
 have HRaw:Hid (ShopRaw w p A.no (cnt6 A) hv (fun d=>ovB A.es d) (fun d=>dnB A.es d)):=hR
 clear h hown hsub hR hq e0 e1 e2
 go_enter Tryz.func189,Tryz.ntmps189
 go_wp2_with fail
 refine (place_any A.no c _ n0 n3 hc).mono ?_
 rw [hcm]
 rintro e w1 ⟨rfl,rfl⟩
 have hX1:=BoxAt.new w [.int .i64 deal,.int .i64 c,.int .i64 d] 120
 have hb1:Below w.heap.size w (w.alloc (.cells #[.int .i64 deal,.int .i64 c,.int .i64 d] 120)):=(Below.refl _ _).alloc (Nat.le_refl _) _
 have hz:(w.alloc (.cells #[.int .i64 deal,.int .i64 c,.int .i64 d] 120)).heap.size=w.heap.size+1:=by simp
 generalize (w.alloc (.cells #[.int .i64 deal,.int .i64 c,.int .i64 d] 120))=W1 at hX1 hb1 hz ⊢
 have k0:W1.cell? ⟨p,1+m * 3,none⟩=some (.int .i64 v):=(hb1.cell (p:=⟨p,_,none⟩) hlt).trans c0
 have k1:W1.cell? ⟨p,1+m * 3+1,none⟩=some (.int .i64 o):=(hb1.cell (p:=⟨p,_,none⟩) hlt).trans c1
 have k2:W1.cell? ⟨p,1+m * 3+2,none⟩=some (.int .i64 i):=(hb1.cell (p:=⟨p,_,none⟩) hlt).trans c2
 have x2:=hX1.2 2 _ rfl
 have hp1:p<W1.heap.size:=by omega
 have hw1:w.heap.size<W1.heap.size:=by omega
 have HZ1:Hid _:=hz
 clear c0 c1 c2 hcm hz
 go_upto_region 2 with fail
 go_cut [6,7] (fun s6 s7 wx=>∃nb,s6=.pointer (some ⟨nb,0,none⟩)∧s7=.int .i64 (hC v o i d)∧BoxAt wx nb [.int .i64 (hV v o i d),.int .i64 (hO v o i d),.int .i64 (hI v o i d)]∧W1.heap.size<=nb∧Below W1.heap.size W1 wx)
 case first=>
  have HK:Hid (∀w',Below W1.heap.size W1 w'->w'.cell? ⟨p,1+m * 3,none⟩=some (.int .i64 v)∧w'.cell? ⟨p,1+m * 3+1,none⟩=some (.int .i64 o)∧w'.cell? ⟨p,1+m * 3+2,none⟩=some (.int .i64 i)∧w'.cell? ⟨w.heap.size,2,none⟩=some (.int .i64 d)∧Below W1.heap.size W1 w'):=fun w' hb=>
   ⟨((bcell hb).1 _ _ hp1).trans k0,((bcell hb).1 _ _ hp1).trans k1,((bcell hb).1 _ _ hp1).trans k2,((bcell hb).1 _ _ hw1).trans x2,hb⟩
  clear hX1 hb1
  go_region_held3 (fun w'=>w'.cell? ⟨p,1+m * 3,none⟩=some (.int .i64 v)∧w'.cell? ⟨p,1+m * 3+1,none⟩=some (.int .i64 o)∧w'.cell? ⟨p,1+m * 3+2,none⟩=some (.int .i64 i)∧w'.cell? ⟨w.heap.size,2,none⟩=some (.int .i64 d)∧Below W1.heap.size W1 w')
   (first | exact HK.out _ (by go_grown))
   (first | (go_at_call 195;refine (HH _).mono ?_;rintro e w9 ⟨rfl,hb9⟩;have hw9:Below W1.heap.size W1 w9:=after (by go_grown) hb9 (by simp <;> omega);have hz9:W1.heap.size<=w9.heap.size:=hw9.size;have hy9:=hb9.size;simp [Nat.add_one_le_iff] at hy9;obtain ⟨hc9,hf9⟩:=bcell hb9))
  all_goals
   clear HK
   go_wp2_with fail
   go_meet
   case rel=>
    refine ⟨_,rfl,rfl,?_,?_,?_⟩
    ·refine box_three ?_ ?_ ?_ ?_
     ·have:=hb9.size
      simp at this ⊢
      try omega
     all_goals simp [go_sem,hc9]
    ·first | exact Nat.le_refl _ | (simp;omega) | omega
    ·go_grown
 case rest=>
  obtain ⟨nb,rfl,rfl,hC6,hnb,hb2⟩:=hcut
  have hb3:Below w.heap.size w wc:=hb1.trans (hb2.mono (by omega))
  have hX2:=hX1.next hb2
  have hR2:=HRaw.out.next hb3
  have HRow2:Hid (wc.ownsRow (p+1) 120 3 hv A.hs.length (flat3 A.hs)):=own_next HRow.out hb3
  have hzc:=hb3.size
  clear HRaw HRow k0 k1 k2 x2 hX1 hb1 hb2
  by_cases hz:hC v o i d=0
  ·have hz':(hC v o i d != 0)=false:=by simp [hz]
   have HZ:Hid _:=hz
   clear hz
   have y0:=hC6.2 0 _ rfl
   have y1:=hC6.2 1 _ rfl
   have y2:=hC6.2 2 _ rfl
   obtain ⟨k0,k1,k2⟩:=hR2.c3 m hm
   have hfr:=hR2.loose
   have hpn:p ≠ nb:=by omega
   go_wp2_with fail
   go_region
   have hR3:=(hR2.set3 m hm (hV v o i d) (hO v o i d) (hI v o i d)).next ((Below.refl _ _).drew)
   have hS3:Save O w (((wc.setCell ⟨p,1+m * 3,none⟩ (.int .i64 (hV v o i d))).setCell ⟨p,1+m * 3+1,none⟩ (.int .i64 (hO v o i d))).setCell ⟨p,1+m * 3+2,none⟩ (.int .i64 (hI v o i d))).drew:=((Save.of_below hb3).set3 p HMine.out _ _ _ _ _ _).next ((Below.refl _ _).drew)
   have HRow3:Hid ((((wc.setCell ⟨p,1+m * 3,none⟩ (.int .i64 (hV v o i d))).setCell ⟨p,1+m * 3+1,none⟩ (.int .i64 (hO v o i d))).setCell ⟨p,1+m * 3+2,none⟩ (.int .i64 (hI v o i d))).drew.ownsRow (p+1) 120 3 hv A.hs.length (flat3 A.hs)):=
    own_next (ownsRow_setCell_below (ownsRow_setCell_below (ownsRow_setCell_below HRow2.out (Nat.lt_succ_self p) _) (Nat.lt_succ_self p) _) (Nat.lt_succ_self p) _) ((Below.refl _ _).drew)
   have hX3:BoxAt (((wc.setCell ⟨p,1+m * 3,none⟩ (.int .i64 (hV v o i d))).setCell ⟨p,1+m * 3+1,none⟩ (.int .i64 (hO v o i d))).setCell ⟨p,1+m * 3+2,none⟩ (.int .i64 (hI v o i d))).drew w.heap.size [.int .i64 deal,.int .i64 c,.int .i64 d]:=
    ⟨by simpa using hX2.1,fun j u hj=>by
     show ((((wc.setCell ⟨p,1+m * 3,none⟩ (.int .i64 (hV v o i d))).setCell ⟨p,1+m * 3+1,none⟩ (.int .i64 (hO v o i d))).setCell ⟨p,1+m * 3+2,none⟩ (.int .i64 (hI v o i d)))).cell? _=_
     rw [cell_set_block (by omega),cell_set_block (by omega),cell_set_block (by omega)];exact hX2.2 j u hj⟩
   generalize (((wc.setCell ⟨p,1+m * 3,none⟩ (.int .i64 (hV v o i d))).setCell ⟨p,1+m * 3+1,none⟩ (.int .i64 (hO v o i d))).setCell ⟨p,1+m * 3+2,none⟩ (.int .i64 (hI v o i d))).drew=W3 at hR3 hS3 HRow3 hX3 ⊢
   have g0:=hR3.hv
   have x0:=hX3.2 0 _ rfl
   have x1:=hX3.2 1 _ rfl
   have x2:=hX3.2 2 _ rfl
   have hp3:=hR3.lt
   have hl3:=hX3.1
   have hf3:=hR3.loose
   have HR3:Hid (ShopRaw W3 p A.no (upd3 (cnt6 A) m (hV v o i d) (hO v o i d) (hI v o i d)) hv (fun d=>ovB A.es d) (fun d=>dnB A.es d)):=hR3
   have HS3:Hid (Save O w W3):=hS3
   clear hR3 hS3 HRow2 hR2 hX2 hX3 hC6 hfr k0 k1 k2 y0 y1 y2 hb3
   have HN1:Hid (some p ≠ hv.ownBlock):=fun e=>by have:=(HRow3.out.lt p e.symm).1;omega
   have HN2:Hid (some w.heap.size ≠ hv.ownBlock):=fun e=>by have:=HOwn.out _ (HSub.out _ e.symm);omega
   go_upto_region 6 with fail
   go_region_law
    (first | (refine step_append_two (by rfl) (.tmp 36) (.tmp 38) 116 (by rfl) (p+1) 120 i0 (.agg #[.int .i64 0,.int .i64 0,.int .i64 0]) 3 24 Tryz.underlying116 hi hz0 hz1 hz2 rfl (by decide) hv _ _ (by simp [Act.eval]) (own_next HRow3.out (by go_grown)) ⟨W3.heap.size,0,none⟩ 1 1 [.int .i64 deal,.int .i64 c,.int .i64 d] (by simp [Act.eval]) rfl (hold_lies (by simp [go_sem]) (by simp [go_sem]) (by simp [go_sem])) hold_cell (by unfold maxLen;omega) (by omega) (by simp;omega) (by decide) ?_;intro v8 w8 hown8 hgrow8 hwh8;obtain ⟨ga8,cap8,rfl⟩:=own_slice hown8;have HO8:Hid (w8.ownsRow (p+1) 120 3 (.slice ga8 (A.hs.length+1) cap8) (A.hs.length+1) (flat3 A.hs++[.int .i64 deal,.int .i64 c,.int .i64 d])):=hown8;clear hown8;have HW8:Hid _:=hwh8;clear hwh8;have hk8:w8.cell? ⟨p,7,none⟩=some hv∧w8.cell? ⟨w.heap.size,0,none⟩=some (.int .i64 deal)∧w8.cell? ⟨w.heap.size,1,none⟩=some (.int .i64 c)∧w8.cell? ⟨w.heap.size,2,none⟩=some (.int .i64 d):=⟨hgrow8.cell (by simp [go_sem,g0,hp3]) HN1.out,hgrow8.cell (by simp [go_sem,x0,hl3]) HN2.out,hgrow8.cell (by simp [go_sem,x1,hl3]) HN2.out,hgrow8.cell (by simp [go_sem,x2,hl3]) HN2.out⟩;have q78:=hk8.1;have hf8:∀k,w8.frozen? ⟨p,k,none⟩=false:=fun k=>(World.frozen?_of_block (hgrow8.block p (by simp;omega) HN1.out)).trans (by simp [go_sem,hf3,hp3])))
   all_goals
    have hR8:ShopRaw w8 p A.no (upd3 (cnt6 A) m (hV v o i d) (hO v o i d) (hI v o i d)) hv (fun d=>ovB A.es d) (fun d=>dnB A.es d):=(HR3.out.next (by go_grown)).save (O:=fun k=>hv.ownBlock=some k) ((Save.refl _ _).grown hgrow8 (fun k e _=>e)) (fun e=>HN1.out e.symm)
    have hS8:Save O w w8:=(HS3.out.next (by go_grown)).grown hgrow8 (fun k e _=>HSub.out k e)
    have hsz8:W3.heap.size<=w8.heap.size:=Nat.le_trans (by simp) hgrow8.size
    clear hk8 hf8 q78 g0 x0 x1 x2
    go_wp2_with fail
    go_ret
    refine ⟨by rw [HZ.out];rfl,fun k=>O k∨(.slice ga8 (A.hs.length+1) cap8:Value).ownBlock=some k,?_,hS8.setCell (p:=⟨p,7,none⟩) (fun _=>HMine.out) _,fun k hk=>?_⟩
    ·refine ⟨fun k hk=>?_,.inl HMine.out,.slice ga8 (A.hs.length+1) cap8,?_,?_,fun k hk=>.inr hk⟩
     ·show k<(w8.setCell _ _).heap.size
      rw [show (w8.setCell (⟨p,7,none⟩:Addr) (.slice ga8 (A.hs.length+1) cap8)).heap.size=w8.heap.size by simp]
      rcases hk with hk | hk
      ·have:=HOwn.out k hk
       omega
      ·exact (HO8.out.lt k hk).2
     ·have hf:addB A (hC v o i d) deal c d=more1 A deal c d:=by unfold addB;rw [if_pos HZ.out];rfl
      rw [hf]
      exact (hR8.setH _).congr (HC.out HZ.out) (fun _ _=>rfl) (fun _ _=>rfl)
     ·have hf:addB A (hC v o i d) deal c d=more1 A deal c d:=by unfold addB;rw [if_pos HZ.out];rfl
      rw [hf]
      have e1:(more1 A deal c d).hs.length=A.hs.length+1:=by simp [more1]
      have e2:flat3 (more1 A deal c d).hs=flat3 A.hs++[.int .i64 deal,.int .i64 c,.int .i64 d]:=flat3_snoc _ _ _ _
      rw [e1,e2]
      exact ownsRow_setCell_below HO8.out (Nat.lt_succ_self p) _
    ·rcases hk with hk | hk
     ·exact .inl hk
     ·rcases HW8.out k hk with h1 | h1
      ·exact .inl (HSub.out k h1)
      ·right
       have:=HS3.out.size
       have e:(W3.alloc (.cells #[.int .i64 deal,.int .i64 c,.int .i64 d] 120)).heap.size=W3.heap.size+1:=by simp
       simp at h1
       omega
  ·have hz':(hC v o i d != 0)=true:=by simpa using hz
   have HZ:Hid _:=hz
   clear hz
   go_wp2_with fail
   go_ret
   exact ⟨rfl,O,by unfold addB;rw [if_neg HZ.out];exact HIn.out.next hb3,.of_below hb3,.refl _ _⟩
theorem ovB_none {es:List (Int × Bool)} {x:Int} (h:ovB es x=false):over es x=none:=by
 unfold ovB at h
 cases e:over es x with
 | none=>rfl
 | some b=>rw [e] at h;simp at h
theorem chkS_zero {no:Int} {es:List (Int × Bool)} {deal c d:Int} (h:chkS no es deal c d=0):0<=deal∧deal<8∧wnt c d=0∧shp c=no∧over es deal=none:=by
 unfold chkS at h
 split at h
 ·omega
 ·split at h
  ·omega
  ·split at h
   ·split at h
    ·split at h
     ·omega
     ·rename_i e
      exact ⟨by omega,by omega,by assumption,by assumption,ovB_none (by simpa using e)⟩
    ·omega
   ·rename_i e
    exact absurd h e
theorem holdR_bad {A:Bk} {deal c d:Int} (h:chkS A.no A.es deal c d ≠ 0):holdR A deal c d=(chkS A.no A.es deal c d,A):=by
 unfold chkS at h ⊢
 unfold holdR
 by_cases h1:deal<0
 ·rw [if_pos h1,if_pos h1]
 ·rw [if_neg h1,if_neg h1]
  rw [if_neg h1] at h
  by_cases h2:8<=deal
  ·rw [if_pos h2,if_pos h2]
  ·rw [if_neg h2,if_neg h2]
   rw [if_neg h2] at h
   by_cases h3:wnt c d=0
   ·rw [if_pos h3,if_pos h3]
    rw [if_pos h3] at h
    by_cases h4:shp c=A.no
    ·rw [if_pos h4,if_pos h4]
     rw [if_pos h4] at h
     cases h5:over A.es deal with
     | none=>exact absurd (by simp [ovB,h5]) h
     | some b=>simp [ovB,h5]
    ·rw [if_neg h4,if_neg h4]
   ·rw [if_neg h3,if_neg h3]
theorem holdR_ok {A:Bk} {deal c d:Int} (h:chkS A.no A.es deal c d=0):holdR A deal c d=(match A.hs.find? (same deal c) with
 | some h=>if h.2.2=d then (0,A) else (9,A)
 | none=>if hC (A.val (c % 2).toNat) (outs A.hs c) (inns A.hs c) d=0 then (0,{ A with hs:=A.hs++[(deal,c,d)] }) else (hC (A.val (c % 2).toNat) (outs A.hs c) (inns A.hs c) d,A)):=by
 obtain ⟨h1,h2,h3,h4,h5⟩:=chkS_zero h
 unfold holdR
 rw [if_neg (by omega),if_neg (by omega),if_pos h3,if_pos h4,h5]
 all_goals rfl
theorem holdR_none {A:Bk} {deal d:Int} {m:Nat} (hm:m<2) (h:chkS A.no A.es deal (A.no * 2+m) d=0) (hf:A.hs.find? (same deal (A.no * 2+m))=none):holdR A deal (A.no * 2+m) d=(hC (A.val m) (A.out m) (A.inn m) d,addB A (hC (A.val m) (A.out m) (A.inn m) d) deal (A.no * 2+m) d):=by
 rw [holdR_ok h,hf]
 have e:((A.no * 2+(m:Int)) % 2).toNat=m:=by omega
 rw [e]
 unfold addB
 show (if hC (A.val m) (A.out m) (A.inn m) d=0 then _ else _)=_
 by_cases e1:hC (A.val m) (A.out m) (A.inn m) d=0
 ·rw [if_pos e1,if_pos e1,e1]
 ·rw [if_neg e1,if_neg e1]
  rfl
theorem holdR_some {A:Bk} {deal c d:Int} {x:H3} (h:chkS A.no A.es deal c d=0) (hf:A.hs.find? (same deal c)=some x):holdR A deal c d=(if x.2.2=d then 0 else 9,A):=by
 rw [holdR_ok h,hf]
 show (if x.2.2=d then _ else _)=_
 by_cases e:x.2.2=d
 ·rw [if_pos e,if_pos e]
 ·rw [if_neg e,if_neg e]
theorem find_none {q:H3->Bool} {l:List H3} (h:∀x∈l,q x=false):l.find? q=none:=by
 rw [List.find?_eq_none]
 intro x hx e
 rw [h x hx] at e
 exact absurd e (by decide)
theorem find_at {q:H3->Bool} {l:List H3} {k:Nat} {x:H3} (h:l[k]?=some x) (hq:q x=true) (ha:∀y∈l.take k,q y=false):l.find? q=some x:=by
 have e:l=l.take k++x :: l.drop (k+1):=by rw [<-drop_cons h,List.take_append_drop]
 rw [e,List.find?_append,find_none ha,List.find?_cons,hq]
 rfl
theorem shold_any (O:Nat->Prop) (A:Bk) (p:Nat) (deal c d:Int) (w:World) (h:ShopIn O w p A) (n0:0<=A.no) (n3:A.no<3) (hlen:A.hs.length<2 ^ 40):
 Calls Tryz.prog 183 #[.pointer (some ⟨p,0,none⟩),.int .i64 deal,.agg #[.int .i64 c,.int .i64 d]] w fun e w'=>e=.returned (.int .i64 (holdR A deal c d).1)∧∃O',ShopIn O' w' p (holdR A deal c d).2∧Save O w w'∧Moved O O' w:=by
 have HI:Hid (ShopIn O w p A):=h
 obtain ⟨hv,hR,hrow,_⟩:=h.raw
 obtain ⟨ga,cap,rfl,hA,_⟩:=holds_of_own hrow
 clear hrow
 have hlt:=hR.lt
 have hne:p ≠ w.heap.size:=by omega
 have hne1:p ≠ w.heap.size+1:=by omega
 clear h
 go_enter Tryz.func183,Tryz.ntmps183
 go_wp2_with fail
 obtain ⟨hD,hW,hb0⟩:=pair_new w [.int .i64 deal] [.int .i64 c,.int .i64 d] 3 97
 generalize (w.alloc (.cells #[.int .i64 deal] 3)).alloc (.cells #[.int .i64 c,.int .i64 d] 97)=W0 at hD hW hb0 ⊢
 have hR0:=hR.next hb0
 refine (scheck_any p A.no A.es deal c d W0 hR0.lt hR0.no hR0.ov).mono ?_
 rintro e w1 ⟨rfl,hb1⟩
 have hD1:=hD.next hb1
 have hW1:=hW.next hb1
 have hb2:Below w.heap.size w w1:=after hb0 hb1 hb0.size
 generalize w.heap.size+1=bw at hW1 hne1 ⊢
 have hR1:=hR.next hb2
 have hA1:=hA.below hb2 (Nat.le_refl _)
 clear hD hW hb0 hR0 hb1 hR hA
 by_cases hc:chkS A.no A.es deal c d=0
 ·have hc':(chkS A.no A.es deal c d != 0)=false:=by simp [hc]
  have HC:Hid _:=hc
  clear hc
  have x0:=hD1.2 0 _ rfl
  have y0:=hW1.2 0 _ rfl
  have y1:=hW1.2 1 _ rfl
  have g0:=hR1.hv
  have hp1:=hR1.lt
  go_upto_region 5 with fail
  have hX2:=BoxAt.new w1 [.int .i64 deal,.int .i64 c,.int .i64 d] 120
  have hb3:Below w1.heap.size w1 (w1.alloc (.cells #[.int .i64 deal,.int .i64 c,.int .i64 d] 120)):=(Below.refl _ _).alloc (Nat.le_refl _) _
  generalize (w1.alloc (.cells #[.int .i64 deal,.int .i64 c,.int .i64 d] 120))=W2 at hX2 hb3 ⊢
  have hR2:=hR1.next hb3
  have hD2:=hD1.next hb3
  have hW2:=hW1.next hb3
  have hA2:=hA1.below hb3 (Nat.le_refl _)
  have hb4:Below w.heap.size w W2:=after hb2 hb3 hb2.size
  generalize w1.heap.size=bx at hX2 ⊢
  clear hR1 hD1 hW1 hA1 hb2 hb3 x0 y0 y1 g0 hp1
  have g0:=hR2.hv
  go_wp2_with fail
  refine (idx_any (holdPred deal c d w.heap.size bw) ga A.hs.length cap A.hs W2 hA2 rfl (by omega) ⟨hD2,hW2⟩).mono ?_
  rintro e w3 ⟨⟨r,rfl,hr⟩,hb5⟩
  have hb6:Below w.heap.size w w3:=after hb4 hb5 hb4.size
  have hX3:=hX2.next hb5
  have hR3:=hR2.next hb5
  have hA3:=hA2.below hb5 (Nat.le_refl _)
  have HI3:Hid (ShopIn O w3 p A):=HI.out.next hb6
  clear hX2 hR2 hA2 hD2 hW2 hb4 hb5 g0 HI
  have x0:=hX3.2 0 _ rfl
  have x1:=hX3.2 1 _ rfl
  have x2:=hX3.2 2 _ rfl
  rcases hr with ⟨rfl,hall⟩ | ⟨k,⟨a',c',d'⟩,rfl,hk,hq,hall⟩
  ·have HF:Hid _:=find_none hall
   obtain ⟨_,_,hw0,hs0,_⟩:=chkS_zero HC.out
   obtain ⟨q1,q2,_⟩:=wnt_ok hw0
   obtain ⟨q3,q4,q5⟩:=shp_place q1 q2 hs0
   obtain ⟨m,hm⟩:=Int.eq_ofNat_of_zero_le q4
   have hm2:m<2:=by omega
   rw [hm] at q3
   have HM:Hid (c=A.no * 2+(m:Int)):=q3
   clear hw0 hs0 q1 q2 q3 q4 q5 hm hall
   go_wp2_with fail
   rw [HM.out]
   refine (add_any O A p deal d m hm2 w3 HI3.out n0 n3 hlen).mono ?_
   rintro e w4 ⟨rfl,O',hI4,hS4,hM4⟩
   go_wp2_with fail
   go_ret
   have e1:=holdR_none (A:=A) (deal:=deal) (d:=d) hm2 (by rw [<-HM.out];exact HC.out) (by rw [<-HM.out];exact HF.out)
   rw [HM.out,e1]
   exact ⟨rfl,O',hI4,(Save.of_below hb6).trans hS4 (fun _ _ h=>h),fun k hk=>(hM4 k hk).imp_right (fun h=>Nat.le_trans hb6.size h)⟩
  ·have HF:Hid _:=find_at hk hq hall
   obtain ⟨bl,ol,rfl,hbl,p0,p1,p2⟩:=hA3 k a' c' d' hk
   obtain ⟨rfl,rfl⟩:a'=deal∧c'=c:=by simpa [same] using hq
   have hkl:=(List.getElem?_eq_some_iff.1 hk).1
   have jd:decide ((k:Int)<0)=false:=decide_eq_false (by omega)
   have g0:=hR3.hv
   clear hA3 hq hall hk
   by_cases he:d'=d
   ·subst he
    go_upto_region 8 with fail
    clear jd
    have j1:(0:Int)<=(k:Int):=by omega
    have j2:(k:Int)<(A.hs.length:Int):=by omega
    have j3:(A.hs.length:Int)<2 ^ 40:=by omega
    go_quiet (fail)
    go_wp2_with fail
    go_ret
    have e1:=holdR_some HC.out HF.out
    rw [e1]
    exact ⟨by simp,O,(HI3.out.next (bdrewN (Below.refl _ _) _)),.of_below (bdrewN hb6 _),.refl _ _⟩
   ·have he':(d' == d)=false:=by simpa using he
    have HE:Hid _:=he
    clear he
    go_upto_region 8 with fail
    clear jd
    have j1:(0:Int)<=(k:Int):=by omega
    have j2:(k:Int)<(A.hs.length:Int):=by omega
    have j3:(A.hs.length:Int)<2 ^ 40:=by omega
    go_quiet (fail)
    go_wp2_with fail
    go_ret
    have e1:=holdR_some HC.out HF.out
    rw [e1]
    exact ⟨by rw [if_neg HE.out];rfl,O,(HI3.out.next (bdrewN (Below.refl _ _) _)),.of_below (bdrewN hb6 _),.refl _ _⟩
 ·have hc':(chkS A.no A.es deal c d != 0)=true:=by simpa using hc
  have HC:Hid _:=hc
  clear hc
  go_wp2_with fail
  go_ret
  exact ⟨by rw [holdR_bad HC.out];rfl,O,by rw [holdR_bad HC.out];exact HI.out.next hb2,.of_below hb2,.refl _ _⟩
def bookK (A:Bk) (deal:Int) (done:Bool) (k:Nat):Bk:={ A with v0:=A.v0+gain deal done (A.hs.take k) (A.no * 2),v1:=A.v1+gain deal done (A.hs.take k) (A.no * 2+1),hs:=left deal A.hs k }
theorem bookK_zero (A:Bk) (deal:Int) (done:Bool):bookK A deal done 0=A:=by
 unfold bookK
 rw [left_zero]
 simp [gain]
theorem bookK_val (A:Bk) (deal:Int) (done:Bool) (k m:Nat) (hm:m<2):(bookK A deal done k).val m=A.val m+gain deal done (A.hs.take k) (A.no * 2+m):=by
 have:m=0∨m=1:=by omega
 rcases this with rfl | rfl
 ·show A.v0+_=A.v0+_;congr 2;omega
 ·rfl
theorem bookK_skip {A:Bk} {deal:Int} {done:Bool} {k:Nat} {x:H3} (h:A.hs[k]?=some x) (hx:x.1 ≠ deal):bookK A deal done (k+1)=bookK A deal done k:=by
 unfold bookK
 rw [gain_snoc h,gain_snoc h,left_other h hx]
 have e:∀c,gainOf deal done x c=0:=fun c=>by unfold gainOf;rw [if_neg (fun q=>hx q.1)]
 rw [e,e,Int.add_zero,Int.add_zero]
def AllOk (A:Bk):Prop:=∀m:Nat,m<2->chk (A.val m) (A.out m) (A.inn m)=0
theorem bookK_own {A:Bk} {deal:Int} {done:Bool} {k m:Nat} {d:Int} (hm:m<2) (h:A.hs[k]?=some (deal,A.no * 2+m,d)) (hc:AllOk (bookK A deal done k)) (hd:dlt d=0):
 EndIs ((bookK A deal done k).val m) ((bookK A deal done k).out m) ((bookK A deal done k).inn m) d done ((bookK A deal done (k+1)).val m) ((bookK A deal done (k+1)).out m) ((bookK A deal done (k+1)).inn m) 0∧AllOk (bookK A deal done (k+1))
 ∧∀j,j<6->upd3 (cnt6 (bookK A deal done k)) m ((bookK A deal done (k+1)).val m) ((bookK A deal done (k+1)).out m) ((bookK A deal done (k+1)).inn m) j=cnt6 (bookK A deal done (k+1)) j:=by
 have lo:∀c,_:=fun c=>left_own (deal:=deal) h rfl c
 have eo:∀m':Nat,(bookK A deal done k).out m'=(bookK A deal done (k+1)).out m'+outOf (deal,A.no * 2+(m:Int),d) (A.no * 2+m'):=fun m'=>(lo _).1
 have ei:∀m':Nat,(bookK A deal done k).inn m'=(bookK A deal done (k+1)).inn m'+innOf (deal,A.no * 2+(m:Int),d) (A.no * 2+m'):=fun m'=>(lo _).2
 have ev:∀m':Nat,m'<2->(bookK A deal done (k+1)).val m'=(bookK A deal done k).val m'+gainOf deal done (deal,A.no * 2+(m:Int),d) (A.no * 2+m'):=fun m' hm'=>by
  rw [bookK_val _ _ _ _ _ hm',bookK_val _ _ _ _ _ hm',gain_snoc h];omega
 have g1:gainOf deal done (deal,A.no * 2+(m:Int),d) (A.no * 2+m)=if done=true then d else 0:=by unfold gainOf;cases done <;> simp
 have o1:outOf (deal,A.no * 2+(m:Int),d) (A.no * 2+m)=if d<0 then -d else 0:=by simp [outOf]
 have i1:innOf (deal,A.no * 2+(m:Int),d) (A.no * 2+m)=if d<0 then 0 else d:=by simp [innOf]
 have oo:0<=(bookK A deal done (k+1)).out m:=outs_nonneg _ _
 have ii:0<=(bookK A deal done (k+1)).inn m:=inns_nonneg _ _
 obtain ⟨r1,r2⟩:=end_one (o':=(bookK A deal done (k+1)).out m) (i':=(bookK A deal done (k+1)).inn m) done (hc m hm) hd (by rw [eo m,o1]) (by rw [ei m,i1]) oo ii
 have ev':(bookK A deal done (k+1)).val m=(bookK A deal done k).val m+if done=true then d else 0:=by rw [ev m hm,g1]
 rw [<-ev'] at r1 r2
 have other:∀m',m'<2->m' ≠ m->(bookK A deal done (k+1)).val m'=(bookK A deal done k).val m'∧(bookK A deal done (k+1)).out m'=(bookK A deal done k).out m'∧(bookK A deal done (k+1)).inn m'=(bookK A deal done k).inn m':=by
  intro m' hm' hne
  have q:¬(A.no * 2+(m:Int)=A.no * 2+(m':Int)):=by omega
  refine ⟨?_,?_,?_⟩
  ·rw [ev m' hm'];unfold gainOf;rw [if_neg (fun h=>q h.2.1)];omega
  ·rw [eo m'];unfold outOf;rw [if_neg q];omega
  ·rw [ei m'];unfold innOf;rw [if_neg q];omega
 refine ⟨r1,?_,cnt6_of _ _ m hm _ _ _ rfl rfl rfl other⟩
 intro m' hm'
 by_cases e:m'=m
 ·subst e;exact r2
 ·obtain ⟨a,b,c⟩:=other m' hm' e
  rw [a,b,c];exact hc m' hm'
theorem bookK_all (A:Bk) (deal:Int) (done:Bool):endA A deal done={ bookK A deal done A.hs.length with es:=A.es++[(deal,done)] }:=by
 unfold endA bookK
 rw [left_all _ _ _ (Nat.le_refl _),List.take_of_length_le (Nat.le_refl _)]
theorem endR_range {A:Bk} {deal:Int} {done:Bool} (h:deal<0∨8<=deal):endR A deal done=(1,A):=by
 unfold endR
 by_cases h1:deal<0
 ·rw [if_pos h1]
 ·rw [if_neg h1,if_pos (by omega)]
theorem endR_over {A:Bk} {deal:Int} {done b:Bool} (h0:0<=deal) (h8:deal<8) (h:over A.es deal=some b):endR A deal done=(if b=done then 0 else 9,A):=by
 unfold endR
 rw [if_neg (by omega),if_neg (by omega),h]
 show (if b=done then _ else _)=_
 by_cases e:b=done
 ·rw [if_pos e,if_pos e]
 ·rw [if_neg e,if_neg e]
theorem endR_new {A:Bk} {deal:Int} {done:Bool} (h0:0<=deal) (h8:deal<8) (h:over A.es deal=none):endR A deal done=(0,endA A deal done):=by
 unfold endR
 rw [if_neg (by omega),if_neg (by omega),h]
theorem ovB_snoc (es:List (Int × Bool)) (n:Nat) (b:Bool) (h:over es n=none):∀d:Nat,updB (fun d=>ovB es d) n true d=ovB (es++[((n:Int),b)]) d∧updB (fun d=>dnB es d) n b d=dnB (es++[((n:Int),b)]) d:=by
 intro d
 unfold updB ovB dnB
 rw [over_append]
 by_cases e:d=n
 ·subst e
  rw [if_pos rfl,if_pos rfl,h]
  simp [over]
 ·rw [if_neg e,if_neg e]
  have q:¬((n:Int)=(d:Int)):=by omega
  cases hh:over es (d:Int) with
  | none=>simp [over,q,hh]
  | some b'=>cases b' <;> simp [hh]
theorem box_pair {W:World} {H:Nat} {x y:Value} (hl:H<W.heap.size) (h0:W.cell? ⟨H,0,none⟩=some x) (h1:W.cell? ⟨H,1,none⟩=some y):BoxAt W H [x,y]:=by
 refine ⟨hl,fun j u hj=>?_⟩
 match j,hj with
 | 0,hj=>simp at hj;subst hj;exact h0
 | 1,hj=>simp at hj;subst hj;exact h1
 | j+2,hj=>simp at hj
theorem send_any (O:Nat->Prop) (A:Bk) (p:Nat) (deal:Int) (done:Bool) (w:World) (h:ShopIn O w p A) (hG:Good A) (hlen:A.hs.length<2 ^ 40):
 Calls Tryz.prog 184 #[.pointer (some ⟨p,0,none⟩),.int .i64 deal,.bool done] w fun e w'=>e=.returned (.int .i64 (endR A deal done).1)∧∃O',ShopIn O' w' p (endR A deal done).2∧Save O w w'∧Moved O O' w:=by
 have HI:Hid (ShopIn O w p A):=h
 by_cases hr:deal<0∨8<=deal
 ·rw [endR_range hr]
  clear h
  go_enter Tryz.func184,Tryz.ntmps184
  go_wp2_with fail
  refine (isDeal_no _ _ hr).mono ?_
  rintro e w1 ⟨rfl,rfl⟩
  go_wp2_with fail
  go_ret
  have hb:Below w.heap.size w (w.alloc (.cells #[.int .i64 deal] 3)):=(Below.refl _ _).alloc (Nat.le_refl _) _
  exact ⟨rfl,O,HI.out.next hb,.of_below hb,.refl _ _⟩
 ·have d0:0<=deal:=by omega
  have d8:deal<8:=by omega
  obtain ⟨n,rfl⟩:=Int.eq_ofNat_of_zero_le d0
  have hn:n<8:=by omega
  obtain ⟨hv,hR,hrow,hsub⟩:=h.raw
  have HRow:Hid (w.ownsRow (p+1) 120 3 hv A.hs.length (flat3 A.hs)):=hrow
  have HSub:Hid (∀k,hv.ownBlock=some k->O k):=hsub
  have HMine:Hid (O p):=h.mine
  have hlt:=hR.lt
  have hne:p ≠ w.heap.size:=by omega
  clear hr h hrow hsub
  cases ho:over A.es (n:Int) with
  | some b=>
    have HO:Hid _:=ho
    have o1:=hR.ov n hn
    have o2:=hR.dn n hn
    simp only [ovB,dnB,ho,Option.isSome_some] at o1 o2
    have hbb:(some b == some true)=b:=by cases b <;> rfl
    rw [hbb] at o2
    clear ho hR hbb
    go_enter Tryz.func184,Tryz.ntmps184
    go_wp2_with fail
    refine (isDeal_yes _ _ d0 d8).mono ?_
    rintro e w1 ⟨rfl,rfl⟩
    have hD:=BoxAt.new w [.int .i64 (n:Int)] 3
    have hb1:Below w.heap.size w (w.alloc (.cells #[.int .i64 (n:Int)] 3)):=(Below.refl _ _).alloc (Nat.le_refl _) _
    generalize (w.alloc (.cells #[.int .i64 (n:Int)] 3))=W1 at hD hb1 ⊢
    have o3:=(hb1.cell (p:=⟨p,8+n * 2,none⟩) hlt).trans o1
    have o4:=(hb1.cell (p:=⟨p,8+n * 2+1,none⟩) hlt).trans o2
    have x0:=hD.2 0 _ rfl
    have hlt1:p<W1.heap.size:=Nat.lt_of_lt_of_le hlt hb1.size
    have hd1:=hD.1
    clear o1 o2
    go_upto_region 3 with fail
    go_cut [7] (fun s7 wx=>∃nb,s7=.pointer (some ⟨nb,0,none⟩)∧BoxAt wx nb [.bool true,.bool b]∧Below W1.heap.size W1 wx)
    case first=>
     go_region
     all_goals
      go_wp2_with fail
      go_meet
      case rel=>
       refine ⟨_,rfl,box_pair ?_ ?_ ?_,by go_grown⟩
       all_goals simp [go_sem]
    case rest=>
     obtain ⟨nb,rfl,hX,hb2⟩:=hcut
     have x0:=hX.2 0 _ rfl
     have x1:=hX.2 1 _ rfl
     have hb3:Below w.heap.size w wc:=after hb1 hb2 hb1.size
     clear hX hb2 o3 o4
     by_cases e:b=done
     ·subst e
      have e':(b != b)=false:=by simp
      go_wp2_with fail
      go_ret
      rw [endR_over d0 d8 HO.out]
      exact ⟨by simp,O,HI.out.next hb3,.of_below hb3,.refl _ _⟩
     ·have e':(b == done)=false:=by simpa using e
      have HE:Hid _:=e
      clear e
      go_wp2_with fail
      go_ret
      rw [endR_over d0 d8 HO.out]
      exact ⟨by rw [if_neg HE.out];rfl,O,HI.out.next hb3,.of_below hb3,.refl _ _⟩
  | none=>
    rw [endR_new d0 d8 ho]
    have o1:=hR.ov n hn
    have o2:=hR.dn n hn
    simp only [ovB,dnB,ho,Option.isSome_none] at o1 o2
    have hbb:((none:Option Bool) == some true)=false:=rfl
    rw [hbb] at o2
    have HO:Hid _:=ho
    clear ho hbb
    go_enter Tryz.func184,Tryz.ntmps184
    go_wp2_with fail
    refine (isDeal_yes _ _ d0 d8).mono ?_
    rintro e w1 ⟨rfl,rfl⟩
    have hD:=BoxAt.new w [.int .i64 (n:Int)] 3
    have hb1:Below w.heap.size w (w.alloc (.cells #[.int .i64 (n:Int)] 3)):=(Below.refl _ _).alloc (Nat.le_refl _) _
    generalize (w.alloc (.cells #[.int .i64 (n:Int)] 3))=W1 at hD hb1 ⊢
    have o3:=(hb1.cell (p:=⟨p,8+n * 2,none⟩) hlt).trans o1
    have o4:=(hb1.cell (p:=⟨p,8+n * 2+1,none⟩) hlt).trans o2
    have x0:=hD.2 0 _ rfl
    have hlt1:p<W1.heap.size:=Nat.lt_of_lt_of_le hlt hb1.size
    have hd1:=hD.1
    clear o1 o2
    go_upto_region 3 with fail
    go_cut [7] (fun s7 wx=>∃nb,s7=.pointer (some ⟨nb,0,none⟩)∧BoxAt wx nb [.bool false,.bool false]∧Below W1.heap.size W1 wx)
    case first=>
     go_region
     all_goals
      go_wp2_with fail
      go_meet
      case rel=>
       refine ⟨_,rfl,box_pair ?_ ?_ ?_,by go_grown⟩
       all_goals simp [go_sem]
    case rest=>
     obtain ⟨nb,rfl,hX,hb2⟩:=hcut
     have y0:=hX.2 0 _ rfl
     have y1:=hX.2 1 _ rfl
     have hb3:Below w.heap.size w wc:=after hb1 hb2 hb1.size
     have hD2:=hD.next hb2
     have hR2:=hR.next hb3
     obtain ⟨ga,cap,rfl,hA,_⟩:=holds_of_own HRow.out
     have g0:=hR2.hv
     clear hX hb2 o3 o4 hD hR x0 hb1 hd1 hlt1
     have HOwn:Hid (∀k,O k->k<w.heap.size):=HI.out.own
     have HNB:Hid ((Value.slice ga A.hs.length cap).ownBlock ≠ some p):=fun e=>by have:=(HRow.out.lt p e).1;omega
     have hl40:(A.hs.length:Int)<2 ^ 40:=by omega
     go_wp2_with fail
     go_loopg [10,11,33] A.hs.length (fun g _ _ s33 wr=>∃k:Nat,k<=A.hs.length∧g=A.hs.length - k∧s33=.int .i64 k∧ShopRaw wr p A.no (cnt6 (bookK A n done k)) (.slice ga A.hs.length cap) (fun d=>ovB A.es d) (fun d=>dnB A.es d)∧Hid (AllOk (bookK A n done k))∧BoxAt wr w.heap.size [.int .i64 (n:Int)]∧Hid (Save (fun j=>j=p) w wr))
     case atStart=>
      refine ⟨0,Nat.zero_le _,rfl,rfl,?_,?_,hD2,.of_below hb3⟩
      ·rw [bookK_zero];exact hR2
      ·show AllOk _
       rw [bookK_zero];exact hG.cnt
     case round=>
      obtain ⟨k,hk,rfl,rfl,hR3,HOk,hD3,HS⟩:=hrel
      clear hR2 hD2 hb3 y0 y1 g0
      have hp3:=hR3.lt
      have hd3:=hD3.1
      have hz3:=HS.out.size
      by_cases hkl:k<A.hs.length
      ·obtain ⟨⟨a,c,d⟩,hkx⟩:∃x,A.hs[k]?=some x:=⟨_,List.getElem?_eq_getElem (by omega)⟩
       obtain ⟨bl,ol,rfl,hbl,h0,h1,h2⟩:=hA k a c d hkx
       have HNL:Hid (bl ≠ p):=fun e=>HNB.out (by rw [<-e];rfl)
       have p0:wr.cell? ⟨bl,ol+k * 3,none⟩=some (.int .i64 a):=(HS.out.cell (p:=⟨bl,_,none⟩) hbl HNL.out).trans h0
       have p1:wr.cell? ⟨bl,ol+k * 3+1,none⟩=some (.int .i64 c):=(HS.out.cell (p:=⟨bl,_,none⟩) hbl HNL.out).trans h1
       have p2:wr.cell? ⟨bl,ol+k * 3+2,none⟩=some (.int .i64 d):=(HS.out.cell (p:=⟨bl,_,none⟩) hbl HNL.out).trans h2
       have j0:(0:Int)<=(k:Int):=by omega
       have j1:(k:Int)<(A.hs.length:Int):=by omega
       have eg:=(endPred (n:Int) w.heap.size).enters
       clear h0 h1 h2 hA
       have hnew:Below wr.heap.size wr (wr.alloc (.cells #[.int .i64 a,.int .i64 c,.int .i64 d] 120)):=(Below.refl _ _).alloc (Nat.le_refl _) _
       have hX4:=BoxAt.new wr [.int .i64 a,.int .i64 c,.int .i64 d] 120
       go_upto_region 12 with fail
       generalize (wr.alloc (.cells #[.int .i64 a,.int .i64 c,.int .i64 d] 120))=W4 at hnew hX4 ⊢
       have hR4:=hR3.next hnew
       have hD4:=hD3.next hnew
       have HS4:Hid (Save (fun j=>j=p) w W4):=HS.out.next hnew
       generalize wr.heap.size=bx at hX4 ⊢
       clear hR3 hD3 HS hnew p0 p1 p2
       have x0:=hX4.2 0 _ rfl
       have x1:=hX4.2 1 _ rfl
       have x2:=hX4.2 2 _ rfl
       go_wp2_with fail
       refine Calls.mono ((endPred (n:Int) w.heap.size).says W4 a c d hD4) ?_
       rintro e w5 ⟨rfl,hb5⟩
       have hX5:=hX4.next hb5
       have hR5:=hR4.next hb5
       have hD5:=hD4.next hb5
       have HS5:Hid (Save (fun j=>j=p) w w5):=HS4.out.next hb5
       clear hX4 hR4 hD4 HS4 hb5 x0 x1 x2 hp3 hd3 hz3
       have x0:=hX5.2 0 _ rfl
       have x1:=hX5.2 1 _ rfl
       have x2:=hX5.2 2 _ rfl
       have hp5:=hR5.lt
       have hx5:=hX5.1
       by_cases he:a=(n:Int)
       ·have he':(a == (n:Int))=true:=by simpa using he
        obtain ⟨_,_,hs0,hw0,_⟩:=hG.each _ (List.mem_of_getElem? hkx)
        obtain ⟨q1,q2,q6⟩:=wnt_ok hw0
        obtain ⟨q3,q4,q5⟩:=shp_place q1 q2 hs0
        obtain ⟨m,hm⟩:=Int.eq_ofNat_of_zero_le q4
        have hm2:m<2:=by omega
        have hcq:c=A.no * 2+(m:Int):=by simp only at q3 hm;omega
        have hcn:c=A.no * 2∨c=A.no * 2+1:=by omega
        have hcm:c - A.no * 2=(m:Int):=by omega
        have hkx':A.hs[k]?=some ((n:Int),A.no * 2+(m:Int),d):=by rw [hkx,he,hcq]
        obtain ⟨r1,r2,r3⟩:=bookK_own (done:=done) hm2 hkx' HOk.out q6
        have HR1:Hid _:=r1
        have HR2:Hid _:=r2
        have HR3:Hid _:=r3
        obtain ⟨e0,e1,e2⟩:=cnt6_at (bookK A n done k) m hm2
        obtain ⟨c0,c1,c2⟩:=hR5.c3 m hm2
        rw [e0] at c0
        rw [e1] at c1
        rw [e2] at c2
        have hfr:=hR5.loose
        have m0:(0:Int)<=(m:Int):=by omega
        have m2:(m:Int)<2:=by omega
        have HNC:Hid _:=hcn
        have HCM:Hid _:=hcm
        generalize (bookK A n done k).val m=v at c0 HR1
        generalize (bookK A n done k).out m=o at c1 HR1
        generalize (bookK A n done k).inn m=i at c2 HR1
        generalize (bookK A n done (k+1)).val m=v' at HR1 HR3
        generalize (bookK A n done (k+1)).out m=o' at HR1 HR3
        generalize (bookK A n done (k+1)).inn m=i' at HR1 HR3
        clear r1 r2 r3 e0 e1 e2 hkx' he q1 q2 q3 q4 q5 q6 hs0 hw0 hm hcq hcn hcm
        go_wp2_with fail
        refine (place_any A.no c _ hG.no0 hG.no3 HNC.out).mono ?_
        rw [HCM.out]
        rintro e w6 ⟨rfl,rfl⟩
        go_upto_region 14 with fail
        have HG:Hid (Good A):=hG
        have HKL:Hid (k<A.hs.length):=hkl
        have HLEN:Hid (A.hs.length<2 ^ 40):=hlen
        clear hG hlen hl40 d0 d8 hn j0 j1 hkl hk hbl hne hlt x0 x1 he' hkx eg HCM HNC HO
        go_region_with (first | (go_at_call 193;refine (HR1.out _).mono ?_;rintro e w9 ⟨rfl,hb9⟩;have q0:w9.cell? ⟨p,1+m * 3,none⟩=some (.int .i64 v):=((bcell hb9).1 _ _ (by simpa using hp5)).trans (by simpa [go_sem] using c0);have q1:w9.cell? ⟨p,1+m * 3+1,none⟩=some (.int .i64 o):=((bcell hb9).1 _ _ (by simpa using hp5)).trans (by simpa [go_sem] using c1);have q2:w9.cell? ⟨p,1+m * 3+2,none⟩=some (.int .i64 i):=((bcell hb9).1 _ _ (by simpa using hp5)).trans (by simpa [go_sem] using c2);have q3:∀k,w9.frozen? ⟨p,k,none⟩=false:=fun k=>((bcell hb9).2 _ _ (by simpa using hp5)).trans (by simpa [go_sem] using hfr k)))
        all_goals
         have hR9:=((hR5.next ((Below.refl _ _).drew)).next hb9).set3 m hm2 v' o' i'
         have hD9:=(hD5.next ((Below.refl _ _).drew)).next hb9
         have HS9:Hid (Save (fun j=>j=p) w (((w9.setCell ⟨p,1+m * 3,none⟩ (.int .i64 v')).setCell ⟨p,1+m * 3+1,none⟩ (.int .i64 o')).setCell ⟨p,1+m * 3+2,none⟩ (.int .i64 i'))):=((HS5.out.next ((Below.refl _ _).drew)).next hb9).set3 p rfl _ _ _ _ _ _
         have HNE:Hid (w.heap.size ≠ p):=by have:=HI.out.own p HI.out.mine;show _ ≠ _;omega
         have HD9:Hid (BoxAt (((w9.setCell ⟨p,1+m * 3,none⟩ (.int .i64 v')).setCell ⟨p,1+m * 3+1,none⟩ (.int .i64 o')).setCell ⟨p,1+m * 3+2,none⟩ (.int .i64 i')) w.heap.size [.int .i64 (n:Int)]):=
          ⟨by simpa using hD9.1,fun j u hj=>by rw [cell_set_block HNE.out,cell_set_block HNE.out,cell_set_block HNE.out];exact hD9.2 j u hj⟩
         clear q0 q1 q2 q3 hb9 hD9
         have j0:(0:Int)<=(k:Int):=by omega
         have j1:(k:Int)<2 ^ 40:=by have:=HKL.out;have:=HLEN.out;omega
         go_wp2_with fail
         go_roundg (A.hs.length - (k+1))
         case measure=>have:=HKL.out;omega
         case rel=>exact ⟨k+1,HKL.out,rfl,by simp,hR9.congr HR3.out (fun _ _=>rfl) (fun _ _=>rfl),HR2.out,HD9.out,HS9⟩
       ·have he':(a == (n:Int))=false:=by simpa using he
        have HK:Hid _:=bookK_skip (done:=done) hkx he
        clear he
        go_wp2_with fail
        go_roundg (A.hs.length - (k+1))
        case measure=>omega
        case rel=>exact ⟨k+1,by omega,rfl,by simp,by rw [HK.out];exact hR5,by rw [HK.out];exact HOk,hD5,HS5⟩
      ·have hkk:k=A.hs.length:=by omega
       subst hkk
       have hown:Hid (wr.ownsRow (p+1) 120 3 (.slice ga A.hs.length cap) A.hs.length (flat3 A.hs)):=own_save HRow.out HS.out (fun k e h=>HNB.out (by rw [<-h];exact e))
       have HDel:=del_any (endPred (n:Int) w.heap.size) (.slice ga A.hs.length cap) (p+1) A.hs wr hown.out (by omega) hD3 (fun W k o u e hB=>⟨by simpa using hB.1,fun j u' hj=>by
        have hne':w.heap.size ≠ k:=by have:=HOwn.out k (HSub.out k e);omega
        rw [cell_set_block hne'];exact hB.2 j u' hj⟩)
       have HDel':Hid _:=HDel
       have eg:=(endPred (n:Int) w.heap.size).enters
       have g0:=hR3.hv
       clear HDel hA
       go_upto_region 16 with fail
       go_wp2_with fail
       refine Calls.mono HDel'.out ?_
       rintro e w7 ⟨⟨hv',rfl,hown7,hsub7⟩,hS7⟩
       obtain ⟨ga',cap',rfl⟩:=own_slice hown7
       have HO7:Hid (w7.ownsRow (p+1) 120 3 (.slice ga' (A.hs.filter (fun h=> !(h.1 == (n:Int)))).length cap') (A.hs.filter (fun h=> !(h.1 == (n:Int)))).length (flat3 (A.hs.filter (fun h=> !(h.1 == (n:Int)))))):=hown7
       have HS7:Hid (Save O w w7):=(HS.out.mono (O':=O) (fun j _ e=>by subst e;exact HMine.out)).trans hS7 (fun j _ e=>HSub.out j e)
       have HU7:Hid (∀k,(Value.slice ga' (A.hs.filter (fun h=> !(h.1 == (n:Int)))).length cap').ownBlock=some k->O k):=fun k e=>HSub.out k (hsub7 k e)
       have hR7:=hR3.save hS7 HNB.out
       have hD7:BoxAt w7 w.heap.size [.int .i64 (n:Int)]:=⟨Nat.lt_of_lt_of_le hd3 hS7.size,fun j u hj=>(hS7.cell (p:=⟨w.heap.size,j,none⟩) hd3 (fun e=>absurd (HOwn.out w.heap.size (HSub.out _ e)) (Nat.lt_irrefl _))).trans (hD3.2 j u hj)⟩
       generalize (A.hs.filter (fun h=> !(h.1 == (n:Int)))).length=n7 at HU7 HO7 ⊢
       clear HDel' hS7 hsub7 hown7 hR3 hD3 g0 hp3 hd3 hz3
       have g7:=hR7.hv
       have f7:=hR7.loose
       have x7:=hD7.2 0 _ rfl
       have l7:=hR7.lt
       have HOd:Hid (w.heap.size ≠ p):=by have:=HOwn.out p HMine.out;show _ ≠ _;omega
       go_upto_region 17 with fail
       have hR8:=hR7.setH (.slice ga' n7 cap')
       have hD8:BoxAt (w7.setCell ⟨p,7,none⟩ (.slice ga' n7 cap')) w.heap.size [.int .i64 (n:Int)]:=⟨by simpa using hD7.1,fun j u hj=>by rw [cell_set_block HOd.out];exact hD7.2 j u hj⟩
       have HO8:Hid ((w7.setCell ⟨p,7,none⟩ (.slice ga' n7 cap')).ownsRow (p+1) 120 3 (.slice ga' n7 cap') n7 (flat3 (A.hs.filter (fun h=> !(h.1 == (n:Int)))))):=ownsRow_setCell_below HO7.out (Nat.lt_succ_self p) _
       have HS8:Hid (Save O w (w7.setCell ⟨p,7,none⟩ (.slice ga' n7 cap'))):=HS7.out.setCell (p:=⟨p,7,none⟩) (fun _=>HMine.out) _
       generalize w7.setCell ⟨p,7,none⟩ (.slice ga' n7 cap')=W8 at hR8 hD8 HO8 HS8 ⊢
       clear hR7 hD7 HO7 HS7 g7 f7 x7 l7
       have o8:=hR8.ov n hn
       have p8:=hR8.dn n hn
       have f8:=hR8.loose
       have x8:=hD8.2 0 _ rfl
       have l8:=hR8.lt
       have m8:=hD8.1
       have n0:(0:Int)<=(n:Int):=by omega
       have n8:(n:Int)<8:=by omega
       go_region
       have hR9:=(hR8.setE n hn true done).next ((Below.refl _ _).drew)
       have hO9:((W8.setCell ⟨p,8+n * 2,none⟩ (.bool true)).setCell ⟨p,8+n * 2+1,none⟩ (.bool done)).drew.ownsRow (p+1) 120 3 (.slice ga' n7 cap') n7 (flat3 (A.hs.filter (fun h=> !(h.1 == (n:Int))))):=own_next (ownsRow_setCell_below (ownsRow_setCell_below HO8.out (Nat.lt_succ_self p) _) (Nat.lt_succ_self p) _) ((Below.refl _ _).drew)
       have hS9:Save O w ((W8.setCell ⟨p,8+n * 2,none⟩ (.bool true)).setCell ⟨p,8+n * 2+1,none⟩ (.bool done)).drew:=((HS8.out.setCell (p:=⟨p,8+n * 2,none⟩) (fun _=>HMine.out) _).setCell (p:=⟨p,8+n * 2+1,none⟩) (fun _=>HMine.out) _).next ((Below.refl _ _).drew)
       have HR9:Hid _:=hR9
       have HO9:Hid (((W8.setCell ⟨p,8+n * 2,none⟩ (.bool true)).setCell ⟨p,8+n * 2+1,none⟩ (.bool done)).drew.ownsRow (p+1) 120 3 (.slice ga' n7 cap') n7 (flat3 (A.hs.filter (fun h=> !(h.1 == (n:Int)))))):=hO9
       have HS9:Hid _:=hS9
       clear hR9 hO9 hS9 o8 p8 f8 x8 hR8 hD8 HO8 HS8
       go_wp2_with fail
       go_ret
       have hn7:(endA A (n:Int) done).hs.length=n7:=by
        have:=HO9.out.1
        rw [flat3_length] at this
        have e:(endA A (n:Int) done).hs=A.hs.filter (fun h=> !(h.1 == (n:Int))):=rfl
        rw [e];omega
       refine ⟨rfl,O,⟨fun k hk=>Nat.lt_of_lt_of_le (HOwn.out k hk) HS9.out.size,HMine.out,.slice ga' n7 cap',?_,?_,HU7.out⟩,HS9.out,.refl _ _⟩
       ·refine HR9.out.congr (fun j hj=>?_) (fun d hd=>(ovB_snoc A.es n done HO.out d).1) (fun d hd=>(ovB_snoc A.es n done HO.out d).2)
        rw [bookK_all]
        rfl
       ·rw [hn7]
        exact HO9.out
def book0 (no:Int) (ws:Nat->Int):Bk:={ no:=no,v0:=ws (no * 2).toNat,v1:=ws (no * 2+1).toNat,hs:=[],es:=[] }
def newOk (no:Int) (ws:Nat->Int):Bool:=decide (0<=no) && decide (no<3) && decide (0<=ws (no * 2).toNat) && decide (ws (no * 2).toNat<=100) && decide (0<=ws (no * 2+1).toNat) && decide (ws (no * 2+1).toNat<=100)
theorem newOk_iff (no:Int) (ws:Nat->Int):newOk no ws=true ↔ 0<=no∧no<3∧0<=ws (no * 2).toNat∧ws (no * 2).toNat<=100∧0<=ws (no * 2+1).toNat∧ws (no * 2+1).toNat<=100:=by
 unfold newOk
 simp [Bool.and_eq_true,and_assoc]
def NewIs (no:Int) (ws:Nat->Int) (w:World) (e:Ending) (w':World):Prop:=if newOk no ws=true then ∃p O,e=.returned (.pointer (some ⟨p,0,none⟩))∧ShopIn O w' p (book0 no ws)∧∀k,O k->w.heap.size<=k else e=.returned (.pointer none)
theorem newIs_nil {no:Int} {ws:Nat->Int} {w w':World} {e:Ending} (h:newOk no ws=false) (he:e=.returned (.pointer none)):NewIs no ws w e w':=by
 unfold NewIs
 rw [if_neg (by rw [h];decide)]
 exact he
def Laid (a b:Int) (k:Nat) (c:Nat->Int):Prop:=(k=0∧c=noW)∨(k=1∧c=upd noW 0 a∧0<=a∧a<=100)∨(k=2∧c=upd (upd noW 0 a) 3 b∧0<=a∧a<=100∧0<=b∧b<=100)
theorem raw_new (w:World) (no:Int) (t:TypeId):ShopRaw (w.alloc (.cells #[.int .i64 no,.int .i64 0,.int .i64 0,.int .i64 0,.int .i64 0,.int .i64 0,.int .i64 0,.slice none 0 0,.bool false,.bool false,.bool false,.bool false,.bool false,.bool false,.bool false,.bool false,.bool false,.bool false,.bool false,.bool false,.bool false,.bool false,.bool false,.bool false] t)) w.heap.size no noW (.slice none 0 0) (fun _=>false) (fun _=>false):=by
 refine ⟨by simp,by simp [go_sem],fun j hj=>?_,by simp [go_sem],fun d hd=>?_,fun d hd=>?_,by simp [go_sem]⟩
 ·have:j=0∨j=1∨j=2∨j=3∨j=4∨j=5:=by omega
  rcases this with rfl | rfl | rfl | rfl | rfl | rfl <;> simp [go_sem,noW]
 ·have:d=0∨d=1∨d=2∨d=3∨d=4∨d=5∨d=6∨d=7:=by omega
  rcases this with rfl | rfl | rfl | rfl | rfl | rfl | rfl | rfl <;> simp [go_sem]
 ·have:d=0∨d=1∨d=2∨d=3∨d=4∨d=5∨d=6∨d=7:=by omega
  rcases this with rfl | rfl | rfl | rfl | rfl | rfl | rfl | rfl <;> simp [go_sem]
theorem snew_any (no:Int) (ws:Nat->Int) (w:World):
 Calls Tryz.prog 70 #[.int .i64 no,.agg #[.int .i64 (ws 0),.int .i64 (ws 1),.int .i64 (ws 2),.int .i64 (ws 3),.int .i64 (ws 4),.int .i64 (ws 5)]] w fun e w'=>NewIs no ws w e w'∧Below w.heap.size w w':=by
 by_cases h0:no<0
 ·have HN:Hid (newOk no ws=false):=by
   show _=_
   rw [<-Bool.not_eq_true,newOk_iff];omega
  go_enter Tryz.func70,Tryz.ntmps70
  go_wp2_with fail
  go_ret
  exact ⟨newIs_nil HN.out rfl,by go_grown⟩
 ·by_cases h3:3<=no
  ·have HN:Hid (newOk no ws=false):=by
    show _=_
    rw [<-Bool.not_eq_true,newOk_iff];omega
   have h0':0<=no:=by omega
   clear h0
   go_enter Tryz.func70,Tryz.ntmps70
   go_wp2_with fail
   go_ret
   exact ⟨newIs_nil HN.out rfl,by go_grown⟩
  ·have h0':0<=no:=by omega
   have h3':no<3:=by omega
   obtain ⟨a,ha⟩:∃a,a=ws (no * 2).toNat:=⟨_,rfl⟩
   obtain ⟨b,hb⟩:∃b,b=ws (no * 2+1).toNat:=⟨_,rfl⟩
   have HNo:Hid (newOk no ws=true ↔ 0<=a∧a<=100∧0<=b∧b<=100):=by
    show _ ↔ _
    rw [newOk_iff,ha,hb];constructor
    ·intro h;exact h.2.2
    ·intro h;exact ⟨h0',h3',h⟩
   have HA:Hid _:=ha
   have HB:Hid _:=hb
   clear ha hb
   go_enter Tryz.func70,Tryz.ntmps70
   go_wp2_with fail
   have hX0:=BoxAt.new w [.int .i64 (ws 0),.int .i64 (ws 1),.int .i64 (ws 2),.int .i64 (ws 3),.int .i64 (ws 4),.int .i64 (ws 5)] 40
   have hb0:Below w.heap.size w (w.alloc (.cells #[.int .i64 (ws 0),.int .i64 (ws 1),.int .i64 (ws 2),.int .i64 (ws 3),.int .i64 (ws 4),.int .i64 (ws 5)] 40)):=(Below.refl _ _).alloc (Nat.le_refl _) _
   have hz0:(w.alloc (.cells #[.int .i64 (ws 0),.int .i64 (ws 1),.int .i64 (ws 2),.int .i64 (ws 3),.int .i64 (ws 4),.int .i64 (ws 5)] 40)).heap.size=w.heap.size+1:=by simp
   generalize (w.alloc (.cells #[.int .i64 (ws 0),.int .i64 (ws 1),.int .i64 (ws 2),.int .i64 (ws 3),.int .i64 (ws 4),.int .i64 (ws 5)] 40))=W0 at hX0 hb0 hz0 ⊢
   have hR0:=raw_new W0 no 182
   have hn0:Below W0.heap.size W0 (W0.alloc (.cells #[.int .i64 no,.int .i64 0,.int .i64 0,.int .i64 0,.int .i64 0,.int .i64 0,.int .i64 0,.slice none 0 0,.bool false,.bool false,.bool false,.bool false,.bool false,.bool false,.bool false,.bool false,.bool false,.bool false,.bool false,.bool false,.bool false,.bool false,.bool false,.bool false] 182)):=(Below.refl _ _).alloc (Nat.le_refl _) _
   have hX1:=hX0.next hn0
   have hb1:=after hb0 hn0 hb0.size
   rw [hz0] at hR0
   generalize (W0.alloc (.cells #[.int .i64 no,.int .i64 0,.int .i64 0,.int .i64 0,.int .i64 0,.int .i64 0,.int .i64 0,.slice none 0 0,.bool false,.bool false,.bool false,.bool false,.bool false,.bool false,.bool false,.bool false,.bool false,.bool false,.bool false,.bool false,.bool false,.bool false,.bool false,.bool false] 182))=W1 at hR0 hX1 hb1 ⊢
   clear hn0 hX0 hb0
   generalize hp:w.heap.size+1=p at hR0 hz0 ⊢
   have HP:Hid _:=hp
   have hpw:w.heap.size<p:=by omega
   have hpn:w.heap.size ≠ p:=by omega
   clear hp
   go_loopg [6,16] 2 (fun g _ s16 wr=>∃(k:Nat) (c:Nat->Int),k<=2∧g=2 - k∧s16=.int .i64 k∧Hid (Laid a b k c)∧ShopRaw wr p no c (.slice none 0 0) (fun _=>false) (fun _=>false)∧BoxAt wr w.heap.size [.int .i64 (ws 0),.int .i64 (ws 1),.int .i64 (ws 2),.int .i64 (ws 3),.int .i64 (ws 4),.int .i64 (ws 5)]∧Below w.heap.size w wr)
   case atStart=>exact ⟨0,noW,by omega,rfl,rfl,.inl ⟨rfl,rfl⟩,hR0,hX1,hb1⟩
   case round=>
    obtain ⟨k,c,hk,rfl,rfl,HL,hR,hX,hB⟩:=hrel
    clear hR0 hX1 hb1 hz0
    have hlt:=hR.lt
    have hlx:=hX.1
    rcases HL.out with ⟨rfl,rfl⟩ | ⟨rfl,rfl,a0,a1⟩ | ⟨rfl,rfl,a0,a1,b0,b1⟩
    ·have c0:wr.cell? ⟨p,1,none⟩=some (.int .i64 0):=hR.cs 0 (by omega)
     have c1:wr.cell? ⟨p,2,none⟩=some (.int .i64 0):=hR.cs 1 (by omega)
     have c2:wr.cell? ⟨p,3,none⟩=some (.int .i64 0):=hR.cs 2 (by omega)
     have hf:=hR.loose
     have hno:no=0∨no=1∨no=2:=by omega
     have hx:Hid (∃j,(no * 2).toNat=j∧wr.cell? ⟨w.heap.size,j,none⟩=some (.int .i64 a)):=by
      refine ⟨_,rfl,?_⟩
      rw [HA.out]
      rcases hno with rfl | rfl | rfl
      ·exact hX.2 0 _ rfl
      ·exact hX.2 2 _ rfl
      ·exact hX.2 4 _ rfl
     obtain ⟨j,hj,hx⟩:=hx.out
     have HCh:Hid (∀W:World,_):=fun W=>check_any a 0 0 W
     rcases hno with rfl | rfl | rfl
     all_goals
      simp at hj
      subst hj
      go_wp2_with fail
      go_region
      have hR2:=(hR.setC 0 (by omega) a).next ((Below.refl _ _).drew)
      have hX2:BoxAt (wr.setCell ⟨p,1+0,none⟩ (.int .i64 a)).drew w.heap.size [.int .i64 (ws 0),.int .i64 (ws 1),.int .i64 (ws 2),.int .i64 (ws 3),.int .i64 (ws 4),.int .i64 (ws 5)]:=
       ⟨by simpa using hlx,fun j u hj=>by
        show (wr.setCell ⟨p,1+0,none⟩ (.int .i64 a)).cell? _=_
        rw [cell_set_block hpn];exact hX.2 j u hj⟩
      have hB2:Below w.heap.size w (wr.setCell ⟨p,1+0,none⟩ (.int .i64 a)).drew:=(hB.setCell (p:=⟨p,1+0,none⟩) (Nat.le_of_lt hpw) _).drew
      simp only [Nat.reduceAdd] at hR2 hX2 hB2
      generalize (wr.setCell ⟨p,1,none⟩ (.int .i64 a)).drew=W2 at hR2 hX2 hB2 ⊢
      have d0:W2.cell? ⟨p,1,none⟩=some (.int .i64 a):=hR2.cs 0 (by omega)
      have d1:W2.cell? ⟨p,1+1,none⟩=some (.int .i64 0):=hR2.cs (0+1) (by omega)
      have d2:W2.cell? ⟨p,1+2,none⟩=some (.int .i64 0):=hR2.cs (0+2) (by omega)
      simp only [Nat.reduceAdd] at d1 d2
      clear hR hX hB c0 c1 c2 hf hx hlt hlx
      go_wp2_with fail
      refine Calls.mono (HCh.out _) ?_
      rintro e w3 ⟨rfl,hb3⟩
      have hR3:=hR2.next hb3
      have hX3:=hX2.next hb3
      have hB3:=after hB2 hb3 hB2.size
      clear hR2 hX2 hB2 d0 d1 d2 hb3
      by_cases hc:chk a 0 0=0
      ·have hc':(chk a 0 0 != 0)=false:=by simp [hc]
       obtain ⟨t0,t1,_⟩:=chk_ok hc
       have HT:Hid (0<=a∧a<=100):=⟨t0,t1⟩
       clear hc t0 t1
       go_wp2_with fail
       go_roundg 1
       case measure=>omega
       case rel=>exact ⟨1,_,by omega,rfl,by simp,.inr (.inl ⟨rfl,rfl,HT.out.1,HT.out.2⟩),hR3,hX3,hB3⟩
      ·have hc':(chk a 0 0 != 0)=true:=by simpa using hc
       have HT:Hid (¬(0<=a∧a<=100)):=fun h=>hc (chk_of h.1 h.2 (by omega) h.1 (by omega) (by omega))
       clear hc
       go_wp2_with fail
       go_ret
       refine ⟨newIs_nil ?_ rfl,hB3⟩
       rw [<-Bool.not_eq_true,HNo.out]
       exact fun h=>HT.out ⟨h.1,h.2.1⟩
    ·have c0:wr.cell? ⟨p,4,none⟩=some (.int .i64 0):=hR.cs 3 (by omega)
     have c1:wr.cell? ⟨p,5,none⟩=some (.int .i64 0):=hR.cs 4 (by omega)
     have c2:wr.cell? ⟨p,6,none⟩=some (.int .i64 0):=hR.cs 5 (by omega)
     have HAB:Hid (0<=a∧a<=100):=⟨a0,a1⟩
     clear a0 a1
     have hf:=hR.loose
     have hno:no=0∨no=1∨no=2:=by omega
     have hx:Hid (∃j,(no * 2+1).toNat=j∧wr.cell? ⟨w.heap.size,j,none⟩=some (.int .i64 b)):=by
      refine ⟨_,rfl,?_⟩
      rw [HB.out]
      rcases hno with rfl | rfl | rfl
      ·exact hX.2 1 _ rfl
      ·exact hX.2 3 _ rfl
      ·exact hX.2 5 _ rfl
     obtain ⟨j,hj,hx⟩:=hx.out
     have HCh:Hid (∀W:World,_):=fun W=>check_any b 0 0 W
     rcases hno with rfl | rfl | rfl
     all_goals
      simp at hj
      subst hj
      go_wp2_with fail
      go_region
      have hR2:=(hR.setC 3 (by omega) b).next ((Below.refl _ _).drew)
      have hX2:BoxAt (wr.setCell ⟨p,1+3,none⟩ (.int .i64 b)).drew w.heap.size [.int .i64 (ws 0),.int .i64 (ws 1),.int .i64 (ws 2),.int .i64 (ws 3),.int .i64 (ws 4),.int .i64 (ws 5)]:=
       ⟨by simpa using hlx,fun j u hj=>by
        show (wr.setCell ⟨p,1+3,none⟩ (.int .i64 b)).cell? _=_
        rw [cell_set_block hpn];exact hX.2 j u hj⟩
      have hB2:Below w.heap.size w (wr.setCell ⟨p,1+3,none⟩ (.int .i64 b)).drew:=(hB.setCell (p:=⟨p,1+3,none⟩) (Nat.le_of_lt hpw) _).drew
      simp only [Nat.reduceAdd] at hR2 hX2 hB2
      generalize (wr.setCell ⟨p,4,none⟩ (.int .i64 b)).drew=W2 at hR2 hX2 hB2 ⊢
      have d0:W2.cell? ⟨p,4,none⟩=some (.int .i64 b):=hR2.cs 3 (by omega)
      have d1:W2.cell? ⟨p,4+1,none⟩=some (.int .i64 0):=hR2.cs (3+1) (by omega)
      have d2:W2.cell? ⟨p,4+2,none⟩=some (.int .i64 0):=hR2.cs (3+2) (by omega)
      simp only [Nat.reduceAdd] at d1 d2
      clear hR hX hB c0 c1 c2 hf hx hlt hlx
      go_wp2_with fail
      refine Calls.mono (HCh.out _) ?_
      rintro e w3 ⟨rfl,hb3⟩
      have hR3:=hR2.next hb3
      have hX3:=hX2.next hb3
      have hB3:=after hB2 hb3 hB2.size
      clear hR2 hX2 hB2 d0 d1 d2 hb3
      by_cases hc:chk b 0 0=0
      ·have hc':(chk b 0 0 != 0)=false:=by simp [hc]
       obtain ⟨t0,t1,_⟩:=chk_ok hc
       have HT:Hid (0<=b∧b<=100):=⟨t0,t1⟩
       clear hc t0 t1
       go_wp2_with fail
       go_roundg 0
       case measure=>omega
       case rel=>exact ⟨2,_,by omega,rfl,by simp,.inr (.inr ⟨rfl,rfl,HAB.out.1,HAB.out.2,HT.out.1,HT.out.2⟩),hR3,hX3,hB3⟩
      ·have hc':(chk b 0 0 != 0)=true:=by simpa using hc
       have HT:Hid (¬(0<=b∧b<=100)):=fun h=>hc (chk_of h.1 h.2 (by omega) h.1 (by omega) (by omega))
       clear hc
       go_wp2_with fail
       go_ret
       refine ⟨newIs_nil ?_ rfl,hB3⟩
       rw [<-Bool.not_eq_true,HNo.out]
       exact fun h=>HT.out ⟨h.2.2.1,h.2.2.2⟩
    ·have HT:Hid (newOk no ws=true):=HNo.out.2 ⟨a0,a1,b0,b1⟩
     clear a0 a1 b0 b1
     go_wp2_with fail
     go_ret
     refine ⟨?_,hB⟩
     unfold NewIs
     rw [if_pos HT.out]
     refine ⟨p,fun k=>k=p,rfl,⟨fun k e=>by subst e;exact hlt,rfl,.slice none 0 0,?_,World.ownsRow_nil _ _ _ _,fun k e=>by simp [Value.ownBlock] at e⟩,fun k e=>by subst e;exact Nat.le_of_lt hpw⟩
     refine hR.congr (fun j hj=>?_) (fun _ _=>rfl) (fun _ _=>rfl)
     have h6:j=0∨j=1∨j=2∨j=3∨j=4∨j=5:=by omega
     rcases h6 with rfl | rfl | rfl | rfl | rfl | rfl
     ·exact HA.out
     ·rfl
     ·rfl
     ·exact HB.out
     ·rfl
     ·rfl
theorem good_new {no:Int} {ws:Nat->Int} (h:newOk no ws=true):Good (book0 no ws):=by
 rw [newOk_iff] at h
 refine ⟨h.1,h.2.1,?_,by intro x hx;simp [book0] at hx,by intro x hx;simp [book0] at hx⟩
 intro k hk
 have:k=0∨k=1:=by omega
 rcases this with rfl | rfl
 ·exact chk_of h.2.2.1 h.2.2.2.1 (by simp [Bk.out,book0,outs]) (by simp [Bk.out,book0,outs];exact h.2.2.1) (by simp [Bk.inn,book0,inns]) (by simp [Bk.inn,book0,inns,Bk.val];exact h.2.2.2.1)
 ·exact chk_of h.2.2.2.2.1 h.2.2.2.2.2 (by simp [Bk.out,book0,outs]) (by simp [Bk.out,book0,outs];exact h.2.2.2.2.1) (by simp [Bk.inn,book0,inns]) (by simp [Bk.inn,book0,inns,Bk.val];exact h.2.2.2.2.2)
theorem holdR_cases (A:Bk) (deal c d:Int):(chkS A.no A.es deal c d ≠ 0∧holdR A deal c d=(chkS A.no A.es deal c d,A))∨(chkS A.no A.es deal c d=0∧∃m:Nat,m<2∧c=A.no * 2+m∧
 ((∃x,A.hs.find? (same deal c)=some x∧holdR A deal c d=(if x.2.2=d then 0 else 9,A))∨(A.hs.find? (same deal c)=none∧hC (A.val m) (A.out m) (A.inn m) d ≠ 0∧holdR A deal c d=(hC (A.val m) (A.out m) (A.inn m) d,A))∨(A.hs.find? (same deal c)=none∧hC (A.val m) (A.out m) (A.inn m) d=0∧holdR A deal c d=(0,more1 A deal c d)))):=by
 by_cases h:chkS A.no A.es deal c d=0
 ·right
  obtain ⟨_,_,hw0,hs0,_⟩:=chkS_zero h
  obtain ⟨q1,q2,_⟩:=wnt_ok hw0
  obtain ⟨q3,q4,q5⟩:=shp_place q1 q2 hs0
  obtain ⟨m,hm⟩:=Int.eq_ofNat_of_zero_le q4
  rw [hm] at q3 q5
  have hm2:m<2:=by omega
  refine ⟨h,m,hm2,q3,?_⟩
  cases hf:A.hs.find? (same deal c) with
  | some x=>exact .inl ⟨x,rfl,holdR_some h hf⟩
  | none=>
    right
    subst q3
    have e:=holdR_none (A:=A) (deal:=deal) (d:=d) hm2 h hf
    by_cases hz:hC (A.val m) (A.out m) (A.inn m) d=0
    ·right
     refine ⟨rfl,hz,?_⟩
     rw [e,hz]
     rfl
    ·left
     refine ⟨rfl,hz,?_⟩
     rw [e]
     unfold addB
     rw [if_neg hz]
 ·exact .inl ⟨h,holdR_bad h⟩
theorem good_more {A:Bk} (hG:Good A) {deal d:Int} {m:Nat} (hm:m<2) (hc:chkS A.no A.es deal (A.no * 2+m) d=0) (hz:hC (A.val m) (A.out m) (A.inn m) d=0):Good (more1 A deal (A.no * 2+m) d):=by
 obtain ⟨d0,d8,hw0,hs0,ho0⟩:=chkS_zero hc
 refine ⟨hG.no0,hG.no3,?_,?_,hG.ends⟩
 ·intro k hk
  obtain ⟨k1,k2,k3⟩:=more1_out A deal (A.no * 2+m) d k
  rw [k1,k2,k3]
  by_cases e:k=m
  ·subst e
   obtain ⟨⟨a1,a2,a3,a4,a5,a6⟩,n0,n1,n2,hw⟩:=hold_zero hz
   simp only [outOf,innOf,if_true]
   rcases hw with ⟨hn,hs,_⟩ | ⟨hn,hs,_⟩
   ·rw [if_pos hn,if_pos hn]
    exact chk_of a1 a2 (by omega) (by omega) (by omega) (by omega)
   ·rw [if_neg (by omega),if_neg (by omega)]
    exact chk_of a1 a2 (by omega) (by omega) (by omega) (by omega)
  ·have q:¬(A.no * 2+(m:Int)=A.no * 2+(k:Int)):=by omega
   simp only [outOf,innOf,if_neg q,Int.add_zero]
   exact hG.cnt k hk
 ·intro x hx
  rcases List.mem_append.1 hx with hx | hx
  ·exact hG.each x hx
  ·rw [List.mem_singleton.1 hx]
   exact ⟨d0,d8,hs0,hw0,ho0⟩
theorem good_hold {A:Bk} (hG:Good A) (deal c d:Int):Good (holdR A deal c d).2:=by
 rcases holdR_cases A deal c d with ⟨_,e⟩ | ⟨hc,m,hm,rfl,⟨x,_,e⟩ | ⟨_,_,e⟩ | ⟨_,hz,e⟩⟩
 ·rw [e];exact hG
 ·rw [e];exact hG
 ·rw [e];exact hG
 ·rw [e];exact good_more hG hm hc hz
theorem hold_len (A:Bk) (deal c d:Int):(holdR A deal c d).2.hs.length<=A.hs.length+1∧(holdR A deal c d).2.es=A.es∧(holdR A deal c d).2.no=A.no:=by
 rcases holdR_cases A deal c d with ⟨_,e⟩ | ⟨hc,m,hm,rfl,⟨x,_,e⟩ | ⟨_,_,e⟩ | ⟨_,hz,e⟩⟩
 ·rw [e];exact ⟨by simp,rfl,rfl⟩
 ·rw [e];exact ⟨by simp,rfl,rfl⟩
 ·rw [e];exact ⟨by simp,rfl,rfl⟩
 ·rw [e];exact ⟨by simp [more1],rfl,rfl⟩
theorem bookK_ok {A:Bk} (hG:Good A) (deal:Int) (done:Bool):∀k,k<=A.hs.length->AllOk (bookK A deal done k)
 | 0,_=>by rw [bookK_zero];exact hG.cnt
 | k+1,hk=>by
   have ih:=bookK_ok hG deal done k (by omega)
   obtain ⟨⟨a,c,d⟩,hkx⟩:∃x,A.hs[k]?=some x:=⟨_,List.getElem?_eq_getElem (by omega)⟩
   by_cases he:a=deal
   ·subst he
    obtain ⟨_,_,hs0,hw0,_⟩:=hG.each _ (List.mem_of_getElem? hkx)
    obtain ⟨q1,q2,q6⟩:=wnt_ok hw0
    obtain ⟨q3,q4,q5⟩:=shp_place q1 q2 hs0
    obtain ⟨m,hm⟩:=Int.eq_ofNat_of_zero_le q4
    have hm2:m<2:=by omega
    have hcq:c=A.no * 2+(m:Int):=by simp only at q3 hm;omega
    exact (bookK_own hm2 (by rw [hkx,hcq]) ih q6).2.1
   ·rw [bookK_skip hkx he];exact ih
theorem good_endA {A:Bk} (hG:Good A) {deal:Int} (done:Bool) (h0:0<=deal) (h8:deal<8):Good (endA A deal done):=by
 refine ⟨hG.no0,hG.no3,?_,?_,?_⟩
 ·have h:=bookK_ok hG deal done A.hs.length (Nat.le_refl _)
  rw [bookK_all]
  exact h
 ·intro x hx
  have hx':x∈A.hs.filter (fun h=>h.1 != deal):=hx
  rw [List.mem_filter] at hx'
  obtain ⟨a1,a2,a3,a4,a5⟩:=hG.each x hx'.1
  refine ⟨a1,a2,a3,a4,?_⟩
  show over (A.es++[(deal,done)]) x.1=none
  rw [over_append,a5]
  have:¬(deal=x.1):=by have:=hx'.2;simp at this;omega
  simp [over,this]
 ·intro e he
  rcases List.mem_append.1 (show e∈A.es++[(deal,done)] from he) with he | he
  ·exact hG.ends e he
  ·rw [List.mem_singleton.1 he];exact ⟨h0,h8⟩
theorem endR_cases (A:Bk) (deal:Int) (done:Bool):((deal<0∨8<=deal)∧endR A deal done=(1,A))∨(0<=deal∧deal<8∧((∃b,over A.es deal=some b∧endR A deal done=(if b=done then 0 else 9,A))∨(over A.es deal=none∧endR A deal done=(0,endA A deal done)))):=by
 by_cases h:deal<0∨8<=deal
 ·exact .inl ⟨h,endR_range h⟩
 ·right
  refine ⟨by omega,by omega,?_⟩
  cases ho:over A.es deal with
  | some b=>exact .inl ⟨b,rfl,endR_over (by omega) (by omega) ho⟩
  | none=>exact .inr ⟨rfl,endR_new (by omega) (by omega) ho⟩
theorem good_end {A:Bk} (hG:Good A) (deal:Int) (done:Bool):Good (endR A deal done).2:=by
 rcases endR_cases A deal done with ⟨_,e⟩ | ⟨h0,h8,⟨b,_,e⟩ | ⟨_,e⟩⟩
 ·rw [e];exact hG
 ·rw [e];exact hG
 ·rw [e];exact good_endA hG done h0 h8
theorem end_len (A:Bk) (deal:Int) (done:Bool):(endR A deal done).2.hs.length<=A.hs.length∧(endR A deal done).2.es.length<=A.es.length+1∧(endR A deal done).2.no=A.no:=by
 rcases endR_cases A deal done with ⟨_,e⟩ | ⟨h0,h8,⟨b,_,e⟩ | ⟨_,e⟩⟩
 ·rw [e];exact ⟨Nat.le_refl _,by simp,rfl⟩
 ·rw [e];exact ⟨Nat.le_refl _,by simp,rfl⟩
 ·rw [e];exact ⟨List.length_filter_le _ _,by simp [endA],rfl⟩
def cntV (c:Nat->Int):Value:=.agg #[.int .i64 (c 0),.int .i64 (c 1),.int .i64 (c 2),.int .i64 (c 3),.int .i64 (c 4),.int .i64 (c 5)]
theorem scounts_any (O:Nat->Prop) (A:Bk) (p:Nat) (w:World) (h:ShopIn O w p A):
 Calls Tryz.prog 108 #[.pointer (some ⟨p,0,none⟩)] w fun e w'=>e=.returned (cntV (cnt6 A))∧Below w.heap.size w w':=by
 obtain ⟨hv,hR,_,_⟩:=h.raw
 have c0:w.cell? ⟨p,1,none⟩=some (.int .i64 (cnt6 A 0)):=hR.cs 0 (by omega)
 have c1:w.cell? ⟨p,2,none⟩=some (.int .i64 (cnt6 A 1)):=hR.cs 1 (by omega)
 have c2:w.cell? ⟨p,3,none⟩=some (.int .i64 (cnt6 A 2)):=hR.cs 2 (by omega)
 have c3:w.cell? ⟨p,4,none⟩=some (.int .i64 (cnt6 A 3)):=hR.cs 3 (by omega)
 have c4:w.cell? ⟨p,5,none⟩=some (.int .i64 (cnt6 A 4)):=hR.cs 4 (by omega)
 have c5:w.cell? ⟨p,6,none⟩=some (.int .i64 (cnt6 A 5)):=hR.cs 5 (by omega)
 have hlt:=hR.lt
 unfold cntV
 generalize cnt6 A=f at c0 c1 c2 c3 c4 c5 ⊢
 clear h hR
 go_enter Tryz.func108,Tryz.ntmps108
 go_wp2_with fail
 exact bodyPost_ret (v:=.agg #[.int .i64 (f 0),.int .i64 (f 1),.int .i64 (f 2),.int .i64 (f 3),.int .i64 (f 4),.int .i64 (f 5)]) (by simp [results,Tryz.results108,go_sem]) rfl ⟨rfl,by go_grown⟩
theorem flat3_one (l:List H3):∀u∈flat3 l,u.oneCell'=true:=by
 intro u hu
 unfold flat3 at hu
 rw [List.mem_flatMap] at hu
 obtain ⟨x,_,hx⟩:=hu
 simp only [List.mem_cons,List.not_mem_nil,or_false] at hx
 rcases hx with rfl | rfl | rfl <;> rfl
theorem sholds_any (O:Nat->Prop) (A:Bk) (p:Nat) (w:World) (h:ShopIn O w p A) (hlen:A.hs.length<2 ^ 40):
 Calls Tryz.prog 117 #[.pointer (some ⟨p,0,none⟩)] w fun e w'=>(∃ga cap,e=.returned (.slice ga A.hs.length cap)∧HoldsAt w' ga A.hs∧(∀a,ga=some a->w.heap.size<=a.block∧a.block<w'.heap.size))∧Below w.heap.size w w':=by
 obtain ⟨i0,hi,hz0,hz1,hz2⟩:=info_parts infoHold
 obtain ⟨hv,hR,hrow,_⟩:=h.raw
 have g0:=hR.hv
 have HRow:Hid (w.ownsRow (p+1) 120 3 hv A.hs.length (flat3 A.hs)):=hrow
 generalize A.hs=l at HRow hlen ⊢
 clear h hR hrow
 rcases HRow.out.2 with ⟨rfl,e0⟩ | ⟨g,cap,cur,rfl,_⟩
 ·have:l=[]:=List.length_eq_zero_iff.1 e0
  subst this
  clear HRow e0
  go_enter Tryz.func117,Tryz.ntmps117
  go_wp2_with fail
  go_ret
  exact ⟨⟨none,0,rfl,by intro k a c d hk;simp at hk,by simp⟩,Below.refl _ _⟩
 ·obtain ⟨_,_,_,_,hcell⟩:=own_row HRow.out
  have HC:Hid _:=hcell
  clear hcell
  have HL:Hid _:=flat3_length l
  go_enter Tryz.func117,Tryz.ntmps117
  go_wp2_with (at_builtin;refine wpList_append_own _ rfl (.const (.slice none 0 0)) (.tmp 6) 116 rfl w.heap.size 120 i0 (.agg #[.int .i64 0,.int .i64 0,.int .i64 0]) 3 24 Tryz.underlying116 hi hz0 hz1 hz2 rfl (by decide) (.slice none 0 0) 0 [] rfl (World.ownsRow_nil _ _ _ _) ⟨g,0,none⟩ l.length cap (flat3 l) rfl HL.out (fun j u hj=>by rw [addr_add];exact HC.out j u hj) (flat3_one l) (by unfold maxLen;omega) (by omega) (Nat.le_refl _) ?_;intro v7 w7 hown7 hgrow7 _)
  have hown8:w7.ownsRow w.heap.size 120 3 v7 l.length (flat3 l):=by simpa using hown7
  obtain ⟨ga,cap7,rfl,hA,_⟩:=holds_of_own hown8
  go_ret
  refine ⟨⟨ga,⟨cap7,rfl⟩,hA,fun a e=>?_⟩,(Below.refl _ _).grown hgrow7 (Nat.le_refl _) (fun k e=>by simp [Value.ownBlock] at e)⟩
  subst e
  exact hown8.lt a.block rfl
structure Live (w0:World) (K:Nat->Prop) (w:World) (p:Nat) (A:Bk):Prop where
 inn:∃O,ShopIn O w p A∧∀k,O k->w0.heap.size<=k∧¬K k
 below:Below w0.heap.size w0 w
 kept:∀k,K k->k<w.heap.size
def A0:Bk:={ no:=1,v0:=10,v1:=20,hs:=[],es:=[] }
def A1:Bk:={ no:=1,v0:=10,v1:=20,hs:=[(4,2,-6)],es:=[] }
def A2:Bk:={ no:=1,v0:=4,v1:=20,hs:=[],es:=[(4,true)] }
theorem idx2 (a b c d e f:Int) (W:World):(Instr.index 109 (.agg #[.int .i64 a,.int .i64 b,.int .i64 c,.int .i64 d,.int .i64 e,.int .i64 f]) (.int .i64 0)).run Tryz.prog W=.ok (.agg #[.int .i64 a,.int .i64 b,.int .i64 c]) W∧(Instr.index 109 (.agg #[.int .i64 a,.int .i64 b,.int .i64 c,.int .i64 d,.int .i64 e,.int .i64 f]) (.int .i64 1)).run Tryz.prog W=.ok (.agg #[.int .i64 d,.int .i64 e,.int .i64 f]) W:=by
 refine ⟨?_,?_⟩ <;> simp [Instr.index,run_underlying Tryz.underlying109,asIntOf,go_sem]
open Go.ChangeShapes Go.WideShapes Go.ChangeAt Go.RowKit Go.Deep
structure Stp where
 what:Int
 deal:Int
 c:Int
 d:Int
 done:Bool
def Stp.cells (x:Stp):List Value:=[.int .i64 x.what,.int .i64 x.deal,.int .i64 x.c,.int .i64 x.d,.bool x.done]
def StepsAt (w:World) (la:Option Addr) (l:List Stp):Prop:=∀k x,l[k]?=some x->∃b off,la=some ⟨b,off,none⟩∧b<w.heap.size∧∀j v,x.cells[j]?=some v->w.cell? ⟨b,off+k * 5+j,none⟩=some v
def stepR (A:Bk) (x:Stp):Int × Bk:=if x.what=0 then holdR A x.deal x.c x.d else if x.what=1 then endR A x.deal x.done else (0,A)
theorem stepR_hold {A:Bk} {x:Stp} (h:x.what=0):stepR A x=holdR A x.deal x.c x.d:=by unfold stepR;rw [if_pos h]
theorem stepR_end {A:Bk} {x:Stp} (h:x.what=1):stepR A x=endR A x.deal x.done:=by unfold stepR;rw [if_neg (by omega),if_pos h]
theorem step_code {A:Bk} {x:Stp} (h:(stepR A x).1 ≠ 0):(stepR A x).2=A:=by
 unfold stepR at h ⊢
 split at h
 ·rename_i e
  rw [if_pos e]
  rcases holdR_cases A x.deal x.c x.d with ⟨_,e⟩ | ⟨hc,m,hm,_,⟨y,_,e⟩ | ⟨_,_,e⟩ | ⟨_,hz,e⟩⟩
  ·rw [e]
  ·rw [e]
  ·rw [e]
  ·rw [e] at h;exact absurd rfl h
 ·rename_i e0
  split at h
  ·rename_i e1
   rw [if_neg e0,if_pos e1]
   rcases endR_cases A x.deal x.done with ⟨_,e⟩ | ⟨h0,h8,⟨b,_,e⟩ | ⟨_,e⟩⟩
   ·rw [e]
   ·rw [e]
   ·rw [e] at h;exact absurd rfl h
  ·exact absurd rfl h
theorem find_snoc {q:H3->Bool} {l:List H3} {x:H3} (h:l.find? q=none) (hq:q x=true):(l++[x]).find? q=some x:=by
 rw [List.find?_append,h,List.find?_cons,hq];rfl
theorem StepsAt.below {w w':World} {B:Nat} {la:Option Addr} {l:List Stp} (h:StepsAt w la l) (hb:Below B w w') (hB:w.heap.size<=B):StepsAt w' la l:=by
 intro k x hk
 obtain ⟨b,off,e,hlt,h0⟩:=h k x hk
 have hb':b<B:=by omega
 exact ⟨b,off,e,Nat.lt_of_lt_of_le hlt hb.size,fun j v hj=>(hb.cell (p:=⟨b,_,none⟩) hb').trans (h0 j v hj)⟩
theorem box_new6 (w:World) (f:Nat->Int) (t:TypeId):BoxAt (w.alloc (.cells #[.int .i64 (f 0),.int .i64 (f 1),.int .i64 (f 2),.int .i64 (f 3),.int .i64 (f 4),.int .i64 (f 5)] t)) w.heap.size [.int .i64 (f 0),.int .i64 (f 1),.int .i64 (f 2),.int .i64 (f 3),.int .i64 (f 4),.int .i64 (f 5)]:=BoxAt.new _ _ _
end Go.Proofs.YtbgnajcmhmpjlacGreatDoor
