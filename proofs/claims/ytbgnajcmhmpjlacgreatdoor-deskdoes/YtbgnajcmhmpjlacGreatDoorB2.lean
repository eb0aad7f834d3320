/- The contract of WantsFault. -/
import Derived.Deep.RegionLaw
import Derived.BigRegion
import Derived.Test.YtbgnajcmhmpjlacGreatDoorA3
import Derived.Test.YtbgnajcmhmpjlacGreatDoorA5
import Derived.Test.YtbgnajcmhmpjlacGreatDoorA2
set_option maxRecDepth 100000
set_option maxHeartbeats 100000000
namespace Go.Proofs.YtbgnajcmhmpjlacGreatDoor
open Go.RowKit
structure BoothRaw (w:World) (q:Nat) (no v0 v1:Int) (hv ov dv:Value):Prop where
 lt:q<w.heap.size
 c0:w.cell? ⟨q,0,none⟩=some (.int .i64 no)
 c1:w.cell? ⟨q,1,none⟩=some (.int .i64 v0)
 c2:w.cell? ⟨q,2,none⟩=some (.int .i64 v1)
 c3:w.cell? ⟨q,3,none⟩=some hv
 c4:w.cell? ⟨q,4,none⟩=some ov
 c5:w.cell? ⟨q,5,none⟩=some dv
 loose:∀k,w.frozen? ⟨q,k,none⟩=false
theorem BoothRaw.save {O:Nat->Prop} {w w1:World} {q:Nat} {no v0 v1:Int} {hv ov dv:Value} (h:BoothRaw w q no v0 v1 hv ov dv) (hb:Save O w w1) (hn:¬O q):BoothRaw w1 q no v0 v1 hv ov dv:=by
 have hl:=h.lt
 have hs:=hb.size
 have e:∀o,w1.cell? ⟨q,o,none⟩=w.cell? ⟨q,o,none⟩:=fun o=>hb.cell (p:=⟨q,o,none⟩) hl hn
 exact ⟨by omega,(e _).trans h.c0,(e _).trans h.c1,(e _).trans h.c2,(e _).trans h.c3,(e _).trans h.c4,(e _).trans h.c5,fun k=>(hb.frozen (p:=⟨q,k,none⟩) hl hn).trans (h.loose k)⟩
theorem BoothRaw.next {w w1:World} {q:Nat} {no v0 v1:Int} {hv ov dv:Value} (h:BoothRaw w q no v0 v1 hv ov dv) (hb:Below w.heap.size w w1):BoothRaw w1 q no v0 v1 hv ov dv:=
 h.save (O:=fun _=>False) (.of_below hb) (fun q=>q)
def ovL (es:List (Int × Bool)):List Int:=es.map (fun e=>e.1)
def dnL (es:List (Int × Bool)):List Int:=es.map (fun e=>if e.2=true then 1 else 0)
def nums (l:List Int):List Value:=l.map (Value.int .i64)
structure BoothIn (O:Nat->Prop) (w:World) (q:Nat) (A:Bk):Prop where
 own:∀k,O k->k<w.heap.size
 mine:O q
 raw:∃hv ov dv,BoothRaw w q A.no A.v0 A.v1 hv ov dv∧w.ownsRow (q+1) 120 3 hv A.hs.length (flat3 A.hs)∧w.ownsRow (q+1) 3 1 ov A.es.length (nums (ovL A.es))∧w.ownsRow (q+1) 3 1 dv A.es.length (nums (dnL A.es))
  ∧(∀k,hv.ownBlock=some k->O k)∧(∀k,ov.ownBlock=some k->O k)∧(∀k,dv.ownBlock=some k->O k)
  ∧(∀k,hv.ownBlock=some k->ov.ownBlock ≠ some k)∧(∀k,hv.ownBlock=some k->dv.ownBlock ≠ some k)∧(∀k,ov.ownBlock=some k->dv.ownBlock ≠ some k)
theorem BoothIn.save {O O':Nat->Prop} {w w1:World} {q:Nat} {A:Bk} (h:BoothIn O w q A) (hb:Save O' w w1) (hn:∀k,O k->¬O' k):BoothIn O w1 q A:=by
 obtain ⟨hv,ov,dv,h1,h2,h3,h4,h5,h6,h7,h8⟩:=h.raw
 exact ⟨fun k hk=>Nat.lt_of_lt_of_le (h.own k hk) hb.size,h.mine,hv,ov,dv,h1.save hb (hn q h.mine),own_save h2 hb (fun k hk=>hn k (h5 k hk)),own_save h3 hb (fun k hk=>hn k (h6 k hk)),own_save h4 hb (fun k hk=>hn k (h7 k hk)),h5,h6,h7,h8⟩
theorem BoothIn.next {O:Nat->Prop} {w w1:World} {q:Nat} {A:Bk} (h:BoothIn O w q A) (hb:Below w.heap.size w w1):BoothIn O w1 q A:=
 h.save (O':=fun _=>False) (.of_below hb) (fun _ _ q=>q)
theorem over_at {es:List (Int × Bool)} {x:Int} {k:Nat} {b:Bool} (h:es[k]?=some (x,b)) (ha:∀e∈es.take k,e.1 ≠ x):over es x=some b:=by
 have e:es=es.take k++(x,b) :: es.drop (k+1):=by rw [<-drop_cons h,List.take_append_drop]
 rw [e,over_append,over_none ha]
 simp [over]
theorem bover_any (O:Nat->Prop) (A:Bk) (q:Nat) (deal:Int) (w:World) (h:BoothIn O w q A) (hlen:A.es.length<2 ^ 40):
 Calls Tryz.prog 150 #[.pointer (some ⟨q,0,none⟩),.int .i64 deal] w fun e w'=>e=.returned (.tuple #[.bool (ovB A.es deal),.bool (dnB A.es deal)])∧Below w.heap.size w w':=by
 obtain ⟨hv,ov,dv,hR,_,ho,hd,_⟩:=h.raw
 obtain ⟨go,capo,rfl,hO,_⟩:=nums_of_own ho
 obtain ⟨gd,capd,rfl,hD,_⟩:=nums_of_own hd
 have c4:=hR.c4
 have c5:=hR.c5
 have hlt:=hR.lt
 generalize A.es=es at *
 clear h hR ho hd
 go_enter Tryz.func150,Tryz.ntmps150
 go_wp2_with fail
 go_loopg [6] es.length (fun g i wr=>∃k:Nat,k<=es.length∧g=es.length - k∧i=.int .i64 k∧Hid (∀e∈es.take k,e.1 ≠ deal)∧w=wr)
 case atStart=>exact ⟨0,Nat.zero_le _,rfl,rfl,by simp [Hid],rfl⟩
 case round=>
  obtain ⟨k,hk,rfl,rfl,HE,rfl⟩:=hrel
  by_cases hkl:k<es.length
  ·obtain ⟨⟨a,b⟩,hkx⟩:∃x,es[k]?=some x:=⟨_,List.getElem?_eq_getElem hkl⟩
   obtain ⟨b1,o1,rfl,hb1,p1⟩:=hO k a (by unfold ovL;rw [List.getElem?_map,hkx];rfl)
   obtain ⟨b2,o2,rfl,hb2,p2⟩:=hD k (if b=true then 1 else 0) (by unfold dnL;rw [List.getElem?_map,hkx];rfl)
   have j0:(0:Int)<=(k:Int):=by omega
   have j1:(k:Int)<(es.length:Int):=by omega
   have j2:(es.length:Int)<2 ^ 40:=by omega
   clear hO hD
   by_cases he:a=deal
   ·subst he
    have HO:Hid (over es a=some b):=over_at hkx HE.out
    cases b
    ·simp only [Bool.false_eq_true,if_false] at p2
     go_wp2_with fail
     go_quiet (fail)
     go_wp2_with fail
     exact bodyPost_ret (v:=.tuple #[.bool true,.bool false]) (by simp [results,Tryz.results150,go_sem]) rfl ⟨by unfold ovB dnB;rw [HO.out];rfl,bdrewN (Below.refl _ _) _⟩
    ·simp only [if_true] at p2
     go_wp2_with fail
     go_quiet (fail)
     go_wp2_with fail
     exact bodyPost_ret (v:=.tuple #[.bool true,.bool true]) (by simp [results,Tryz.results150,go_sem]) rfl ⟨by unfold ovB dnB;rw [HO.out];rfl,bdrewN (Below.refl _ _) _⟩
   ·have he':(a == deal)=false:=by simpa using he
    have HE2:Hid (∀e∈es.take (k+1),e.1 ≠ deal):=by
     intro e hm
     rw [take_snoc hkx,List.mem_append,List.mem_singleton] at hm
     rcases hm with hm | rfl
     ·exact HE.out e hm
     ·exact he
    clear he
    go_wp2_with fail
    go_roundg (es.length - (k+1))
    case measure=>omega
    case rel=>exact ⟨k+1,by omega,rfl,by simp,HE2,rfl⟩
  ·have hkk:k=es.length:=by omega
   subst hkk
   have HO:Hid (over es deal=none):=over_none (fun e hm=>HE.out e (by rw [List.take_of_length_le (Nat.le_refl _)];exact hm))
   go_wp2_with fail
   exact bodyPost_ret (v:=.tuple #[.bool false,.bool false]) (by simp [results,Tryz.results150,go_sem]) rfl ⟨by unfold ovB dnB;rw [HO.out];rfl,Below.refl _ _⟩
structure KSt (B:Nat) (w:World) (c:Nat->Int) (wr:World):Prop where
 zer:∀j:Nat,j<6->wr.cell? ⟨B,j,none⟩=some (.int .i64 0)
 f0:∀k,wr.frozen? ⟨B,k,none⟩=false
 row:∀j:Nat,j<6->wr.cell? ⟨B+1,j,none⟩=some (.int .i64 (c j))
 f1:∀k,wr.frozen? ⟨B+1,k,none⟩=false
 below:Below B w wr
 lt:B+1<wr.heap.size
theorem KSt.next {B:Nat} {w wr wx:World} {c:Nat->Int} (h:KSt B w c wr) (hb:Below wr.heap.size wr wx):KSt B w c wx:=by
 have hlt:=h.lt
 have hsz:=hb.size
 exact ⟨fun j hj=>((bcell hb).1 _ _ (by omega)).trans (h.zer j hj),loose B hb (by omega) h.f0,fun j hj=>((bcell hb).1 _ _ (by omega)).trans (h.row j hj),loose (B+1) hb (by omega) h.f1,after h.below hb (by omega),by omega⟩
theorem KSt.set {B:Nat} {w wr:World} {c:Nat->Int} (h:KSt B w c wr) (n:Nat) (v:Int):KSt B w (upd c n v) (wr.setCell ⟨B+1,n,none⟩ (.int .i64 v)):=by
 refine ⟨fun j hj=>(cell_set_block (by omega)).trans (h.zer j hj),by simpa [go_sem] using h.f0,?_,by simpa [go_sem] using h.f1,h.below.setCell (p:=⟨B+1,n,none⟩) (Nat.le_succ _) _,by simpa using h.lt⟩
 intro j hj
 unfold upd
 by_cases e:j=n
 ·subst e
  rw [cell_set_same (h.row j hj),if_pos rfl]
 ·rw [cell_set_off e,h.row j hj,if_neg e]
theorem KSt.congr {B:Nat} {w wr:World} {c c':Nat->Int} (h:KSt B w c wr) (he:∀j,j<6->c j=c' j):KSt B w c' wr:=⟨h.zer,h.f0,fun j hj=>by rw [<-he j hj];exact h.row j hj,h.f1,h.below,h.lt⟩
theorem KSt.begin (w:World) (t:Nat):KSt w.heap.size w noW ((w.alloc (.cells #[.int .i64 0,.int .i64 0,.int .i64 0,.int .i64 0,.int .i64 0,.int .i64 0] t)).alloc (.cells #[.int .i64 0,.int .i64 0,.int .i64 0,.int .i64 0,.int .i64 0,.int .i64 0] t)):=by
 refine ⟨?_,by simp [go_sem],?_,by simp [go_sem],by go_grown,by simp⟩
 ·intro j hj
  rcases six_cases hj with rfl | rfl | rfl | rfl | rfl | rfl <;> simp [go_sem]
 ·intro j hj
  rcases six_cases hj with rfl | rfl | rfl | rfl | rfl | rfl <;> simp [go_sem,noW]
def bas (A:Bk) (k:Nat):Nat->Int:=fun j=>if j<k * 3 then cnt6 A j else 0
def cK (A:Bk) (k i:Nat):Nat->Int:=upd3 (bas A k) k (A.val k) (outs (A.hs.take i) (A.no * 2+k)) (inns (A.hs.take i) (A.no * 2+k))
theorem cK_whole (A:Bk) (k:Nat) (hk:k<2):∀j,j<6->cK A k A.hs.length j=bas A (k+1) j:=by
 intro j hj
 obtain ⟨e0,e1,e2⟩:=cnt6_at A k hk
 unfold cK upd3 upd bas
 rw [List.take_of_length_le (Nat.le_refl _)]
 by_cases h2:j=k * 3+2
 ·subst h2;rw [if_pos rfl,if_pos (by omega),e2];rfl
 ·rw [if_neg h2]
  by_cases h1:j=k * 3+1
  ·subst h1;rw [if_pos rfl,if_pos (by omega),e1];rfl
  ·rw [if_neg h1]
   by_cases h0:j=k * 3
   ·subst h0;rw [if_pos rfl,if_pos (by omega),e0]
   ·rw [if_neg h0]
    by_cases hh:j<k * 3
    ·rw [if_pos hh,if_pos (by omega)]
    ·rw [if_neg hh,if_neg (by omega)]
theorem cK_first (A:Bk) (k:Nat):∀j,j<6->upd (bas A k) (k * 3) (A.val k) j=cK A k 0 j:=by
 intro j _
 unfold cK upd3 upd bas
 simp only [List.take_zero,outs,inns]
 by_cases h2:j=k * 3+2
 ·subst h2;rw [if_neg (by omega),if_neg (by omega),if_pos rfl]
 ·rw [if_neg h2]
  by_cases h1:j=k * 3+1
  ·subst h1;rw [if_neg (by omega),if_neg (by omega),if_pos rfl]
  ·rw [if_neg h1]
theorem cK_at (A:Bk) (k i:Nat):cK A k i (k * 3+1)=outs (A.hs.take i) (A.no * 2+k)∧cK A k i (k * 3+2)=inns (A.hs.take i) (A.no * 2+k):=by
 unfold cK upd3 upd
 exact ⟨by rw [if_neg (by omega),if_pos rfl],by rw [if_pos rfl]⟩
theorem cK_same {A:Bk} {k i:Nat} (h1:outs (A.hs.take (i+1)) (A.no * 2+k)=outs (A.hs.take i) (A.no * 2+k)) (h2:inns (A.hs.take (i+1)) (A.no * 2+k)=inns (A.hs.take i) (A.no * 2+k)):cK A k (i+1)=cK A k i:=by
 unfold cK;rw [h1,h2]
theorem cK_out {A:Bk} {k i:Nat} (h2:inns (A.hs.take (i+1)) (A.no * 2+k)=inns (A.hs.take i) (A.no * 2+k)):∀j,j<6->upd (cK A k i) (k * 3+1) (outs (A.hs.take (i+1)) (A.no * 2+k)) j=cK A k (i+1) j:=by
 intro j _
 unfold cK upd3 upd
 rw [h2]
 by_cases e1:j=k * 3+1
 ·subst e1;rw [if_pos rfl,if_neg (by omega),if_pos rfl]
 ·rw [if_neg e1,if_neg e1,if_neg e1]
theorem cK_inn {A:Bk} {k i:Nat} (h1:outs (A.hs.take (i+1)) (A.no * 2+k)=outs (A.hs.take i) (A.no * 2+k)):∀j,j<6->upd (cK A k i) (k * 3+2) (inns (A.hs.take (i+1)) (A.no * 2+k)) j=cK A k (i+1) j:=by
 intro j _
 unfold cK upd3 upd
 rw [h1]
 by_cases e1:j=k * 3+2
 ·subst e1;rw [if_pos rfl,if_pos rfl]
 ·rw [if_neg e1,if_neg e1,if_neg e1]
theorem bcounts_any (O:Nat->Prop) (A:Bk) (q:Nat) (w:World) (h:BoothIn O w q A) (hG:Good A) (hlen:A.hs.length<2 ^ 40):
 Calls Tryz.prog 45 #[.pointer (some ⟨q,0,none⟩)] w fun e w'=>e=.returned (cntV (cnt6 A))∧Below w.heap.size w w':=by
 obtain ⟨hv,ov,dv,hR,ho,_⟩:=h.raw
 obtain ⟨ga,cap,rfl,hH,_⟩:=holds_of_own ho
 have HR:Hid (∀W:World,Below w.heap.size w W->W.cell? ⟨q,0,none⟩=some (.int .i64 A.no)∧W.cell? ⟨q,3,none⟩=some (.slice ga A.hs.length cap)∧∀k,k<2->W.cell? ⟨q,1+k,none⟩=some (.int .i64 (A.val k))):=fun W hW=>by
  have hl:=hR.lt
  have e:∀o,W.cell? ⟨q,o,none⟩=w.cell? ⟨q,o,none⟩:=fun o=>hW.cell (p:=⟨q,o,none⟩) hl
  refine ⟨(e _).trans hR.c0,(e _).trans hR.c3,fun k hk=>?_⟩
  have:k=0∨k=1:=by omega
  rcases this with rfl | rfl
  ·exact (e _).trans hR.c1
  ·exact (e _).trans hR.c2
 have hql:=hR.lt
 have HG:Hid (Good A):=hG
 have hno:0<=A.no∧A.no<3:=⟨hG.no0,hG.no3⟩
 obtain ⟨n0,n3⟩:=hno
 clear h hR ho hG
 go_enter Tryz.func45,Tryz.ntmps45
 go_wp2_with fail
 have hS0:=KSt.begin w 109
 generalize ((w.alloc (.cells #[.int .i64 0,.int .i64 0,.int .i64 0,.int .i64 0,.int .i64 0,.int .i64 0] 109)).alloc (.cells #[.int .i64 0,.int .i64 0,.int .i64 0,.int .i64 0,.int .i64 0,.int .i64 0] 109))=W0 at hS0 ⊢
 go_loopg [4] 2 (fun g s4 wr=>∃k:Nat,k<=2∧g=2 - k∧s4=.int .i64 k∧KSt w.heap.size w (bas A k) wr)
 case atStart=>exact ⟨0,by omega,rfl,rfl,hS0.congr (fun j _=>by simp [bas,noW])⟩
 case round=>
  obtain ⟨k,hk,rfl,rfl,hS⟩:=hrel
  clear hS0
  have hlt1:=hS.lt
  by_cases hk2:k<2
  ·have i0:(0:Int)<=(k:Int):=by omega
   have i1:(k:Int)<2:=by omega
   obtain ⟨q0,q3,qk⟩:=HR.out wr hS.below
   have q1:=qk k hk2
   have r0:=hS.row (k * 3) (by omega)
   have g1:=hS.f1
   have hqn:q ≠ w.heap.size+1:=by omega
   clear qk
   go_upto_region 6 with fail
   have hS1:=(hS.set (k * 3) (A.val k)).congr (cK_first A k)
   generalize (wr.setCell ⟨w.heap.size+1,k * 3,none⟩ (.int .i64 (A.val k)))=W1 at hS1 ⊢
   clear hS q0 q3 q1 r0 g1 hlt1
   go_wp2_with fail
   go_loopg [5,6] A.hs.length (fun g s5 _ wy=>∃i:Nat,i<=A.hs.length∧g=A.hs.length - i∧s5=.int .i64 i∧KSt w.heap.size w (cK A k i) wy)
   case atStart=>exact ⟨0,Nat.zero_le _,rfl,rfl,hS1⟩
   case round=>
    obtain ⟨i,hi,rfl,rfl,hS2⟩:=hrel
    clear hS1
    obtain ⟨q0,q3,_⟩:=HR.out wr hS2.below
    have hlt2:=hS2.lt
    have hz2:=hS2.below.size
    by_cases hil:i<A.hs.length
    ·obtain ⟨⟨a,c,d⟩,hix⟩:∃x,A.hs[i]?=some x:=⟨_,List.getElem?_eq_getElem hil⟩
     obtain ⟨bl,ol,rfl,hbl,h0,h1,h2⟩:=hH i a c d hix
     have p0:wr.cell? ⟨bl,ol+i * 3,none⟩=some (.int .i64 a):=(hS2.below.cell (p:=⟨bl,_,none⟩) hbl).trans h0
     have p1:wr.cell? ⟨bl,ol+i * 3+1,none⟩=some (.int .i64 c):=(hS2.below.cell (p:=⟨bl,_,none⟩) hbl).trans h1
     have p2:wr.cell? ⟨bl,ol+i * 3+2,none⟩=some (.int .i64 d):=(hS2.below.cell (p:=⟨bl,_,none⟩) hbl).trans h2
     have j0:(0:Int)<=(i:Int):=by omega
     have j1:(i:Int)<(A.hs.length:Int):=by omega
     have j2:(A.hs.length:Int)<2 ^ 40:=by omega
     have e1:=outs_snoc hix (A.no * 2+k)
     have e2:=inns_snoc hix (A.no * 2+k)
     obtain ⟨_,_,_,hw0,_⟩:=HG.out.each _ (List.mem_of_getElem? hix)
     obtain ⟨_,_,hd0⟩:=wnt_ok hw0
     obtain ⟨_,d1,d2⟩:=dlt_ok hd0
     obtain ⟨_,_,t1,t2,t3,t4⟩:=chk_ok (HG.out.cnt k hk2)
     have t5:=outs_take_le A.hs i (A.no * 2+k)
     have t6:=inns_take_le A.hs i (A.no * 2+k)
     have t7:=outs_nonneg (A.hs.take i) (A.no * 2+k)
     have t8:=inns_nonneg (A.hs.take i) (A.no * 2+k)
     have t9:outs (A.hs.take i) (A.no * 2+k)<=100:=by unfold Bk.out at t2;have:=(chk_ok (HG.out.cnt k hk2)).2.1;omega
     have t10:inns (A.hs.take i) (A.no * 2+k)<=100:=by unfold Bk.inn at t4;have:=(chk_ok (HG.out.cnt k hk2)).1;omega
     have hS3:=hS2.next ((Below.refl _ _).alloc (Nat.le_refl _) (.cells #[.int .i64 a,.int .i64 c,.int .i64 d] 120))
     have hX3:=BoxAt.new wr [.int .i64 a,.int .i64 c,.int .i64 d] 120
     clear h0 h1 h2 hw0 hd0 t1 t2 t3 t4 t5 t6 hH
     go_upto_region 10 with fail
     change BoxAt (wr.alloc (.cells #[.int .i64 a,.int .i64 c,.int .i64 d] 120)) _ _ at hX3
     generalize (wr.alloc (.cells #[.int .i64 a,.int .i64 c,.int .i64 d] 120))=W3 at hS3 hX3 ⊢
     have hlx:w.heap.size+1<wr.heap.size:=hlt2
     have hbx:wr.heap.size ≠ w.heap.size+1:=by omega
     generalize wr.heap.size=bx at hX3 hbx hlx ⊢
     clear hS2 p0 p1 p2 q0 q3 hlt2 hz2
     obtain ⟨q0,q3,_⟩:=HR.out W3 hS3.below
     have x1:=hX3.2 1 _ rfl
     have x2:=hX3.2 2 _ rfl
     have hx3:=hX3.1
     by_cases he:c=A.no * 2+(k:Int)
     ·have he':(c == A.no * 2+(k:Int))=true:=by simpa using he
      by_cases hd:d<0
      ·have r1:=hS3.row (k * 3+1) (by omega)
       rw [(cK_at A k i).1] at r1
       have E1:Hid (outs (A.hs.take (i+1)) (A.no * 2+k)=outs (A.hs.take i) (A.no * 2+k) - d):=by show _=_;rw [e1];simp only [outOf,if_pos he,if_pos hd];omega
       have E2:Hid (inns (A.hs.take (i+1)) (A.no * 2+k)=inns (A.hs.take i) (A.no * 2+k)):=by show _=_;rw [e2];simp only [innOf,if_pos he,if_pos hd];omega
       have g1:=hS3.f1
       have hlt3:=hS3.lt
       generalize outs (A.hs.take i) (A.no * 2+k)=oo at r1 t7 t9 E1
       clear he e1 e2 t8 t10
       go_quiet (fail)
       go_wp2_with fail
       go_region
       all_goals
        go_wp2_with fail
        go_roundg (A.hs.length - (i+1))
        case measure=>omega
        case rel=>
         refine ⟨i+1,by omega,rfl,by simp,?_⟩
         have hS4:=(((hS3.next (bdrewN (Below.refl _ _) nq)).set (k * 3+1) (oo - d)).next ((Below.refl _ _).drew))
         rw [<-E1.out] at hS4
         have:=hS4.congr (cK_out E2.out)
         rw [E1.out] at *
         exact this
      ·have hd':0<=d:=by omega
       have r1:=hS3.row (k * 3+2) (by omega)
       rw [(cK_at A k i).2] at r1
       have E1:Hid (inns (A.hs.take (i+1)) (A.no * 2+k)=inns (A.hs.take i) (A.no * 2+k)+d):=by show _=_;rw [e2];simp only [innOf,if_pos he,if_neg hd]
       have E2:Hid (outs (A.hs.take (i+1)) (A.no * 2+k)=outs (A.hs.take i) (A.no * 2+k)):=by show _=_;rw [e1];simp only [outOf,if_pos he,if_neg hd];omega
       have g1:=hS3.f1
       have hlt3:=hS3.lt
       have hdd:decide (d<0)=false:=decide_eq_false hd
       generalize inns (A.hs.take i) (A.no * 2+k)=oo at r1 t8 t10 E1
       clear he e1 e2 t7 t9 hd hd'
       go_quiet (fail)
       go_wp2_with fail
       go_region
       all_goals
        go_wp2_with fail
        go_roundg (A.hs.length - (i+1))
        case measure=>omega
        case rel=>
         refine ⟨i+1,by omega,rfl,by simp,?_⟩
         have hS4:=(((hS3.next (bdrewN (Below.refl _ _) nq)).set (k * 3+2) (oo+d)).next ((Below.refl _ _).drew))
         rw [<-E1.out] at hS4
         have:=hS4.congr (cK_inn E2.out)
         rw [E1.out] at *
         exact this
     ·have he':(c == A.no * 2+(k:Int))=false:=by simpa using he
      have E1:Hid (cK A k (i+1)=cK A k i):=cK_same (by rw [e1];simp only [outOf,if_neg he];omega) (by rw [e2];simp only [innOf,if_neg he];omega)
      clear he e1 e2 t7 t8 t9 t10
      go_quiet (fail)
      go_wp2_with fail
      go_roundg (A.hs.length - (i+1))
      case measure=>omega
      case rel=>exact ⟨i+1,by omega,rfl,by simp,by rw [E1.out];exact hS3.next (bdrewN (Below.refl _ _) _)⟩
    ·have hii:i=A.hs.length:=by omega
     subst hii
     go_wp2_with fail
     go_roundg (2 - (k+1))
     case measure=>omega
     case rel=>exact ⟨k+1,by omega,rfl,by simp,hS2.congr (cK_whole A k hk2)⟩
  ·have hkk:k=2:=by omega
   subst hkk
   have a0:=hS.row 0 (by omega)
   have a1:=hS.row 1 (by omega)
   have a2:=hS.row 2 (by omega)
   have a3:=hS.row 3 (by omega)
   have a4:=hS.row 4 (by omega)
   have a5:=hS.row 5 (by omega)
   have z0:=hS.zer 0 (by omega)
   have z1:=hS.zer 1 (by omega)
   have z2:=hS.zer 2 (by omega)
   have z3:=hS.zer 3 (by omega)
   have z4:=hS.zer 4 (by omega)
   have z5:=hS.zer 5 (by omega)
   have f0:=hS.f0
   have hb:=hS.below
   simp only [bas,Nat.reduceMul,Nat.reduceLT,if_true] at a0 a1 a2 a3 a4 a5
   clear hS
   go_wp2_with fail
   exact bodyPost_ret (v:=cntV (cnt6 A)) (by simp [results,Tryz.results45,go_sem,z0,z1,z2,z3,z4,z5,cntV]) rfl ⟨rfl,by go_grown⟩
theorem BoothRaw.set3 {w:World} {q:Nat} {no v0 v1:Int} {hv ov dv:Value} (h:BoothRaw w q no v0 v1 hv ov dv) (u:Value):BoothRaw (w.setCell ⟨q,3,none⟩ u) q no v0 v1 u ov dv:=
 ⟨by simpa using h.lt,(cell_set_off (by omega)).trans h.c0,(cell_set_off (by omega)).trans h.c1,(cell_set_off (by omega)).trans h.c2,cell_set_same h.c3,(cell_set_off (by omega)).trans h.c4,(cell_set_off (by omega)).trans h.c5,by simpa [go_sem] using h.loose⟩
theorem bhold_any (O:Nat->Prop) (A:Bk) (q:Nat) (deal c d:Int) (w:World) (h:BoothIn O w q A) (hG:Good A) (hlen:A.hs.length<2 ^ 40) (hle:A.es.length<2 ^ 40):
 Calls Tryz.prog 126 #[.pointer (some ⟨q,0,none⟩),.int .i64 deal,.agg #[.int .i64 c,.int .i64 d]] w fun e w'=>e=.returned (.int .i64 (holdR A deal c d).1)∧∃O',BoothIn O' w' q (holdR A deal c d).2∧Save O w w'∧Moved O O' w:=by
 have HI:Hid (BoothIn O w q A):=h
 have HG:Hid (Good A):=hG
 have hb0:Below w.heap.size w (w.alloc (.cells #[.int .i64 c,.int .i64 d] 97)):=(Below.refl _ _).alloc (Nat.le_refl _) _
 have HB0:Hid _:=hb0
 clear hb0 h hG
 by_cases d0:deal<0
 ·have HE:Hid (holdR A deal c d=(1,A)):=by show _=_;unfold holdR;rw [if_pos d0]
  go_enter Tryz.func126,Tryz.ntmps126
  go_wp2_with fail
  go_ret
  rw [HE.out]
  exact ⟨rfl,O,HI.out.next HB0.out,.of_below HB0.out,.refl _ _⟩
 ·by_cases d8:8<=deal
  ·have HE:Hid (holdR A deal c d=(1,A)):=by show _=_;unfold holdR;rw [if_neg d0,if_pos d8]
   have dd:decide (deal<0)=false:=decide_eq_false d0
   clear d0
   go_enter Tryz.func126,Tryz.ntmps126
   go_wp2_with fail
   go_ret
   rw [HE.out]
   exact ⟨rfl,O,HI.out.next HB0.out,.of_below HB0.out,.refl _ _⟩
  ·have dd:decide (deal<0)=false:=decide_eq_false d0
   have de:decide (8<=deal)=false:=decide_eq_false d8
   have HD:Hid (0<=deal∧deal<8):=by show _∧_;omega
   clear d0 d8
   go_enter Tryz.func126,Tryz.ntmps126
   go_wp2_with fail
   have hW0:=BoxAt.new w [.int .i64 c,.int .i64 d] 97
   change BoxAt (w.alloc (.cells #[.int .i64 c,.int .i64 d] 97)) _ _ at hW0
   refine (wantFault_any c d _).mono ?_
   rintro e w1 ⟨rfl,hb1⟩
   have hW1:=hW0.next hb1
   have hB1:Below w.heap.size w w1:=after HB0.out hb1 (by simp)
   have hI1:=HI.out.next hB1
   clear hW0 hb1 HB0 HI dd de
   by_cases hw:wnt c d=0
   ·have hw':(wnt c d != 0)=false:=by simp [hw]
    have HW:Hid _:=hw
    obtain ⟨hv,ov,dv,hR,hrow,_⟩:=hI1.raw
    have q0:=hR.c0
    have x0:=hW1.2 0 _ rfl
    clear hw hrow
    by_cases hs:shp c=A.no
    ·have hs':(shp c != A.no)=false:=by simp [hs]
     have HS:Hid (shp c=A.no):=hs
     clear hs
     go_upto_region 6 with fail
     go_quiet ((go_at_call 68;exact Calls.quiet_of_same (shopOf_any _ _)))
     have hb2:Below w1.heap.size w1 (w1.drewN nq):=bdrewN (Below.refl _ _) _
     generalize w1.drewN nq=W2 at hb2 ⊢
     have hW2:=hW1.next hb2
     have hI2:=hI1.next hb2
     have hB2:=after hB1 hb2 hB1.size
     clear hW1 hI1 hB1 hb2 hR q0 x0
     go_wp2_with fail
     refine (bover_any O A q deal W2 hI2 hle).mono ?_
     rintro e w3 ⟨rfl,hb3⟩
     have hW3:=hW2.next hb3
     have hI3:=hI2.next hb3
     have hB3:=after hB2 hb3 hB2.size
     clear hW2 hI2 hB2 hb3
     cases ho:ovB A.es deal
     ·have HCh:Hid (chkS A.no A.es deal c d=0):=by
       show _=_
       have:=HD.out
       unfold chkS;rw [if_neg (by omega),if_neg (by omega),if_pos HW.out,if_pos HS.out,if_neg (by rw [ho];decide)]
      have y0:=hW3.2 0 _ rfl
      have y1:=hW3.2 1 _ rfl
      go_upto_region 12 with fail
      have hX4:=BoxAt.new w3 [.int .i64 deal,.int .i64 c,.int .i64 d] 120
      change BoxAt (w3.alloc (.cells #[.int .i64 deal,.int .i64 c,.int .i64 d] 120)) _ _ at hX4
      have hb4:Below w3.heap.size w3 (w3.alloc (.cells #[.int .i64 deal,.int .i64 c,.int .i64 d] 120)):=(Below.refl _ _).alloc (Nat.le_refl _) _
      generalize (w3.alloc (.cells #[.int .i64 deal,.int .i64 c,.int .i64 d] 120))=W4 at hX4 hb4 ⊢
      generalize w3.heap.size=bx at hX4 ⊢
      have hW4:=hW3.next hb4
      have hI4:=hI3.next hb4
      have hB4:=after hB3 hb4 hB3.size
      clear hW3 hI3 hb4 y0 y1 ho
      obtain ⟨hv,ov,dv,hR4,hrow4,_⟩:=hI4.raw
      obtain ⟨ga,cap,rfl,hA4,_⟩:=holds_of_own hrow4
      clear hrow4
      have hl40:(A.hs.length:Int)<2 ^ 40:=by omega
      go_wp2_with fail
      go_loopg [11] A.hs.length (fun g s11 wr=>∃k:Nat,k<=A.hs.length∧g=A.hs.length - k∧s11=.int .i64 k∧Hid (∀y∈A.hs.take k,same deal c y=false)∧Below W4.heap.size W4 wr)
      case atStart=>exact ⟨0,Nat.zero_le _,rfl,rfl,by simp [Hid],Below.refl _ _⟩
      case round=>
       obtain ⟨k,hk,rfl,rfl,HN,hb5⟩:=hrel
       have hR5:=hR4.next hb5
       have hX5:=hX4.next hb5
       have hW5:=hW4.next hb5
       have hA5:=hA4.below hb5 (Nat.le_refl _)
       have HI5:Hid (BoothIn O wr q A):=hI4.next hb5
       have hB5:=after hB4 hb5 hB4.size
       clear hR4 hX4 hW4 hA4 hI4 hB4 hB3
       have c3:=hR5.c3
       have x0:=hX5.2 0 _ rfl
       have x1:=hX5.2 1 _ rfl
       have x2:=hX5.2 2 _ rfl
       have y0:=hW5.2 0 _ rfl
       have y1:=hW5.2 1 _ rfl
       by_cases hkl:k<A.hs.length
       ·obtain ⟨⟨a',c',d'⟩,hkx⟩:∃x,A.hs[k]?=some x:=⟨_,List.getElem?_eq_getElem hkl⟩
        obtain ⟨bl,ol,rfl,hbl,p0,p1,p2⟩:=hA5 k a' c' d' hkx
        have j0:(0:Int)<=(k:Int):=by omega
        have j1:(k:Int)<(A.hs.length:Int):=by omega
        clear hA5
        cases hsm:same deal c (a',c',d')
        ·have HN2:Hid (∀y∈A.hs.take (k+1),same deal c y=false):=by
          intro y hy
          rw [take_snoc hkx,List.mem_append,List.mem_singleton] at hy
          rcases hy with hy | rfl
          ·exact HN.out y hy
          ·exact hsm
         by_cases ha:a'=deal
         ·subst ha
          have hcc:(c' == c)=false:=by simpa [same] using hsm
          clear hsm
          go_wp2_with fail
          go_quiet (fail)
          go_wp2_with fail
          go_quiet (fail)
          go_wp2_with fail
          go_roundg (A.hs.length - (k+1))
          case measure=>omega
          case rel=>exact ⟨k+1,by omega,rfl,by simp,HN2,bdrewN hb5 _⟩
         ·have haa:(a' == deal)=false:=by simpa using ha
          clear hsm ha
          go_wp2_with fail
          go_quiet (fail)
          go_wp2_with fail
          go_quiet (fail)
          go_wp2_with fail
          go_roundg (A.hs.length - (k+1))
          case measure=>omega
          case rel=>exact ⟨k+1,by omega,rfl,by simp,HN2,bdrewN hb5 _⟩
        ·have HF:Hid (A.hs.find? (same deal c)=some (a',c',d')):=find_at hkx hsm HN.out
         obtain ⟨rfl,rfl⟩:a'=deal∧c'=c:=by simpa [same] using hsm
         clear hsm
         by_cases hdd:d'=d
         ·subst hdd
          go_wp2_with fail
          go_quiet (fail)
          go_wp2_with fail
          go_ret
          rw [holdR_some HCh.out HF.out]
          exact ⟨by simp,O,HI5.out.next (bdrewN (Below.refl _ _) _),.of_below (bdrewN hB5 _),.refl _ _⟩
         ·have hde:(d' == d)=false:=by simpa using hdd
          have HDD:Hid _:=hdd
          clear hdd
          go_wp2_with fail
          go_quiet (fail)
          go_wp2_with fail
          go_quiet (fail)
          go_wp2_with fail
          go_ret
          rw [holdR_some HCh.out HF.out]
          exact ⟨by rw [if_neg HDD.out];rfl,O,HI5.out.next (bdrewN (bdrewN (Below.refl _ _) _) _),.of_below (bdrewN (bdrewN hB5 _) _),.refl _ _⟩
       ·have hkk:k=A.hs.length:=by omega
        subst hkk
        have HF:Hid (A.hs.find? (same deal c)=none):=find_none (fun y hy=>HN.out y (by rw [List.take_of_length_le (Nat.le_refl _)];exact hy))
        obtain ⟨_,_,hw0,hs0,_⟩:=chkS_zero HCh.out
        obtain ⟨u1,u2,_⟩:=wnt_ok hw0
        obtain ⟨u3,u4,u5⟩:=shp_place u1 u2 hs0
        obtain ⟨m,hm⟩:=Int.eq_ofNat_of_zero_le u4
        have hm2:m<2:=by omega
        rw [hm] at u3
        have HM:Hid (c=A.no * 2+(m:Int)):=u3
        have hcm:c - A.no * 2=(m:Int):=by omega
        have n0:=HG.out.no0
        have n3:=HG.out.no3
        have c0:=hR5.c0
        have hq5:=hR5.lt
        have hw5:=hW5.1
        have hx5:=hX5.1
        obtain ⟨e0,e1,e2⟩:=cnt6_at A m hm2
        have HH:Hid (∀W:World,Calls Tryz.prog 151 #[.agg #[.int .i64 (A.val m),.int .i64 (A.out m),.int .i64 (A.inn m)],.int .i64 d] W fun e w'=>e=.returned (.tuple #[.agg #[.int .i64 (hV (A.val m) (A.out m) (A.inn m) d),.int .i64 (hO (A.val m) (A.out m) (A.inn m) d),.int .i64 (hI (A.val m) (A.out m) (A.inn m) d)],.int .i64 (hC (A.val m) (A.out m) (A.inn m) d)])∧Below W.heap.size W w'):=fun W=>held_any _ _ _ _ W
        have HC44:Hid (∀W:World,Below wr.heap.size wr W->Calls Tryz.prog 45 #[.pointer (some ⟨q,0,none⟩)] W fun e w'=>e=.returned (cntV (cnt6 A))∧Below W.heap.size W w'):=fun W hW=>bcounts_any O A q W (HI5.out.next hW) HG.out hlen
        have hq1:∀W:World,(Instr.index 109 (cntV (cnt6 A)) (.int .i64 m)).run Tryz.prog W=.ok (.agg #[.int .i64 (A.val m),.int .i64 (A.out m),.int .i64 (A.inn m)]) W:=by
         intro W
         rw [<-e0,<-e1,<-e2]
         have:m=0∨m=1:=by omega
         unfold cntV
         rcases this with rfl | rfl
         ·exact (idx2 _ _ _ _ _ _ W).1
         ·exact (idx2 _ _ _ _ _ _ W).2
        clear hw0 hs0 u3 u4 u5 hm e0 e1 e2 hkl hk HN
        have hm0:(0:Int)<=(m:Int):=by omega
        have hm1:(m:Int)<2:=by omega
        have hr1:IntKind.i64.wrap (A.no * 2)=A.no * 2:=by go_unwrap
        have hr2:IntKind.i64.wrap (m:Int)=(m:Int):=by go_unwrap
        go_upto_region 19 with fail
        go_cut [13] (fun s13 wx=>s13=.int .i64 (hC (A.val m) (A.out m) (A.inn m) d)∧Below wr.heap.size wr wx)
        case first=>
         have HK:Hid (∀w',Below wr.heap.size wr w'->w'.cell? ⟨q,0,none⟩=some (.int .i64 A.no)∧w'.cell? ⟨w.heap.size,0,none⟩=some (.int .i64 c)∧w'.cell? ⟨w.heap.size,1,none⟩=some (.int .i64 d)∧Below wr.heap.size wr w'):=fun w' hb=>⟨((bcell hb).1 _ _ hq5).trans c0,((bcell hb).1 _ _ hw5).trans y0,((bcell hb).1 _ _ hw5).trans y1,hb⟩
         clear hR5 hX5 hW5 hA5 c3 x0 x1 x2 hb5 hB5
         generalize cntV (cnt6 A)=cv at *
         go_region_held3 (fun w'=>w'.cell? ⟨q,0,none⟩=some (.int .i64 A.no)∧w'.cell? ⟨w.heap.size,0,none⟩=some (.int .i64 c)∧w'.cell? ⟨w.heap.size,1,none⟩=some (.int .i64 d)∧Below wr.heap.size wr w')
          (first | exact HK.out _ (by go_grown))
          (first
            | (go_at_call 45;refine Calls.mono (HC44.out _ (by go_grown)) ?_;rintro e w9 ⟨rfl,hb9⟩;have hw9:Below wr.heap.size wr w9:=after (by go_grown) hb9 (by simp <;> omega);have hz9:wr.heap.size<=w9.heap.size:=hw9.size;have hy9:=hb9.size;(try simp [Nat.add_one_le_iff] at hy9);obtain ⟨hc9,hf9⟩:=bcell hb9)
            | (go_at_call 151;refine Calls.mono (HH.out _) ?_;rintro e w10 ⟨rfl,hb10⟩;have hw10:Below wr.heap.size wr w10:=after (by go_grown) hb10 (by first | omega | (simp;omega) | simp);have hz10:wr.heap.size<=w10.heap.size:=hw10.size;have hy10:=hb10.size;(try simp [Nat.add_one_le_iff] at hy10);obtain ⟨hc10,hf10⟩:=bcell hb10;clear hcm u1 u2 n0 n3 hm0 hm1 hr1 hr2 hq1 hlen hle hl40 hq5 hw5 hx5 c0 y0 y1))
         all_goals
          go_wp2_with fail
          go_meet
          case rel=>exact ⟨rfl,by go_grown⟩
        case rest=>
         obtain ⟨rfl,hb6⟩:=hcut
         have HI6:Hid (BoothIn O wc q A):=HI5.out.next hb6
         have hX6:=hX5.next hb6
         have hB6:=after hB5 hb6 hB5.size
         have HE:=holdR_none (A:=A) (deal:=deal) (d:=d) hm2 (by rw [<-HM.out];exact HCh.out) (by rw [<-HM.out];exact HF.out)
         rw [<-HM.out] at HE
         have HE':Hid _:=HE
         generalize hC (A.val m) (A.out m) (A.inn m) d=code at HE' ⊢
         clear HE hR5 hX5 hW5 hA5 hB5 hb5 hb6 c3 x0 x1 x2 y0 y1 c0 hq5 hw5 hx5 hq1 hcm hr1 hr2 HH HC44 HI5 u1 u2
         by_cases hz:code=0
         ·have hz':(code != 0)=false:=by simp [hz]
          have HZ:Hid _:=hz
          clear hz
          obtain ⟨hv6,ov6,dv6,hR6,hrow6,hro6,hrd6,hs1,hs2,hs3,ht1,ht2,ht3⟩:=HI6.out.raw
          have HOwn:Hid (∀k,O k->k<wc.heap.size):=HI6.out.own
          have HMine:Hid (O q):=HI6.out.mine
          have HRow:Hid (wc.ownsRow (q+1) 120 3 hv6 A.hs.length (flat3 A.hs)):=hrow6
          have HRo:Hid (wc.ownsRow (q+1) 3 1 ov6 A.es.length (nums (ovL A.es))):=hro6
          have HRd:Hid (wc.ownsRow (q+1) 3 1 dv6 A.es.length (nums (dnL A.es))):=hrd6
          have HT:Hid ((∀k,hv6.ownBlock=some k->O k)∧(∀k,ov6.ownBlock=some k->O k)∧(∀k,dv6.ownBlock=some k->O k)∧(∀k,hv6.ownBlock=some k->ov6.ownBlock ≠ some k)∧(∀k,hv6.ownBlock=some k->dv6.ownBlock ≠ some k)∧(∀k,ov6.ownBlock=some k->dv6.ownBlock ≠ some k)):=⟨hs1,hs2,hs3,ht1,ht2,ht3⟩
          have HR6:Hid (BoothRaw wc q A.no A.v0 A.v1 hv6 ov6 dv6):=hR6
          have HN1:Hid (some q ≠ hv6.ownBlock):=fun e=>by have:=(HRow.out.lt q e.symm).1;omega
          clear hrow6 hro6 hrd6 hs1 hs2 hs3 ht1 ht2 ht3
          obtain ⟨i0,hi,hz0,hz1,hz2⟩:=info_parts infoHold
          have g0:=hR6.c3
          have f6:=hR6.loose
          have l6:=hR6.lt
          have x0:=hX6.2 0 _ rfl
          have x1:=hX6.2 1 _ rfl
          have x2:=hX6.2 2 _ rfl
          have b6:=hX6.1
          clear hR6 hX6
          go_upto_region 22 with fail
          go_region_law
           (first | (refine step_append_two (by rfl) (.tmp 111) (.tmp 113) 116 (by rfl) (q+1) 120 i0 (.agg #[.int .i64 0,.int .i64 0,.int .i64 0]) 3 24 Tryz.underlying116 hi hz0 hz1 hz2 rfl (by decide) hv6 _ _ (by simp [Act.eval]) (own_next HRow.out (by go_grown)) ⟨wc.heap.size,0,none⟩ 1 1 [.int .i64 deal,.int .i64 c,.int .i64 d] (by simp [Act.eval]) rfl (hold_lies (by simp [go_sem]) (by simp [go_sem]) (by simp [go_sem])) hold_cell (by unfold maxLen;omega) (by omega) (by simp;omega) (by decide) ?_;intro v8 w8 hown8 hgrow8 hwh8;obtain ⟨ga8,cap8,rfl⟩:=own_slice hown8;have HO8:Hid (w8.ownsRow (q+1) 120 3 (.slice ga8 (A.hs.length+1) cap8) (A.hs.length+1) (flat3 A.hs++[.int .i64 deal,.int .i64 c,.int .i64 d])):=hown8;clear hown8;have HW8:Hid _:=hwh8;clear hwh8;have q78:w8.cell? ⟨q,3,none⟩=some hv6:=hgrow8.cell (by simp [go_sem,g0,l6]) HN1.out;have hf8:∀k,w8.frozen? ⟨q,k,none⟩=false:=fun k=>(World.frozen?_of_block (hgrow8.block q (by simp;omega) HN1.out)).trans (by simp [go_sem,f6,l6])))
          all_goals
           have hg1:Below wc.heap.size wc (wc.alloc (.cells #[.int .i64 deal,.int .i64 c,.int .i64 d] 120)):=(Below.refl _ _).alloc (Nat.le_refl _) _
           have hS8:Save (fun k=>hv6.ownBlock=some k) wc w8:=(Save.of_below (by go_grown)).grown hgrow8 (fun k e _=>e)
           have hsz8:wc.heap.size<=w8.heap.size:=hS8.size
           clear q78 hf8 g0 x0 x1 x2 f6
           have HS8:Hid _:=hS8
           have HW9:Hid (∀k,(Value.slice ga8 (A.hs.length+1) cap8).ownBlock=some k->hv6.ownBlock=some k∨wc.heap.size<=k):=fun k hk=>(HW8.out k hk).imp_right (fun e=>by simp at e;omega)
           clear hgrow8 HW8 hS8 hg1
           go_wp2_with fail
           go_ret
           rw [HE'.out]
           have hf:addB A code deal c d=more1 A deal c d:=by unfold addB;rw [if_pos HZ.out];rfl
           obtain ⟨k1,k2,k3,k4,k5,k6⟩:=HT.out
           refine ⟨by show Ending.returned (.int .i64 0)=_;rw [HZ.out],fun k=>O k∨(Value.slice ga8 (A.hs.length+1) cap8).ownBlock=some k,?_,((Save.of_below hB6).trans (HS8.out.mono (O':=O) (fun k _ e=>k1 k e)) (fun _ _ h=>h)).setCell (p:=⟨q,3,none⟩) (fun _=>HMine.out) _,fun k hk=>?_⟩
           ·show BoothIn _ _ q (addB A code deal c d)
            rw [hf]
            have hR8:=(HR6.out.save HS8.out (fun e=>HN1.out e.symm)).set3 (.slice ga8 (A.hs.length+1) cap8)
            have hro8:=ownsRow_setCell_below (a:=⟨q,3,none⟩) (own_save HRo.out HS8.out (fun k e e'=>k4 k e' e)) (Nat.lt_succ_self q) (.slice ga8 (A.hs.length+1) cap8)
            have hrd8:=ownsRow_setCell_below (a:=⟨q,3,none⟩) (own_save HRd.out HS8.out (fun k e e'=>k5 k e' e)) (Nat.lt_succ_self q) (.slice ga8 (A.hs.length+1) cap8)
            have hrh8:=ownsRow_setCell_below (a:=⟨q,3,none⟩) HO8.out (Nat.lt_succ_self q) (.slice ga8 (A.hs.length+1) cap8)
            have nn:∀k,(Value.slice ga8 (A.hs.length+1) cap8).ownBlock=some k->ov6.ownBlock ≠ some k∧dv6.ownBlock ≠ some k:=fun k hk=>by
             rcases HW9.out k hk with h1 | h1
             ·exact ⟨k4 k h1,k5 k h1⟩
             ·exact ⟨fun e=>by have:=HOwn.out k (k2 k e);omega,fun e=>by have:=HOwn.out k (k3 k e);omega⟩
            refine ⟨fun k hk=>?_,.inl HMine.out,.slice ga8 (A.hs.length+1) cap8,ov6,dv6,hR8,?_,hro8,hrd8,fun k hk=>.inr hk,fun k hk=>.inl (k2 k hk),fun k hk=>.inl (k3 k hk),fun k hk=>(nn k hk).1,fun k hk=>(nn k hk).2,k6⟩
            ·show k<(w8.setCell _ _).heap.size
             rw [show (w8.setCell (⟨q,3,none⟩:Addr) (.slice ga8 (A.hs.length+1) cap8)).heap.size=w8.heap.size by simp]
             rcases hk with hk | hk
             ·have:=HOwn.out k hk
              omega
             ·exact (HO8.out.lt k hk).2
            ·have e1:(more1 A deal c d).hs.length=A.hs.length+1:=by simp [more1]
             have e2:flat3 (more1 A deal c d).hs=flat3 A.hs++[.int .i64 deal,.int .i64 c,.int .i64 d]:=flat3_snoc _ _ _ _
             rw [e1,e2]
             exact hrh8
           ·rcases hk with hk | hk
            ·exact .inl hk
            ·rcases HW9.out k hk with h1 | h1
             ·exact .inl (k1 k h1)
             ·exact .inr (Nat.le_trans hB6.size h1)
         ·have hz':(code != 0)=true:=by simpa using hz
          have HZ:Hid _:=hz
          clear hz
          go_wp2_with fail
          go_ret
          rw [HE'.out]
          exact ⟨rfl,O,by unfold addB;rw [if_neg HZ.out];exact HI6.out,.of_below hB6,.refl _ _⟩
     ·have HE:Hid (holdR A deal c d=(8,A)):=by
       show _=_
       have hch:chkS A.no A.es deal c d=8:=by
        unfold chkS;rw [if_neg (by have:=HD.out;omega),if_neg (by have:=HD.out;omega),if_pos HW.out,if_pos HS.out,if_pos ho]
       rw [holdR_bad (by rw [hch];decide),hch]
      clear ho
      go_wp2_with fail
      go_ret
      rw [HE.out]
      exact ⟨rfl,O,hI3,.of_below hB3,.refl _ _⟩
    ·have hs':(shp c != A.no)=true:=by simpa using hs
     have HE:Hid (holdR A deal c d=(1,A)):=by
      show _=_
      have:=HD.out
      unfold holdR;rw [if_neg (by omega),if_neg (by omega),if_pos HW.out,if_neg hs]
     clear hs
     go_upto_region 6 with fail
     go_quiet ((go_at_call 68;exact Calls.quiet_of_same (shopOf_any _ _)))
     go_wp2_with fail
     go_ret
     rw [HE.out]
     exact ⟨rfl,O,hI1.next (bdrewN (Below.refl _ _) _),.of_below (bdrewN hB1 _),.refl _ _⟩
   ·have hw':(wnt c d != 0)=true:=by simpa using hw
    have HE:Hid (holdR A deal c d=(wnt c d,A)):=by
     show _=_
     have:=HD.out
     unfold holdR;rw [if_neg (by omega),if_neg (by omega),if_neg hw]
    clear hw
    go_wp2_with fail
    go_ret
    rw [HE.out]
    exact ⟨rfl,O,hI1,.of_below hB1,.refl _ _⟩
theorem infoNum:(Tryz.prog.info? 3).map (fun i=>(i.zero,i.size,i.bytes))=some (some (.int .i64 0),1,8):=by kernel_rfl
def kept (deal:Int) (l:List H3) (k:Nat):List H3:=(l.take k).filter (fun h=>h.1 != deal)
theorem kept_other {deal:Int} {l:List H3} {k:Nat} {h:H3} (e:l[k]?=some h) (hd:h.1 ≠ deal):kept deal l (k+1)=kept deal l k++[h]:=by
 unfold kept
 rw [take_snoc e,List.filter_append]
 simp [hd]
theorem kept_own {deal:Int} {l:List H3} {k:Nat} {h:H3} (e:l[k]?=some h) (hd:h.1=deal):kept deal l (k+1)=kept deal l k:=by
 unfold kept
 rw [take_snoc e,List.filter_append]
 simp [hd]
theorem kept_le (deal:Int) (l:List H3) (k:Nat):(kept deal l k).length<=k:=by
 unfold kept
 have h1:=List.length_filter_le (fun h:H3=>h.1 != deal) (l.take k)
 have h2:(l.take k).length<=k:=by rw [List.length_take];omega
 omega
theorem kept_all (deal:Int) (l:List H3):kept deal l l.length=l.filter (fun h=>h.1 != deal):=by
 unfold kept
 rw [List.take_of_length_le (Nat.le_refl _)]
def valE (A:Bk) (deal:Int) (done:Bool) (k m:Nat):Int:=A.val m+gain deal done (A.hs.take k) (A.no * 2+m)
theorem valE_zero (A:Bk) (deal:Int) (done:Bool) (m:Nat):valE A deal done 0 m=A.val m:=by simp [valE,gain]
theorem valE_skip {A:Bk} {deal a c d:Int} {done:Bool} {k:Nat} (h:A.hs[k]?=some (a,c,d)) (ha:a ≠ deal∨done=false) (m:Nat):valE A deal done (k+1) m=valE A deal done k m:=by
 unfold valE
 rw [gain_snoc h]
 unfold gainOf
 rw [if_neg (fun q=>ha.elim (fun h=>h q.1) (fun h=>by rw [h] at q;exact absurd q.2.2 (by simp))),Int.add_zero]
theorem valE_own {A:Bk} {deal c d:Int} {k m:Nat} (h:A.hs[k]?=some (deal,c,d)) (hc:c=A.no * 2+m) (i:Nat):valE A deal true (k+1) i=if i=m then valE A deal true k m+d else valE A deal true k i:=by
 unfold valE
 rw [gain_snoc h]
 unfold gainOf
 by_cases e:i=m
 ·subst e
  rw [if_pos rfl,if_pos ⟨rfl,hc,rfl⟩]
  simp only
  omega
 ·rw [if_neg e,if_neg (by rintro ⟨_,q,_⟩;simp only at q;omega),Int.add_zero]
theorem valE_ok {A:Bk} (hG:Good A) (deal:Int) (done:Bool) {k m:Nat} (hk:k<=A.hs.length) (hm:m<2):0<=valE A deal done k m∧valE A deal done k m<=100:=by
 have h:=chk_ok (bookK_ok hG deal done k hk m hm)
 rw [bookK_val A deal done k m hm] at h
 exact ⟨h.1,h.2.1⟩
theorem valE_all (A:Bk) (deal:Int) (done:Bool):valE A deal done A.hs.length 0=(endA A deal done).v0∧valE A deal done A.hs.length 1=(endA A deal done).v1:=by
 unfold valE
 rw [List.take_of_length_le (Nat.le_refl _)]
 exact ⟨by simp [Bk.val,endA],by simp [Bk.val,endA]⟩
theorem BoothRaw.setV {w:World} {q:Nat} {no v0 v1:Int} {hv ov dv:Value} (h:BoothRaw w q no v0 v1 hv ov dv) (m:Nat) (hm:m<2) (v:Int):BoothRaw (w.setCell ⟨q,1+m,none⟩ (.int .i64 v)) q no (if m=0 then v else v0) (if m=1 then v else v1) hv ov dv:=by
 have:m=0∨m=1:=by omega
 rcases this with rfl | rfl
 ·exact ⟨by simpa using h.lt,(cell_set_off (by omega)).trans h.c0,cell_set_same h.c1,(cell_set_off (by omega)).trans h.c2,(cell_set_off (by omega)).trans h.c3,(cell_set_off (by omega)).trans h.c4,(cell_set_off (by omega)).trans h.c5,by simpa [go_sem] using h.loose⟩
 ·exact ⟨by simpa using h.lt,(cell_set_off (by omega)).trans h.c0,(cell_set_off (by omega)).trans h.c1,cell_set_same h.c2,(cell_set_off (by omega)).trans h.c3,(cell_set_off (by omega)).trans h.c4,(cell_set_off (by omega)).trans h.c5,by simpa [go_sem] using h.loose⟩
theorem BoothRaw.set4 {w:World} {q:Nat} {no v0 v1:Int} {hv ov dv:Value} (h:BoothRaw w q no v0 v1 hv ov dv) (u:Value):BoothRaw (w.setCell ⟨q,4,none⟩ u) q no v0 v1 hv u dv:=
 ⟨by simpa using h.lt,(cell_set_off (by omega)).trans h.c0,(cell_set_off (by omega)).trans h.c1,(cell_set_off (by omega)).trans h.c2,(cell_set_off (by omega)).trans h.c3,cell_set_same h.c4,(cell_set_off (by omega)).trans h.c5,by simpa [go_sem] using h.loose⟩
theorem BoothRaw.set5 {w:World} {q:Nat} {no v0 v1:Int} {hv ov dv:Value} (h:BoothRaw w q no v0 v1 hv ov dv) (u:Value):BoothRaw (w.setCell ⟨q,5,none⟩ u) q no v0 v1 hv ov u:=
 ⟨by simpa using h.lt,(cell_set_off (by omega)).trans h.c0,(cell_set_off (by omega)).trans h.c1,(cell_set_off (by omega)).trans h.c2,(cell_set_off (by omega)).trans h.c3,(cell_set_off (by omega)).trans h.c4,cell_set_same h.c5,by simpa [go_sem] using h.loose⟩
theorem bend_done {O:Nat->Prop} {A:Bk} {q:Nat} {deal nd:Int} {done:Bool} {w w1 W3 W4 w7:World} {g9 g8 g7:Option Addr} {cap9 cap8 cap7:Nat} {hs':List H3} {ov dv:Value} (hnd:nd=if done=true then 1 else 0) (hB1:Below w.heap.size w w1) (hOwn:∀k,O k->k<w1.heap.size) (hMine:O q)
 (hT2:∀k,ov.ownBlock=some k->O k) (hT3:∀k,dv.ownBlock=some k->O k) (hT4:∀k,ov.ownBlock=some k->dv.ownBlock ≠ some k) (hNo:¬ov.ownBlock=some q∧¬dv.ownBlock=some q) (hql:q<w1.heap.size)
 (hS3:Save (fun b=>b=q) w1 W3) (hSA:Save (fun b=>b=q∨ov.ownBlock=some b) W3 W4) (hG7:Save (fun k=>dv.ownBlock=some k) W4 w7) (hR4:BoothRaw W4 q A.no (endA A deal done).v0 (endA A deal done).v1 (.slice g9 hs'.length cap9) (.slice g8 (A.es.length+1) cap8) dv)
 (hOh4:W4.ownsRow w1.heap.size 120 3 (.slice g9 hs'.length cap9) hs'.length (flat3 hs')) (hO9:W4.ownsRow (q+1) 3 1 (.slice g8 (A.es.length+1) cap8) (A.es.length+1) (nums (ovL A.es)++[.int .i64 deal])) (hO7:w7.ownsRow (q+1) 3 1 (.slice g7 (A.es.length+1) cap7) (A.es.length+1) (nums (dnL A.es)++[.int .i64 nd]))
 (hW8:∀k,(Value.slice g8 (A.es.length+1) cap8).ownBlock=some k->ov.ownBlock=some k∨W3.heap.size<=k) (hW7:∀k,(Value.slice g7 (A.es.length+1) cap7).ownBlock=some k->dv.ownBlock=some k∨W4.heap.size<=k) (hL8:∀k,(Value.slice g8 (A.es.length+1) cap8).ownBlock=some k->k<W4.heap.size)
 (hKa:hs'=(endA A deal done).hs) (hL9:∀k,(Value.slice g9 hs'.length cap9).ownBlock=some k->k<W3.heap.size):
 ∃O',BoothIn O' (w7.setCell ⟨q,5,none⟩ (.slice g7 (A.es.length+1) cap7)) q (endA A deal done)∧Save O w (w7.setCell ⟨q,5,none⟩ (.slice g7 (A.es.length+1) cap7))∧Moved O O' w:=by
 have z1:=hB1.size
 have z3:=hS3.size
 have z4:=hSA.size
 have z7:=hG7.size
 have ndq:¬(fun k=>dv.ownBlock=some k) q:=hNo.2
 have n9:∀k,(Value.slice g9 hs'.length cap9).ownBlock=some k->w1.heap.size<=k∧k<W3.heap.size:=fun k e=>⟨(hOh4.lt k e).1,hL9 k e⟩
 have n8:∀k,(Value.slice g8 (A.es.length+1) cap8).ownBlock=some k->(ov.ownBlock=some k∧O k∧k<w1.heap.size)∨(W3.heap.size<=k∧k<W4.heap.size):=fun k e=>(hW8 k e).imp (fun h=>⟨h,hT2 k h,hOwn k (hT2 k h)⟩) (fun h=>⟨h,hL8 k e⟩)
 have n7:∀k,(Value.slice g7 (A.es.length+1) cap7).ownBlock=some k->(dv.ownBlock=some k∧O k∧k<w1.heap.size)∨W4.heap.size<=k:=fun k e=>(hW7 k e).imp (fun h=>⟨h,hT3 k h,hOwn k (hT3 k h)⟩) id
 have hR7:=(hR4.save hG7 ndq).set5 (.slice g7 (A.es.length+1) cap7)
 have hq1:q<q+1:=Nat.lt_succ_self q
 have h8:=ownsRow_setCell_below (a:=⟨q,5,none⟩) (own_save hO9 hG7 (fun k e e'=>(n8 k e).elim (fun h=>hT4 k h.1 e') (fun h=>by have:=hOwn k (hT3 k e');omega))) hq1 (.slice g7 (A.es.length+1) cap7)
 have h7:=ownsRow_setCell_below (a:=⟨q,5,none⟩) hO7 hq1 (.slice g7 (A.es.length+1) cap7)
 have h9:=ownsRow_setCell_below (a:=⟨q,5,none⟩) (own_save hOh4 hG7 (fun k e e'=>by have:=(n9 k e).1;have:=hOwn k (hT3 k e');omega)) hql (.slice g7 (A.es.length+1) cap7)
 have hsz:(w7.setCell ⟨q,5,none⟩ (.slice g7 (A.es.length+1) cap7)).heap.size=w7.heap.size:=by simp
 have hSv:Save O w (w7.setCell ⟨q,5,none⟩ (.slice g7 (A.es.length+1) cap7)):=by
  have s1:Save O w W3:=(Save.of_below hB1).trans hS3 (fun j _ e=>by rw [e];exact hMine)
  have s2:Save O w W4:=s1.trans hSA (fun j _ e=>e.elim (fun h=>by rw [h];exact hMine) (hT2 j))
  have s3:Save O w w7:=s2.trans hG7 (fun j _ e=>hT3 j e)
  exact s3.setCell (p:=⟨q,5,none⟩) (fun _=>hMine) _
 refine ⟨fun k=>O k∨(Value.slice g9 hs'.length cap9).ownBlock=some k∨(Value.slice g8 (A.es.length+1) cap8).ownBlock=some k∨(Value.slice g7 (A.es.length+1) cap7).ownBlock=some k,⟨fun k hk=>?_,.inl hMine,.slice g9 hs'.length cap9,.slice g8 (A.es.length+1) cap8,.slice g7 (A.es.length+1) cap7,hR7,?_,?_,?_,fun k hk=>.inr (.inl hk),fun k hk=>.inr (.inr (.inl hk)),fun k hk=>.inr (.inr (.inr hk)),fun k hk hk'=>?_,fun k hk hk'=>?_,fun k hk hk'=>?_⟩,hSv,fun k hk=>?_⟩
 ·rw [hsz]
  rcases hk with hk | hk | hk | hk
  ·have:=hOwn k hk
   omega
  ·have:=(n9 k hk).2
   omega
  ·have:=hL8 k hk
   omega
  ·have:=(h7.lt k hk).2
   rw [hsz] at this
   exact this
 ·rw [<-hKa]
  have q2:=h9
  exact ⟨q2.1,q2.2.imp id (fun ⟨g,cap,cur,e1,hb,r⟩=>⟨g,cap,cur,e1,by omega,r⟩)⟩
 ·have e1:(endA A deal done).es.length=A.es.length+1:=by simp [endA]
  have e2:nums (ovL (endA A deal done).es)=nums (ovL A.es)++[.int .i64 deal]:=by simp [endA,ovL,nums]
  rw [e1,e2]
  exact h8
 ·have e1:(endA A deal done).es.length=A.es.length+1:=by simp [endA]
  have e2:nums (dnL (endA A deal done).es)=nums (dnL A.es)++[.int .i64 nd]:=by rw [hnd];simp [endA,dnL,nums]
  rw [e1,e2]
  exact h7
 ·have h1:=n9 k hk
  rcases n8 k hk' with ⟨_,_,h2⟩ | ⟨h2,_⟩ <;> omega
 ·have h1:=n9 k hk
  rcases n7 k hk' with ⟨_,_,h2⟩ | h2 <;> omega
 ·rcases n8 k hk with ⟨h1,_,h2⟩ | ⟨h1,h2⟩
  ·rcases n7 k hk' with ⟨h3,_,_⟩ | h3
   ·exact hT4 k h1 h3
   ·omega
  ·rcases n7 k hk' with ⟨_,_,h3⟩ | h3 <;> omega
 ·rcases hk with hk | hk | hk | hk
  ·exact .inl hk
  ·exact .inr (by have:=(n9 k hk).1;omega)
  ·rcases n8 k hk with ⟨_,h1,_⟩ | ⟨h1,_⟩
   ·exact .inl h1
   ·exact .inr (by omega)
  ·rcases n7 k hk with ⟨_,h1,_⟩ | h1
   ·exact .inl h1
   ·exact .inr (by omega)
theorem bend_any (O:Nat->Prop) (A:Bk) (q:Nat) (deal:Int) (done:Bool) (w:World) (h:BoothIn O w q A) (hG:Good A) (hlen:A.hs.length<1000000) (hlene:A.es.length<1000000):
 Calls Tryz.prog 127 #[.pointer (some ⟨q,0,none⟩),.int .i64 deal,.bool done] w fun e w'=>e=.returned (.int .i64 (endR A deal done).1)∧∃O',BoothIn O' w' q (endR A deal done).2∧Save O w w'∧Moved O O' w:=by
 have HI:Hid (BoothIn O w q A):=h
 have HOver:Hid (∀W:World,Below w.heap.size w W->Calls Tryz.prog 150 #[.pointer (some ⟨q,0,none⟩),.int .i64 deal] W fun e w'=>e=.returned (.tuple #[.bool (ovB A.es deal),.bool (dnB A.es deal)])∧Below W.heap.size W w'):=fun W hW=>bover_any O A q deal W (h.next hW) (by omega)
 have HG:Hid (Good A):=hG
 have HLn:Hid (A.hs.length<1000000∧A.es.length<1000000):=⟨hlen,hlene⟩
 clear h hG hlen hlene
 rcases endR_cases A deal done with ⟨hr,er⟩ | ⟨d0,d8,⟨b,hov,er⟩ | ⟨hov,er⟩⟩
 ·have HE:Hid _:=er
  rcases hr with hr | hr
  all_goals
   clear er
   go_enter Tryz.func127,Tryz.ntmps127
   go_wp2_with fail
   go_ret
   rw [HE.out]
   exact ⟨rfl,O,HI.out,.refl _ _,.refl _ _⟩
 ·have HE:Hid _:=er
  have o1:ovB A.es deal=true:=by unfold ovB;rw [hov];rfl
  have o2:dnB A.es deal=b:=by unfold dnB;rw [hov];cases b <;> rfl
  clear er hov
  by_cases e:b=done
  ·subst e
   have e':(b != b)=false:=by simp
   go_enter Tryz.func127,Tryz.ntmps127
   go_wp2_with fail
   refine Calls.mono (HOver.out _ (Below.refl _ _)) ?_
   rw [o1,o2]
   rintro e w1 ⟨rfl,hb1⟩
   go_wp2_with fail
   go_ret
   rw [HE.out]
   exact ⟨by simp,O,HI.out.next hb1,.of_below hb1,.refl _ _⟩
  ·have e':(b == done)=false:=by simpa using e
   have HB:Hid _:=e
   clear e
   go_enter Tryz.func127,Tryz.ntmps127
   go_wp2_with fail
   refine Calls.mono (HOver.out _ (Below.refl _ _)) ?_
   rw [o1,o2]
   rintro e w1 ⟨rfl,hb1⟩
   go_wp2_with fail
   go_ret
   rw [HE.out]
   exact ⟨by rw [if_neg HB.out];rfl,O,HI.out.next hb1,.of_below hb1,.refl _ _⟩
 ·have HE:Hid _:=er
  have o1:ovB A.es deal=false:=by unfold ovB;rw [hov];rfl
  clear er hov
  go_enter Tryz.func127,Tryz.ntmps127
  go_wp2_with fail
  refine Calls.mono (HOver.out _ (Below.refl _ _)) ?_
  rw [o1]
  rintro e w1 ⟨rfl,hb1⟩
  have hI1:=HI.out.next hb1
  obtain ⟨hv,ov,dv,hR1,hrow1,hro1,hrd1,hs1,hs2,hs3,ht1,ht2,ht3⟩:=hI1.raw
  have HOwn:Hid (∀k,O k->k<w1.heap.size):=hI1.own
  have HMine:Hid (O q):=hI1.mine
  have HT:Hid ((∀k,hv.ownBlock=some k->O k)∧(∀k,ov.ownBlock=some k->O k)∧(∀k,dv.ownBlock=some k->O k)∧(∀k,ov.ownBlock=some k->dv.ownBlock ≠ some k)):=⟨hs1,hs2,hs3,ht3⟩
  have HRo:Hid (w1.ownsRow (q+1) 3 1 ov A.es.length (nums (ovL A.es))):=hro1
  have HRd:Hid (w1.ownsRow (q+1) 3 1 dv A.es.length (nums (dnL A.es))):=hrd1
  obtain ⟨ga,cap,rfl,hH,_⟩:=holds_of_own hrow1
  have HH:Hid (HoldsAt w1 ga A.hs):=hH
  have HGq:Hid (∀a,ga=some a->a.block ≠ q):=by
   intro a e
   subst e
   have:=(hrow1.lt a.block rfl).1
   omega
  have hql:=hR1.lt
  have HB1:Hid (Below w.heap.size w w1):=hb1
  obtain ⟨i0,hi,hz0,hz1,hz2⟩:=info_parts infoHold
  clear hI1 hrow1 hro1 hrd1 hs1 hs2 hs3 ht1 ht2 ht3 hH HI HOver hb1
  go_wp2_with fail
  go_loopg [9,10,11] A.hs.length (fun g s9 s10 _ wr=>∃(k:Nat) (v9:Value),k<=A.hs.length∧g=A.hs.length - k∧v9=s9∧s10=.int .i64 k∧wr.ownsRow w1.heap.size 120 3 v9 (kept deal A.hs k).length (flat3 (kept deal A.hs k))∧BoothRaw wr q A.no (valE A deal done k 0) (valE A deal done k 1) (.slice ga A.hs.length cap) ov dv∧Save (fun b=>b=q) w1 wr)
  case atStart=>exact ⟨0,_,Nat.zero_le _,rfl,rfl,rfl,World.ownsRow_nil _ _ _ _,by rw [valE_zero,valE_zero];exact hR1,Save.refl _ _⟩
  case round=>
   obtain ⟨k,v9,hk,rfl,rfl,rfl,hown,hR,hS⟩:=hrel
   clear hR1
   by_cases hkl:k<A.hs.length
   ·obtain ⟨⟨a,c,d⟩,hkx⟩:∃x,A.hs[k]?=some x:=⟨_,List.getElem?_eq_getElem hkl⟩
    obtain ⟨bl,ol,rfl,hbl,h0,h1,h2⟩:=HH.out k a c d hkx
    have hnq:bl ≠ q:=HGq.out _ rfl
    have p0:wr.cell? ⟨bl,ol+k * 3,none⟩=some (.int .i64 a):=(hS.cell (p:=⟨bl,_,none⟩) hbl hnq).trans h0
    have p1:wr.cell? ⟨bl,ol+k * 3+1,none⟩=some (.int .i64 c):=(hS.cell (p:=⟨bl,_,none⟩) hbl hnq).trans h1
    have p2:wr.cell? ⟨bl,ol+k * 3+2,none⟩=some (.int .i64 d):=(hS.cell (p:=⟨bl,_,none⟩) hbl hnq).trans h2
    have c3:=hR.c3
    have j0:(0:Int)<=(k:Int):=by omega
    have j1:(k:Int)<(A.hs.length:Int):=by omega
    have j2:(A.hs.length:Int)<1000000:=by have:=HLn.out.1;omega
    have HKL:Hid (k<A.hs.length):=hkl
    have HKX:Hid (A.hs[k]?=some (a,c,d)):=hkx
    have HOw:Hid (wr.ownsRow w1.heap.size 120 3 v9 (kept deal A.hs k).length (flat3 (kept deal A.hs k))):=hown
    clear h0 h1 h2 hk hkl hkx hbl hown
    go_upto_region 13 with fail
    have hX:=BoxAt.new wr [.int .i64 a,.int .i64 c,.int .i64 d] 120
    have hbn:Below wr.heap.size wr (wr.alloc (.cells #[.int .i64 a,.int .i64 c,.int .i64 d] 120)):=(Below.refl _ _).alloc (Nat.le_refl _) _
    have hR2:=hR.next hbn
    have hS2:=hS.next hbn
    have HOw2:Hid (World.ownsRow (wr.alloc (.cells #[.int .i64 a,.int .i64 c,.int .i64 d] 120)) w1.heap.size 120 3 v9 (kept deal A.hs k).length (flat3 (kept deal A.hs k))):=own_next HOw.out hbn
    change BoxAt (wr.alloc (.cells #[.int .i64 a,.int .i64 c,.int .i64 d] 120)) _ _ at hX
    have hxq:q ≠ wr.heap.size:=by have:=hR.lt;omega
    have hxw:w1.heap.size<=wr.heap.size:=hS.size
    generalize (wr.alloc (.cells #[.int .i64 a,.int .i64 c,.int .i64 d] 120))=W2 at hX hR2 hS2 HOw2 ⊢
    generalize wr.heap.size=bx at hX hxq hxw ⊢
    clear hR hS HOw p0 p1 p2 c3 hbn
    have x0:=hX.2 0 _ rfl
    have x1:=hX.2 1 _ rfl
    have x2:=hX.2 2 _ rfl
    have hxl:=hX.1
    by_cases ha:a=deal
    ·subst ha
     have HKp:Hid (kept a A.hs (k+1)=kept a A.hs k):=kept_own HKX.out rfl
     have HJ:Hid ((k:Int)<(A.hs.length:Int)∧(A.hs.length:Int)<1000000):=⟨j1,j2⟩
     clear j1 j2
     cases done
     ·have HV:Hid (valE A a false (k+1) 0=valE A a false k 0∧valE A a false (k+1) 1=valE A a false k 1):=⟨valE_skip HKX.out (.inr rfl) 0,valE_skip HKX.out (.inr rfl) 1⟩
      go_upto_region 11 with fail
      obtain ⟨j1,j2⟩:=HJ.out
      go_wp2_with fail
      go_roundg (A.hs.length - (k+1))
      case measure=>have:=HKL.out;omega
      case rel=>exact ⟨k+1,v9,HKL.out,rfl,rfl,by simp,by rw [HKp.out];exact HOw2.out,by rw [HV.out.1,HV.out.2];exact hR2,hS2⟩
     ·obtain ⟨_,_,hs0,hw0,_⟩:=HG.out.each _ (List.mem_of_getElem? HKX.out)
      obtain ⟨g1,g2,g6⟩:=wnt_ok hw0
      obtain ⟨g3,g4,g5⟩:=shp_place g1 g2 hs0
      obtain ⟨m,hm⟩:=Int.eq_ofNat_of_zero_le g4
      have hm2:m<2:=by omega
      have hcq:c=A.no * 2+(m:Int):=by simp only at g3 hm;omega
      obtain ⟨_,d3,d4⟩:=dlt_ok g6
      simp only at d3 d4
      have HVo:Hid (∀i:Nat,valE A a true (k+1) i=if i=m then valE A a true k m+d else valE A a true k i):=valE_own HKX.out hcq
      have hcm:c - A.no * 2=(m:Int):=by omega
      have m0:(0:Int)<=(m:Int):=by omega
      have m1:(m:Int)<2:=by omega
      have c20:0<=c:=g1
      have c26:c<6:=g2
      have n0:=HG.out.no0
      have n3:=HG.out.no3
      have vm:W2.cell? ⟨q,1+m,none⟩=some (.int .i64 (valE A a true k m)):=by
       have:m=0∨m=1:=by omega
       rcases this with rfl | rfl
       ·exact hR2.c1
       ·exact hR2.c2
      have fz:=hR2.loose
      have hvl:=hR2.lt
      have c0:=hR2.c0
      obtain ⟨b0,b1⟩:=valE_ok HG.out a true (Nat.le_of_lt HKL.out) hm2
      have HR2:Hid (BoothRaw W2 q A.no (valE A a true k 0) (valE A a true k 1) (.slice (some ⟨bl,ol,none⟩) A.hs.length cap) ov dv):=hR2
      have HS2:Hid (Save (fun b=>b=q) w1 W2):=hS2
      have HM2:Hid (m<2):=hm2
      generalize valE A a true k m=vv at vm b0 b1 HVo
      clear hs0 hw0 g1 g2 g3 g4 g5 g6 hm hR2 hS2 hcq hm2 hX
      go_upto_region 16 with fail
      go_region
      all_goals
       go_upto_region 11 with fail
       obtain ⟨j1,j2⟩:=HJ.out
       go_wp2_with fail
       go_roundg (A.hs.length - (k+1))
       case measure=>have:=HKL.out;omega
       case rel=>
        refine ⟨k+1,v9,HKL.out,rfl,rfl,by simp,by rw [HKp.out];exact own_next (ownsRow_setCell_below (a:=⟨q,1+m,none⟩) HOw2.out hql _) (by go_grown),?_,Save.next (Save.setCell (O:=fun b=>b=q) HS2.out (p:=⟨q,1+m,none⟩) (fun _=>rfl) _) (by go_grown)⟩
        have hR3:=(HR2.out.setV m HM2.out (vv+d)).next (w1:=_) ((Below.refl _ _).drew)
        have e0:valE A a true (k+1) 0=if m=0 then vv+d else valE A a true k 0:=by rw [HVo.out 0];by_cases q:m=0 <;> simp [q];intro hh;exact absurd hh.symm q
        have e1:valE A a true (k+1) 1=if m=1 then vv+d else valE A a true k 1:=by rw [HVo.out 1];by_cases q:m=1 <;> simp [q];intro hh;exact absurd hh.symm q
        rw [e0,e1]
        exact hR3
    ·have ha':(a == deal)=false:=by simpa using ha
     have HV:Hid (valE A deal done (k+1) 0=valE A deal done k 0∧valE A deal done (k+1) 1=valE A deal done k 1):=⟨valE_skip HKX.out (.inl ha) 0,valE_skip HKX.out (.inl ha) 1⟩
     have HKp:Hid (kept deal A.hs (k+1)=kept deal A.hs k++[(a,c,d)]):=kept_other HKX.out ha
     have HKn:Hid ((kept deal A.hs k).length<1000000):=by have:=kept_le deal A.hs k;have:=HKL.out;have:=HLn.out.1;show _<_;omega
     have HSz:Hid (w1.heap.size<=W2.heap.size):=hS2.size
     have hr4:IntKind.i64.wrap ((k:Int)+1)=(k:Int)+1:=by go_unwrap
     clear ha j1 j2
     go_wp2_with (at_builtin;refine list_append_two rfl (.tmp 49) (.tmp 51) 116 rfl w1.heap.size 120 i0 (.agg #[.int .i64 0,.int .i64 0,.int .i64 0]) 3 24 Tryz.underlying116 hi hz0 hz1 hz2 rfl (by decide) v9 _ _ rfl (own_next HOw2.out (by go_grown)) ⟨W2.heap.size,0,none⟩ 1 1 [.int .i64 a,.int .i64 c,.int .i64 d] rfl rfl (hold_lies (by simp [go_sem]) (by simp [go_sem]) (by simp [go_sem])) hold_cell (by have:=HKn.out;unfold maxLen;omega) (by have:=HKn.out;omega) (by have:=HSz.out;simp;omega) (by decide) ?_;intro v8 w8 hown8 hgrow8 _)
     have hS8:Save (fun b=>v9.ownBlock=some b) W2 w8:=(Save.of_below (by go_grown)).grown hgrow8 (fun k e _=>e)
     have HNq:Hid (¬v9.ownBlock=some q):=fun e=>by have:=(HOw2.out.lt q e).1;omega
     have hR8:=hR2.save hS8 HNq.out
     have hS9:Save (fun b=>b=q) w1 w8:=hS2.trans hS8 (fun j hj e=>by have:=(HOw2.out.lt j e).1;omega)
     have HO8:Hid (w8.ownsRow w1.heap.size 120 3 v8 ((kept deal A.hs k).length+1) (flat3 (kept deal A.hs k)++[.int .i64 a,.int .i64 c,.int .i64 d])):=hown8
     clear hown8 hgrow8 hS8 hR2 hS2 hX x0 x1 x2
     go_wp2_with fail
     go_roundg (A.hs.length - (k+1))
     case measure=>have:=HKL.out;omega
     case rel=>
      refine ⟨k+1,v8,HKL.out,rfl,rfl,by simp,?_,by rw [HV.out.1,HV.out.2];exact hR8,hS9⟩
      have e1:(kept deal A.hs (k+1)).length=(kept deal A.hs k).length+1:=by rw [HKp.out];simp
      have e2:flat3 (kept deal A.hs (k+1))=flat3 (kept deal A.hs k)++[.int .i64 a,.int .i64 c,.int .i64 d]:=by rw [HKp.out];exact flat3_snoc _ _ _ _
      rw [e1,e2]
      exact HO8.out
   ·have hkk:k=A.hs.length:=by omega
    subst hkk
    have HOw:Hid (wr.ownsRow w1.heap.size 120 3 v9 (kept deal A.hs A.hs.length).length (flat3 (kept deal A.hs A.hs.length))):=hown
    obtain ⟨g9,cap9,rfl⟩:=own_slice hown
    have HV:Hid (valE A deal done A.hs.length 0=(endA A deal done).v0∧valE A deal done A.hs.length 1=(endA A deal done).v1):=valE_all A deal done
    have HKa:Hid (kept deal A.hs A.hs.length=(endA A deal done).hs):=kept_all deal A.hs
    have c3:=hR.c3
    have fz:=hR.loose
    have lq:=hR.lt
    clear hk hkl hown
    go_upto_region 18 with fail
    have hR3:=hR.set3 (.slice g9 (kept deal A.hs A.hs.length).length cap9)
    have HOw3:Hid (World.ownsRow (wr.setCell ⟨q,3,none⟩ (.slice g9 (kept deal A.hs A.hs.length).length cap9)) w1.heap.size 120 3 (.slice g9 (kept deal A.hs A.hs.length).length cap9) (kept deal A.hs A.hs.length).length (flat3 (kept deal A.hs A.hs.length))):=ownsRow_setCell_below (a:=⟨q,3,none⟩) HOw.out hql _
    have hS3:Save (fun b=>b=q) w1 (wr.setCell ⟨q,3,none⟩ (.slice g9 (kept deal A.hs A.hs.length).length cap9)):=Save.setCell (O:=fun b=>b=q) hS (p:=⟨q,3,none⟩) (fun _=>rfl) _
    generalize (wr.setCell ⟨q,3,none⟩ (.slice g9 (kept deal A.hs A.hs.length).length cap9))=W3 at hR3 HOw3 hS3 ⊢
    clear hR hS HOw c3 fz lq
    rw [HV.out.1,HV.out.2] at hR3
    rw [HKa.out] at HOw3 hR3 ⊢
    clear HKa
    obtain ⟨hs',hhs⟩:∃hs',hs'=(endA A deal done).hs:=⟨_,rfl⟩
    rw [<-hhs] at HOw3 hR3 ⊢
    have HKa:Hid (hs'=(endA A deal done).hs):=hhs
    clear hhs
    obtain ⟨ij,hj,hj0,hj1,hj2⟩:=info_parts infoNum
    have HNo:Hid (¬ov.ownBlock=some q∧¬dv.ownBlock=some q):=⟨fun e=>by have:=(HRo.out.lt q e).1;omega,fun e=>by have:=(HRd.out.lt q e).1;omega⟩
    have HRo3:Hid (W3.ownsRow (q+1) 3 1 ov A.es.length (nums (ovL A.es))):=own_save HRo.out hS3 (fun k e e'=>HNo.out.1 (e' ▸ e))
    have HRd3:Hid (W3.ownsRow (q+1) 3 1 dv A.es.length (nums (dnL A.es))):=own_save HRd.out hS3 (fun k e e'=>HNo.out.2 (e' ▸ e))
    have HS3:Hid (Save (fun b=>b=q) w1 W3):=hS3
    have HR3:Hid (BoothRaw W3 q A.no (endA A deal done).v0 (endA A deal done).v1 (.slice g9 hs'.length cap9) ov dv):=hR3
    have HSz3:Hid (w1.heap.size<=W3.heap.size):=hS3.size
    have c4:=hR3.c4
    have fz:=hR3.loose
    have lq:=hR3.lt
    have HN4:Hid (some q ≠ ov.ownBlock):=fun e=>HNo.out.1 e.symm
    have HN5:Hid (some q ≠ dv.ownBlock):=fun e=>HNo.out.2 e.symm
    clear hR3 hS3 HRo HRd
    go_upto_region 19 with (at_builtin;refine list_append_two rfl (.tmp 81) (.tmp 83) 66 rfl (q+1) 3 ij (.int .i64 0) 1 8 Tryz.underlying66 hj hj0 hj1 hj2 rfl (by decide) ov _ _ rfl (own_next HRo3.out (by go_grown)) ⟨W3.heap.size,0,none⟩ 1 1 [.int .i64 deal] rfl rfl (num_new _ rfl) (by intro u hu;rw [List.mem_singleton.1 hu];rfl) (by have:=HLn.out.2;unfold maxLen;omega) (by have:=HLn.out.2;omega) (by simp;omega) (by decide) ?_;intro v8 w8 hown8 hgrow8 hwh8;obtain ⟨g8,cap8,rfl⟩:=own_slice hown8;have HO8:Hid (w8.ownsRow (q+1) 3 1 (.slice g8 (A.es.length+1) cap8) (A.es.length+1) (nums (ovL A.es)++[.int .i64 deal])):=hown8;clear hown8;have HW8:Hid (∀k,(Value.slice g8 (A.es.length+1) cap8).ownBlock=some k->ov.ownBlock=some k∨W3.heap.size<=k):=(fun k hk=>(hwh8 k hk).imp_right (fun e=>by rw [e];simp));clear hwh8;have q4:w8.cell? ⟨q,4,none⟩=some ov:=hgrow8.cell (by simp [go_sem,c4,lq]) HN4.out;have hf8:∀k,w8.frozen? ⟨q,k,none⟩=false:=fun k=>(World.frozen?_of_block (hgrow8.block q (by simp;omega) HN4.out)).trans (by simp [go_sem,fz,lq]);have HG8:Hid (Save (fun k=>ov.ownBlock=some k) W3 w8):=(Save.of_below (by go_grown)).grown hgrow8 (fun k e _=>e);clear hgrow8)
    have hR8:=(HR3.out.save HG8.out (fun e=>HN4.out e.symm)).set4 (.slice g8 (A.es.length+1) cap8)
    have HO9:Hid (World.ownsRow (w8.setCell ⟨q,4,none⟩ (.slice g8 (A.es.length+1) cap8)) (q+1) 3 1 (.slice g8 (A.es.length+1) cap8) (A.es.length+1) (nums (ovL A.es)++[.int .i64 deal])):=ownsRow_setCell_below (a:=⟨q,4,none⟩) HO8.out (Nat.lt_succ_self q) _
    have HSA:Hid (Save (fun b=>b=q∨ov.ownBlock=some b) W3 (w8.setCell ⟨q,4,none⟩ (.slice g8 (A.es.length+1) cap8))):=Save.setCell (O:=fun b=>b=q∨ov.ownBlock=some b) (HG8.out.mono (fun k _ e=>.inr e)) (p:=⟨q,4,none⟩) (fun _=>.inl rfl) _
    have HL8:Hid (∀k,(Value.slice g8 (A.es.length+1) cap8).ownBlock=some k->k<(w8.setCell ⟨q,4,none⟩ (.slice g8 (A.es.length+1) cap8)).heap.size):=fun k hk=>(HO9.out.lt k hk).2
    generalize (w8.setCell ⟨q,4,none⟩ (.slice g8 (A.es.length+1) cap8))=W4 at hR8 HO9 HSA HL8 ⊢
    have HR4:Hid (BoothRaw W4 q A.no (endA A deal done).v0 (endA A deal done).v1 (.slice g9 hs'.length cap9) (.slice g8 (A.es.length+1) cap8) dv):=hR8
    have HSz4:Hid (W3.heap.size<=W4.heap.size):=HSA.out.size
    have HOh4:Hid (W4.ownsRow w1.heap.size 120 3 (.slice g9 hs'.length cap9) hs'.length (flat3 hs')):=own_save HOw3.out HSA.out (fun k e e'=>by
     have h1:=(HOw3.out.lt k e).1
     rcases e' with rfl | e'
     ·omega
     ·have:=HOwn.out k (HT.out.2.1 k e');omega)
    have HRd4:Hid (W4.ownsRow (q+1) 3 1 dv A.es.length (nums (dnL A.es))):=own_save HRd3.out HSA.out (fun k e e'=>by
     rcases e' with rfl | e'
     ·exact HNo.out.2 e
     ·exact HT.out.2.2.2 k e' e)
    have c5:=hR8.c5
    have fz4:=hR8.loose
    have lq4:=hR8.lt
    clear hR8 HO8 HG8 q4 hf8 c4 fz lq
    have HBase:Hid (q+1<=W4.heap.size):=lq4
    cases done
    ·go_wp2_with (at_builtin;refine list_append_two rfl (.tmp 92) (.tmp 94) 66 rfl (q+1) 3 ij (.int .i64 0) 1 8 Tryz.underlying66 hj hj0 hj1 hj2 rfl (by decide) dv _ _ rfl (own_next HRd4.out (by go_grown)) ⟨W4.heap.size,0,none⟩ 1 1 [.int .i64 0] rfl rfl (num_new _ rfl) (by intro u hu;rw [List.mem_singleton.1 hu];rfl) (by have:=HLn.out.2;unfold maxLen;omega) (by have:=HLn.out.2;omega) (by have:=HBase.out;simp;omega) (by decide) ?_;intro v7 w7 hown7 hgrow7 hwh7;obtain ⟨g7,cap7,rfl⟩:=own_slice hown7;have HO7:Hid (w7.ownsRow (q+1) 3 1 (.slice g7 (A.es.length+1) cap7) (A.es.length+1) (nums (dnL A.es)++[.int .i64 0])):=hown7;clear hown7;have HW7:Hid (∀k,(Value.slice g7 (A.es.length+1) cap7).ownBlock=some k->dv.ownBlock=some k∨W4.heap.size<=k):=(fun k hk=>(hwh7 k hk).imp_right (fun e=>by rw [e];simp));clear hwh7;have q5:w7.cell? ⟨q,5,none⟩=some dv:=hgrow7.cell (by simp [go_sem,c5,lq4]) HN5.out;have hf7:∀k,w7.frozen? ⟨q,k,none⟩=false:=fun k=>(World.frozen?_of_block (hgrow7.block q (by simp;omega) HN5.out)).trans (by simp [go_sem,fz4,lq4]);have HG7:Hid (Save (fun k=>dv.ownBlock=some k) W4 w7):=(Save.of_below (by go_grown)).grown hgrow7 (fun k e _=>e);clear hgrow7)
     go_ret
     rw [HE.out]
     refine ⟨rfl,?_⟩
     exact bend_done (nd:=0) rfl HB1.out HOwn.out HMine.out HT.out.2.1 HT.out.2.2.1 HT.out.2.2.2 HNo.out hql HS3.out HSA.out HG7.out HR4.out HOh4.out HO9.out HO7.out HW8.out HW7.out HL8.out HKa.out (fun k e=>(HOw3.out.lt k e).2)
    ·go_wp2_with (at_builtin;refine list_append_two rfl (.tmp 92) (.tmp 94) 66 rfl (q+1) 3 ij (.int .i64 0) 1 8 Tryz.underlying66 hj hj0 hj1 hj2 rfl (by decide) dv _ _ rfl (own_next HRd4.out (by go_grown)) ⟨W4.heap.size,0,none⟩ 1 1 [.int .i64 1] rfl rfl (num_new _ rfl) (by intro u hu;rw [List.mem_singleton.1 hu];rfl) (by have:=HLn.out.2;unfold maxLen;omega) (by have:=HLn.out.2;omega) (by have:=HBase.out;simp;omega) (by decide) ?_;intro v7 w7 hown7 hgrow7 hwh7;obtain ⟨g7,cap7,rfl⟩:=own_slice hown7;have HO7:Hid (w7.ownsRow (q+1) 3 1 (.slice g7 (A.es.length+1) cap7) (A.es.length+1) (nums (dnL A.es)++[.int .i64 1])):=hown7;clear hown7;have HW7:Hid (∀k,(Value.slice g7 (A.es.length+1) cap7).ownBlock=some k->dv.ownBlock=some k∨W4.heap.size<=k):=(fun k hk=>(hwh7 k hk).imp_right (fun e=>by rw [e];simp));clear hwh7;have q5:w7.cell? ⟨q,5,none⟩=some dv:=hgrow7.cell (by simp [go_sem,c5,lq4]) HN5.out;have hf7:∀k,w7.frozen? ⟨q,k,none⟩=false:=fun k=>(World.frozen?_of_block (hgrow7.block q (by simp;omega) HN5.out)).trans (by simp [go_sem,fz4,lq4]);have HG7:Hid (Save (fun k=>dv.ownBlock=some k) W4 w7):=(Save.of_below (by go_grown)).grown hgrow7 (fun k e _=>e);clear hgrow7)
     go_ret
     rw [HE.out]
     refine ⟨rfl,?_⟩
     exact bend_done (nd:=1) rfl HB1.out HOwn.out HMine.out HT.out.2.1 HT.out.2.2.1 HT.out.2.2.2 HNo.out hql HS3.out HSA.out HG7.out HR4.out HOh4.out HO9.out HO7.out HW8.out HW7.out HL8.out HKa.out (fun k e=>(HOw3.out.lt k e).2)
def NewBIs (no:Int) (ws:Nat->Int) (w:World) (e:Ending) (w':World):Prop:=if newOk no ws=true then ∃q O,e=.returned (.pointer (some ⟨q,0,none⟩))∧BoothIn O w' q (book0 no ws)∧∀k,O k->w.heap.size<=k else e=.returned (.pointer none)
theorem newBIs_nil {no:Int} {ws:Nat->Int} {w w':World} {e:Ending} (h:newOk no ws=false) (he:e=.returned (.pointer none)):NewBIs no ws w e w':=by
 unfold NewBIs
 rw [if_neg (by rw [h];decide)]
 exact he
def LaidB (a b:Int) (k:Nat) (v0 v1:Int):Prop:=(k=0∧v0=0∧v1=0)∨(k=1∧v0=a∧v1=0∧0<=a∧a<=100)∨(k=2∧v0=a∧v1=b∧0<=a∧a<=100∧0<=b∧b<=100)
theorem braw_new (w:World) (no:Int) (t:TypeId):BoothRaw (w.alloc (.cells #[.int .i64 no,.int .i64 0,.int .i64 0,.slice none 0 0,.slice none 0 0,.slice none 0 0] t)) w.heap.size no 0 0 (.slice none 0 0) (.slice none 0 0) (.slice none 0 0):=
 ⟨by simp,by simp [go_sem],by simp [go_sem],by simp [go_sem],by simp [go_sem],by simp [go_sem],by simp [go_sem],by simp [go_sem]⟩
theorem BoothRaw.set1 {w:World} {q:Nat} {no v0 v1:Int} {hv ov dv:Value} (h:BoothRaw w q no v0 v1 hv ov dv) (a:Int):BoothRaw (w.setCell ⟨q,1,none⟩ (.int .i64 a)) q no a v1 hv ov dv:=
 ⟨by simpa using h.lt,(cell_set_off (by omega)).trans h.c0,cell_set_same h.c1,(cell_set_off (by omega)).trans h.c2,(cell_set_off (by omega)).trans h.c3,(cell_set_off (by omega)).trans h.c4,(cell_set_off (by omega)).trans h.c5,by simpa [go_sem] using h.loose⟩
theorem BoothRaw.set2 {w:World} {q:Nat} {no v0 v1:Int} {hv ov dv:Value} (h:BoothRaw w q no v0 v1 hv ov dv) (a:Int):BoothRaw (w.setCell ⟨q,2,none⟩ (.int .i64 a)) q no v0 a hv ov dv:=
 ⟨by simpa using h.lt,(cell_set_off (by omega)).trans h.c0,(cell_set_off (by omega)).trans h.c1,cell_set_same h.c2,(cell_set_off (by omega)).trans h.c3,(cell_set_off (by omega)).trans h.c4,(cell_set_off (by omega)).trans h.c5,by simpa [go_sem] using h.loose⟩
theorem bnew_any (no:Int) (ws:Nat->Int) (w:World):
 Calls Tryz.prog 47 #[.int .i64 no,.agg #[.int .i64 (ws 0),.int .i64 (ws 1),.int .i64 (ws 2),.int .i64 (ws 3),.int .i64 (ws 4),.int .i64 (ws 5)]] w fun e w'=>NewBIs no ws w e w'∧Below w.heap.size w w':=by
 by_cases h0:no<0
 ·have HN:Hid (newOk no ws=false):=by
   show _=_
   rw [<-Bool.not_eq_true,newOk_iff];omega
  go_enter Tryz.func47,Tryz.ntmps47
  go_wp2_with fail
  go_ret
  exact ⟨newBIs_nil HN.out rfl,by go_grown⟩
 ·by_cases h3:3<=no
  ·have HN:Hid (newOk no ws=false):=by
    show _=_
    rw [<-Bool.not_eq_true,newOk_iff];omega
   have h0':0<=no:=by omega
   clear h0
   go_enter Tryz.func47,Tryz.ntmps47
   go_wp2_with fail
   go_ret
   exact ⟨newBIs_nil HN.out rfl,by go_grown⟩
  ·have h0':0<=no:=by omega
   have h3':no<3:=by omega
   obtain ⟨a,ha⟩:∃a,a=ws (no * 2).toNat:=⟨_,rfl⟩
   obtain ⟨b,hb⟩:∃b,b=ws (no * 2+1).toNat:=⟨_,rfl⟩
   have HNo:Hid (newOk no ws=true ↔ 0<=a∧a<=100∧0<=b∧b<=100):=by
    show _ ↔ _
    rw [newOk_iff,ha,hb];constructor
    ·intro h;exact h.2.2
    ·intro h;exact ⟨h0',h3',h⟩
   have HA:Hid _:=ha
   have HB:Hid _:=hb
   clear ha hb
   go_enter Tryz.func47,Tryz.ntmps47
   go_wp2_with fail
   have hX0:=BoxAt.new w [.int .i64 (ws 0),.int .i64 (ws 1),.int .i64 (ws 2),.int .i64 (ws 3),.int .i64 (ws 4),.int .i64 (ws 5)] 40
   have hb0:Below w.heap.size w (w.alloc (.cells #[.int .i64 (ws 0),.int .i64 (ws 1),.int .i64 (ws 2),.int .i64 (ws 3),.int .i64 (ws 4),.int .i64 (ws 5)] 40)):=(Below.refl _ _).alloc (Nat.le_refl _) _
   have hz0:(w.alloc (.cells #[.int .i64 (ws 0),.int .i64 (ws 1),.int .i64 (ws 2),.int .i64 (ws 3),.int .i64 (ws 4),.int .i64 (ws 5)] 40)).heap.size=w.heap.size+1:=by simp
   generalize (w.alloc (.cells #[.int .i64 (ws 0),.int .i64 (ws 1),.int .i64 (ws 2),.int .i64 (ws 3),.int .i64 (ws 4),.int .i64 (ws 5)] 40))=W0 at hX0 hb0 hz0 ⊢
   have hR0:=braw_new W0 no 118
   have hn0:Below W0.heap.size W0 (W0.alloc (.cells #[.int .i64 no,.int .i64 0,.int .i64 0,.slice none 0 0,.slice none 0 0,.slice none 0 0] 118)):=(Below.refl _ _).alloc (Nat.le_refl _) _
   have hX1:=hX0.next hn0
   have hb1:=after hb0 hn0 hb0.size
   rw [hz0] at hR0
   generalize (W0.alloc (.cells #[.int .i64 no,.int .i64 0,.int .i64 0,.slice none 0 0,.slice none 0 0,.slice none 0 0] 118))=W1 at hR0 hX1 hb1 ⊢
   clear hn0 hX0 hb0
   generalize hp:w.heap.size+1=p at hR0 hz0 ⊢
   have hpw:w.heap.size<p:=by omega
   have hpn:w.heap.size ≠ p:=by omega
   clear hp
   go_loopg [6,7] 2 (fun g s6 _ wr=>∃(k:Nat) (v0 v1:Int),k<=2∧g=2 - k∧s6=.int .i64 k∧Hid (LaidB a b k v0 v1)∧BoothRaw wr p no v0 v1 (.slice none 0 0) (.slice none 0 0) (.slice none 0 0)∧BoxAt wr w.heap.size [.int .i64 (ws 0),.int .i64 (ws 1),.int .i64 (ws 2),.int .i64 (ws 3),.int .i64 (ws 4),.int .i64 (ws 5)]∧Below w.heap.size w wr)
   case atStart=>exact ⟨0,0,0,by omega,rfl,rfl,.inl ⟨rfl,rfl,rfl⟩,hR0,hX1,hb1⟩
   case round=>
    obtain ⟨k,v0,v1,hk,rfl,rfl,HL,hR,hX,hB⟩:=hrel
    clear hR0 hX1 hb1 hz0
    have hlt:=hR.lt
    have hlx:=hX.1
    have hf:=hR.loose
    rcases HL.out with ⟨rfl,rfl,rfl⟩ | ⟨rfl,rfl,rfl,a0,a1⟩ | ⟨rfl,rfl,rfl,a0,a1,b0,b1⟩
    ·have hno:no=0∨no=1∨no=2:=by omega
     have hx:Hid (∃j,(no * 2).toNat=j∧wr.cell? ⟨w.heap.size,j,none⟩=some (.int .i64 a)):=by
      refine ⟨_,rfl,?_⟩
      rw [HA.out]
      rcases hno with rfl | rfl | rfl
      ·exact hX.2 0 _ rfl
      ·exact hX.2 2 _ rfl
      ·exact hX.2 4 _ rfl
     obtain ⟨j,hj,hx⟩:=hx.out
     have c1:=hR.c1
     by_cases hc:0<=a∧a<=100
     ·obtain ⟨t0,t1⟩:=hc
      have HT:Hid (0<=a∧a<=100):=⟨t0,t1⟩
      rcases hno with rfl | rfl | rfl
      all_goals
       simp at hj
       subst hj
       go_wp2_with fail
       go_roundg 1
       case measure=>omega
       case rel=>exact ⟨1,_,_,by omega,rfl,by simp,.inr (.inl ⟨rfl,rfl,rfl,HT.out.1,HT.out.2⟩),hR.set1 a,⟨by simpa using hlx,fun j u hj=>by rw [cell_set_block hpn];exact hX.2 j u hj⟩,hB.setCell (p:=⟨p,1,none⟩) (Nat.le_of_lt hpw) _⟩
     ·have HT:Hid (newOk no ws=false):=by
       show _=_
       rw [<-Bool.not_eq_true,HNo.out]
       exact fun h=>hc ⟨h.1,h.2.1⟩
      have hor:a<0∨(0<=a∧100<a):=by omega
      clear hc
      rcases hno with rfl | rfl | rfl
      all_goals
       simp at hj
       subst hj
       rcases hor with t0 | ⟨t0,t1⟩
       all_goals
        go_wp2_with fail
        go_ret
        exact ⟨newBIs_nil HT.out rfl,hB⟩
    ·have hno:no=0∨no=1∨no=2:=by omega
     have HAB:Hid (0<=v0∧v0<=100):=⟨a0,a1⟩
     clear a0 a1
     have hx:Hid (∃j,(no * 2+1).toNat=j∧wr.cell? ⟨w.heap.size,j,none⟩=some (.int .i64 b)):=by
      refine ⟨_,rfl,?_⟩
      rw [HB.out]
      rcases hno with rfl | rfl | rfl
      ·exact hX.2 1 _ rfl
      ·exact hX.2 3 _ rfl
      ·exact hX.2 5 _ rfl
     obtain ⟨j,hj,hx⟩:=hx.out
     have c2:=hR.c2
     by_cases hc:0<=b∧b<=100
     ·obtain ⟨t0,t1⟩:=hc
      have HT:Hid (0<=b∧b<=100):=⟨t0,t1⟩
      rcases hno with rfl | rfl | rfl
      all_goals
       simp at hj
       subst hj
       go_wp2_with fail
       go_roundg 0
       case measure=>omega
       case rel=>exact ⟨2,_,_,by omega,rfl,by simp,.inr (.inr ⟨rfl,rfl,rfl,HAB.out.1,HAB.out.2,HT.out.1,HT.out.2⟩),hR.set2 b,⟨by simpa using hlx,fun j u hj=>by rw [cell_set_block hpn];exact hX.2 j u hj⟩,hB.setCell (p:=⟨p,2,none⟩) (Nat.le_of_lt hpw) _⟩
     ·have HT:Hid (newOk no ws=false):=by
       show _=_
       rw [<-Bool.not_eq_true,HNo.out]
       exact fun h=>hc ⟨h.2.2.1,h.2.2.2⟩
      have hor:b<0∨(0<=b∧100<b):=by omega
      clear hc
      rcases hno with rfl | rfl | rfl
      all_goals
       simp at hj
       subst hj
       rcases hor with t0 | ⟨t0,t1⟩
       all_goals
        go_wp2_with fail
        go_ret
        exact ⟨newBIs_nil HT.out rfl,hB⟩
    ·have HT:Hid (newOk no ws=true):=HNo.out.2 ⟨a0,a1,b0,b1⟩
     clear a0 a1 b0 b1
     go_wp2_with fail
     go_ret
     refine ⟨?_,hB⟩
     unfold NewBIs
     rw [if_pos HT.out]
     have nn:∀k,¬(Value.slice none 0 0).ownBlock=some k:=fun k e=>by simp [Value.ownBlock] at e
     refine ⟨p,fun k=>k=p,rfl,⟨fun k e=>by subst e;exact hlt,rfl,.slice none 0 0,.slice none 0 0,.slice none 0 0,?_,World.ownsRow_nil _ _ _ _,World.ownsRow_nil _ _ _ _,World.ownsRow_nil _ _ _ _,fun k e=>absurd e (nn k),fun k e=>absurd e (nn k),fun k e=>absurd e (nn k),fun k e=>absurd e (nn k),fun k e=>absurd e (nn k),fun k e=>absurd e (nn k)⟩,fun k e=>by subst e;exact Nat.le_of_lt hpw⟩
     show BoothRaw wr p no (ws (no * 2).toNat) (ws (no * 2+1).toNat) _ _ _
     rw [<-HA.out,<-HB.out]
     exact hR
def rK1:Stp:=⟨1,1,0,-4,false⟩
def rK2:Stp:=⟨2,1,0,0,true⟩
def B0:Bk:={ no:=0,v0:=10,v1:=0,hs:=[],es:=[] }
def B1:Bk:={ no:=0,v0:=10,v1:=0,hs:=[(1,0,-4)],es:=[] }
def B2:Bk:={ no:=0,v0:=6,v1:=0,hs:=[],es:=[(1,true)] }
def K1:Kb:=⟨B1,[rK1]⟩
def K2:Kb:=⟨B2,[rK1,rK2]⟩
theorem brf_any (r:Stp) (w:World):Calls Tryz.prog 125 #[.agg #[.int .i64 r.what,.int .i64 r.deal,.int .i64 r.c,.int .i64 r.d,.bool r.done]] w fun e w'=>e=.returned (.int .i64 (rchk r))∧Below w.heap.size w w':=by
 obtain ⟨what,deal,c,d,done⟩:=r
 unfold rchk
 dsimp only
 by_cases h1:what=1
 ·subst h1
  rw [if_pos rfl]
  cases done
  ·go_enter Tryz.func125,Tryz.ntmps125
   go_wp2_with fail
   go_ret
   exact ⟨rfl,by go_grown⟩
  ·go_enter Tryz.func125,Tryz.ntmps125
   go_wp2_with fail
   go_ret
   exact ⟨rfl,by go_grown⟩
 ·rw [if_neg h1]
  have h1':(what == 1)=false:=by simpa using h1
  by_cases h2:what=2
  ·subst h2
   clear h1 h1'
   rw [if_pos rfl]
   by_cases hc:c=0
   ·by_cases hd:d=0
    ·rw [if_pos ⟨hc,hd⟩]
     subst hc
     subst hd
     go_enter Tryz.func125,Tryz.ntmps125
     go_wp2_with fail
     go_ret
     exact ⟨rfl,by go_grown⟩
    ·rw [if_neg (fun q=>hd q.2)]
     subst hc
     have hd':(d != 0)=true:=by simpa using hd
     clear hd
     go_enter Tryz.func125,Tryz.ntmps125
     go_wp2_with fail
     go_ret
     exact ⟨rfl,by go_grown⟩
   ·rw [if_neg (fun q=>hc q.1)]
    have hc':(c != 0)=true:=by simpa using hc
    clear hc
    go_enter Tryz.func125,Tryz.ntmps125
    go_wp2_with fail
    go_ret
    exact ⟨rfl,by go_grown⟩
  ·rw [if_neg h2]
   have h2':(what == 2)=false:=by simpa using h2
   clear h1 h2
   go_enter Tryz.func125,Tryz.ntmps125
   go_wp2_with fail
   go_ret
   exact ⟨rfl,by go_grown⟩
theorem bdo_any (O:Nat->Prop) (A:Bk) (q:Nat) (r:Stp) (w:World) (h:BoothIn O w q A) (hG:Good A) (hl:A.hs.length<1000000) (he:A.es.length<1000000):
 Calls Tryz.prog 97 #[.pointer (some ⟨q,0,none⟩),.agg #[.int .i64 r.what,.int .i64 r.deal,.int .i64 r.c,.int .i64 r.d,.bool r.done]] w fun e w'=>e=.returned (.int .i64 (tellR A r).1)∧∃O',BoothIn O' w' q (tellR A r).2∧Save O w w'∧Moved O O' w:=by
 have HI:Hid (BoothIn O w q A):=h
 have HG:Hid (Good A):=hG
 have HL:Hid (A.hs.length<1000000∧A.es.length<1000000):=⟨hl,he⟩
 clear h hG hl he
 by_cases hc:rchk r=0
 ·have HZ:Hid (rchk r=0):=hc
  by_cases h1:r.what=1
  ·have HH:Hid (∀W:World,Below w.heap.size w W->Calls Tryz.prog 126 #[.pointer (some ⟨q,0,none⟩),.int .i64 r.deal,.agg #[.int .i64 r.c,.int .i64 r.d]] W fun e w'=>e=.returned (.int .i64 (tellR A r).1)∧∃O',BoothIn O' w' q (tellR A r).2∧Save O w w'∧Moved O O' w):=by
    intro W hW
    rw [tellR_hold hc h1]
    refine (bhold_any O A q r.deal r.c r.d W (HI.out.next hW) HG.out (by have:=HL.out;omega) (by have:=HL.out;omega)).mono ?_
    rintro e w' ⟨a1,O',a2,a3,a4⟩
    exact ⟨a1,O',a2,(Save.of_below hW).trans a3 (fun _ _ h=>h),fun k hk=>(a4 k hk).imp id (fun q=>Nat.le_trans hW.size q)⟩
   have h1':(r.what == 1)=true:=by simpa using h1
   clear hc h1
   go_enter Tryz.func97,Tryz.ntmps97
   go_wp2_with fail
   refine Calls.mono (brf_any r _) ?_
   rw [HZ.out]
   rintro e w1 ⟨rfl,hb1⟩
   have hX:=(BoxAt.new w [.int .i64 r.what,.int .i64 r.deal,.int .i64 r.c,.int .i64 r.d,.bool r.done] 177).next hb1
   have hW1:Below w.heap.size w w1:=after (by go_grown) hb1 (by simp)
   have y0:=hX.2 0 _ rfl
   have y1:=hX.2 1 _ rfl
   have y2:=hX.2 2 _ rfl
   have y3:=hX.2 3 _ rfl
   clear hX hb1
   go_wp2_with fail
   refine Calls.mono (HH.out _ hW1) ?_
   rintro e w2 ⟨rfl,hE⟩
   go_wp2_with fail
   go_ret
   exact ⟨rfl,hE⟩
  ·have HH:Hid (∀W:World,Below w.heap.size w W->Calls Tryz.prog 127 #[.pointer (some ⟨q,0,none⟩),.int .i64 r.deal,.bool r.done] W fun e w'=>e=.returned (.int .i64 (tellR A r).1)∧∃O',BoothIn O' w' q (tellR A r).2∧Save O w w'∧Moved O O' w):=by
    intro W hW
    rw [tellR_end hc h1]
    refine (bend_any O A q r.deal r.done W (HI.out.next hW) HG.out HL.out.1 HL.out.2).mono ?_
    rintro e w' ⟨a1,O',a2,a3,a4⟩
    exact ⟨a1,O',a2,(Save.of_below hW).trans a3 (fun _ _ h=>h),fun k hk=>(a4 k hk).imp id (fun q=>Nat.le_trans hW.size q)⟩
   have h1':(r.what == 1)=false:=by simpa using h1
   clear hc h1
   go_enter Tryz.func97,Tryz.ntmps97
   go_wp2_with fail
   refine Calls.mono (brf_any r _) ?_
   rw [HZ.out]
   rintro e w1 ⟨rfl,hb1⟩
   have hX:=(BoxAt.new w [.int .i64 r.what,.int .i64 r.deal,.int .i64 r.c,.int .i64 r.d,.bool r.done] 177).next hb1
   have hW1:Below w.heap.size w w1:=after (by go_grown) hb1 (by simp)
   have y0:=hX.2 0 _ rfl
   have y1:=hX.2 1 _ rfl
   have y4:=hX.2 4 _ rfl
   clear hX hb1
   go_wp2_with fail
   refine Calls.mono (HH.out _ hW1) ?_
   rintro e w2 ⟨rfl,hE⟩
   go_wp2_with fail
   go_ret
   exact ⟨rfl,hE⟩
 ·have hc':(rchk r != 0)=true:=by simpa using hc
  have HE:Hid (tellR A r=(rchk r,A)):=tellR_bad hc
  clear hc
  go_enter Tryz.func97,Tryz.ntmps97
  go_wp2_with fail
  refine Calls.mono (brf_any r _) ?_
  rintro e w1 ⟨rfl,hb1⟩
  have hW1:Below w.heap.size w w1:=after (by go_grown) hb1 (by simp)
  go_wp2_with fail
  go_ret
  rw [HE.out]
  exact ⟨rfl,O,HI.out.next hW1,.of_below hW1,.refl _ _⟩
theorem fcode_any (a b:Int) (w:World):Calls Tryz.prog 18 #[.int .i64 a,.int .i64 b] w fun e w'=>e=.returned (.agg #[.int .i64 a,.int .i64 b])∧Below w.heap.size w w':=by
 go_enter Tryz.func18,Tryz.ntmps18
 go_wp2_with fail
 exact bodyPost_ret (v:=.agg #[.int .i64 a,.int .i64 b]) (by simp [results,Tryz.results18,go_sem]) rfl ⟨rfl,by go_grown⟩
structure BLive (w0:World) (Z:Nat->Prop) (w:World) (q:Nat) (A:Bk):Prop where
 inn:∃O,BoothIn O w q A∧∀k,O k->w0.heap.size<=k∧¬Z k
 below:Below w0.heap.size w0 w
 kept:∀k,Z k->k<w.heap.size
theorem bdo_live {w0 w:World} {Z:Nat->Prop} {q:Nat} {A:Bk} (r:Stp) (h:BLive w0 Z w q A) (hG:Good A) (hl:A.hs.length<1000000) (he:A.es.length<1000000):Calls Tryz.prog 97 #[.pointer (some ⟨q,0,none⟩),.agg #[.int .i64 r.what,.int .i64 r.deal,.int .i64 r.c,.int .i64 r.d,.bool r.done]] w fun e w'=>e=.returned (.int .i64 (tellR A r).1)∧BLive w0 Z w' q (tellR A r).2∧Save (fun k=>¬Z k) w w':=by
 obtain ⟨O,h1,h2⟩:=h.inn
 refine (bdo_any O A q r w h1 hG hl he).mono ?_
 rintro e w' ⟨a0,O',a1,a2,a3⟩
 exact ⟨a0,⟨⟨O',a1,fun k hk=>(a3 k hk).elim (h2 k) (fun q=>⟨Nat.le_trans h.below.size q,fun hk'=>by have:=h.kept k hk';omega⟩)⟩,h.below.trans (a2.below (fun k hk hO=>by have:=(h2 k hO).1;omega) h.below.size),fun k hk=>Nat.lt_of_lt_of_le (h.kept k hk) a2.size⟩,a2.mono (fun k _ hk=>(h2 k hk).2)⟩
def BRepIs (no:Int) (ws:Nat->Int) (l:List Stp) (w:World) (e:Ending) (w':World):Prop:=
 if newOk no ws=true then (if (faultR (book0 no ws) l 0).1=0 then ∃p O,e=.returned (.tuple #[.pointer (some ⟨p,0,none⟩),.agg #[.int .i64 0,.int .i64 0]])∧BoothIn O w' p (runR (book0 no ws) l)∧∀k,O k->w.heap.size<=k
  else e=.returned (.tuple #[.pointer none,.agg #[.int .i64 (faultR (book0 no ws) l 0).1,.int .i64 (faultR (book0 no ws) l 0).2]])) else e=.returned (.tuple #[.pointer none,.agg #[.int .i64 1,.int .i64 (-1)]])
theorem brepIs_nil {no:Int} {ws:Nat->Int} {l:List Stp} {w w':World} {e:Ending} (h:newOk no ws=false) (he:e=.returned (.tuple #[.pointer none,.agg #[.int .i64 1,.int .i64 (-1)]])):BRepIs no ws l w e w':=by
 unfold BRepIs;rw [if_neg (by rw [h];simp)];exact he
theorem brepIs_code {no:Int} {ws:Nat->Int} {l:List Stp} {w w':World} {e:Ending} {c i:Int} (h:newOk no ws=true) (hf:faultR (book0 no ws) l 0=(c,i)) (hc:c ≠ 0) (he:e=.returned (.tuple #[.pointer none,.agg #[.int .i64 c,.int .i64 i]])):BRepIs no ws l w e w':=by
 unfold BRepIs;rw [if_pos h,hf,if_neg hc];exact he
theorem brepIs_all {no:Int} {ws:Nat->Int} {l:List Stp} {w w':World} {e:Ending} {i:Int} (h:newOk no ws=true) (hf:faultR (book0 no ws) l 0=(0,i)) (he:∃p O,e=.returned (.tuple #[.pointer (some ⟨p,0,none⟩),.agg #[.int .i64 0,.int .i64 0]])∧BoothIn O w' p (runR (book0 no ws) l)∧∀k,O k->w.heap.size<=k):BRepIs no ws l w e w':=by
 unfold BRepIs;rw [if_pos h,hf,if_pos rfl];exact he
theorem brep_any (no:Int) (ws:Nat->Int) (la:Option Addr) (n ca:Nat) (l:List Stp) (w:World) (hl:StepsAt w la l) (hn:l.length=n) (hs:n<=150):
 Calls Tryz.prog 64 #[.int .i64 no,.agg #[.int .i64 (ws 0),.int .i64 (ws 1),.int .i64 (ws 2),.int .i64 (ws 3),.int .i64 (ws 4),.int .i64 (ws 5)],.slice la n ca] w fun e w'=>BRepIs no ws l w e w'∧Below w.heap.size w w':=by
 go_enter Tryz.func64,Tryz.ntmps64
 go_upto_region 1 with fail
 have hX:=(box_new6 w ws 40).next ((Below.refl _ _).alloc (Nat.le_refl _) (.cells #[.int .i64 0,.int .i64 0] 31))
 have hB:=Box2.new (w.alloc (.cells #[.int .i64 (ws 0),.int .i64 (ws 1),.int .i64 (ws 2),.int .i64 (ws 3),.int .i64 (ws 4),.int .i64 (ws 5)] 40)) 31 0 0
 have hb:Below w.heap.size w ((w.alloc (.cells #[.int .i64 (ws 0),.int .i64 (ws 1),.int .i64 (ws 2),.int .i64 (ws 3),.int .i64 (ws 4),.int .i64 (ws 5)] 40)).alloc (.cells #[.int .i64 0,.int .i64 0] 31)):=by go_grown
 have hz:(w.alloc (.cells #[.int .i64 (ws 0),.int .i64 (ws 1),.int .i64 (ws 2),.int .i64 (ws 3),.int .i64 (ws 4),.int .i64 (ws 5)] 40)).heap.size=w.heap.size+1:=by simp
 rw [hz] at hB
 generalize ((w.alloc (.cells #[.int .i64 (ws 0),.int .i64 (ws 1),.int .i64 (ws 2),.int .i64 (ws 3),.int .i64 (ws 4),.int .i64 (ws 5)] 40)).alloc (.cells #[.int .i64 0,.int .i64 0] 31))=W at hX hB hb ⊢
 clear hz
 have hfb:w.heap.size<=w.heap.size+1:=Nat.le_succ _
 have x0:=hX.2 0 _ rfl
 have x1:=hX.2 1 _ rfl
 have x2:=hX.2 2 _ rfl
 have x3:=hX.2 3 _ rfl
 have x4:=hX.2 4 _ rfl
 have x5:=hX.2 5 _ rfl
 generalize w.heap.size+1=fb at hB hfb ⊢
 clear hX
 go_wp2_with fail
 refine (bnew_any no ws _).mono ?_
 rintro e w1 ⟨hN,hb1⟩
 have hB1:=hB.next hb1
 have hw1:Below w.heap.size w w1:=after hb hb1 hb.size
 have hWs:=hb.size
 clear x0 x1 x2 x3 x4 x5
 unfold NewBIs at hN
 by_cases hok:newOk no ws=true
 ·rw [if_pos hok] at hN
  obtain ⟨q,O,rfl,hI,hO⟩:=hN
  have hL1:BLive w (fun b=>b=fb) w1 q (book0 no ws):=⟨⟨O,hI,fun k hk=>⟨Nat.le_trans hWs (hO k hk),fun e=>by have:=hO k hk;have:=hB.lt;omega⟩⟩,hw1,fun k e=>by rw [e];exact hB1.lt⟩
  have HG1:Hid (Good (book0 no ws)):=good_new hok
  have HOk:Hid (newOk no ws=true):=hok
  have HT:Hid (StepsAt w la l):=hl
  clear hI hO hB hb hb1 hw1 hWs hok hl
  go_wp2_with fail
  go_loopg [9,10] n (fun g s9 _ wr=>∃(k:Nat) (A:Bk),k<=n∧g=n - k∧s9=.int .i64 k∧BLive w (fun b=>b=fb) wr q A∧Box2 wr fb 0 0∧Hid (Good A)∧Hid (A.hs.length<=k∧A.es.length<=k)∧Hid (faultR (book0 no ws) l 0=faultR A (l.drop k) k∧runR (book0 no ws) l=runR A (l.drop k)))
  case atStart=>exact ⟨0,_,Nat.zero_le _,rfl,rfl,hL1,hB1,HG1,⟨Nat.le_refl _,Nat.le_refl _⟩,⟨rfl,rfl⟩⟩
  case round=>
   obtain ⟨k,A,hk,rfl,rfl,hL,hB2,HG,HLn,HF⟩:=hrel
   clear hL1 hB1
   by_cases hlt:k<n
   ·obtain ⟨x,hkx⟩:∃x,l[k]?=some x:=⟨_,List.getElem?_eq_getElem (by omega)⟩
    obtain ⟨bl,ol,rfl,hbl,hcell⟩:=HT.out k x hkx
    have hcell':∀j v,x.cells[j]?=some v->wr.cell? ⟨bl,ol+k * 5+j,none⟩=some v:=fun j v hj=>(hL.below.cell (p:=⟨bl,_,none⟩) hbl).trans (hcell j v hj)
    have p0:wr.cell? ⟨bl,ol+k * 5,none⟩=some (.int .i64 x.what):=hcell' 0 _ rfl
    have p1:wr.cell? ⟨bl,ol+k * 5+1,none⟩=some (.int .i64 x.deal):=hcell' 1 _ rfl
    have p2:wr.cell? ⟨bl,ol+k * 5+2,none⟩=some (.int .i64 x.c):=hcell' 2 _ rfl
    have p3:wr.cell? ⟨bl,ol+k * 5+3,none⟩=some (.int .i64 x.d):=hcell' 3 _ rfl
    have p4:wr.cell? ⟨bl,ol+k * 5+4,none⟩=some (.bool x.done):=hcell' 4 _ rfl
    have j0:(0:Int)<=(k:Int):=by omega
    have j1:(k:Int)<(n:Int):=by omega
    have j2:(n:Int)<=150:=by omega
    have HD:Hid (l.drop k=x :: l.drop (k+1)):=drop_cons hkx
    have HS:Hid (n<=150):=hs
    have HKN:Hid (k<n):=hlt
    clear hcell hcell' hbl hkx hs hlt hk
    have HL40:Hid (A.hs.length<1000000∧A.es.length<1000000):=by
     have:=HLn.out
     have:=HS.out
     have:=HKN.out
     exact ⟨by omega,by omega⟩
    go_wp2_with fail
    refine Calls.mono (bdo_live x hL HG.out HL40.out.1 HL40.out.2) ?_
    rintro e w3 ⟨rfl,hL3,hS3⟩
    have hB4:=hB2.save hS3 (fun q=>q rfl)
    clear hL hB2 p0 p1 p2 p3 p4 hS3
    by_cases hz:(tellR A x).1=0
    ·have hz':((tellR A x).1 != 0)=false:=by simp [hz]
     have HG2:Hid (Good (tellR A x).2):=good_tell HG.out x
     have HL2:Hid ((tellR A x).2.hs.length<=k+1∧(tellR A x).2.es.length<=k+1):=by have:=tell_len A x;have:=HLn.out;exact ⟨by omega,by omega⟩
     have HF2:Hid (faultR (book0 no ws) l 0=faultR (tellR A x).2 (l.drop (k+1)) (k+1)∧runR (book0 no ws) l=runR (tellR A x).2 (l.drop (k+1))):=by
      obtain ⟨a1,a2⟩:=HF.out
      rw [HD.out] at a1 a2
      refine ⟨a1.trans ?_,a2⟩
      show (if (tellR A x).1=0 then _ else _)=_
      rw [if_pos hz]
     clear hz
     generalize tellR A x=r at *
     go_wp2_with fail
     go_roundg (n - (k+1))
     case measure=>have:=HKN.out;omega
     case rel=>exact ⟨k+1,r.2,HKN.out,rfl,by simp,hL3,hB4,HG2,HL2,HF2⟩
    ·have hz':((tellR A x).1 != 0)=true:=by simpa using hz
     have HF2:Hid (faultR (book0 no ws) l 0=((tellR A x).1,(k:Int))∧(tellR A x).1 ≠ 0):=by
      obtain ⟨a1,a2⟩:=HF.out
      rw [HD.out] at a1
      refine ⟨a1.trans ?_,hz⟩
      show (if (tellR A x).1=0 then _ else _)=_
      rw [if_neg hz]
     clear hz
     generalize tellR A x=r at *
     have hb9:=hL3.below
     clear hL3
     go_wp2_with fail
     refine Calls.mono (fcode_any r.1 (k:Int) _) ?_
     rintro e w5 ⟨rfl,hb5⟩
     have hB5:=hB4.next hb5
     have hb10:Below w.heap.size w w5:=after hb9 hb5 hb9.size
     have f0:=hB5.c0
     have f1:=hB5.c1
     have fl:=hB5.loose
     have fz:=hB5.lt
     clear hB4 hB5 hb9 hb5
     go_wp2_with fail
     exact bodyPost_ret (v:=.tuple #[.pointer none,.agg #[.int .i64 r.1,.int .i64 (k:Int)]]) (by simp [results,Tryz.results64,go_sem,f0,f1]) rfl ⟨brepIs_code HOk.out HF2.out.1 HF2.out.2 rfl,(hb10.setCell (p:=⟨fb,0,none⟩) hfb _).setCell (p:=⟨fb,1,none⟩) hfb _⟩
   ·have hkk:k=n:=by omega
    subst hkk
    have HF2:Hid (faultR (book0 no ws) l 0=(0,0)∧runR (book0 no ws) l=A):=by
     obtain ⟨a1,a2⟩:=HF.out
     rw [List.drop_of_length_le (by omega)] at a1 a2
     exact ⟨a1,a2⟩
    have f0:=hB2.c0
    have f1:=hB2.c1
    have fl:=hB2.loose
    have fz:=hB2.lt
    have HSh:Hid (∀u v:Value,∃O,BoothIn O ((wr.setCell ⟨fb,0,none⟩ u).setCell ⟨fb,1,none⟩ v) q A∧∀k,O k->w.heap.size<=k):=by
     intro u v
     obtain ⟨O,h1,h2⟩:=hL.inn
     exact ⟨O,h1.save (O':=fun b=>b=fb) (Save.setCell (O:=fun b=>b=fb) (Save.setCell (O:=fun b=>b=fb) (Save.refl _ _) (p:=⟨fb,0,none⟩) (fun _=>rfl) _) (p:=⟨fb,1,none⟩) (fun _=>rfl) _) (fun k hk e=>(h2 k hk).2 e),fun k hk=>(h2 k hk).1⟩
    have hb9:=hL.below
    clear hL hB2
    go_wp2_with fail
    refine bodyPost_ret (v:=.tuple #[.pointer (some ⟨q,0,none⟩),.agg #[.int .i64 0,.int .i64 0]]) (by simp [results,Tryz.results64,go_sem,f0,f1]) rfl ⟨brepIs_all HOk.out HF2.out.1 ?_,(hb9.setCell (p:=⟨fb,0,none⟩) hfb _).setCell (p:=⟨fb,1,none⟩) hfb _⟩
    obtain ⟨O,h1,h2⟩:=HSh.out (.int .i64 0) (.int .i64 0)
    exact ⟨q,O,rfl,by rw [HF2.out.2];exact h1,h2⟩
 ·rw [if_neg hok] at hN
  subst hN
  have HOk:Hid (newOk no ws=false):=by show _=_;simpa using hok
  clear hok hB
  go_wp2_with fail
  refine Calls.mono (fcode_any 1 (-1) _) ?_
  rintro e w5 ⟨rfl,hb5⟩
  have hB5:=hB1.next hb5
  have hb10:Below w.heap.size w w5:=after hw1 hb5 hw1.size
  have f0:=hB5.c0
  have f1:=hB5.c1
  have fl:=hB5.loose
  have fz:=hB5.lt
  clear hB1 hB5 hb5
  go_wp2_with fail
  exact bodyPost_ret (v:=.tuple #[.pointer none,.agg #[.int .i64 1,.int .i64 (-1)]]) (by simp [results,Tryz.results64,go_sem,f0,f1]) rfl ⟨brepIs_nil HOk.out rfl,(hb10.setCell (p:=⟨fb,0,none⟩) hfb _).setCell (p:=⟨fb,1,none⟩) hfb _⟩
structure PenRaw (w:World) (s q:Nat) (rv:Value):Prop where
 lt:s<w.heap.size
 c0:w.cell? ⟨s,0,none⟩=some (.pointer (some ⟨q,0,none⟩))
 c1:w.cell? ⟨s,1,none⟩=some rv
 loose:∀k,w.frozen? ⟨s,k,none⟩=false
theorem PenRaw.save {O:Nat->Prop} {w w1:World} {s q:Nat} {rv:Value} (h:PenRaw w s q rv) (hb:Save O w w1) (hn:¬O s):PenRaw w1 s q rv:=by
 have hl:=h.lt
 have e:∀o,w1.cell? ⟨s,o,none⟩=w.cell? ⟨s,o,none⟩:=fun o=>hb.cell (p:=⟨s,o,none⟩) hl hn
 exact ⟨Nat.lt_of_lt_of_le hl hb.size,(e _).trans h.c0,(e _).trans h.c1,fun k=>(hb.frozen (p:=⟨s,k,none⟩) hl hn).trans (h.loose k)⟩
theorem PenRaw.set1 {w:World} {s q:Nat} {rv:Value} (h:PenRaw w s q rv) (u:Value):PenRaw (w.setCell ⟨s,1,none⟩ u) s q u:=
 ⟨by simpa using h.lt,(cell_set_off (by omega)).trans h.c0,cell_set_same h.c1,by simpa [go_sem] using h.loose⟩
structure PenIn (O:Nat->Prop) (w:World) (s:Nat) (K:Kb):Prop where
 own:∀k,O k->k<w.heap.size
 mine:O s
 raw:∃(Os:Nat->Prop) (q:Nat) (rv:Value),PenRaw w s q rv∧BoothIn Os w q K.A∧(∀k,Os k->O k)∧¬Os s∧w.ownsRow (s+1) 177 5 rv K.rs.length (flat5 K.rs)∧∀k,rv.ownBlock=some k->O k∧¬Os k
theorem PenIn.save {O O':Nat->Prop} {w w1:World} {s:Nat} {K:Kb} (h:PenIn O w s K) (hb:Save O' w w1) (hn:∀k,O k->¬O' k):PenIn O w1 s K:=by
 obtain ⟨Os,q,rv,h1,h2,h3,h4,h5,h6⟩:=h.raw
 exact ⟨fun k hk=>Nat.lt_of_lt_of_le (h.own k hk) hb.size,h.mine,Os,q,rv,h1.save hb (hn s h.mine),h2.save hb (fun k hk=>hn k (h3 k hk)),h3,h4,own_save h5 hb (fun k hk=>hn k (h6 k hk).1),h6⟩
theorem PenIn.next {O:Nat->Prop} {w w1:World} {s:Nat} {K:Kb} (h:PenIn O w s K) (hb:Below w.heap.size w w1):PenIn O w1 s K:=
 h.save (O':=fun _=>False) (.of_below hb) (fun _ _ q=>q)
theorem pen_moved {O Os Os':Nat->Prop} {w w1:World} {s q:Nat} {rv:Value} {rs:List Stp} {A':Bk} (hI:∀k,O k->k<w.heap.size) (hm:O s) (hR:PenRaw w s q rv) (hsub:∀k,Os k->O k) (hq:¬Os s)
 (hrow:w.ownsRow (s+1) 177 5 rv rs.length (flat5 rs)) (hrb:∀k,rv.ownBlock=some k->O k∧¬Os k) (h3:BoothIn Os' w1 q A') (h4:Save Os w w1) (h5:Moved Os Os' w):
 PenIn (fun k=>O k∨Os' k) w1 s ⟨A',rs⟩∧Save O w w1∧Moved O (fun k=>O k∨Os' k) w:=by
 have hout:∀k,k<w.heap.size->¬Os k->¬Os' k:=fun k hk hn hk'=>(h5 k hk').elim hn (fun h=>by omega)
 refine ⟨⟨fun k hk=>?_,.inl hm,Os',q,rv,hR.save h4 hq,h3,fun k hk=>.inr hk,hout s hR.lt hq,own_save hrow h4 (fun k hk=>(hrb k hk).2),fun k hk=>⟨.inl (hrb k hk).1,hout k (hI k (hrb k hk).1) (hrb k hk).2⟩⟩,h4.mono (fun k _ hk=>hsub k hk),fun k hk=>?_⟩
 ·rcases hk with hk | hk
  ·exact Nat.lt_of_lt_of_le (hI k hk) h4.size
  ·exact h3.own k hk
 ·rcases hk with hk | hk
  ·exact .inl hk
  ·exact (h5 k hk).imp (hsub k) id
theorem eqS_no {a b:Stp} (h:eqS a b=false):eqS b a=false:=by
 rw [<-Bool.not_eq_true,eqS_iff]
 intro e
 rw [eqS_iff.2 e.symm] at h
 cases h
def NewPIs (no:Int) (ws:Nat->Int) (w w':World) (e:Ending):Prop:=
 if newOk no ws=true then ∃s O,e=.returned (.pointer (some ⟨s,0,none⟩))∧PenIn O w' s ⟨book0 no ws,[]⟩∧∀k,O k->w.heap.size<=k else e=.returned (.pointer none)
theorem newPIs_nil {no:Int} {ws:Nat->Int} {w w':World} {e:Ending} (h:newOk no ws=false) (he:e=.returned (.pointer none)):NewPIs no ws w w' e:=by
 unfold NewPIs;rw [if_neg (by rw [h];simp)];exact he
theorem praw_new (w:World) (q:Nat) (t:TypeId):PenRaw (w.alloc (.cells #[.pointer (some ⟨q,0,none⟩),.slice none 0 0] t)) w.heap.size q (.slice none 0 0):=
 ⟨by simp,by simp [go_sem],by simp [go_sem],by simp [go_sem]⟩
theorem npen_any (no:Int) (ws:Nat->Int) (w:World):
 Calls Tryz.prog 23 #[.int .i64 no,.agg #[.int .i64 (ws 0),.int .i64 (ws 1),.int .i64 (ws 2),.int .i64 (ws 3),.int .i64 (ws 4),.int .i64 (ws 5)]] w fun e w'=>NewPIs no ws w w' e∧Below w.heap.size w w':=by
 go_enter Tryz.func23,Tryz.ntmps23
 go_wp2_with fail
 refine (bnew_any no ws _).mono ?_
 rintro e w1 ⟨hN,hb1⟩
 have hw1:Below w.heap.size w w1:=after (by go_grown) hb1 (by simp)
 unfold NewBIs at hN
 by_cases hok:newOk no ws=true
 ·rw [if_pos hok] at hN
  obtain ⟨q,O,rfl,hI,hO⟩:=hN
  have HOk:Hid _:=hok
  have HI:Hid (BoothIn O w1 q (book0 no ws)):=hI
  have HO:Hid (∀k,O k->w.heap.size<=k):=fun k hk=>Nat.le_trans (by simp) (hO k hk)
  clear hok hI hO hb1
  go_wp2_with fail
  have hR:=praw_new w1 q 114
  have hn:Below w1.heap.size w1 (w1.alloc (.cells #[.pointer (some ⟨q,0,none⟩),.slice none 0 0] 114)):=(Below.refl _ _).alloc (Nat.le_refl _) _
  have hI2:=HI.out.next hn
  have hw2:=after hw1 hn hw1.size
  go_ret
  refine ⟨?_,hw2⟩
  unfold NewPIs
  rw [if_pos HOk.out]
  have nn:∀k,¬(Value.slice none 0 0).ownBlock=some k:=fun k e=>by simp [Value.ownBlock] at e
  have nq:¬O w1.heap.size:=fun hk=>by have:=HI.out.own _ hk;omega
  refine ⟨w1.heap.size,fun k=>O k∨k=w1.heap.size,rfl,⟨fun k hk=>?_,.inr rfl,O,q,.slice none 0 0,hR,hI2,fun k hk=>.inl hk,nq,World.ownsRow_nil _ _ _ _,fun k e=>absurd e (nn k)⟩,fun k hk=>?_⟩
  ·rcases hk with hk | rfl
   ·exact hI2.own k hk
   ·exact hR.lt
  ·rcases hk with hk | rfl
   ·exact HO.out k hk
   ·exact hw1.size
 ·rw [if_neg hok] at hN
  subst hN
  have HOk:Hid (newOk no ws=false):=by show _=_;simpa using hok
  clear hok
  go_wp2_with fail
  go_ret
  exact ⟨newPIs_nil HOk.out rfl,hw1⟩
theorem pdo_any (O:Nat->Prop) (K:Kb) (s:Nat) (r:Stp) (w:World) (h:PenIn O w s K) (hG:Good K.A) (hl:K.A.hs.length<1000000) (he:K.A.es.length<1000000) (hr:K.rs.length<=150):
 Calls Tryz.prog 124 #[.pointer (some ⟨s,0,none⟩),.agg #[.int .i64 r.what,.int .i64 r.deal,.int .i64 r.c,.int .i64 r.d,.bool r.done]] w fun e w'=>e=.returned (.int .i64 (doR K r).1)∧∃O',PenIn O' w' s (doR K r).2∧Save O w w'∧Moved O O' w:=by
 obtain ⟨i0,hi,hz0,hz1,hz2⟩:=info_parts infoRec
 obtain ⟨Os,q,rv,hR,hS,hsub,hqs,hrow,hrb⟩:=h.raw
 have HM:Hid (∀(W w1:World) (Os':Nat->Prop) (A':Bk),Below w.heap.size w W->BoothIn Os' w1 q A'->Save Os W w1->Moved Os Os' W->∃O',PenIn O' w1 s ⟨A',K.rs⟩∧Save O w w1∧∀k,O' k->O k∨W.heap.size<=k):=by
  intro W w1 Os' A' hW h3 h4 h5
  obtain ⟨k1,k2,k3⟩:=pen_moved (rs:=K.rs) (O:=O) (fun k hk=>Nat.lt_of_lt_of_le (h.own k hk) hW.size) h.mine (hR.save (O:=fun _=>False) (.of_below hW) (fun q=>q)) hsub hqs (own_next hrow hW) hrb h3 h4 h5
  exact ⟨_,k1,(Save.of_below hW).trans k2 (fun j _ hj=>hj),k3⟩
 have HH:Hid (∀W:World,Below w.heap.size w W->Calls Tryz.prog 97 #[.pointer (some ⟨q,0,none⟩),.agg #[.int .i64 r.what,.int .i64 r.deal,.int .i64 r.c,.int .i64 r.d,.bool r.done]] W fun e w'=>e=.returned (.int .i64 (tellR K.A r).1)∧∃O',BoothIn O' w' q (tellR K.A r).2∧Save Os W w'∧Moved Os O' W):=fun W hW=>bdo_any Os K.A q r W (hS.next hW) hG hl he
 have hql:=hR.lt
 have c0:=hR.c0
 have HOwn:Hid (∀k,O k->k<w.heap.size):=h.own
 have HOs:Hid (∀k,Os k->k<w.heap.size):=hS.own
 have HRl:Hid (K.rs.length<=150):=hr
 clear h hG hl he hr hR hS hsub hrow hrb
 go_enter Tryz.func124,Tryz.ntmps124
 go_upto_region 1 with fail
 have hX:=BoxAt.new w [.int .i64 r.what,.int .i64 r.deal,.int .i64 r.c,.int .i64 r.d,.bool r.done] 177
 have hbW:Below w.heap.size w (w.alloc (.cells #[.int .i64 r.what,.int .i64 r.deal,.int .i64 r.c,.int .i64 r.d,.bool r.done] 177)):=(Below.refl _ _).alloc (Nat.le_refl _) _
 change BoxAt (w.alloc (.cells #[.int .i64 r.what,.int .i64 r.deal,.int .i64 r.c,.int .i64 r.d,.bool r.done] 177)) _ _ at hX
 generalize (w.alloc (.cells #[.int .i64 r.what,.int .i64 r.deal,.int .i64 r.c,.int .i64 r.d,.bool r.done] 177))=W at hX hbW ⊢
 have hnx:¬Os w.heap.size:=fun hh=>by have:=HOs.out _ hh;omega
 have hnO:¬O w.heap.size:=fun hh=>by have:=HOwn.out _ hh;omega
 have HXW:Hid (BoxAt W w.heap.size [.int .i64 r.what,.int .i64 r.deal,.int .i64 r.c,.int .i64 r.d,.bool r.done]):=hX
 have HBW:Hid (Below w.heap.size w W):=hbW
 have HC0:Hid (∀w',Below W.heap.size W w'->w'.cell? ⟨s,0,none⟩=some (.pointer (some ⟨q,0,none⟩))):=fun w' hb=>((after hbW hb hbW.size).cell (p:=⟨s,0,none⟩) hql).trans c0
 have hsW:s<W.heap.size:=Nat.lt_of_lt_of_le hql hbW.size
 clear hX hbW c0
 go_cut [5] (fun s5 wx=>s5=.int .i64 (tellR K.A r).1∧BoxAt wx w.heap.size [.int .i64 r.what,.int .i64 r.deal,.int .i64 r.c,.int .i64 r.d,.bool r.done]∧∃O',PenIn O' wx s ⟨(tellR K.A r).2,K.rs⟩∧Save O w wx∧Moved O O' w∧¬O' w.heap.size)
 case first=>
  have HK:Hid (∀w',w'.cell? ⟨s,0,none⟩=some (.pointer (some ⟨q,0,none⟩))->BoxAt w' w.heap.size [.int .i64 r.what,.int .i64 r.deal,.int .i64 r.c,.int .i64 r.d,.bool r.done]->w'.cell? ⟨s,0,none⟩=some (.pointer (some ⟨q,0,none⟩))∧w'.cell? ⟨w.heap.size,0,none⟩=some (.int .i64 r.what)∧w'.cell? ⟨w.heap.size,1,none⟩=some (.int .i64 r.deal)∧w'.cell? ⟨w.heap.size,2,none⟩=some (.int .i64 r.c)∧w'.cell? ⟨w.heap.size,3,none⟩=some (.int .i64 r.d)∧w'.cell? ⟨w.heap.size,4,none⟩=some (.bool r.done)):=fun w' h0 h=>⟨h0,h.2 0 _ rfl,h.2 1 _ rfl,h.2 2 _ rfl,h.2 3 _ rfl,h.2 4 _ rfl⟩
  have HA:Hid (∀W':World,Below W.heap.size W W'->Calls Tryz.prog 97 #[.pointer (some ⟨q,0,none⟩),.agg #[.int .i64 r.what,.int .i64 r.deal,.int .i64 r.c,.int .i64 r.d,.bool r.done]] W' fun e w'=>e=.returned (.int .i64 (tellR K.A r).1)∧w'.cell? ⟨s,0,none⟩=some (.pointer (some ⟨q,0,none⟩))∧BoxAt w' w.heap.size [.int .i64 r.what,.int .i64 r.deal,.int .i64 r.c,.int .i64 r.d,.bool r.done]∧∃O',PenIn O' w' s ⟨(tellR K.A r).2,K.rs⟩∧Save O w w'∧Moved O O' w∧¬O' w.heap.size):=by
   intro W' hW'
   have hW2:Below w.heap.size w W':=after HBW.out hW' HBW.out.size
   refine (HH.out W' hW2).mono ?_
   rintro e w' ⟨a0,O2,a1,a2,a3⟩
   have hz:=hW'.size
   obtain ⟨O',b1,b2,b3⟩:=HM.out W' w' O2 _ hW2 a1 a2 a3
   refine ⟨a0,(a2.cell (p:=⟨s,0,none⟩) (Nat.lt_of_lt_of_le hsW hz) hqs).trans (HC0.out W' hW'),(HXW.out.next hW').save a2 hnx,?_⟩
   exact ⟨O',b1,b2,fun k hk=>(b3 k hk).imp id (fun q=>Nat.le_trans hW2.size q),fun hh=>(b3 _ hh).elim hnO (fun q=>by have:=HXW.out.1;omega)⟩
  clear HH HM
  go_region_held3 (fun w'=>w'.cell? ⟨s,0,none⟩=some (.pointer (some ⟨q,0,none⟩))∧w'.cell? ⟨w.heap.size,0,none⟩=some (.int .i64 r.what)∧w'.cell? ⟨w.heap.size,1,none⟩=some (.int .i64 r.deal)∧w'.cell? ⟨w.heap.size,2,none⟩=some (.int .i64 r.c)∧w'.cell? ⟨w.heap.size,3,none⟩=some (.int .i64 r.d)∧w'.cell? ⟨w.heap.size,4,none⟩=some (.bool r.done))
   (first | exact HK9 | exact HK.out _ (HC0.out _ (by go_grown)) (HXW.out.next (by go_grown)))
   (first | (go_at_call 97;refine Calls.mono (HA.out _ (by go_grown)) ?_;rintro e w9 ⟨rfl,h91,h92,h93⟩;have HK9:=HK.out _ h91 h92;have HX9:Hid (BoxAt w9 w.heap.size [.int .i64 r.what,.int .i64 r.deal,.int .i64 r.c,.int .i64 r.d,.bool r.done]):=h92;have HE9:Hid (∃O',PenIn O' w9 s ⟨(tellR K.A r).2,K.rs⟩∧Save O w w9∧Moved O O' w∧¬O' w.heap.size):=h93;clear h91 h92 h93))
  all_goals
   go_wp2_with fail
   go_meet
   case rel=>exact ⟨rfl,HX9.out,HE9.out⟩
 case rest=>
  obtain ⟨rfl,hX1,O1,hI1,hSw,hMw,hnO1⟩:=hcut
  clear HH HM HXW HBW HC0 hsW hnx hnO
  by_cases hz:(tellR K.A r).1=0
  ·have HD:Hid (doR K r=(0,⟨(tellR K.A r).2,noteR K.rs r⟩)):=doR_done hz
   have hz':((tellR K.A r).1 != 0)=false:=by simp [hz]
   clear hz
   generalize hA':(tellR K.A r).2=A' at hI1 HD
   clear hA'
   obtain ⟨Os2,q2,rv2,hR2,hP2,hsub2,hqs2,hrow2,hrb2⟩:=hI1.raw
   obtain ⟨ga,cap,hrv,hA1,hrn⟩:=steps_of_own hrow2
   have HI1:Hid (PenIn O1 wc s ⟨A',K.rs⟩):=hI1
   have HA1:Hid (StepsAt wc ga K.rs):=hA1
   have HX1:Hid (BoxAt wc w.heap.size [.int .i64 r.what,.int .i64 r.deal,.int .i64 r.c,.int .i64 r.d,.bool r.done]):=hX1
   have hsl:=hR2.lt
   have HCc:Hid (∀w',Below wc.heap.size wc w'->w'.cell? ⟨s,1,none⟩=some (.slice ga K.rs.length cap)):=fun w' hb=>((bcell hb).1 _ _ hsl).trans (by rw [<-hrv];exact hR2.c1)
   clear hI1 hA1 hX1 hR2 hP2 hsub2 hqs2 hrow2 hrb2
   go_wp2_with fail
   go_loopg [6] K.rs.length (fun g s6 wr=>∃j:Nat,j<=K.rs.length∧g=K.rs.length - j∧s6=.int .i64 j∧Hid (∀y∈K.rs.take j,eqS r y=false)∧Below wc.heap.size wc wr)
   case atStart=>exact ⟨0,Nat.zero_le _,rfl,rfl,by intro y hy;simp at hy,Below.refl _ _⟩
   case round=>
    obtain ⟨j,hj,rfl,rfl,HE,hb2⟩:=hrel
    have c1:=HCc.out wr hb2
    have hsr:s<wr.heap.size:=Nat.lt_of_lt_of_le hsl hb2.size
    by_cases hjl:j<K.rs.length
    ·obtain ⟨x,hjx⟩:∃x,K.rs[j]?=some x:=⟨_,List.getElem?_eq_getElem hjl⟩
     obtain ⟨bl,ol,rfl,hbl,hcell⟩:=HA1.out j x hjx
     have hcell':∀i v,x.cells[i]?=some v->wr.cell? ⟨bl,ol+j * 5+i,none⟩=some v:=fun i v hi=>(hb2.cell (p:=⟨bl,_,none⟩) hbl).trans (hcell i v hi)
     have p0:wr.cell? ⟨bl,ol+j * 5,none⟩=some (.int .i64 x.what):=hcell' 0 _ rfl
     have p1:wr.cell? ⟨bl,ol+j * 5+1,none⟩=some (.int .i64 x.deal):=hcell' 1 _ rfl
     have p2:wr.cell? ⟨bl,ol+j * 5+2,none⟩=some (.int .i64 x.c):=hcell' 2 _ rfl
     have p3:wr.cell? ⟨bl,ol+j * 5+3,none⟩=some (.int .i64 x.d):=hcell' 3 _ rfl
     have p4:wr.cell? ⟨bl,ol+j * 5+4,none⟩=some (.bool x.done):=hcell' 4 _ rfl
     have hX2:=HX1.out.next hb2
     have y0:=hX2.2 0 _ rfl
     have y1:=hX2.2 1 _ rfl
     have y2:=hX2.2 2 _ rfl
     have y3:=hX2.2 3 _ rfl
     have y4:=hX2.2 4 _ rfl
     have j0:(0:Int)<=(j:Int):=by omega
     have j1:(j:Int)<(K.rs.length:Int):=by omega
     have j2:(K.rs.length:Int)<=150:=by have:=HRl.out;omega
     have HJ:Hid (j<K.rs.length):=hjl
     clear hcell hcell' hX2 hbl hj hjl
     cases hq:eqS r x with
     | true=>
       have hq1:∀W:World,(Op.equalIn 10000 177 (.agg #[.int .i64 x.what,.int .i64 x.deal,.int .i64 x.c,.int .i64 x.d,.bool x.done]) (.agg #[.int .i64 r.what,.int .i64 r.deal,.int .i64 r.c,.int .i64 r.d,.bool r.done])).run Tryz.prog W=.ok true W:=fun W=>by rw [eqR,eqS_iff.2 (eqS_iff.1 hq).symm]
       have HN:Hid (noteR K.rs r=K.rs):=by show _=_;unfold noteR;rw [if_pos (has_in hjx hq)]
       clear hq hjx
       go_wp2_with fail
       go_quiet (fail)
       go_wp2_with fail
       go_ret
       rw [HD.out,HN.out]
       have hb3:=bdrewN hb2 nq
       exact ⟨rfl,O1,HI1.out.next hb3,hSw.next hb3,hMw⟩
     | false=>
       have hq1:∀W:World,(Op.equalIn 10000 177 (.agg #[.int .i64 x.what,.int .i64 x.deal,.int .i64 x.c,.int .i64 x.d,.bool x.done]) (.agg #[.int .i64 r.what,.int .i64 r.deal,.int .i64 r.c,.int .i64 r.d,.bool r.done])).run Tryz.prog W=.ok false W:=fun W=>by rw [eqR,eqS_no hq]
       have HE2:Hid _:=none_snoc hjx HE.out hq
       clear hq hjx
       go_wp2_with fail
       go_quiet (fail)
       go_wp2_with fail
       go_roundg (K.rs.length - (j+1))
       case measure=>have:=HJ.out;omega
       case rel=>exact ⟨j+1,HJ.out,rfl,by simp,HE2,bdrewN hb2 _⟩
    ·have hjj:j=K.rs.length:=by omega
     subst hjj
     have HN:Hid (noteR K.rs r=K.rs++[r]):=by
      have h1:=HE.out
      rw [List.take_of_length_le (Nat.le_refl _)] at h1
      show _=_
      unfold noteR
      rw [if_neg (by rw [has_out h1];simp)]
     have hI2:=HI1.out.next hb2
     have hX2:=HX1.out.next hb2
     have hS2:=hSw.next hb2
     obtain ⟨Os3,q3,rv,hR2,hP2,hsub2,hqs2,hrow2,hrb2⟩:=hI2.raw
     have HOwn2:Hid (∀k,O1 k->k<wr.heap.size):=hI2.own
     have HMine2:Hid (O1 s):=hI2.mine
     have g0:=hR2.c1
     have x0:=hX2.2 0 _ rfl
     have x1:=hX2.2 1 _ rfl
     have x2:=hX2.2 2 _ rfl
     have x3:=hX2.2 3 _ rfl
     have x4:=hX2.2 4 _ rfl
     have hp3:=hR2.lt
     have hl3:=hX2.1
     have hf3:=hR2.loose
     have HR2:Hid (PenRaw wr s q3 rv):=hR2
     have HP2:Hid (BoothIn Os3 wr q3 A'):=hP2
     have HSub:Hid (∀k,Os3 k->O1 k):=hsub2
     have HQs:Hid (¬Os3 s):=hqs2
     have HRow:Hid (wr.ownsRow (s+1) 177 5 rv K.rs.length (flat5 K.rs)):=hrow2
     have HRb:Hid (∀k,rv.ownBlock=some k->O1 k∧¬Os3 k):=hrb2
     have HS2:Hid (Save O w wr):=hS2
     have HM:Hid (Moved O O1 w):=hMw
     have HE1:Hid (some s ≠ rv.ownBlock):=fun e=>by have:=(HRow.out.lt s e.symm).1;omega
     have HE2:Hid (some w.heap.size ≠ rv.ownBlock):=fun e=>hnO1 (HRb.out _ e.symm).1
     have hg0:some rv=some (.slice ga K.rs.length cap):=g0.symm.trans c1
     have hrv3:rv=.slice ga K.rs.length cap:=Option.some.inj hg0
     subst hrv3
     clear hI2 hX2 hR2 hP2 hsub2 hqs2 hrow2 hrb2 hS2 hMw hnO1 hb2 hrn hg0 c1 HCc HI1 HA1 HX1 hSw hj hjl HE hrv
     go_upto_region 9 with fail
     go_region_law
      (first | (refine step_append_two (by rfl) (.tmp 38) (.tmp 40) 112 (by rfl) (s+1) 177 i0 (.agg #[.int .i64 0,.int .i64 0,.int .i64 0,.int .i64 0,.bool false]) 5 40 Tryz.underlying112 hi hz0 hz1 hz2 rfl (by decide) (.slice ga K.rs.length cap) _ _ (by simp [Act.eval]) (own_next HRow.out (by go_grown)) ⟨wr.heap.size,0,none⟩ 1 1 [.int .i64 r.what,.int .i64 r.deal,.int .i64 r.c,.int .i64 r.d,.bool r.done] (by simp [Act.eval]) rfl (rec_lies (by simp [go_sem]) (by simp [go_sem]) (by simp [go_sem]) (by simp [go_sem]) (by simp [go_sem])) rec_cell (by have:=HRl.out;unfold maxLen;omega) (by have:=HRl.out;omega) (by simp;omega) (by decide) ?_;intro v8 w8 hown8 hgrow8 hwh8;obtain ⟨ga8,cap8,rfl⟩:=own_slice hown8;have HO8:Hid (w8.ownsRow (s+1) 177 5 (.slice ga8 (K.rs.length+1) cap8) (K.rs.length+1) (flat5 K.rs++[.int .i64 r.what,.int .i64 r.deal,.int .i64 r.c,.int .i64 r.d,.bool r.done])):=hown8;clear hown8;have HW8:Hid _:=hwh8;clear hwh8;have hk8:w8.cell? ⟨s,1,none⟩=some (.slice ga K.rs.length cap)∧w8.cell? ⟨w.heap.size,0,none⟩=some (.int .i64 r.what)∧w8.cell? ⟨w.heap.size,1,none⟩=some (.int .i64 r.deal)∧w8.cell? ⟨w.heap.size,2,none⟩=some (.int .i64 r.c)∧w8.cell? ⟨w.heap.size,3,none⟩=some (.int .i64 r.d)∧w8.cell? ⟨w.heap.size,4,none⟩=some (.bool r.done):=⟨hgrow8.cell (by simp [go_sem,g0,hp3]) HE1.out,hgrow8.cell (by simp [go_sem,x0,hl3]) HE2.out,hgrow8.cell (by simp [go_sem,x1,hl3]) HE2.out,hgrow8.cell (by simp [go_sem,x2,hl3]) HE2.out,hgrow8.cell (by simp [go_sem,x3,hl3]) HE2.out,hgrow8.cell (by simp [go_sem,x4,hl3]) HE2.out⟩;have q78:=hk8.1;have hf8:∀k,w8.frozen? ⟨s,k,none⟩=false:=fun k=>(World.frozen?_of_block (hgrow8.block s (by simp;omega) HE1.out)).trans (by simp [go_sem,hf3,hp3])))
     all_goals
      have hR8:PenRaw w8 s q3 (.slice ga K.rs.length cap):=(HR2.out.save (O:=fun _=>False) (.of_below (by go_grown)) (fun e=>e)).save (O:=fun k=>(Value.slice ga K.rs.length cap).ownBlock=some k) ((Save.refl _ _).grown hgrow8 (fun k e _=>e)) (fun e=>HE1.out e.symm)
      have hP8:BoothIn Os3 w8 q3 A':=(HP2.out.next (by go_grown)).save (O':=fun k=>(Value.slice ga K.rs.length cap).ownBlock=some k) ((Save.refl _ _).grown hgrow8 (fun k e _=>e)) (fun k hk e=>(HRb.out k e).2 hk)
      have hS8:Save (fun k=>O k∨O1 k) w w8:=((HS2.out.mono (fun k _ hk=>.inl hk)).next (by go_grown)).grown hgrow8 (fun k e _=>.inr (HRb.out k e).1)
      have hsz8:wr.heap.size<=w8.heap.size:=Nat.le_trans (by simp) hgrow8.size
      clear hk8 hf8 q78 g0 x0 x1 x2 x3 x4
      go_wp2_with fail
      go_ret
      rw [HD.out,HN.out]
      have hSO:Save O w w8:=hS8.mono (fun k hk hh=>hh.elim id (fun h1=>(HM.out k h1).elim id (fun h2=>absurd h2 (by omega))))
      refine ⟨rfl,fun k=>O1 k∨(.slice ga8 (K.rs.length+1) cap8:Value).ownBlock=some k,?_,hSO.setCell (p:=⟨s,1,none⟩) (fun hk=>(HM.out s HMine2.out).elim id (fun h2=>absurd hk (by simp only;omega))) _,fun k hk=>?_⟩
      ·refine ⟨fun k hk=>?_,.inl HMine2.out,Os3,q3,.slice ga8 (K.rs.length+1) cap8,hR8.set1 _,?_,fun k hk=>.inl (HSub.out k hk),HQs.out,?_,fun k hk=>⟨.inr hk,fun hk2=>?_⟩⟩
       ·show k<(w8.setCell _ _).heap.size
        rw [show (w8.setCell (⟨s,1,none⟩:Addr) (.slice ga8 (K.rs.length+1) cap8)).heap.size=w8.heap.size by simp]
        rcases hk with hk | hk
        ·have:=HOwn2.out k hk
         omega
        ·exact (HO8.out.lt k hk).2
       ·exact hP8.save (O':=fun k=>k=s) (Save.setCell (O:=fun k=>k=s) (Save.refl _ _) (p:=⟨s,1,none⟩) (fun _=>rfl) _) (fun k hk e=>HQs.out (e ▸ hk))
       ·have e1:(K.rs++[r]).length=K.rs.length+1:=by simp
        have e2:flat5 (K.rs++[r])=flat5 K.rs++[.int .i64 r.what,.int .i64 r.deal,.int .i64 r.c,.int .i64 r.d,.bool r.done]:=flat5_snoc _ _
        show World.ownsRow _ _ _ _ _ (K.rs++[r]).length (flat5 (K.rs++[r]))
        rw [e1,e2]
        exact ownsRow_setCell_below HO8.out (Nat.lt_succ_self s) _
       ·rcases HW8.out k hk with h1 | h1
        ·exact (HRb.out k h1).2 hk2
        ·have h2:=HP2.out.own k hk2
         simp at h1
         omega
      ·rcases hk with hk | hk
       ·exact HM.out k hk
       ·rcases HW8.out k hk with h1 | h1
        ·exact HM.out k (HRb.out k h1).1
        ·right
         have:=HS2.out.size
         simp at h1
         omega
  ·have HD:Hid (doR K r=((tellR K.A r).1,K)):=doR_code hz
   have HA:Hid ((tellR K.A r).2=K.A):=tell_code hz
   have hz':((tellR K.A r).1 != 0)=true:=by simpa using hz
   clear hz
   go_wp2_with fail
   go_ret
   rw [HD.out]
   exact ⟨rfl,O1,by have h9:=hI1;rw [HA.out] at h9;exact h9,hSw,hMw⟩
def PenTo (O:Nat->Prop) (w w':World) (s:Nat) (K':Kb):Prop:=∃O',PenIn O' w' s K'∧Save O w w'∧Moved O O' w
theorem PenTo.stay {O:Nat->Prop} {w w':World} {s:Nat} {K:Kb} (h:PenIn O w s K) (hb:Below w.heap.size w w'):PenTo O w w' s K:=⟨O,h.next hb,.of_below hb,.refl _ _⟩
def PenBy (O:Nat->Prop) (w w':World) (s:Nat) (K':Kb) (b:Nat):Prop:=∃O',PenIn O' w' s K'∧Save O w w'∧Moved O O' w∧¬O' b∧¬O' (b+1)
theorem PenBy.to {O:Nat->Prop} {w w':World} {s b:Nat} {K':Kb} (h:PenBy O w w' s K' b):PenTo O w w' s K':=by
 obtain ⟨O',h1,h2,h3,_⟩:=h
 exact ⟨O',h1,h2,h3⟩
theorem PenBy.set {O:Nat->Prop} {w w1 w2:World} {s b:Nat} {K:Kb} (h:PenBy O w w1 s K b) (hb:w.heap.size<=b) (hs:Save (fun k=>k=b+1) w1 w2):PenBy O w w2 s K b:=by
 obtain ⟨O',h1,h2,h3,h4,h5⟩:=h
 exact ⟨O',h1.save hs (fun k hk e=>h5 (e ▸ hk)),h2.trans hs (fun j hj e=>by omega),h3,h4,h5⟩
theorem pen_two {O:Nat->Prop} {w W w':World} {s:Nat} {K:Kb} {m m0:Ml} (hO:∀k,O k->k<w.heap.size) (hW:Below w.heap.size w W) (hX:MlBox W w.heap.size m) (hY:MlBox W (w.heap.size+1) m0) (h:PenTo O W w' s K):MlBox w' w.heap.size m∧MlBox w' (w.heap.size+1) m0∧PenBy O w w' s K w.heap.size:=by
 have n0:¬O w.heap.size:=fun hh=>by have:=hO _ hh;omega
 have n1:¬O (w.heap.size+1):=fun hh=>by have:=hO _ hh;omega
 obtain ⟨O',h1,hS,h3⟩:=h
 have no:∀k,w.heap.size<=k->k<W.heap.size->¬O' k:=fun k h1 h2 hk=>(h3 k hk).elim (fun q=>by have:=hO k q;omega) (fun q=>by omega)
 have hl:=hY.lt
 exact ⟨hX.save hS n0,hY.save hS n1,O',h1,(Save.of_below hW).trans hS (fun _ _ hj=>hj),fun k hk=>(h3 k hk).imp id (fun q=>Nat.le_trans hW.size q),no _ (Nat.le_refl _) (by omega),no _ (by omega) hl⟩
theorem pans_any (O:Nat->Prop) (K:Kb) (s:Nat) (m:Ml) (w:World) (h:PenIn O w s K) (hG:Good K.A) (hl:K.A.hs.length<1000000) (he:K.A.es.length<1000000) (hr:K.rs.length<=150):
 Calls Tryz.prog 95 #[.pointer (some ⟨s,0,none⟩),.agg #[.int .i64 m.kind,.int .i64 m.deal,.int .i64 m.shop,.int .i64 m.c,.int .i64 m.d,.bool m.yes]] w fun e w'=>e=.returned (ansV (ansR K.A.no K m))∧PenTo O w w' s (ansR K.A.no K m).2.2:=by
 obtain ⟨Os,q,rv,hR,hB,_⟩:=h.raw
 obtain ⟨hv,ov,dv,hRw,hrow,_⟩:=hB.raw
 have c0:=hR.c0
 have hsl:=hR.lt
 have b0:=hRw.c0
 have hql:=hRw.lt
 have HI:Hid (PenIn O w s K):=h
 have HG:Hid (Good K.A∧K.A.hs.length<1000000∧K.A.es.length<1000000∧K.rs.length<=150):=⟨hG,hl,he,hr⟩
 clear h hG hl he hr hR hB hRw hrow
 by_cases hs:m.shop=K.A.no
 ·have hs':(m.shop != K.A.no)=false:=by simp [hs]
  by_cases h1:m.kind=1
  ·have HE:Hid _:=ansV_ask (K:=K) hs h1
   have h1':(m.kind == 1)=true:=by simp [h1]
   clear hs h1
   go_enter Tryz.func95,Tryz.ntmps95
   go_upto_region 1 with fail
   have hX:=(MlBox.new w m 142).next ((Below.refl _ _).alloc (Nat.le_refl _) (.cells #[.int .i64 0,.int .i64 0,.int .i64 0,.int .i64 0,.int .i64 0,.bool false] 142))
   have hY:=MlBox.new (w.alloc (.cells #[.int .i64 m.kind,.int .i64 m.deal,.int .i64 m.shop,.int .i64 m.c,.int .i64 m.d,.bool m.yes] 142)) noMl 142
   have hz:(w.alloc (.cells #[.int .i64 m.kind,.int .i64 m.deal,.int .i64 m.shop,.int .i64 m.c,.int .i64 m.d,.bool m.yes] 142)).heap.size=w.heap.size+1:=by simp
   rw [hz] at hY
   change MlBox ((w.alloc (.cells #[.int .i64 m.kind,.int .i64 m.deal,.int .i64 m.shop,.int .i64 m.c,.int .i64 m.d,.bool m.yes] 142)).alloc (.cells #[.int .i64 0,.int .i64 0,.int .i64 0,.int .i64 0,.int .i64 0,.bool false] 142)) _ _ at hY
   have hb:Below w.heap.size w ((w.alloc (.cells #[.int .i64 m.kind,.int .i64 m.deal,.int .i64 m.shop,.int .i64 m.c,.int .i64 m.d,.bool m.yes] 142)).alloc (.cells #[.int .i64 0,.int .i64 0,.int .i64 0,.int .i64 0,.int .i64 0,.bool false] 142)):=by go_grown
   generalize ((w.alloc (.cells #[.int .i64 m.kind,.int .i64 m.deal,.int .i64 m.shop,.int .i64 m.c,.int .i64 m.d,.bool m.yes] 142)).alloc (.cells #[.int .i64 0,.int .i64 0,.int .i64 0,.int .i64 0,.int .i64 0,.bool false] 142))=W at hX hY hb ⊢
   clear hz
   have HX:Hid (MlBox W w.heap.size m):=hX
   have HY:Hid (MlBox W (w.heap.size+1) noMl):=hY
   have k0:W.cell? ⟨s,0,none⟩=some (.pointer (some ⟨q,0,none⟩)):=(hb.cell (p:=⟨s,0,none⟩) hsl).trans c0
   have k1:W.cell? ⟨q,0,none⟩=some (.int .i64 K.A.no):=(hb.cell (p:=⟨q,0,none⟩) hql).trans b0
   obtain ⟨xl,x0,x1,x2,x3,x4,x5,xf⟩:=hX
   obtain ⟨yl,y0,y1,y2,y3,y4,y5,yf⟩:=hY
   go_wp2_with fail
   go_quiet (fail)
   go_wp2_with fail
   have hd:=bdrewN (Below.refl W.heap.size W) nq
   refine Calls.mono (pdo_any O K s (askS m) _ (HI.out.next (bdrewN hb nq)) HG.out.1 HG.out.2.1 HG.out.2.2.1 HG.out.2.2.2) ?_
   rintro e w9 ⟨rfl,hT⟩
   obtain ⟨hX1,hY1,hE1⟩:=pen_two HI.out.own (bdrewN hb nq) (HX.out.next hd) (HY.out.next hd) hT
   clear hT x0 x1 x2 x3 x4 x5 xf xl y0 y1 y2 y3 y4 y5 yf yl
   obtain ⟨xl,x0,x1,x2,x3,x4,x5,xf⟩:=hX1
   obtain ⟨yl,y0,y1,y2,y3,y4,y5,yf⟩:=hY1
   generalize (doR K (askS m))=r at *
   go_wp2_with fail
   exact bodyPost_ret (v:=.tuple #[.agg #[.int .i64 2,.int .i64 m.deal,.int .i64 m.shop,.int .i64 m.c,.int .i64 m.d,.bool (r.1 == 0)],.bool true]) (by simp [results,Tryz.results95,go_sem,y0,y1,y2,y3,y4,y5]) rfl ⟨by rw [HE.out.1],by rw [HE.out.2];exact (hE1.set (Nat.le_refl _) (save_ml _ _ _ _ _ _ _ _)).to⟩
  ·have h1':(m.kind == 1)=false:=by simpa using h1
   by_cases h3:m.kind=3
   ·have HE:Hid _:=ansV_end (K:=K) hs h3
    have h3':(m.kind == 3)=true:=by simp [h3]
    clear hs h1 h3
    go_enter Tryz.func95,Tryz.ntmps95
    go_upto_region 1 with fail
    have hX:=(MlBox.new w m 142).next ((Below.refl _ _).alloc (Nat.le_refl _) (.cells #[.int .i64 0,.int .i64 0,.int .i64 0,.int .i64 0,.int .i64 0,.bool false] 142))
    have hY:=MlBox.new (w.alloc (.cells #[.int .i64 m.kind,.int .i64 m.deal,.int .i64 m.shop,.int .i64 m.c,.int .i64 m.d,.bool m.yes] 142)) noMl 142
    have hz:(w.alloc (.cells #[.int .i64 m.kind,.int .i64 m.deal,.int .i64 m.shop,.int .i64 m.c,.int .i64 m.d,.bool m.yes] 142)).heap.size=w.heap.size+1:=by simp
    rw [hz] at hY
    change MlBox ((w.alloc (.cells #[.int .i64 m.kind,.int .i64 m.deal,.int .i64 m.shop,.int .i64 m.c,.int .i64 m.d,.bool m.yes] 142)).alloc (.cells #[.int .i64 0,.int .i64 0,.int .i64 0,.int .i64 0,.int .i64 0,.bool false] 142)) _ _ at hY
    have hb:Below w.heap.size w ((w.alloc (.cells #[.int .i64 m.kind,.int .i64 m.deal,.int .i64 m.shop,.int .i64 m.c,.int .i64 m.d,.bool m.yes] 142)).alloc (.cells #[.int .i64 0,.int .i64 0,.int .i64 0,.int .i64 0,.int .i64 0,.bool false] 142)):=by go_grown
    generalize ((w.alloc (.cells #[.int .i64 m.kind,.int .i64 m.deal,.int .i64 m.shop,.int .i64 m.c,.int .i64 m.d,.bool m.yes] 142)).alloc (.cells #[.int .i64 0,.int .i64 0,.int .i64 0,.int .i64 0,.int .i64 0,.bool false] 142))=W at hX hY hb ⊢
    clear hz
    have HX:Hid (MlBox W w.heap.size m):=hX
    have HY:Hid (MlBox W (w.heap.size+1) noMl):=hY
    have k0:W.cell? ⟨s,0,none⟩=some (.pointer (some ⟨q,0,none⟩)):=(hb.cell (p:=⟨s,0,none⟩) hsl).trans c0
    have k1:W.cell? ⟨q,0,none⟩=some (.int .i64 K.A.no):=(hb.cell (p:=⟨q,0,none⟩) hql).trans b0
    obtain ⟨xl,x0,x1,x2,x3,x4,x5,xf⟩:=hX
    obtain ⟨yl,y0,y1,y2,y3,y4,y5,yf⟩:=hY
    go_wp2_with fail
    go_quiet (fail)
    go_wp2_with fail
    have hd:=bdrewN (Below.refl W.heap.size W) nq
    refine Calls.mono (pdo_any O K s (endS m) _ (HI.out.next (bdrewN hb nq)) HG.out.1 HG.out.2.1 HG.out.2.2.1 HG.out.2.2.2) ?_
    rintro e w9 ⟨rfl,hT⟩
    obtain ⟨hX1,hY1,hE1⟩:=pen_two HI.out.own (bdrewN hb nq) (HX.out.next hd) (HY.out.next hd) hT
    clear hT x0 x1 x2 x3 x4 x5 xf xl y0 y1 y2 y3 y4 y5 yf yl
    obtain ⟨xl,x0,x1,x2,x3,x4,x5,xf⟩:=hX1
    obtain ⟨yl,y0,y1,y2,y3,y4,y5,yf⟩:=hY1
    generalize (doR K (endS m))=r at *
    by_cases hz:r.1=0
    ·have HV:Hid (endV m r.1=.tuple #[.agg #[.int .i64 4,.int .i64 m.deal,.int .i64 m.shop,.int .i64 m.c,.int .i64 m.d,.bool m.yes],.bool true]):=by show _=_;unfold endV;rw [if_pos hz]
     have hz':(r.1 == 0)=true:=by simp [hz]
     clear hz
     go_wp2_with fail
     exact bodyPost_ret (v:=.tuple #[.agg #[.int .i64 4,.int .i64 m.deal,.int .i64 m.shop,.int .i64 m.c,.int .i64 m.d,.bool m.yes],.bool true]) (by simp [results,Tryz.results95,go_sem,y0,y1,y2,y3,y4,y5]) rfl ⟨by rw [HE.out.1,HV.out],by rw [HE.out.2];exact (hE1.set (Nat.le_refl _) (save_ml _ _ _ _ _ _ _ _)).to⟩
    ·have HV:Hid (endV m r.1=.tuple #[.agg #[.int .i64 0,.int .i64 0,.int .i64 0,.int .i64 0,.int .i64 0,.bool false],.bool false]):=by show _=_;unfold endV;rw [if_neg hz]
     have hz':(r.1 == 0)=false:=by simpa using hz
     clear hz
     go_wp2_with fail
     exact bodyPost_ret (v:=.tuple #[.agg #[.int .i64 0,.int .i64 0,.int .i64 0,.int .i64 0,.int .i64 0,.bool false],.bool false]) (by simp [results,Tryz.results95,go_sem,y0,y1,y2,y3,y4,y5]) rfl ⟨by rw [HE.out.1,HV.out],by rw [HE.out.2];exact (hE1.set (Nat.le_refl _) (save_ml _ _ _ _ _ _ _ _)).to⟩
   ·have h3':(m.kind == 3)=false:=by simpa using h3
    have HE:Hid _:=ans_kind (K:=K) hs h1 h3
    clear hs h1 h3
    go_enter Tryz.func95,Tryz.ntmps95
    go_upto_region 1 with fail
    have hX:=(MlBox.new w m 142).next ((Below.refl _ _).alloc (Nat.le_refl _) (.cells #[.int .i64 0,.int .i64 0,.int .i64 0,.int .i64 0,.int .i64 0,.bool false] 142))
    have hY:=MlBox.new (w.alloc (.cells #[.int .i64 m.kind,.int .i64 m.deal,.int .i64 m.shop,.int .i64 m.c,.int .i64 m.d,.bool m.yes] 142)) noMl 142
    have hz:(w.alloc (.cells #[.int .i64 m.kind,.int .i64 m.deal,.int .i64 m.shop,.int .i64 m.c,.int .i64 m.d,.bool m.yes] 142)).heap.size=w.heap.size+1:=by simp
    rw [hz] at hY
    change MlBox ((w.alloc (.cells #[.int .i64 m.kind,.int .i64 m.deal,.int .i64 m.shop,.int .i64 m.c,.int .i64 m.d,.bool m.yes] 142)).alloc (.cells #[.int .i64 0,.int .i64 0,.int .i64 0,.int .i64 0,.int .i64 0,.bool false] 142)) _ _ at hY
    have hb:Below w.heap.size w ((w.alloc (.cells #[.int .i64 m.kind,.int .i64 m.deal,.int .i64 m.shop,.int .i64 m.c,.int .i64 m.d,.bool m.yes] 142)).alloc (.cells #[.int .i64 0,.int .i64 0,.int .i64 0,.int .i64 0,.int .i64 0,.bool false] 142)):=by go_grown
    generalize ((w.alloc (.cells #[.int .i64 m.kind,.int .i64 m.deal,.int .i64 m.shop,.int .i64 m.c,.int .i64 m.d,.bool m.yes] 142)).alloc (.cells #[.int .i64 0,.int .i64 0,.int .i64 0,.int .i64 0,.int .i64 0,.bool false] 142))=W at hX hY hb ⊢
    clear hz
    have HX:Hid (MlBox W w.heap.size m):=hX
    have HY:Hid (MlBox W (w.heap.size+1) noMl):=hY
    have k0:W.cell? ⟨s,0,none⟩=some (.pointer (some ⟨q,0,none⟩)):=(hb.cell (p:=⟨s,0,none⟩) hsl).trans c0
    have k1:W.cell? ⟨q,0,none⟩=some (.int .i64 K.A.no):=(hb.cell (p:=⟨q,0,none⟩) hql).trans b0
    obtain ⟨xl,x0,x1,x2,x3,x4,x5,xf⟩:=hX
    obtain ⟨yl,y0,y1,y2,y3,y4,y5,yf⟩:=hY
    go_wp2_with fail
    go_quiet (fail)
    go_wp2_with fail
    refine bodyPost_ret (v:=.tuple #[.agg #[.int .i64 0,.int .i64 0,.int .i64 0,.int .i64 0,.int .i64 0,.bool false],.bool false]) (by simp [results,Tryz.results95,go_sem,y0,y1,y2,y3,y4,y5]) rfl ⟨by rw [HE.out,ansV_none],?_⟩
    rw [HE.out]
    exact PenTo.stay HI.out (((((((bdrewN hb nq).setCell (p:=⟨w.heap.size+1,0,none⟩) (Nat.le_succ _) _).setCell (p:=⟨w.heap.size+1,1,none⟩) (Nat.le_succ _) _).setCell (p:=⟨w.heap.size+1,2,none⟩) (Nat.le_succ _) _).setCell (p:=⟨w.heap.size+1,3,none⟩) (Nat.le_succ _) _).setCell (p:=⟨w.heap.size+1,4,none⟩) (Nat.le_succ _) _).setCell (p:=⟨w.heap.size+1,5,none⟩) (Nat.le_succ _) _)
 ·have hs':(m.shop != K.A.no)=true:=by simpa using hs
  have HE:Hid _:=ans_shop (K:=K) hs
  clear hs
  go_enter Tryz.func95,Tryz.ntmps95
  go_upto_region 1 with fail
  have hX:=(MlBox.new w m 142).next ((Below.refl _ _).alloc (Nat.le_refl _) (.cells #[.int .i64 0,.int .i64 0,.int .i64 0,.int .i64 0,.int .i64 0,.bool false] 142))
  have hY:=MlBox.new (w.alloc (.cells #[.int .i64 m.kind,.int .i64 m.deal,.int .i64 m.shop,.int .i64 m.c,.int .i64 m.d,.bool m.yes] 142)) noMl 142
  have hz:(w.alloc (.cells #[.int .i64 m.kind,.int .i64 m.deal,.int .i64 m.shop,.int .i64 m.c,.int .i64 m.d,.bool m.yes] 142)).heap.size=w.heap.size+1:=by simp
  rw [hz] at hY
  change MlBox ((w.alloc (.cells #[.int .i64 m.kind,.int .i64 m.deal,.int .i64 m.shop,.int .i64 m.c,.int .i64 m.d,.bool m.yes] 142)).alloc (.cells #[.int .i64 0,.int .i64 0,.int .i64 0,.int .i64 0,.int .i64 0,.bool false] 142)) _ _ at hY
  have hb:Below w.heap.size w ((w.alloc (.cells #[.int .i64 m.kind,.int .i64 m.deal,.int .i64 m.shop,.int .i64 m.c,.int .i64 m.d,.bool m.yes] 142)).alloc (.cells #[.int .i64 0,.int .i64 0,.int .i64 0,.int .i64 0,.int .i64 0,.bool false] 142)):=by go_grown
  generalize ((w.alloc (.cells #[.int .i64 m.kind,.int .i64 m.deal,.int .i64 m.shop,.int .i64 m.c,.int .i64 m.d,.bool m.yes] 142)).alloc (.cells #[.int .i64 0,.int .i64 0,.int .i64 0,.int .i64 0,.int .i64 0,.bool false] 142))=W at hX hY hb ⊢
  clear hz
  have HX:Hid (MlBox W w.heap.size m):=hX
  have HY:Hid (MlBox W (w.heap.size+1) noMl):=hY
  have k0:W.cell? ⟨s,0,none⟩=some (.pointer (some ⟨q,0,none⟩)):=(hb.cell (p:=⟨s,0,none⟩) hsl).trans c0
  have k1:W.cell? ⟨q,0,none⟩=some (.int .i64 K.A.no):=(hb.cell (p:=⟨q,0,none⟩) hql).trans b0
  obtain ⟨xl,x0,x1,x2,x3,x4,x5,xf⟩:=hX
  obtain ⟨yl,y0,y1,y2,y3,y4,y5,yf⟩:=hY
  go_wp2_with fail
  go_quiet (fail)
  go_wp2_with fail
  refine bodyPost_ret (v:=.tuple #[.agg #[.int .i64 0,.int .i64 0,.int .i64 0,.int .i64 0,.int .i64 0,.bool false],.bool false]) (by simp [results,Tryz.results95,go_sem,y0,y1,y2,y3,y4,y5]) rfl ⟨by rw [HE.out,ansV_none],?_⟩
  rw [HE.out]
  exact PenTo.stay HI.out (((((((bdrewN hb nq).setCell (p:=⟨w.heap.size+1,0,none⟩) (Nat.le_succ _) _).setCell (p:=⟨w.heap.size+1,1,none⟩) (Nat.le_succ _) _).setCell (p:=⟨w.heap.size+1,2,none⟩) (Nat.le_succ _) _).setCell (p:=⟨w.heap.size+1,3,none⟩) (Nat.le_succ _) _).setCell (p:=⟨w.heap.size+1,4,none⟩) (Nat.le_succ _) _).setCell (p:=⟨w.heap.size+1,5,none⟩) (Nat.le_succ _) _)
structure ASt (B:Nat) (w:World) (wr:World):Prop where
 c0:wr.cell? ⟨B,0,none⟩=some (.int .i64 0)
 c1:wr.cell? ⟨B,1,none⟩=some (.int .i64 0)
 f0:∀k,wr.frozen? ⟨B,k,none⟩=false
 below:Below B w wr
 lt:B<wr.heap.size
theorem ASt.next {B:Nat} {w wr wx:World} (h:ASt B w wr) (hb:Below wr.heap.size wr wx):ASt B w wx:=by
 have hlt:=h.lt
 refine ⟨((bcell hb).1 _ _ (by omega)).trans h.c0,((bcell hb).1 _ _ (by omega)).trans h.c1,loose B hb (by omega) h.f0,after h.below hb (by omega),?_⟩
 have:=hb.size
 omega
theorem ASt.answer {B:Nat} {w wr:World} (h:ASt B w wr) (x y:Value):Below B w ((wr.setCell ⟨B,0,none⟩ x).setCell ⟨B,1,none⟩ y):=(h.below.setCell (Nat.le_refl _) _).setCell (Nat.le_refl _) _
theorem wantsFault_any (la:Option Addr) (ll lc:Nat) (l:List (Int × Int)) (w:World) (hl:WantsAt w la l) (hll:l.length=ll):
 Calls Tryz.prog 92 #[.slice la ll lc] w fun e w'=>e=.returned (.agg #[.int .i64 (chkW l).1,.int .i64 (chkW l).2])∧Below w.heap.size w w':=by
 by_cases h0:ll=0
 ·have e1:chkW l=(2,-1):=by unfold chkW;rw [if_pos (by omega)]
  rw [e1]
  have k0:((ll:Int) == 0)=true:=by simp [h0]
  clear hl e1 hll h0
  go_enter Tryz.func92,Tryz.ntmps92
  go_wp2_with fail
  refine (fF_any _ _ _).mono ?_
  rintro e w1 ⟨rfl,hb1⟩
  have hA:ASt w.heap.size w w1:=(ASt.mk (by simp [go_sem]) (by simp [go_sem]) (by simp [go_sem]) (by go_grown) (by simp)).next hb1
  have r0:=hA.c0
  have r1:=hA.c1
  have rf:=hA.f0
  clear hb1
  go_wp2_with fail
  exact bodyPost_ret (v:=.agg #[.int .i64 2,.int .i64 (-1)]) (by simp [results,Tryz.results92,go_sem,r0,r1]) rfl ⟨rfl,hA.answer _ _⟩
 have k0:((ll:Int) == 0)=false:=by simpa using h0
 by_cases h1:4<ll
 ·have e1:chkW l=(3,-1):=by unfold chkW;rw [if_neg (by omega),if_pos (by omega)]
  rw [e1]
  have k1:(4:Int)<(ll:Int):=by omega
  clear hl e1 hll h0
  go_enter Tryz.func92,Tryz.ntmps92
  go_wp2_with fail
  refine (fF_any _ _ _).mono ?_
  rintro e w1 ⟨rfl,hb1⟩
  have hA:ASt w.heap.size w w1:=(ASt.mk (by simp [go_sem]) (by simp [go_sem]) (by simp [go_sem]) (by go_grown) (by simp)).next hb1
  have r0:=hA.c0
  have r1:=hA.c1
  have rf:=hA.f0
  clear hb1
  go_wp2_with fail
  exact bodyPost_ret (v:=.agg #[.int .i64 3,.int .i64 (-1)]) (by simp [results,Tryz.results92,go_sem,r0,r1]) rfl ⟨rfl,hA.answer _ _⟩
 have e1:chkW l=scanW (l.take 0) (l.drop 0):=by unfold chkW;rw [if_neg (by omega),if_neg (by omega)];simp
 rw [e1]
 have k1:(ll:Int)<=4:=by omega
 clear e1 h0
 go_enter Tryz.func92,Tryz.ntmps92
 go_wp2_with fail
 go_loopg [3] ll (fun g i wr=>∃k:Nat,k<=ll∧g=ll - k∧i=.int .i64 k∧Hid (scanW (l.take 0) (l.drop 0)=scanW (l.take k) (l.drop k))∧ASt w.heap.size w wr)
 case atStart=>
  exact ⟨0,Nat.zero_le _,rfl,rfl,rfl,by simp [go_sem],by simp [go_sem],by simp [go_sem],by go_grown,by simp⟩
 case round=>
  obtain ⟨k,hk,rfl,rfl,HE,hS⟩:=hrel
  by_cases hlt:k<ll
  ·obtain ⟨⟨c,d⟩,hkl⟩:∃x,l[k]?=some x:=⟨_,List.getElem?_eq_getElem (by omega)⟩
   obtain ⟨bl,ol,rfl,hbl,hcl,hdl⟩:=hl k c d hkl
   have j0:(0:Int)<=(k:Int):=by omega
   have j1:(k:Int)<(ll:Int):=by omega
   have hcl':wr.cell? ⟨bl,ol+k * 2,none⟩=some (.int .i64 c):=(hS.below.cell (p:=⟨bl,ol+k * 2,none⟩) hbl).trans hcl
   have hdl':wr.cell? ⟨bl,ol+k * 2+1,none⟩=some (.int .i64 d):=(hS.below.cell (p:=⟨bl,ol+k * 2+1,none⟩) hbl).trans hdl
   have HC:Hid _:=hcl
   clear hcl hdl
   go_wp2_with fail
   refine (wantFault_any _ _ _).mono ?_
   rintro e w1 ⟨rfl,hb1⟩
   have hS1:ASt w.heap.size w w1:=hS.next hb1
   clear hb1 hS hcl' hdl'
   have hlt1:=hS1.lt
   by_cases hw:wnt c d=0
   ·have hw':(wnt c d != 0)=false:=by simp [hw]
    have HW:Hid _:=hw
    clear hw
    go_wp2_with fail
    go_loopg [5] k (fun g i wx=>∃m:Nat,m<=k∧g=k - m∧i=.int .i64 m∧Hid ((l.take m).any (fun y=>y.1 == c)=false)∧ASt w.heap.size w wx)
    case atStart=>exact ⟨0,Nat.zero_le _,rfl,rfl,by simp [Hid],hS1⟩
    case round=>
     rename_i wx
     obtain ⟨m,hm,rfl,rfl,HM,hS2⟩:=hrel
     by_cases hlt2:m<k
     ·obtain ⟨⟨c',d'⟩,hml⟩:∃x,l[m]?=some x:=⟨_,List.getElem?_eq_getElem (by omega)⟩
      obtain ⟨bl2,ol2,hq,hbl2,hcm,-⟩:=hl m c' d' hml
      obtain ⟨rfl,rfl⟩:bl=bl2∧ol=ol2:=by simpa using hq
      have p0:wr.cell? ⟨bl,ol+k * 2,none⟩=some (.int .i64 c):=(hS2.below.cell (p:=⟨bl,ol+k * 2,none⟩) hbl).trans HC.out
      have p1:wr.cell? ⟨bl,ol+m * 2,none⟩=some (.int .i64 c'):=(hS2.below.cell (p:=⟨bl,ol+m * 2,none⟩) hbl).trans hcm
      have i0:(0:Int)<=(m:Int):=by omega
      have i1:(m:Int)<(k:Int):=by omega
      have i2:(m:Int)<(ll:Int):=by omega
      clear hcm hq hl
      by_cases he:c'=c
      ·have he':(c' == c)=true:=by simp [he]
       have ht:(l.take k).any (fun y=>y.1 == c)=true:=by
        rw [List.any_eq_true]
        exact ⟨(c',d'),List.mem_of_getElem? (i:=m) (by rw [List.getElem?_take_of_lt hlt2];exact hml),he'⟩
       have HE2:Hid _:=HE.out.trans (scan_twice hkl HW.out ht)
       clear he ht
       go_wp2_with fail
       go_quiet (fail)
       go_wp2_with fail
       refine (fF_any _ _ _).mono ?_
       rintro e w2 ⟨rfl,hb2⟩
       have hS3:=(hS2.next (bdrewN (Below.refl _ _) _)).next hb2
       clear hb2 p0 p1
       have r0:=hS3.c0
       have r1:=hS3.c1
       have rf:=hS3.f0
       go_wp2_with fail
       exact bodyPost_ret (v:=.agg #[.int .i64 4,.int .i64 k]) (by simp [results,Tryz.results92,go_sem,r0,r1]) rfl ⟨by rw [HE2.out],hS3.answer _ _⟩
      ·have he':(c' == c)=false:=by simpa using he
       have HM2:Hid _:=(any_next hml c).trans (by rw [HM.out,he',Bool.or_false])
       clear he
       go_wp2_with fail
       go_quiet (fail)
       go_wp2_with fail
       go_roundg (k - (m+1))
       case measure=>omega
       case rel=>exact ⟨m+1,by omega,rfl,by simp,HM2,hS2.next (bdrewN (Below.refl _ _) _)⟩
     ·have hmk:m=k:=by omega
      subst hmk
      have HE2:Hid _:=HE.out.trans (scan_next hkl HW.out HM.out)
      go_wp2_with fail
      go_roundg (ll - (m+1))
      case measure=>omega
      case rel=>exact ⟨m+1,by omega,rfl,by simp,HE2,hS2⟩
   ·have HE2:Hid _:=HE.out.trans (scan_bad hkl hw)
    have hw':(wnt c d != 0)=true:=by simpa using hw
    clear hw HE
    go_wp2_with fail
    refine (fF_any _ _ _).mono ?_
    rintro e w2 ⟨rfl,hb2⟩
    have hS2:=hS1.next hb2
    clear hb2
    have r0:=hS2.c0
    have r1:=hS2.c1
    have rf:=hS2.f0
    go_wp2_with fail
    exact bodyPost_ret (v:=.agg #[.int .i64 (wnt c d),.int .i64 k]) (by simp [results,Tryz.results92,go_sem,r0,r1]) rfl ⟨by rw [HE2.out],hS2.answer _ _⟩
  ·have hkk:k=ll:=by omega
   subst hkk
   have r0:=hS.c0
   have r1:=hS.c1
   have rf:=hS.f0
   go_wp2_with fail
   exact bodyPost_ret (v:=.agg #[.int .i64 0,.int .i64 0]) (by simp [results,Tryz.results92,go_sem,r0,r1]) rfl ⟨by rw [HE.out,List.drop_of_length_le (l:=l) (by omega),scanW],hS.answer _ _⟩
end Go.Proofs.YtbgnajcmhmpjlacGreatDoor
