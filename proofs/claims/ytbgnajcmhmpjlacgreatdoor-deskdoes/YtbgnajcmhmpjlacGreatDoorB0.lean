/- How lines come in as an argument; what the condition on the library's variables gives. -/
import Derived.Lib.IndexAny
import Derived.KernelRfl
import Derived.Test.YtbgnajcmhmpjlacGreatDoorRows
import Derived.Deep.Strs
import Derived.Stop.LaidErr
import Derived.LaidMore
import Derived.LaidLaws
import Derived.SizedLaws
import Derived.MakeChecks
import Derived.Test.YtbgnajcmhmpjlacGreatDoorB1
import Derived.Test.YtbgnajcmhmpjlacGreatDoorA2
set_option maxRecDepth 100000
set_option maxHeartbeats 100000000
namespace Go.Proofs.YtbgnajcmhmpjlacGreatDoor
open Go.RowKit
def hasNl (x:ByteArray):Bool:=x.data.toList.contains 10
def nlB (xs:List ByteArray):Int:=Lib.idxBy (fun _ y=>hasNl y) xs default
theorem nlB_any (xs:List ByteArray):decide (0<=nlB xs)=xs.any hasNl:=Lib.idxBy_nonneg_iff (fun _ y=>hasNl y) xs default
def chkL (xs:List ByteArray):Int × Int:=if 150<xs.length then (3,-1) else if 0<=nlB xs then (12,nlB xs) else (0,0)
theorem nl_pred (w:World):PredAt Tryz.prog 25 #[] Value.string hasNl w:=by
 intro W x hb
 unfold FnGives
 have e2:hasNl x=decide (0<=Lib.indexByte x.data.toList 10):=Lib.contains_iff_indexByte x.data.toList 10
 have HC:=Tryz.strings_Contains_one x 10 W
 rw [e2]
 clear e2
 generalize decide (0<=Lib.indexByte x.data.toList 10)=o at *
 go_enter Tryz.func25,Tryz.ntmps25
 go_wp2_with (go_at_call 26;refine Calls.mono HC ?_;rintro e w' ⟨rfl,h6⟩;rw [h6];clear h6 w')
 go_ret
 exact ⟨rfl,0,rfl⟩
theorem index_any (xs:List ByteArray) (la:Option Addr) (lc:Nat) (w:World) (hx:StrsAt w la xs) (hl:xs.length<1000):Calls Tryz.prog 24 #[.slice la xs.length lc,.func (.func 25) #[] #[]] w fun e w'=>e=.returned (.int .i64 (nlB xs))∧Below w.heap.size w w':=by
 cases xs with
 | nil=>
   refine (Tryz.slices_IndexFunc_empty (α:=ByteArray) la lc _ w).mono ?_
   rintro e w' ⟨rfl,rfl⟩
   exact ⟨rfl,Below.refl _ _⟩
 | cons x r=>
   obtain ⟨b,off,rfl,hb,_⟩:=hx 0 x rfl
   refine (Tryz.slices_IndexFunc Value.string hasNl 25 #[] (enters_of Tryz.func25 (by kernel_rfl) rfl) b off (x :: r).length lc (x :: r) w (nl_pred w) (Nat.le_refl _) (by omega) (fun j hj=>?_)).mono ?_
   ·obtain ⟨b',o',e,_,hc⟩:=hx j (x :: r)[j] (List.getElem?_eq_getElem hj)
    cases e
    rw [hc,List.getElem!_eq_getElem?_getD,List.getElem?_eq_getElem hj]
    rfl
   ·rintro e w' ⟨rfl,k,rfl⟩
    rw [List.take_length]
    exact ⟨rfl,rfl,rfl,rfl,Nat.le_refl _,fun _ _=>rfl⟩
theorem set2 {w:World} {g:Nat} {a b u v:Value} (h0:w.cell? ⟨g,0,none⟩=some a) (h1:w.cell? ⟨g,1,none⟩=some b):((w.setCell ⟨g,0,none⟩ u).setCell ⟨g,1,none⟩ v).cell? ⟨g,0,none⟩=some u∧((w.setCell ⟨g,0,none⟩ u).setCell ⟨g,1,none⟩ v).cell? ⟨g,1,none⟩=some v:=
 ⟨(cell_set_off (by omega)).trans (cell_set_same h0),cell_set_same ((cell_set_off (by omega)).trans h1)⟩
theorem below2 {B g:Nat} {a w:World} {u v:Value} (h:Below B a w) (hg:B<=g):Below B a ((w.setCell ⟨g,0,none⟩ u).setCell ⟨g,1,none⟩ v):=(h.setCell (p:=⟨g,0,none⟩) hg _).setCell (p:=⟨g,1,none⟩) hg _
theorem dcheck_any (xs:List ByteArray) (la:Option Addr) (lc:Nat) (w:World) (hx:StrsAt w la xs) (hl:xs.length<1000):Calls Tryz.prog 14 #[.slice la xs.length lc] w fun e w'=>e=.returned (.agg #[.int .i64 (chkL xs).1,.int .i64 (chkL xs).2])∧Below w.heap.size w w':=by
 have HX:=hid hx
 have HI:Hid (∀W:World,Below w.heap.size w W->Calls Tryz.prog 24 #[.slice la xs.length lc,.func (.func 25) #[] #[]] W fun e w'=>e=.returned (.int .i64 (nlB xs))∧Below W.heap.size W w'):=fun W hW=>index_any xs la lc W (hx.below hW) hl
 clear hx
 by_cases h1:150<xs.length
 ·have j1:(150:Int)<(xs.length:Int):=by omega
  have HE:Hid (chkL xs=(3,-1)):=by unfold chkL;rw [if_pos h1];exact rfl
  rw [HE.out]
  obtain ⟨ll,hll⟩:∃ll,xs.length=ll:=⟨_,rfl⟩
  rw [hll] at j1 ⊢
  clear h1 hl hll HI
  go_enter Tryz.func14,Tryz.ntmps14
  go_wp2_with fail
  go_returns
  exact ⟨rfl,by go_grown⟩
 ·have j1:¬(150:Int)<(xs.length:Int):=by omega
  by_cases h2:0<=nlB xs
  ·have HE:Hid (chkL xs=(12,nlB xs)):=by unfold chkL;rw [if_neg h1,if_pos h2];exact rfl
   rw [HE.out]
   clear HE
   obtain ⟨ll,hll⟩:∃ll,xs.length=ll:=⟨_,rfl⟩
   rw [hll] at j1 HI ⊢
   generalize nlB xs=no at *
   clear h1 hl hll
   go_enter Tryz.func14,Tryz.ntmps14
   go_wp2_with (go_at_call 24;refine Calls.mono (HI.out _ (by go_grown)) ?_;rintro e w1 ⟨rfl,hb1⟩;have hB1:Hid (Below w.heap.size w w1):=after (by go_grown) hb1 (by simp);have k0:w1.cell? ⟨w.heap.size,0,none⟩=some (.int .i64 0):=((bcell hb1).1 _ _ (by simp)).trans (by simp [go_sem]);have k1:w1.cell? ⟨w.heap.size,1,none⟩=some (.int .i64 0):=((bcell hb1).1 _ _ (by simp)).trans (by simp [go_sem]);have f0:∀k,w1.frozen? ⟨w.heap.size,k,none⟩=false:=loose w.heap.size hb1 (by simp) (by simp [go_sem]);have hz1:=hb1.size;clear hb1)
   obtain ⟨z0,z1⟩:=set2 (u:=.int .i64 12) (v:=.int .i64 no) k0 k1
   (try simp only [Exit.inBlock,Exit.then])
   exact bodyPost_ret (v:=.agg #[.int .i64 12,.int .i64 no]) (by simp [results,Tryz.results14,go_sem,z0,z1]) rfl ⟨rfl,below2 hB1.out (Nat.le_refl _)⟩
  ·have HE:Hid (chkL xs=(0,0)):=by unfold chkL;rw [if_neg h1,if_neg h2];exact rfl
   rw [HE.out]
   clear HE
   obtain ⟨ll,hll⟩:∃ll,xs.length=ll:=⟨_,rfl⟩
   rw [hll] at j1 HI ⊢
   generalize nlB xs=no at *
   clear h1 hl hll
   go_enter Tryz.func14,Tryz.ntmps14
   go_wp2_with (go_at_call 24;refine Calls.mono (HI.out _ (by go_grown)) ?_;rintro e w1 ⟨rfl,hb1⟩;have hB1:Hid (Below w.heap.size w w1):=after (by go_grown) hb1 (by simp);have k0:w1.cell? ⟨w.heap.size,0,none⟩=some (.int .i64 0):=((bcell hb1).1 _ _ (by simp)).trans (by simp [go_sem]);have k1:w1.cell? ⟨w.heap.size,1,none⟩=some (.int .i64 0):=((bcell hb1).1 _ _ (by simp)).trans (by simp [go_sem]);have f0:∀k,w1.frozen? ⟨w.heap.size,k,none⟩=false:=loose w.heap.size hb1 (by simp) (by simp [go_sem]);have hz1:=hb1.size;clear hb1)
   obtain ⟨z0,z1⟩:=set2 (u:=.int .i64 0) (v:=.int .i64 0) k0 k1
   (try simp only [Exit.inBlock,Exit.then])
   exact bodyPost_ret (v:=.agg #[.int .i64 0,.int .i64 0]) (by simp [results,Tryz.results14,go_sem,z0,z1]) rfl ⟨rfl,below2 hB1.out (Nat.le_refl _)⟩
theorem DLv.keep {O:Nat->Prop} {w0 w w1:World} {Z:Nat->Prop} {p q b m:Nat} {c:Nat->Nat} {ws:Nat->Int} {l:List UInt8} {T:Twn} (h:DLv w0 Z w p q b m c ws l T) (hs:Save O w w1) (hO:∀k,O k->Z k∧w0.heap.size<=k):DLv w0 Z w1 p q b m c ws l T:=⟨h.lv.keep (dk_stands ..) hs hO,h.full,h.ok⟩
theorem string_dlv {w0 w:World} {Z:Nat->Prop} {p q b m:Nat} {c:Nat->Nat} {ws:Nat->Int} {l:List UInt8} {T:Twn} (h:DLv w0 Z w p q b m c ws l T):
 Calls Tryz.prog 16 #[.pointer (some ⟨p,0,none⟩)] w fun e w'=>e=.returned (.string (bs l))∧p<w'.heap.size∧Calls Tryz.prog 17 #[.pointer (some ⟨p,0,none⟩)] w' fun e w2=>e=.returned (.tuple #[])∧DLv w0 Z w2 p q b m c ws [] T∧Save (fun k=>¬Z k) w w2:=by
 obtain ⟨O,h1,h2⟩:=h.bld
 refine (bstring_any h1).mono ?_
 rintro e w1 ⟨rfl,k1,k2⟩
 refine ⟨rfl,k1.own p k1.mine,(breset_any k1).mono ?_⟩
 rintro e w2 ⟨rfl,k3,k4⟩
 exact ⟨rfl,h2 w2 [] ⟨O,k3,k2.trans k4 (fun _ _ hj=>hj),.refl _ _⟩⟩
theorem do_bad {w0 w:World} {Z:Nat->Prop} {p q b m:Nat} {c:Nat->Nat} {ws:Nat->Int} {l:List UInt8} {T:Twn} (xs:List ByteArray) {la:Option Addr} {lc:Nat} (h:DLv w0 Z w p q b m c ws l T) (hx:StrsAt w la xs) (hl:xs.length<1000) (hc:(chkL xs).1 ≠ 0):
 Calls Tryz.prog 9 #[.pointer (some ⟨p,0,none⟩),.slice la xs.length lc] w fun e w'=>e=.returned (.tuple #[.string ⟨#[]⟩,.agg #[.int .i64 (chkL xs).1,.int .i64 (chkL xs).2]])∧DLv w0 Z w' p q b m c ws l T∧Save (fun k=>¬Z k) w w':=by
 have HC:Hid (∀W:World,Below w.heap.size w W->Calls Tryz.prog 14 #[.slice la xs.length lc] W fun e w'=>e=.returned (.agg #[.int .i64 (chkL xs).1,.int .i64 (chkL xs).2])∧Below W.heap.size W w'):=fun W hW=>dcheck_any xs la lc W (hx.below hW) hl
 have HD:=hid h
 obtain ⟨ll,hll⟩:∃ll,xs.length=ll:=⟨_,rfl⟩
 rw [hll] at HC ⊢
 generalize (chkL xs).1=co at *
 generalize (chkL xs).2=ca at *
 have hc':(co != 0)=true:=by simpa using hc
 clear h hx hl hll hc
 go_enter Tryz.func9,Tryz.ntmps9
 go_upto_region 3 with (go_at_call 14;refine Calls.mono (HC.out _ (by go_grown)) ?_;rintro e w1 ⟨rfl,hb1⟩;have hB1:Hid (Below w.heap.size w w1):=after (by go_grown) hb1 (by simp);have k0:w1.cell? ⟨w.heap.size,0,none⟩=some (.int .i64 0):=((bcell hb1).1 _ _ (by simp)).trans (by simp [go_sem]);have k1:w1.cell? ⟨w.heap.size,1,none⟩=some (.int .i64 0):=((bcell hb1).1 _ _ (by simp)).trans (by simp [go_sem]);have f0:∀k,w1.frozen? ⟨w.heap.size,k,none⟩=false:=loose w.heap.size hb1 (by simp) (by simp [go_sem]);have hz1:w.heap.size<w1.heap.size:=(by have:=hb1.size;simp at this;omega);clear hb1)
 go_region
 all_goals
  go_wp2_with fail
  obtain ⟨z0,z1⟩:=set2 (u:=.int .i64 co) (v:=.int .i64 ca) k0 k1
  have HB:Hid (Below w.heap.size w (((w1.setCell ⟨w.heap.size,0,none⟩ (.int .i64 co)).setCell ⟨w.heap.size,1,none⟩ (.int .i64 ca)).alloc (.cells #[.int .i64 co,.int .i64 ca] 31)).drew):=((below2 hB1.out (Nat.le_refl _)).alloc (by simp;omega) _).drew
  (try simp only [Exit.inBlock,Exit.then])
  exact bodyPost_ret (v:=.tuple #[.string ⟨#[]⟩,.agg #[.int .i64 co,.int .i64 ca]]) (by simp [results,Tryz.results9,go_sem,z0,z1,hz1]) rfl ⟨rfl,HD.out.next HB.out,Save.of_below HB.out⟩
theorem do_good {w0 w:World} {Z:Nat->Prop} {p q b m:Nat} {c:Nat->Nat} {ws:Nat->Int} {T:Twn} (xs:List ByteArray) {la:Option Addr} {lc:Nat} (ht:Tied w0) (h:DLv w0 Z w p q b m c ws [] T) (hx:StrsAt w la xs) (hz:xs ≠ []->∀a,la=some a->Z a.block∨a.block<w0.heap.size) (hs:∀x∈xs,x.size<=4294967296) (hl:xs.length<1000) (hc:(chkL xs).1=0):
 Calls Tryz.prog 9 #[.pointer (some ⟨p,0,none⟩),.slice la xs.length lc] w fun e w'=>e=.returned (.tuple #[.string (bs (linesR ws T (xs.map (·.data.toList))).1),.agg #[.int .i64 0,.int .i64 0]])∧DLv w0 Z w' p q b m c ws [] (linesR ws T (xs.map (·.data.toList))).2∧Save (fun k=>¬Z k) w w':=by
 have HC:Hid (∀W:World,Below w.heap.size w W->Calls Tryz.prog 14 #[.slice la xs.length lc] W fun e w'=>e=.returned (.agg #[.int .i64 (chkL xs).1,.int .i64 (chkL xs).2])∧Below W.heap.size W w'):=fun W hW=>dcheck_any xs la lc W (hx.below hW) hl
 have H150:Hid (xs.length<=150):=by
  unfold chkL at hc
  split at hc
  ·simp at hc
  ·exact hid (by omega)
 have HD:=hid h
 have HT:=hid ht
 have HX:=hid hx
 have HZ:=hid hz
 have HS:=hid hs
 obtain ⟨ll,hll⟩:∃ll,xs.length=ll:=⟨_,rfl⟩
 rw [hll] at HC hl ⊢
 rw [hc] at HC
 generalize (chkL xs).2=ca at *
 clear h hx hc ht hz hs
 go_enter Tryz.func9,Tryz.ntmps9
 go_wp2_with (go_at_call 14;refine Calls.mono (HC.out _ (by go_grown)) ?_;rintro e w1 ⟨rfl,hb1⟩;have hB1:Hid (Below w.heap.size w w1):=after (by go_grown) hb1 (by simp);have k0:w1.cell? ⟨w.heap.size,0,none⟩=some (.int .i64 0):=((bcell hb1).1 _ _ (by simp)).trans (by simp [go_sem]);have k1:w1.cell? ⟨w.heap.size,1,none⟩=some (.int .i64 0):=((bcell hb1).1 _ _ (by simp)).trans (by simp [go_sem]);have f0:∀k,w1.frozen? ⟨w.heap.size,k,none⟩=false:=loose w.heap.size hb1 (by simp) (by simp [go_sem]);have hz1:w.heap.size<w1.heap.size:=(by have:=hb1.size;simp at this;omega);clear hb1)
 obtain ⟨W2,hW2⟩:∃W2,W2=w1.alloc (.cells #[.int .i64 0,.int .i64 ca] 31):=⟨_,rfl⟩
 rw [<-hW2]
 have hb2:Below w1.heap.size w1 W2:=by rw [hW2];go_grown
 have hB2:Below w.heap.size w W2:=after hB1.out hb2 hB1.out.size
 have x0:=((bcell hb2).1 _ 0 hz1).trans k0
 have x1:=((bcell hb2).1 _ 1 hz1).trans k1
 have x2:=loose w.heap.size hb2 hz1 f0
 have hz2:w.heap.size<W2.heap.size:=Nat.lt_of_lt_of_le hz1 hb2.size
 have HD2:Hid (DLv w0 (fun k=>Z k∨k=w.heap.size) W2 p q b m c ws [] T):=HD.out.more hB2 (fun k hk=>hk.elim .inl (fun e=>.inr ⟨by omega,by omega⟩))
 have HB2:=hid hB2
 have HCell:Hid (∀k x,xs[k]?=some x->∃bl ol,la=some ⟨bl,ol,none⟩∧∀(wr:World) l' T',DLv w0 (fun k=>Z k∨k=w.heap.size) wr p q b m c ws l' T'->Save (fun k=>¬(Z k∨k=w.heap.size)) W2 wr->wr.cell? ⟨bl,ol+k,none⟩=some (.string x)):=fun k x hk=>by
  obtain ⟨bl,ol,e,hbl,hc⟩:=HX.out k x hk
  refine ⟨bl,ol,e,fun wr l' T' hd hs=>?_⟩
  rcases HZ.out (fun e=>by rw [e] at hk;simp at hk) _ e with q1 | q1
  ·exact (hs.cell (p:=⟨bl,ol+k,none⟩) (Nat.lt_of_lt_of_le hbl hB2.size) (fun hn=>hn (.inl q1))).trans (((bcell hB2).1 _ _ hbl).trans hc)
  ·exact (hd.below.cell (p:=⟨bl,ol+k,none⟩) q1).trans ((HD.out.below.cell (p:=⟨bl,ol+k,none⟩) q1).symm.trans hc)
 have HRes:Hid (∀wr:World,Save (fun k=>¬(Z k∨k=w.heap.size)) W2 wr->wr.cell? ⟨w.heap.size,0,none⟩=some (.int .i64 0)∧wr.cell? ⟨w.heap.size,1,none⟩=some (.int .i64 0)∧(∀k,wr.frozen? ⟨w.heap.size,k,none⟩=false)∧w.heap.size<wr.heap.size):=fun wr hs=>⟨(hs.cell (p:=⟨w.heap.size,0,none⟩) hz2 (fun hn=>hn (.inr rfl))).trans x0,(hs.cell (p:=⟨w.heap.size,1,none⟩) hz2 (fun hn=>hn (.inr rfl))).trans x1,fun k=>(hs.frozen (p:=⟨w.heap.size,k,none⟩) hz2 (fun hn=>hn (.inr rfl))).trans (x2 k),Nat.lt_of_lt_of_le hz2 hs.size⟩
 have HFin:Hid (∀(w5:World) (T':Twn),DLv w0 (fun k=>Z k∨k=w.heap.size) w5 p q b m c ws [] T'->Save (fun k=>¬(Z k∨k=w.heap.size)) W2 w5->DLv w0 Z ((w5.setCell ⟨w.heap.size,0,none⟩ (.int .i64 0)).setCell ⟨w.heap.size,1,none⟩ (.int .i64 0)) p q b m c ws [] T'∧Save (fun k=>¬Z k) w ((w5.setCell ⟨w.heap.size,0,none⟩ (.int .i64 0)).setCell ⟨w.heap.size,1,none⟩ (.int .i64 0))):=fun w5 T' hd hs=>by
  have hS:Save (fun k=>k=w.heap.size) w5 ((w5.setCell ⟨w.heap.size,0,none⟩ (.int .i64 0)).setCell ⟨w.heap.size,1,none⟩ (.int .i64 0)):=Save.setCell (O:=fun k=>k=w.heap.size) (Save.setCell (O:=fun k=>k=w.heap.size) (Save.refl _ w5) (p:=⟨w.heap.size,0,none⟩) (fun _=>rfl) _) (p:=⟨w.heap.size,1,none⟩) (fun _=>rfl) _
  refine ⟨(hd.keep hS (fun k hk=>⟨.inr hk,by rw [hk];exact HD.out.below.size⟩)).less (fun _ hk=>.inl hk),(save_z hB2 hs).trans hS (fun k hk e=>?_)⟩
  omega
 clear hW2 hb2 hB2 x0 x1 x2 k0 k1 f0 hz1 hB1 HC HX HZ HD
 go_loopg [18] ll (fun g i wr=>∃k:Nat,k<=ll∧g=ll - k∧i=.int .i64 k∧DLv w0 (fun k=>Z k∨k=w.heap.size) wr p q b m c ws (linesR ws T ((xs.take k).map (·.data.toList))).1 (linesR ws T ((xs.take k).map (·.data.toList))).2∧Save (fun k=>¬(Z k∨k=w.heap.size)) W2 wr)
 case atStart=>exact ⟨0,by omega,rfl,rfl,HD2.out,Save.refl _ _⟩
 case round=>
  obtain ⟨k,hk,rfl,rfl,hD,hV⟩:=hrel
  have HD3:=hid hD
  have HV3:=hid hV
  have hp3:=hD.cells.2.1
  clear hD hV
  by_cases hlt:k<ll
  ·obtain ⟨x,hkx⟩:∃x,xs[k]?=some x:=⟨_,List.getElem?_eq_getElem (by omega)⟩
   obtain ⟨bl,ol,rfl,hcl⟩:=HCell.out k x hkx
   have y0:=hcl wr _ _ HD3.out HV3.out
   have HE:Hid (linesR ws T ((xs.take (k+1)).map (·.data.toList))=((linesR ws T ((xs.take k).map (·.data.toList))).1++(lineR ws (linesR ws T ((xs.take k).map (·.data.toList))).2 x.data.toList).1,(lineR ws (linesR ws T ((xs.take k).map (·.data.toList))).2 x.data.toList).2)):=by
    have e1:xs.take (k+1)=xs.take k++[x]:=by rw [List.take_add_one,hkx];rfl
    rw [e1,List.map_append]
    exact lines_snoc ws _ _ T
   have HRm:Room ((linesR ws T ((xs.take k).map (·.data.toList))).1.length+5000):=by
    have e1:=lines_short ((xs.take k).map (·.data.toList)) HD2.out.full
    have e2:=H150.out
    rw [List.length_map,List.length_take] at e1
    have e3:min k xs.length<=150:=by omega
    unfold Room
    omega
   have HC:=hear_dlv x (HS.out x (List.mem_of_getElem? hkx)) HT.out HD3.out HRm
   have j0:(0:Int)<=(k:Int):=by omega
   have j1:(k:Int)<(ll:Int):=by omega
   have j2:(ll:Int)<2 ^ 62:=by omega
   clear hcl hkx HRm
   go_wp2_with (go_at_call 15;refine Calls.mono HC ?_;rintro e w6 ⟨rfl,q1,q2⟩;have HK6:=hid (And.intro q1 (HV3.out.trans q2 (fun _ _ hj=>hj)));clear q1 q2)
   go_roundg (ll - (k+1))
   case measure=>omega
   case rel=>exact ⟨k+1,by omega,rfl,by simp,by rw [HE.out];exact HK6.out.1,HK6.out.2⟩
  ·obtain rfl:k=ll:=by omega
   have j1:¬(k:Int)<(k:Int):=by omega
   have HSt:=string_dlv HD3.out
   rw [List.take_of_length_le (by omega)] at HSt
   go_wp2_with (first | (go_at_call 16;refine Calls.mono HSt ?_;rintro e w4 ⟨rfl,hp4,hrs⟩;have HRs:=hid hrs;clear hrs) | (go_at_call 17;refine Calls.mono HRs.out ?_;rintro e w5 ⟨rfl,q1,q2⟩;have HK5:=hid (And.intro q1 (HV3.out.trans q2 (fun _ _ hj=>hj)));obtain ⟨r0,r1,rf,hz5⟩:=HRes.out _ HK5.out.2;clear q1 q2))
   obtain ⟨z0,z1⟩:=set2 (u:=.int .i64 0) (v:=.int .i64 0) r0 r1
   (try simp only [Exit.inBlock,Exit.then])
   exact bodyPost_ret (v:=.tuple #[.string (bs (linesR ws T (xs.map (·.data.toList))).1),.agg #[.int .i64 0,.int .i64 0]]) (by simp [results,Tryz.results9,go_sem,z0,z1]) rfl ⟨rfl,HFin.out _ _ HK5.out.1 HK5.out.2⟩
theorem Pr.new2 {A B:(Nat->Prop)->World->Prop} (hA:Stands A) (hB:Stands B) {w0 w w1:World} {O:Nat->Prop} (h:Lv B w0 (fun k=>k∈([]:List Nat)) w) (hb:Below w.heap.size w w1) (h1:A O w1) (hO:∀k,O k->w.heap.size<=k):Lv (Pr A B) w0 (fun k=>k∈([]:List Nat)) w1:=by
 obtain ⟨Q,b1,b2⟩:=h.inn
 have x:∀k,O k->Q k->False:=fun k o q=>by have:=hB.own b1 k q;have:=hO k o;omega
 refine ⟨⟨fun k=>O k∨Q k,⟨fun k hk=>hk.elim (hA.own h1 k) (fun q=>Nat.lt_of_lt_of_le (hB.own b1 k q) hb.size),fun i=>if i=0 then O else Q,fun i hi=>?_,fun i hi k hk=>?_,fun i j hi hj hij k hk hk'=>?_⟩,fun k hk=>hk.elim (fun q=>⟨Nat.le_trans h.below.size (hO k q),by simp⟩) (b2 k)⟩,after h.below hb h.below.size,fun k hk=>by simp at hk⟩
 ·match i,hi with
  | 0,_=>exact h1
  | 1,_=>exact hB.next b1 hb
 ·match i,hi,hk with
  | 0,_,hk=>exact .inl hk
  | 1,_,hk=>exact .inr hk
 ·match i,hi,j,hj,hij,hk,hk' with
  | 0,_,1,_,_,hk,hk'=>exact x k hk hk'
  | 1,_,0,_,_,hk,hk'=>exact x k hk' hk
  | 0,_,0,_,hij,_,_=>exact hij rfl
  | 1,_,1,_,hij,_,_=>exact hij rfl
def w50:Nat->Int:=fun _=>50
theorem ok50:OkT w50:=fun s hs=>by
 match s,hs with
 | 0,_=>decide
 | 1,_=>decide
 | 2,_=>decide
theorem dfull_new:DFull w50 (T00 w50):=⟨full_new ok50,fun m hm=>by simp [T00] at hm⟩
structure NSt (B:Nat) (w:World) (k:Nat) (wr:World):Prop where
 row:∀j:Nat,j<6->wr.cell? ⟨B,j,none⟩=some (.int .i64 (if j<k then 50 else 0))
 f0:∀k,wr.frozen? ⟨B,k,none⟩=false
 below:Below B w wr
 lt:B<wr.heap.size
theorem NSt.set {B:Nat} {w wr:World} {k:Nat} (h:NSt B w k wr):NSt B w (k+1) (wr.setCell ⟨B,k,none⟩ (.int .i64 50)):=by
 refine ⟨?_,by simpa [go_sem] using h.f0,h.below.setCell (by simp) _,by simpa using h.lt⟩
 intro j hj
 by_cases e:j=k
 ·subst e
  rw [World.cell?_setCell_same _ _ _ (h.row j hj),if_pos (by omega)]
 ·rw [World.cell?_setCell_other _ _ _ _ (by intro e';simp only [Addr.mk.injEq] at e';omega),h.row j hj]
  by_cases q:j<k
  ·rw [if_pos q,if_pos (by omega)]
  ·rw [if_neg q,if_neg (by omega)]
theorem new_dlv (w:World):Calls Tryz.prog 7 #[] w fun e w'=>∃p q b m c,e=.returned (.pointer (some ⟨p,0,none⟩))∧DLv w (fun k=>k∈([]:List Nat)) w' p q b m c w50 [] (T00 w50):=by
 go_enter Tryz.func7,Tryz.ntmps7
 go_wp2_with fail
 go_loopg [3] 6 (fun g i wr=>∃k:Nat,k<=6∧g=6 - k∧i=.int .i64 k∧NSt w.heap.size w k wr)
 case atStart=>
  refine ⟨0,by omega,rfl,rfl,fun j hj=>?_,by simp [go_sem],by go_grown,by simp⟩
  have:j=0∨j=1∨j=2∨j=3∨j=4∨j=5:=by omega
  rcases this with rfl | rfl | rfl | rfl | rfl | rfl <;> simp [go_sem]
 case round=>
  obtain ⟨k,hk,rfl,rfl,hN⟩:=hrel
  have HN:=hid hN
  by_cases hlt:k<6
  ·have r0:=hN.row k hlt
   have f0:=hN.f0 k
   have j0:(0:Int)<=(k:Int):=by omega
   have j1:(k:Int)<6:=by omega
   clear hN
   go_wp2_with fail
   go_roundg (6 - (k+1))
   case measure=>omega
   case rel=>exact ⟨k+1,by omega,rfl,by simp,HN.out.set⟩
  ·obtain rfl:k=6:=by omega
   have r0:wr.cell? ⟨w.heap.size,0,none⟩=some (.int .i64 50):=hN.row 0 (by omega)
   have r1:wr.cell? ⟨w.heap.size,1,none⟩=some (.int .i64 50):=hN.row 1 (by omega)
   have r2:wr.cell? ⟨w.heap.size,2,none⟩=some (.int .i64 50):=hN.row 2 (by omega)
   have r3:wr.cell? ⟨w.heap.size,3,none⟩=some (.int .i64 50):=hN.row 3 (by omega)
   have r4:wr.cell? ⟨w.heap.size,4,none⟩=some (.int .i64 50):=hN.row 4 (by omega)
   have r5:wr.cell? ⟨w.heap.size,5,none⟩=some (.int .i64 50):=hN.row 5 (by omega)
   have HC:Calls Tryz.prog 12 #[.agg #[.int .i64 50,.int .i64 50,.int .i64 50,.int .i64 50,.int .i64 50,.int .i64 50]] wr fun e w'=>∃p b m c,e=.returned (.pointer (some ⟨p,0,none⟩))∧TLv wr (fun k=>k∈([]:List Nat)) w' p b m c w50 (T00 w50):=new_tlv ok50 wr
   clear hN
   go_wp2_with (go_at_call 12;refine Calls.mono HC ?_;rintro e w1 ⟨q,b,m,c,rfl,hT⟩;have HT:=hid hT;clear hT)
   go_ret
   have hb2:Below w1.heap.size w1 (w1.alloc (dkO q (.pointer none) (.slice none 0 0))):=by go_grown
   have hA:BldIn w1.heap.size q [] (fun k=>k=w1.heap.size) (w1.alloc (dkO q (.pointer none) (.slice none 0 0))):=⟨fun k hk=>by subst hk;simp,rfl,_,_,heap_alloc_new w1 _,.inl rfl,World.ownsRow_nil _ _ _ _,fun k hk=>by simp [Value.ownBlock] at hk,fun _=>rfl⟩
   refine ⟨w1.heap.size,q,b,m,c,rfl,⟨?_,dfull_new,ok50⟩⟩
   exact Pr.new2 (bld_stands _ _ _) (tn_stands ..) (Lv.since HN.out.below HT.out.lv) hb2 hA (fun k hk=>by subst hk;exact Nat.le_refl _)
def begL:List (List UInt8):=[[98,101,103,105,110,32,48,32,45,50,48,32,51,32,50,48],[116,105,99,107],[109,97,105,108],[100,101,108,105,118,101,114,32,48],[104,111,108,100,115,32,48],[99,97,108,109],[115,116,97,116,101,32,48],[100,111,110,101],[119,111,114,108,100],[115,101,114,105,97,108],[120]]
def begS:List UInt8:=[111,107,10,111,107,10,97,115,107,32,48,32,48,32,48,32,45,50,48,10,97,115,107,32,48,32,49,32,51,32,50,48,10,101,110,100,10,111,107,10,99,111,117,110,116,32,53,48,32,50,48,32,48,10,99,111,117,110,116,32,53,48,32,48,32,48,10,104,111,108,100,32,48,32,48,32,45,50,48,10,101,110,100,10,99,97,108,109,32,49,10,115,116,97,116,101,32,49,10,100,111,110,101,32,48,10,119,111,114,108,100,32,51,48,32,53,48,32,53,48,32,55,48,32,53,48,32,53,48,10,119,111,114,108,100,32,51,48,32,53,48,32,53,48,32,55,48,32,53,48,32,53,48,10,119,104,97,116,10]
theorem beg_told:(linesR w50 (T00 w50) begL).1=begS:=by kernel_rfl
theorem beg_chk:chkL (begL.map bs)=(0,0):=by kernel_rfl
def deskR (ws:Nat->Int) (T:Twn) (xs:List ByteArray):List UInt8 × (Int × Int) × Twn:=if (chkL xs).1=0 then ((linesR ws T (xs.map (·.data.toList))).1,(0,0),(linesR ws T (xs.map (·.data.toList))).2) else ([],chkL xs,T)
theorem deskR_full {ws:Nat->Int} {T:Twn} (h:DFull ws T) (xs:List ByteArray):DFull ws (deskR ws T xs).2.2:=by
 unfold deskR
 split
 ·exact DFull.lines _ h
 ·exact h
theorem do_any {w0 w:World} {Z:Nat->Prop} {p q b m:Nat} {c:Nat->Nat} {ws:Nat->Int} {T:Twn} (xs:List ByteArray) {la:Option Addr} {lc:Nat} (ht:Tied w0) (h:DLv w0 Z w p q b m c ws [] T) (hx:StrsAt w la xs) (hz:xs ≠ []->∀a,la=some a->Z a.block∨a.block<w0.heap.size) (hs:∀x∈xs,x.size<=4294967296) (hl:xs.length<1000):
 Calls Tryz.prog 9 #[.pointer (some ⟨p,0,none⟩),.slice la xs.length lc] w fun e w'=>e=.returned (.tuple #[.string (bs (deskR ws T xs).1),.agg #[.int .i64 (deskR ws T xs).2.1.1,.int .i64 (deskR ws T xs).2.1.2]])∧DLv w0 Z w' p q b m c ws [] (deskR ws T xs).2.2∧Save (fun k=>¬Z k) w w':=by
 unfold deskR
 by_cases hc:(chkL xs).1=0
 ·rw [if_pos hc]
  exact do_good xs ht h hx hz hs hl hc
 ·rw [if_neg hc]
  exact do_bad xs h hx hl hc
theorem strs_row {w:World} {g:Nat} {xs:List ByteArray} (h:g<w.heap.size) (hc:∀k x,xs[k]?=some x->w.cell? ⟨g,k,none⟩=some (.string x)):StrsAt w (some ⟨g,0,none⟩) xs:=fun k x hk=>⟨g,0,rfl,h,by rw [Nat.zero_add];exact hc k x hk⟩
def begV:Array Value:=#[.string ⟨#[98,101,103,105,110,32,48,32,45,50,48,32,51,32,50,48]⟩,.string ⟨#[116,105,99,107]⟩,.string ⟨#[109,97,105,108]⟩,.string ⟨#[100,101,108,105,118,101,114,32,48]⟩,.string ⟨#[104,111,108,100,115,32,48]⟩,.string ⟨#[99,97,108,109]⟩,.string ⟨#[115,116,97,116,101,32,48]⟩,.string ⟨#[100,111,110,101]⟩,.string ⟨#[119,111,114,108,100]⟩,.string ⟨#[115,101,114,105,97,108]⟩,.string ⟨#[120]⟩]
theorem begV_at (k:Nat) (x:ByteArray) (hk:(begL.map bs)[k]?=some x):begV[k]?=some (.string x):=by
 have e:begV=((begL.map bs).map Value.string).toArray:=rfl
 rw [e,List.getElem?_toArray,List.getElem?_map,hk]
 rfl
theorem deskBegun_any (w:World) (ht:Tied w):Calls Tryz.prog 5 #[] w fun e w'=>e=.returned (.bool true)∧Below w.heap.size w w':=by
 have HT:=hid ht
 have HN:=new_dlv w
 have HDo:Hid (∀(w1:World) (p q b m:Nat) (c:Nat->Nat),DLv w (fun k=>k∈([]:List Nat)) w1 p q b m c w50 [] (T00 w50)->Calls Tryz.prog 9 #[.pointer (some ⟨p,0,none⟩),.slice (some ⟨w1.heap.size,0,none⟩) 11 11] (w1.alloc (.cells begV 9)) fun e w'=>e=.returned (.tuple #[.string (bs begS),.agg #[.int .i64 0,.int .i64 0]])∧Below w.heap.size w w'):=fun w1 p q b m c h=>by
  have hb:Below w1.heap.size w1 (w1.alloc (.cells begV 9)):=by go_grown
  have h2:DLv w (fun k=>k∈[w1.heap.size]) (w1.alloc (.cells begV 9)) p q b m c w50 [] (T00 w50):=h.more hb (fun k hk=>.inr (by rw [List.mem_singleton.1 hk];simp))
  have h3:=do_good (begL.map bs) (la:=some ⟨w1.heap.size,0,none⟩) (lc:=11) HT.out h2 (strs_row (by simp) (fun k x hk=>by
   have e0:=heap_alloc_new w1 (.cells begV 9)
   have e2:=begV_at k x hk
   simp only [World.cell?,e0]
   simpa using e2)) (fun _ a ha=>by cases ha;exact .inl (by simp)) (by decide) (by decide) (by rw [beg_chk])
  have e1:(begL.map bs).map (·.data.toList)=begL:=by rw [List.map_map];simp [Function.comp_def,bs_data]
  rw [e1,beg_told] at h3
  refine h3.mono ?_
  rintro e w' ⟨rfl,k1,k2⟩
  exact ⟨rfl,k1.below⟩
 clear ht HT
 go_enter Tryz.func5,Tryz.ntmps5
 go_wp2_with (first | (go_at_call 7;refine Calls.mono HN ?_;rintro e w1 ⟨p,q,b,m,c,rfl,hD⟩;have HC:=HDo.out w1 p q b m c hD;have hp:=hD.cells.2.1;clear hD) | (go_at_call 9;refine Calls.mono HC ?_;rintro e w2 ⟨rfl,hb2⟩;have HB2:=hid hb2;clear hb2))
 go_ret
 refine ⟨?_,HB2.out.alloc HB2.out.size _⟩
 have e1:(bs begS).toList=begS:=by rw [ByteArray.toList_eq,bs_data]
 rw [e1]
 rfl
def sumL:List ByteArray->Nat
 | []=>0
 | x :: r=>x.size+sumL r
theorem sumL_append (a b:List ByteArray):sumL (a++b)=sumL a+sumL b:=by
 induction a with
 | nil=>simp [sumL]
 | cons x r ih=>simp only [List.cons_append,sumL,ih];omega
theorem sumL_mem {x:ByteArray} {l:List ByteArray} (h:x∈l):x.size<=sumL l:=by
 induction l with
 | nil=>simp at h
 | cons y r ih=>
   simp only [sumL]
   rcases List.mem_cons.1 h with e | e
   ·rw [e];omega
   ·have:=ih e;omega
def Few (n:Nat):Prop:=n<=9000
def SlowIs (n:Nat) (e:Ending):Prop:=∃o,e=.returned (.bool o)∧(o=false->Few n)
theorem slow_any (xs:List ByteArray) (la:Option Addr) (lc:Nat) (w:World) (hx:StrsAt w la xs) (hl:xs.length<1000) (hs:∀x∈xs,x.size<=140737488355328):Calls Tryz.prog 6 #[.slice la xs.length lc] w fun e w'=>SlowIs (sumL xs) e∧w'=w:=by
 have HX:=hid hx
 have HS:=hid hs
 obtain ⟨ll,hll⟩:∃ll,xs.length=ll:=⟨_,rfl⟩
 rw [hll] at hl ⊢
 clear hx hs
 go_enter Tryz.func6,Tryz.ntmps6
 go_wp2_with fail
 go_loopg [3,4] ll (fun g n i wr=>∃k t:Nat,k<=ll∧g=ll - k∧i=.int .i64 k∧n=.int .i64 t∧Hid (t=sumL (xs.take k)∧Few t)∧wr=w)
 case atStart=>exact ⟨0,0,by omega,rfl,rfl,rfl,hid ⟨rfl,by unfold Few;omega⟩,rfl⟩
 case round=>
  obtain ⟨k,t,hk,rfl,rfl,rfl,HTt,rfl⟩:=hrel
  by_cases hlt:k<ll
  ·obtain ⟨x,hkx⟩:∃x,xs[k]?=some x:=⟨_,List.getElem?_eq_getElem (by omega)⟩
   obtain ⟨bl,ol,rfl,hbl,y0⟩:=HX.out k x hkx
   have hmx:=HS.out x (List.mem_of_getElem? hkx)
   have j0:(0:Int)<=(k:Int):=by omega
   have j1:(k:Int)<(ll:Int):=by omega
   have j2:(ll:Int)<2 ^ 62:=by omega
   have hw1:IntKind.i64.wrap ((t:Int)+(x.size:Int))=((t+x.size:Nat):Int):=by
    have e1:=HTt.out.2
    unfold Few at e1
    rw [show ((t:Int)+(x.size:Int))=((t+x.size:Nat):Int) by omega]
    rw [IntKind.wrap_i64]
    omega
   have HN:Hid (t+x.size=sumL (xs.take (k+1))):=by
    have e1:xs.take (k+1)=xs.take k++[x]:=by rw [List.take_add_one,hkx];rfl
    rw [e1,sumL_append,<-HTt.out.1]
    exact hid (by simp [sumL])
   clear hmx hkx
   generalize t+x.size=t' at *
   by_cases hf:9000<t'
   ·have j3:(9000:Int)<(t':Int):=by omega
    clear hf
    go_wp2_with fail
    go_ret
    exact ⟨⟨true,rfl,fun e=>by cases e⟩,rfl⟩
   ·have j3:¬(9000:Int)<(t':Int):=by omega
    have HF:Hid (Few t'):=by unfold Few;exact hid (by omega)
    clear hf
    go_wp2_with fail
    go_roundg (ll - (k+1))
    case measure=>omega
    case rel=>exact ⟨k+1,t',by omega,rfl,by simp,rfl,hid ⟨HN.out,HF.out⟩,rfl⟩
  ·obtain rfl:k=ll:=by omega
   have j1:¬(k:Int)<(k:Int):=by omega
   go_wp2_with fail
   go_ret
   refine ⟨⟨false,rfl,fun _=>?_⟩,rfl⟩
   have e1:=HTt.out
   rw [List.take_of_length_le (by omega)] at e1
   rw [<-e1.1]
   exact e1.2
structure Dc where
 p:Nat
 q:Nat
 b:Nat
 m:Nat
 c:Nat->Nat
def DkT (K:Dc) (T:Twn):(Nat->Prop)->World->Prop:=DkIn K.p K.q K.b K.m K.c w50 [] T
theorem dkt_stands (K:Dc) (T:Twn):Stands (DkT K T):=dk_stands ..
theorem do_to {O:Nat->Prop} {w0 w:World} {K:Dc} {T:Twn} (xs:List ByteArray) {la:Option Addr} {lc:Nat} (ht:Tied w0) (h:DkT K T O w) (hO:∀k,O k->w0.heap.size<=k) (hb:Below w0.heap.size w0 w) (hF:DFull w50 T) (hx:StrsAt w la xs) (hz:xs ≠ []->∀a,la=some a->a.block<w0.heap.size) (hs:∀x∈xs,x.size<=4294967296) (hl:xs.length<1000):
 Calls Tryz.prog 9 #[.pointer (some ⟨K.p,0,none⟩),.slice la xs.length lc] w fun e w'=>e=.returned (.tuple #[.string (bs (deskR w50 T xs).1),.agg #[.int .i64 (deskR w50 T xs).2.1.1,.int .i64 (deskR w50 T xs).2.1.2]])∧To (DkT K (deskR w50 T xs).2.2) O w w':=by
 have hD:DLv w0 (fun k=>k<w.heap.size∧¬O k) w K.p K.q K.b K.m K.c w50 [] T:=⟨⟨⟨O,h,fun k hk=>⟨hO k hk,fun q=>q.2 hk⟩⟩,hb,fun k hk=>hk.1⟩,hF,ok50⟩
 refine (do_any xs ht hD hx (fun hn a ha=>.inr (hz hn a ha)) hs hl).mono ?_
 rintro e w' ⟨rfl,k1,k2⟩
 obtain ⟨O',a1,a2⟩:=k1.lv.inn
 refine ⟨rfl,O',a1,k2.mono (fun j hj hn=>?_),fun k hk=>?_⟩
 ·exact Classical.byContradiction (fun q=>hn ⟨hj,q⟩)
 ·have:=(a2 k hk).2
  by_cases q:k<w.heap.size
  ·exact .inl (Classical.byContradiction (fun o=>this ⟨q,o⟩))
  ·exact .inr (by omega)
theorem new_one (w:World):Calls Tryz.prog 7 #[] w fun e w'=>∃K:Dc,e=.returned (.pointer (some ⟨K.p,0,none⟩))∧Lv (DkT K (T00 w50)) w (fun k=>k∈([]:List Nat)) w'∧K.p<w'.heap.size∧Below w.heap.size w w':=by
 refine (new_dlv w).mono ?_
 rintro e w' ⟨p,q,b,m,c,rfl,h⟩
 exact ⟨⟨p,q,b,m,c⟩,rfl,h.lv,h.cells.2.1,h.below⟩
theorem StrsAt.lt {w:World} {la:Option Addr} {xs:List ByteArray} (h:StrsAt w la xs):xs ≠ []->∀a,la=some a->a.block<w.heap.size:=fun hn a ha=>by
 cases xs with
 | nil=>exact absurd rfl hn
 | cons x r=>
   obtain ⟨b',o',e,hb,_⟩:=h 0 x rfl
   rw [e] at ha
   cases ha
   exact hb
theorem desk_code (T:Twn) (xs:List ByteArray):(deskR w50 T xs).2.1=chkL xs∨((deskR w50 T xs).2.1=(0,0)∧(chkL xs).1=0):=by
 unfold deskR
 split
 ·rename_i q
  exact .inr ⟨rfl,q⟩
 ·exact .inl rfl
open Go.ChangeShapes Go.WideShapes Go.ChangeAt Go.RowKit Go.Deep
theorem Tryz.cellsStr:Tryz.prog.cellsOf 9=1:=by kernel_rfl
theorem open_lines {H:Type} {enc:TypeId × Value->H} {W:World} {held:Bool} {a:Option Addr} {l c:Nat} {d:DataW H} {ps:List MemPlace} (hd:DataW.Trod enc Tryz.prog W 0 (fun _=>true) held 22 (.slice a l c) d ps):
 ∃xs:List ByteArray,StrsAt W a xs∧xs.length=l∧l<=c∧(a=none->c=0)∧(xs=[]∨∃sp,d=.slice (xs.map fun x=>.lit (.string x.data.toList)) sp):=by
 obtain ⟨fuel,hf⟩:=hd
 rcases open_strs Tryz.underlying22 Tryz.underlying9 Tryz.cellsStr hf with ⟨hcs,_⟩ | ⟨x,l',c',m,Sx,hcs,_,hl,hm,hmm,hx,hc⟩
 ·simp [Value.cells] at hcs
  obtain ⟨rfl,rfl,rfl⟩:=hcs
  exact ⟨[],fun k x h=>by simp at h,rfl,Nat.le_refl _,fun _=>rfl,.inl rfl⟩
 ·simp [Value.cells] at hcs
  obtain ⟨rfl,rfl,rfl⟩:=hcs
  simp only [if_true] at hmm
  subst hmm
  have e1:=congrArg Prod.fst hx
  simp only at e1
  refine ⟨(List.range l).map Sx,?_,by simp,hl,fun e=>by (cases e),.inr ⟨_,e1.trans (by rw [List.map_map];rfl)⟩⟩
  ·intro k y hk
   have hk':k<l:=by have:=(List.getElem?_eq_some_iff.1 hk).1;simpa using this
   have ey:Sx k=y:=by
    rw [List.getElem?_map,List.getElem?_range hk'] at hk
    simpa using hk
   have h1:=(hc k (by omega)).1
   obtain ⟨bb,off,spot⟩:=x
   have hspot:spot=none:=by simpa [Addr.add] using World.cell?_spot (hc 0 (by omega)).1
   subst hspot
   rw [add_plain] at h1
   exact ⟨bb,off,rfl,World.block_lt_of_cell? W _ h1,by rw [h1,ey]⟩
theorem lines_size {H:Type} {P:Program} {e:TypeId} (sp:List (DataW H)):∀(xs:List ByteArray) {x:ByteArray},x∈xs->x.size∈DataW.weightsAll P e ((xs.map fun x=>(DataW.lit (.string x.data.toList):DataW H)))
 | [],_,h=>by simp at h
 | y :: r,x,h=>by
   simp only [List.map_cons,DataW.weightsAll,List.mem_append,DataW.weights]
   rcases List.mem_cons.1 h with e | e
   ·left
    rw [e]
    exact List.mem_singleton.2 rfl
   ·exact .inr (lines_size sp r e)
theorem sized_lines {H:Type} {ts:List TypeId} {ds:List (DataW H)} (h:(DataW.weightsEach Tryz.prog ts ds).all (·<=reachBytes)=true) {j:Nat} {xs:List ByteArray} {d:DataW H} (ht:ts[j]?=some 22) (hd:ds[j]?=some d) (hx:xs=[]∨∃sp,d=.slice (xs.map fun x=>.lit (.string x.data.toList)) sp):∀x∈xs,x.size<=140737488355328:=by
 intro x hm
 rcases hx with e | ⟨sp,e⟩
 ·subst e
  simp at hm
 ·subst e
  have h1:=List.all_eq_true.1 h x.size (DataW.weights_mem_each ht hd x.size (by
   simp only [DataW.weights,Tryz.underlying22]
   exact List.mem_cons_of_mem _ (List.mem_append.2 (.inl (lines_size sp xs hm)))))
  have h2:x.size<=reachBytes:=by simpa using h1
  have:=reachBytes_lt
  omega
theorem Tryz.star: "*errors.errorString" = "*" ++ "errors.errorString" :=by decide
theorem Tryz.rowErr (u:TypeId) (h:Tryz.prog.typeName? 3 u=some "*errors.errorString"):u=219:=
 typeName_ptr_named (nm:= "errors.errorString") (by rw [<-Tryz.star];kernel_rfl) (by kernel_rfl) (by decide) u (by rw [<-Tryz.star];exact h)
theorem Tryz.cellsErr:Tryz.prog.cellsOf 221=1:=by kernel_rfl
theorem tied_of_laid {W:World} (h:laidMetH Tryz.prog Rows.deskJoinsRow.laid W):Tied W:=by
 rw [MakeChecks.laidMetH_plain _ _ _ (by kernel_rfl)] at h
 have h1:=h.tail.tail
 have h2:=h1.tail
 have h3:=h2.tail
 obtain ⟨g1,e1⟩:=gTab
 obtain ⟨g2,e2⟩:=gSyn
 obtain ⟨g3,e3⟩:=gRng
 obtain ⟨a,s,hv,_⟩:=laid_sentinel h2 e3 (by
  have:(Tryz.prog.globalNamed "strconv.ErrRange").bind (fun g=>(Tryz.prog.globals[g]?).map (·.type))=some 88:=by kernel_rfl
  rw [e3] at this
  exact this) Tryz.underlying88 Tryz.rowErr Tryz.underlying219 Tryz.underlying221 rfl rfl Tryz.underlying9 Tryz.cellsErr Tryz.cellsStr
 obtain ⟨a',s',hv',_⟩:=laid_sentinel h3 e2 (by
  have:(Tryz.prog.globalNamed "strconv.ErrSyntax").bind (fun g=>(Tryz.prog.globals[g]?).map (·.type))=some 88:=by kernel_rfl
  rw [e2] at this
  exact this) Tryz.underlying88 Tryz.rowErr Tryz.underlying219 Tryz.underlying221 rfl rfl Tryz.underlying9 Tryz.cellsErr Tryz.cellsStr
 have hT:Lib.TabIs Tryz.prog W "internal/strconv.uint64pow10" .u64 Lib.pow10Tab:=Lib.tabIs_of_head (rest:=[("strconv.ErrRange",Rows.laid_strconv_ErrRange),("strconv.ErrSyntax",Rows.laid_strconv_ErrSyntax)]) e1 (by
  have:(Tryz.prog.globalNamed "internal/strconv.uint64pow10").bind (fun g=>(Tryz.prog.globals[g]?).map (·.type))=some 227:=by kernel_rfl
  rw [e1] at this
  exact this) Tryz.underlying227 Tryz.underlying197 (by kernel_rfl) (by kernel_rfl) h1
 exact ⟨hT,⟨_,_,hv'⟩,⟨_,_,hv⟩⟩
end Go.Proofs.YtbgnajcmhmpjlacGreatDoor
