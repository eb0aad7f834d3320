/- How a list of wants and a world come in as arguments. -/
import Derived.Deep.LoopGhost
import Derived.Deep.DeepCutAuto
import Derived.Deep.QuietTactic
import Derived.BigQuiet
import Derived.Laws.AppendOwn
import Derived.OwnWalk
import Derived.ChangeKeysEq
import Derived.Test.YtbgnajcmhmpjlacGreatDoorRows
import Derived.ProofKit
import Derived.OpenShut
import Derived.Deep.Slices
import Derived.Deep.SlicePairs
import Derived.Test.YtbgnajcmhmpjlacGreatDoorA0
set_option maxRecDepth 100000
set_option maxHeartbeats 100000000
namespace Go.Proofs.YtbgnajcmhmpjlacGreatDoor
open Go.RowKit
theorem shop_any (n:Int) (w:World):
 Calls Tryz.prog 144 #[.int .i64 n] w fun e w'=>e=.returned (.int .i64 (shp n))∧w'=w:=by
 go_enter Tryz.func144,Tryz.ntmps144
 go_wp2
 all_goals
  go_ret
  refine ⟨ret_int ?_,rfl⟩
  unfold shp
  repeat' split
  all_goals omega
theorem more_any (v d:Int) (w:World) (h0: -100<=d) (h1:d<=100):
 Calls Tryz.prog 143 #[.int .i64 v,.int .i64 d] w fun e w'=>e=.returned (.tuple #[.int .i64 (morV v d),.int .i64 (morC v d)])∧w'=w:=by
 by_cases a:v<0
 ·have e1:morV v d=0:=by unfold morV;rw [if_pos a]
  have e2:morC v d=1:=by unfold morC;rw [if_pos a]
  rw [e1,e2]
  go_enter Tryz.func143,Tryz.ntmps143
  go_wp2
  exact bodyPost_ret (v:=.tuple #[.int .i64 _,.int .i64 _]) (by simp [results,Tryz.results143,go_sem]) rfl ⟨rfl,rfl⟩
 by_cases a':100<v
 ·have e1:morV v d=0:=by unfold morV;rw [if_neg a,if_pos a']
  have e2:morC v d=1:=by unfold morC;rw [if_neg a,if_pos a']
  rw [e1,e2]
  go_enter Tryz.func143,Tryz.ntmps143
  go_wp2
  exact bodyPost_ret (v:=.tuple #[.int .i64 _,.int .i64 _]) (by simp [results,Tryz.results143,go_sem]) rfl ⟨rfl,rfl⟩
 have b1:0<=v:=by omega
 have b2:v<=100:=by omega
 by_cases a2:v+d<0
 ·have e1:morV v d=0:=by unfold morV;rw [if_neg a,if_neg a',if_pos a2]
  have e2:morC v d=5:=by unfold morC;rw [if_neg a,if_neg a',if_pos a2]
  rw [e1,e2]
  go_enter Tryz.func143,Tryz.ntmps143
  go_wp2
  exact bodyPost_ret (v:=.tuple #[.int .i64 _,.int .i64 _]) (by simp [results,Tryz.results143,go_sem]) rfl ⟨rfl,rfl⟩
 by_cases a3:100<v+d
 ·have e1:morV v d=0:=by unfold morV;rw [if_neg a,if_neg a',if_neg a2,if_pos a3]
  have e2:morC v d=6:=by unfold morC;rw [if_neg a,if_neg a',if_neg a2,if_pos a3]
  rw [e1,e2]
  go_enter Tryz.func143,Tryz.ntmps143
  go_wp2
  exact bodyPost_ret (v:=.tuple #[.int .i64 _,.int .i64 _]) (by simp [results,Tryz.results143,go_sem]) rfl ⟨rfl,rfl⟩
 ·have e1:morV v d=v+d:=by unfold morV;rw [if_neg a,if_neg a',if_neg a2,if_neg a3]
  have e2:morC v d=0:=by unfold morC;rw [if_neg a,if_neg a',if_neg a2,if_neg a3]
  rw [e1,e2]
  go_enter Tryz.func143,Tryz.ntmps143
  go_wp2
  exact bodyPost_ret (v:=.tuple #[.int .i64 _,.int .i64 _]) (by simp [results,Tryz.results143,go_sem]) rfl ⟨rfl,rfl⟩
theorem fF_any (c a:Int) (w:World):
 Calls Tryz.prog 18 #[.int .i64 c,.int .i64 a] w fun e w'=>e=.returned (.agg #[.int .i64 c,.int .i64 a])∧Below w.heap.size w w':=by
 go_enter Tryz.func18,Tryz.ntmps18
 go_wp2
 exact bodyPost_ret (v:=.agg #[.int .i64 _,.int .i64 _]) (by simp [results,Tryz.results18,go_sem]) rfl ⟨rfl,by go_grown⟩
theorem want_any (c d:Int) (w:World):
 Calls Tryz.prog 163 #[.agg #[.int .i64 c,.int .i64 d]] w fun e w'=>e=.returned (.int .i64 (wnt c d))∧Below w.heap.size w w':=by
 by_cases h:shp c<0
 ·have e1:wnt c d=1:=by unfold wnt;rw [if_pos h]
  rw [e1]
  go_enter Tryz.func163,Tryz.ntmps163
  go_wp2_with fail
  refine (shop_any _ _).mono ?_
  rintro e w' ⟨rfl,rfl⟩
  go_wp2_with fail
  go_ret
  exact ⟨rfl,by go_grown⟩
 ·have e1:wnt c d=dlt d:=by unfold wnt;rw [if_neg h]
  have h':0<=shp c:=by omega
  rw [e1]
  clear e1 h
  go_enter Tryz.func163,Tryz.ntmps163
  go_wp2_with fail
  refine (shop_any _ _).mono ?_
  rintro e w' ⟨rfl,rfl⟩
  go_wp2_with fail
  refine (delta_any _ _).mono ?_
  rintro e w' ⟨rfl,rfl⟩
  go_wp2_with fail
  go_ret
  exact ⟨rfl,by go_grown⟩
structure CSt (B:Nat) (w:World) (s:Int->Bool) (wr:World):Prop where
 c0:wr.cell? ⟨B,0,none⟩=some (.int .i64 0)
 c1:wr.cell? ⟨B,1,none⟩=some (.int .i64 0)
 f0:∀k,wr.frozen? ⟨B,k,none⟩=false
 row:∀j:Nat,j<6->wr.cell? ⟨B+1,j,none⟩=some (.bool (s j))
 f1:∀k,wr.frozen? ⟨B+1,k,none⟩=false
 below:Below B w wr
 lt:B+1<wr.heap.size
theorem CSt.next {B:Nat} {w wr wx:World} {s:Int->Bool} (h:CSt B w s wr) (hb:Below wr.heap.size wr wx):CSt B w s wx:=by
 have hlt:=h.lt
 refine ⟨((bcell hb).1 _ _ (by omega)).trans h.c0,((bcell hb).1 _ _ (by omega)).trans h.c1,loose B hb (by omega) h.f0,fun j hj=>((bcell hb).1 _ _ h.lt).trans (h.row j hj),loose (B+1) hb h.lt h.f1,after h.below hb (by omega),?_⟩
 have:=hb.size
 omega
theorem CSt.set {B:Nat} {w wr:World} {s:Int->Bool} (h:CSt B w s wr) (n:Nat) (hn:n<6):CSt B w (fun j=>s j || (n:Int) == j) (wr.setCell ⟨B+1,n,none⟩ (.bool true)):=by
 have ho:∀o,(wr.setCell ⟨B+1,n,none⟩ (.bool true)).cell? ⟨B,o,none⟩=wr.cell? ⟨B,o,none⟩:=fun o=>World.cell?_setCell_other _ _ _ _ (by intro e;simp only [Addr.mk.injEq] at e;omega)
 refine ⟨(ho 0).trans h.c0,(ho 1).trans h.c1,by simpa [go_sem] using h.f0,?_,by simpa [go_sem] using h.f1,h.below.setCell (by simp) _,by simpa using h.lt⟩
 intro j hj
 by_cases e:j=n
 ·subst e
  rw [World.cell?_setCell_same _ _ _ (h.row j hj)]
  simp
 ·rw [World.cell?_setCell_other _ _ _ _ (by intro e';simp only [Addr.mk.injEq] at e';omega),h.row j hj]
  have:((n:Int) == (j:Int))=false:=by simp;omega
  rw [this,Bool.or_false]
theorem CSt.answer {B:Nat} {w wr:World} {s:Int->Bool} (h:CSt B w s wr) (x y:Value):Below B w ((wr.setCell ⟨B,0,none⟩ x).setCell ⟨B,1,none⟩ y):=(h.below.setCell (Nat.le_refl _) _).setCell (Nat.le_refl _) _
theorem pcheck_any (la:Option Addr) (ll lc:Nat) (l:List (Int × Int)) (w:World) (hl:WantsAt w la l) (hll:l.length=ll):
 Calls Tryz.prog 142 #[.slice la ll lc] w fun e w'=>e=.returned (.agg #[.int .i64 (chkW l).1,.int .i64 (chkW l).2])∧Below w.heap.size w w':=by
 by_cases h0:ll=0
 ·have e1:chkW l=(2,-1):=by unfold chkW;rw [if_pos (by omega)]
  rw [e1]
  have k0:((ll:Int) == 0)=true:=by simp [h0]
  clear hl e1 hll h0
  go_enter Tryz.func142,Tryz.ntmps142
  go_wp2_with fail
  exact bodyPost_ret (v:=.agg #[.int .i64 _,.int .i64 _]) (by simp [results,Tryz.results142,go_sem]) rfl ⟨rfl,by go_grown⟩
 have k0:((ll:Int) == 0)=false:=by simpa using h0
 by_cases h1:4<ll
 ·have e1:chkW l=(3,-1):=by unfold chkW;rw [if_neg (by omega),if_pos (by omega)]
  rw [e1]
  have k1:(4:Int)<(ll:Int):=by omega
  clear hl e1 hll h0
  go_enter Tryz.func142,Tryz.ntmps142
  go_wp2_with fail
  exact bodyPost_ret (v:=.agg #[.int .i64 _,.int .i64 _]) (by simp [results,Tryz.results142,go_sem]) rfl ⟨rfl,by go_grown⟩
 have e1:chkW l=scanW (l.take 0) (l.drop 0):=by unfold chkW;rw [if_neg (by omega),if_neg (by omega)];simp
 rw [e1]
 have k1:(ll:Int)<=4:=by omega
 clear e1 h0
 go_enter Tryz.func142,Tryz.ntmps142
 go_wp2_with fail
 go_loopg [19] ll (fun g i wr=>∃k:Nat,k<=ll∧g=ll - k∧i=.int .i64 k∧Hid (scanW (l.take 0) (l.drop 0)=scanW (l.take k) (l.drop k))∧CSt w.heap.size w (fun j=>(l.take k).any (fun y=>y.1 == j)) wr)
 case atStart=>
  refine ⟨0,Nat.zero_le _,rfl,rfl,rfl,?_⟩
  refine ⟨by simp [go_sem],by simp [go_sem],by simp [go_sem],?_,by simp [go_sem],by go_grown,by simp⟩
  intro j hj
  have:j=0∨j=1∨j=2∨j=3∨j=4∨j=5:=by omega
  rcases this with rfl | rfl | rfl | rfl | rfl | rfl <;> simp [go_sem]
 case round=>
  obtain ⟨k,hk,rfl,rfl,HE,hS⟩:=hrel
  by_cases hlt:k<ll
  ·obtain ⟨⟨c,d⟩,hkl⟩:∃x,l[k]?=some x:=⟨_,List.getElem?_eq_getElem (by omega)⟩
   obtain ⟨bl,ol,rfl,hbl,hcl,hdl⟩:=hl k c d hkl
   have j0:(0:Int)<=(k:Int):=by omega
   have j1:(k:Int)<(ll:Int):=by omega
   have hcl':wr.cell? ⟨bl,ol+k * 2,none⟩=some (.int .i64 c):=(hS.below.cell (p:=⟨bl,ol+k * 2,none⟩) hbl).trans hcl
   have hdl':wr.cell? ⟨bl,ol+k * 2+1,none⟩=some (.int .i64 d):=(hS.below.cell (p:=⟨bl,ol+k * 2+1,none⟩) hbl).trans hdl
   clear hcl hdl hl
   go_wp2_with fail
   refine (want_any _ _ _).mono ?_
   rintro e w1 ⟨rfl,hb1⟩
   have hS1:CSt w.heap.size w (fun j=>(l.take k).any (fun y=>y.1 == j)) w1:=(hS.next ((Below.refl _ _).alloc (Nat.le_refl _) _)).next hb1
   have p0:w1.cell? ⟨wr.heap.size,0,none⟩=some (.int .i64 c):=((bcell hb1).1 _ _ (by simp)).trans (by simp [go_sem])
   have p1:w1.cell? ⟨wr.heap.size,1,none⟩=some (.int .i64 d):=((bcell hb1).1 _ _ (by simp)).trans (by simp [go_sem])
   have hz1:wr.heap.size<w1.heap.size:=by have:=hb1.size;simp at this;omega
   clear hb1 hS hcl' hdl'
   have r0:=hS1.c0
   have r1:=hS1.c1
   have rf:=hS1.f0
   have hlt1:=hS1.lt
   by_cases hw:wnt c d=0
   ·have hw':(wnt c d != 0)=false:=by simp [hw]
    obtain ⟨q0,q1,q2⟩:=wnt_ok hw
    obtain ⟨n,rfl⟩:=Int.eq_ofNat_of_zero_le q0
    have hn:n<6:=by omega
    have rn:=hS1.row n hn
    have fn:=hS1.f1
    have HW:Hid _:=hw
    clear hw q2
    by_cases ht:(l.take k).any (fun y=>y.1 == (n:Int))=true
    ·have HE2:Hid _:=HE.out.trans (scan_twice hkl HW.out ht)
     simp only [ht] at rn
     clear ht HE
     go_wp2_with fail
     exact bodyPost_ret (v:=.agg #[.int .i64 4,.int .i64 k]) (by simp [results,Tryz.results142,go_sem,r0,r1]) rfl ⟨by rw [HE2.out],hS1.answer _ _⟩
    ·have ht':(l.take k).any (fun y=>y.1 == (n:Int))=false:=Bool.eq_false_iff.2 ht
     have HE2:Hid _:=HE.out.trans (scan_next hkl HW.out ht')
     simp only [ht'] at rn
     clear ht ht'
     go_wp2_with fail
     go_roundg (ll - (k+1))
     case measure=>omega
     case rel=>
      refine ⟨k+1,by omega,rfl,by simp,HE2,?_⟩
      have q:=hS1.set n hn
      refine ⟨q.c0,q.c1,q.f0,fun j hj=>?_,q.f1,q.below,q.lt⟩
      rw [any_next hkl]
      exact q.row j hj
   ·have HE2:Hid _:=HE.out.trans (scan_bad hkl hw)
    have hw':(wnt c d != 0)=true:=by simpa using hw
    clear hw HE
    go_wp2_with fail
    exact bodyPost_ret (v:=.agg #[.int .i64 (wnt c d),.int .i64 k]) (by simp [results,Tryz.results142,go_sem,r0,r1]) rfl ⟨by rw [HE2.out],hS1.answer _ _⟩
  ·have hkk:k=ll:=by omega
   subst hkk
   have r0:=hS.c0
   have r1:=hS.c1
   have rf:=hS.f0
   have hlt1:=hS.lt
   have hb:=hS.below
   go_wp2_with fail
   exact bodyPost_ret (v:=.agg #[.int .i64 0,.int .i64 0]) (by simp [results,Tryz.results142,go_sem,r0,r1]) rfl ⟨by rw [HE.out,List.drop_of_length_le (l:=l) (by omega),scanW],hS.answer _ _⟩
theorem bdrewN {B:Nat} {a w:World} (h:Below B a w) (n:Nat):Below B a (w.drewN n):=⟨h.os,h.tape,h.output,h.size,h.block⟩
theorem ret_bool {a b:Bool} (h:a=b):Ending.returned (.bool a)=.returned (.bool b):=by rw [h]
theorem shp_hit (n:Int) (s m:Nat) (hs:s<3) (hm:m<2) (h:n=(s:Int) * 2+m):(s:Int)=shp n:=by
 rw [shp_eq (by omega) (by omega)];omega
theorem shopOf_any (n:Int) (w:World):
 Calls Tryz.prog 68 #[.int .i64 n] w fun e w'=>e=.returned (.int .i64 (shp n))∧w'=w:=by
 go_enter Tryz.func68,Tryz.ntmps68
 go_wp2_with fail
 go_loopg [3] 3 (fun g s wr=>∃k:Nat,k<=3∧g=3 - k∧s=.int .i64 k∧Hid (n<0∨(k:Int) * 2<=n)∧w=wr)
 case atStart=>exact ⟨0,by omega,rfl,rfl,(by show _∨_;omega),rfl⟩
 case round=>
  obtain ⟨k,hk,rfl,rfl,HN,rfl⟩:=hrel
  by_cases hlt:k<3
  ·have j0:(k:Int)<3:=by omega
   have j1:(0:Int)<=(k:Int):=by omega
   go_wp2_with fail
   go_loopg [4] 2 (fun g s wr=>∃m:Nat,m<=2∧g=2 - m∧s=.int .i64 m∧Hid (n<0∨(k:Int) * 2+m<=n)∧w=wr)
   case atStart=>exact ⟨0,by omega,rfl,rfl,(by show _∨_;have:=HN.out;omega),rfl⟩
   case round=>
    obtain ⟨m,hm,rfl,rfl,HM,rfl⟩:=hrel
    by_cases hlt2:m<2
    ·have i0:(m:Int)<2:=by omega
     have i1:(0:Int)<=(m:Int):=by omega
     by_cases he:n=(k:Int) * 2+m
     ·have he':(n == (k:Int) * 2+m)=true:=by simpa using he
      have HE:Hid _:=he
      clear he
      go_wp2_with fail
      go_ret
      exact ⟨ret_int (shp_hit n k m hlt hlt2 HE.out),rfl⟩
     ·have he':(n == (k:Int) * 2+m)=false:=by simpa using he
      have HE:Hid _:=he
      clear he
      go_wp2_with fail
      go_roundg (2 - (m+1))
      case measure=>omega
      case rel=>exact ⟨m+1,by omega,rfl,by simp,(by show _∨_;have q1:n<0∨(k:Int) * 2+m<=n:=HM.out;have q2:¬n=(k:Int) * 2+m:=HE.out;omega),rfl⟩
    ·have i0:¬(m:Int)<2:=by omega
     go_wp2_with fail
     go_roundg (3 - (k+1))
     case measure=>omega
     case rel=>exact ⟨k+1,by omega,rfl,by simp,(by show _∨_;have:=HM.out;omega),rfl⟩
  ·have j0:¬(k:Int)<3:=by omega
   go_wp2_with fail
   go_ret
   refine ⟨ret_int ?_,rfl⟩
   have:=HN.out
   unfold shp
   repeat' split
   all_goals omega
theorem wantFault_any (c d:Int) (w:World):
 Calls Tryz.prog 123 #[.agg #[.int .i64 c,.int .i64 d]] w fun e w'=>e=.returned (.int .i64 (wnt c d))∧Below w.heap.size w w':=by
 by_cases h:shp c<0
 ·have e1:wnt c d=1:=by unfold wnt;rw [if_pos h]
  rw [e1]
  go_enter Tryz.func123,Tryz.ntmps123
  go_wp2_with fail
  refine (shopOf_any _ _).mono ?_
  rintro e w' ⟨rfl,rfl⟩
  go_wp2_with fail
  go_ret
  exact ⟨rfl,by go_grown⟩
 ·have e1:wnt c d=dlt d:=by unfold wnt;rw [if_neg h]
  have h':0<=shp c:=by omega
  rw [e1]
  clear e1 h
  go_enter Tryz.func123,Tryz.ntmps123
  go_wp2_with fail
  refine (shopOf_any _ _).mono ?_
  rintro e w' ⟨rfl,rfl⟩
  go_wp2_with fail
  refine (deltaFault_any _ _).mono ?_
  rintro e w' ⟨rfl,rfl⟩
  go_wp2_with fail
  go_ret
  exact ⟨rfl,by go_grown⟩
structure PSt (B:Nat) (w:World) (ws:Nat->Int) (wr:World):Prop where
 row:∀j:Nat,j<6->wr.cell? ⟨B,j,none⟩=some (.int .i64 (ws j))
 f0:∀k,wr.frozen? ⟨B,k,none⟩=false
 zer:∀j:Nat,j<6->wr.cell? ⟨B+1,j,none⟩=some (.int .i64 0)
 f1:∀k,wr.frozen? ⟨B+1,k,none⟩=false
 c0:wr.cell? ⟨B+2,0,none⟩=some (.int .i64 0)
 c1:wr.cell? ⟨B+2,1,none⟩=some (.int .i64 0)
 f2:∀k,wr.frozen? ⟨B+2,k,none⟩=false
 below:Below B w wr
 lt:B+2<wr.heap.size
theorem six_cases {j:Nat} (h:j<6):j=0∨j=1∨j=2∨j=3∨j=4∨j=5:=by omega
theorem PSt.next {B:Nat} {w wr wx:World} {ws:Nat->Int} (h:PSt B w ws wr) (hb:Below wr.heap.size wr wx):PSt B w ws wx:=by
 have hlt:=h.lt
 have hsz:=hb.size
 exact ⟨fun j hj=>((bcell hb).1 _ _ (by omega)).trans (h.row j hj),loose B hb (by omega) h.f0,fun j hj=>((bcell hb).1 _ _ (by omega)).trans (h.zer j hj),loose (B+1) hb (by omega) h.f1,((bcell hb).1 _ _ (by omega)).trans h.c0,((bcell hb).1 _ _ (by omega)).trans h.c1,loose (B+2) hb (by omega) h.f2,after h.below hb (by omega),by omega⟩
theorem PSt.set {B:Nat} {w wr:World} {ws:Nat->Int} (h:PSt B w ws wr) (n:Nat) (hn:n<6) (v:Int):PSt B w (upd ws n v) (wr.setCell ⟨B,n,none⟩ (.int .i64 v)):=by
 have ho:∀b o,b ≠ B->(wr.setCell ⟨B,n,none⟩ (.int .i64 v)).cell? ⟨b,o,none⟩=wr.cell? ⟨b,o,none⟩:=fun b o hb=>World.cell?_setCell_other _ _ _ _ (by intro e;simp only [Addr.mk.injEq] at e;omega)
 refine ⟨?_,by simpa [go_sem] using h.f0,fun j hj=>(ho _ _ (by omega)).trans (h.zer j hj),by simpa [go_sem] using h.f1,(ho _ _ (by omega)).trans h.c0,(ho _ _ (by omega)).trans h.c1,by simpa [go_sem] using h.f2,h.below.setCell (Nat.le_refl _) _,by simpa using h.lt⟩
 intro j hj
 unfold upd
 by_cases e:j=n
 ·subst e
  rw [World.cell?_setCell_same _ _ _ (h.row j hj),if_pos rfl]
 ·rw [World.cell?_setCell_other _ _ _ _ (by intro e';simp only [Addr.mk.injEq] at e';omega),h.row j hj,if_neg e]
theorem PSt.begin (ws:Nat->Int) (w:World) (t1 t2:Nat):PSt w.heap.size w ws (((w.alloc (.cells #[.int .i64 (ws 0),.int .i64 (ws 1),.int .i64 (ws 2),.int .i64 (ws 3),.int .i64 (ws 4),.int .i64 (ws 5)] t1)).alloc (.cells #[.int .i64 0,.int .i64 0,.int .i64 0,.int .i64 0,.int .i64 0,.int .i64 0] t1)).alloc (.cells #[.int .i64 0,.int .i64 0] t2)):=by
 refine ⟨?_,by simp [go_sem],?_,by simp [go_sem],by simp [go_sem],by simp [go_sem],by simp [go_sem],by go_grown,by simp⟩
 ·intro j hj
  rcases six_cases hj with rfl | rfl | rfl | rfl | rfl | rfl <;> simp [go_sem]
 ·intro j hj
  rcases six_cases hj with rfl | rfl | rfl | rfl | rfl | rfl <;> simp [go_sem]
theorem apply_any (ws:Nat->Int) (la:Option Addr) (ll lc:Nat) (l:List (Int × Int)) (w:World) (hl:WantsAt w la l) (hll:l.length=ll):
 Calls Tryz.prog 109 #[.agg #[.int .i64 (ws 0),.int .i64 (ws 1),.int .i64 (ws 2),.int .i64 (ws 3),.int .i64 (ws 4),.int .i64 (ws 5)],.slice la ll lc] w fun e w'=>e=.returned (.tuple #[.agg #[.int .i64 ((appW ws l).1 0),.int .i64 ((appW ws l).1 1),.int .i64 ((appW ws l).1 2),.int .i64 ((appW ws l).1 3),.int .i64 ((appW ws l).1 4),.int .i64 ((appW ws l).1 5)],.agg #[.int .i64 (appW ws l).2.1,.int .i64 (appW ws l).2.2]])∧Below w.heap.size w w':=by
 by_cases hf:(chkW l).1=0
 ·have e1:appW ws l=runW ws 0 (l.drop 0):=by unfold appW;rw [if_pos hf];rfl
  rw [e1]
  have hx:((chkW l).1 != 0)=false:=by simp [hf]
  have hF:Fit l:=fit_iff.1 hf
  have k1:(ll:Int)<=4:=by have:=hF.few;omega
  clear hf e1
  go_enter Tryz.func109,Tryz.ntmps109
  go_wp2_with fail
  have hS0:=PSt.begin ws w 40 31
  refine (pcheck_any _ _ _ _ _ (hl.below hS0.below (Nat.le_refl _)) hll).mono ?_
  rintro e w1 ⟨rfl,hb1⟩
  have hS1:=hS0.next hb1
  clear hb1 hS0
  go_wp2_with fail
  go_loopg [20] ll (fun g i wr=>∃(k:Nat) (vs:Nat->Int),k<=ll∧g=ll - k∧i=.int .i64 k∧Hid (runW ws 0 (l.drop 0)=runW vs k (l.drop k))∧PSt w.heap.size w vs wr)
  case atStart=>exact ⟨0,ws,Nat.zero_le _,rfl,rfl,rfl,hS1.next (by go_grown)⟩
  case round=>
   obtain ⟨k,vs,hk,rfl,rfl,HE,hS⟩:=hrel
   have hlt2:=hS.lt
   have hlt1:w.heap.size+1<wr.heap.size:=by omega
   have hlt0:w.heap.size<wr.heap.size:=by omega
   by_cases hlt:k<ll
   ·obtain ⟨⟨c,d⟩,hkl⟩:∃x,l[k]?=some x:=⟨_,List.getElem?_eq_getElem (by omega)⟩
    obtain ⟨bl,ol,rfl,hbl,hcl,hdl⟩:=hl k c d hkl
    obtain ⟨t0,t1,t2,t3,t4⟩:=hF.at hkl
    obtain ⟨n,rfl⟩:=Int.eq_ofNat_of_zero_le t0
    have hn:n<6:=by omega
    have j0:(0:Int)<=(k:Int):=by omega
    have j1:(k:Int)<(ll:Int):=by omega
    have hcl':wr.cell? ⟨bl,ol+k * 2,none⟩=some (.int .i64 n):=(hS.below.cell (p:=⟨bl,ol+k * 2,none⟩) hbl).trans hcl
    have hdl':wr.cell? ⟨bl,ol+k * 2+1,none⟩=some (.int .i64 d):=(hS.below.cell (p:=⟨bl,ol+k * 2+1,none⟩) hbl).trans hdl
    have rn:=hS.row n hn
    have g0:=hS.f0
    clear hcl hdl hl t2
    go_wp2_with fail
    go_quiet ((go_at_call 143;exact Calls.quiet_of_same (more_any _ _ _ t3 t4)))
    by_cases hw:morC (vs n) d=0
    ·have hw':(morC (vs n) d != 0)=false:=by simp [hw]
     have HE2:Hid _:=HE.out.trans (run_next hkl hw)
     clear hw
     go_wp2_with fail
     go_roundg (ll - (k+1))
     case measure=>omega
     case rel=>exact ⟨k+1,_,by omega,rfl,by simp,HE2,((hS.next ((Below.refl _ _).alloc (Nat.le_refl _) _)).next (bdrewN (Below.refl _ _) _)).set n hn _⟩
    ·have hw':(morC (vs n) d != 0)=true:=by simpa using hw
     have HE2:Hid _:=HE.out.trans (run_bad hkl hw)
     have hS2:=(hS.next ((Below.refl _ _).alloc (Nat.le_refl _) (.cells #[.int .i64 n,.int .i64 d] 97))).next (bdrewN (Below.refl _ _) nq)
     clear hw hS hlt0 hlt1 hlt2 hcl' hdl' rn g0
     generalize (wr.alloc (.cells #[.int .i64 n,.int .i64 d] 97)).drewN nq=W0 at hS2 ⊢
     have z0:=hS2.zer 0 (by omega)
     have z1:=hS2.zer 1 (by omega)
     have z2:=hS2.zer 2 (by omega)
     have z3:=hS2.zer 3 (by omega)
     have z4:=hS2.zer 4 (by omega)
     have z5:=hS2.zer 5 (by omega)
     have q0:=hS2.c0
     have q1:=hS2.c1
     have g1:=hS2.f1
     have g2:=hS2.f2
     have hb:=hS2.below
     go_wp2_with fail
     exact bodyPost_ret (v:=.tuple #[.agg #[.int .i64 0,.int .i64 0,.int .i64 0,.int .i64 0,.int .i64 0,.int .i64 0],.agg #[.int .i64 (morC (vs n) d),.int .i64 k]]) (by simp [results,Tryz.results109,go_sem,z0,z1,z2,z3,z4,z5,q0,q1]) rfl ⟨by rw [HE2.out];rfl,by go_grown⟩
   ·have hkk:k=ll:=by omega
    subst hkk
    have hE2:Hid (runW ws 0 (l.drop 0)=(vs,0,0)):=by
     show _=_
     rw [HE.out,List.drop_of_length_le (l:=l) (by omega),runW]
    clear HE
    have z0:=hS.zer 0 (by omega)
    have z1:=hS.zer 1 (by omega)
    have z2:=hS.zer 2 (by omega)
    have z3:=hS.zer 3 (by omega)
    have z4:=hS.zer 4 (by omega)
    have z5:=hS.zer 5 (by omega)
    have q0:=hS.c0
    have q1:=hS.c1
    have g1:=hS.f1
    have g2:=hS.f2
    have hb:=hS.below
    have a0:=hS.row 0 (by omega)
    have a1:=hS.row 1 (by omega)
    have a2:=hS.row 2 (by omega)
    have a3:=hS.row 3 (by omega)
    have a4:=hS.row 4 (by omega)
    have a5:=hS.row 5 (by omega)
    go_wp2_with fail
    exact bodyPost_ret (v:=.tuple #[.agg #[.int .i64 (vs 0),.int .i64 (vs 1),.int .i64 (vs 2),.int .i64 (vs 3),.int .i64 (vs 4),.int .i64 (vs 5)],.agg #[.int .i64 0,.int .i64 0]]) (by simp [results,Tryz.results109,go_sem,z0,z1,z2,z3,z4,z5,q0,q1]) rfl ⟨by rw [hE2.out],by go_grown⟩
 ·have hx:((chkW l).1 != 0)=true:=by simpa using hf
  have e1:appW ws l=(noW,(chkW l).1,(chkW l).2):=by unfold appW;rw [if_neg hf]
  rw [e1]
  clear hf e1
  go_enter Tryz.func109,Tryz.ntmps109
  go_wp2_with fail
  have hS0:=PSt.begin ws w 40 31
  refine (pcheck_any _ _ _ _ _ (hl.below hS0.below (Nat.le_refl _)) hll).mono ?_
  rintro e w1 ⟨rfl,hb1⟩
  have hS1:=hS0.next hb1
  clear hb1 hS0
  have hlt:=hS1.lt
  have r0:(w1.alloc (.cells #[.int .i64 (chkW l).1,.int .i64 (chkW l).2] 31)).cell? ⟨w1.heap.size,0,none⟩=some (.int .i64 (chkW l).1):=by simp [go_sem]
  have r1:(w1.alloc (.cells #[.int .i64 (chkW l).1,.int .i64 (chkW l).2] 31)).cell? ⟨w1.heap.size,1,none⟩=some (.int .i64 (chkW l).2):=by simp [go_sem]
  have hS2:=hS1.next ((Below.refl _ _).alloc (Nat.le_refl _) (.cells #[.int .i64 (chkW l).1,.int .i64 (chkW l).2] 31))
  clear hS1
  go_wp2_with fail
  generalize w1.alloc (.cells #[.int .i64 (chkW l).1,.int .i64 (chkW l).2] 31)=W0 at r0 r1 hS2 ⊢
  generalize w1.heap.size=bf at r0 r1 hlt ⊢
  have z0:=hS2.zer 0 (by omega)
  have z1:=hS2.zer 1 (by omega)
  have z2:=hS2.zer 2 (by omega)
  have z3:=hS2.zer 3 (by omega)
  have z4:=hS2.zer 4 (by omega)
  have z5:=hS2.zer 5 (by omega)
  have q0:=hS2.c0
  have q1:=hS2.c1
  have g1:=hS2.f1
  have g2:=hS2.f2
  have hb:=hS2.below
  have hlt1:w.heap.size+1<bf:=by omega
  go_region
  all_goals
   go_wp2_with fail
   exact bodyPost_ret (v:=.tuple #[.agg #[.int .i64 0,.int .i64 0,.int .i64 0,.int .i64 0,.int .i64 0,.int .i64 0],.agg #[.int .i64 (chkW l).1,.int .i64 (chkW l).2]]) (by simp [results,Tryz.results109,go_sem,z0,z1,z2,z3,z4,z5,q0,q1]) rfl ⟨rfl,by go_grown⟩
def NumsAt (w:World) (la:Option Addr) (l:List Int):Prop:=∀k c,l[k]?=some c->∃b off,la=some ⟨b,off,none⟩∧b<w.heap.size∧w.cell? ⟨b,off+k,none⟩=some (.int .i64 c)
theorem NumsAt.below {w w':World} {B:Nat} {la:Option Addr} {l:List Int} (h:NumsAt w la l) (hb:Below B w w') (hB:w.heap.size<=B):NumsAt w' la l:=by
 intro k c hk
 obtain ⟨b,off,e,hlt,h0⟩:=h k c hk
 have hb':b<B:=by omega
 refine ⟨b,off,e,?_,(hb.cell (p:=⟨b,off+k,none⟩) hb').trans h0⟩
 have:=hb.size
 omega
theorem in_any (la:Option Addr) (na ca:Nat) (l:List Int) (x:Int) (w:World) (hl:NumsAt w la l) (h1:l.length=na) (hs:na<2 ^ 62):
 Calls Tryz.prog 67 #[.slice la na ca,.int .i64 x] w fun e w'=>e=.returned (.bool (decide (x∈l)))∧w'=w:=by
 go_enter Tryz.func67,Tryz.ntmps67
 go_wp2_with fail
 go_loopg [5] na (fun g i wr=>∃k:Nat,k<=na∧g=na - k∧i=.int .i64 k∧Hid (¬x∈l.take k)∧w=wr)
 case atStart=>exact ⟨0,Nat.zero_le _,rfl,rfl,by simp [Hid],rfl⟩
 case round=>
  obtain ⟨k,hk,rfl,rfl,HE,rfl⟩:=hrel
  by_cases hlt:k<na
  ·obtain ⟨c,hc⟩:∃x,l[k]?=some x:=⟨_,List.getElem?_eq_getElem (by omega)⟩
   obtain ⟨b1,o1,rfl,hb1,p1⟩:=hl k c hc
   have j0:(0:Int)<=(k:Int):=by omega
   have j1:(k:Int)<(na:Int):=by omega
   have j2:(na:Int)<2 ^ 62:=by omega
   clear hl
   by_cases he:c=x
   ·have he':(c == x)=true:=by simp [he]
    have HE2:Hid (x∈l):=by rw [<-he];exact List.mem_of_getElem? hc
    clear he
    go_wp2_with fail
    go_ret
    exact ⟨ret_bool (decide_eq_true HE2.out).symm,rfl⟩
   ·have he':(c == x)=false:=by simpa using he
    have HE2:Hid (¬x∈l.take (k+1)):=by
     show ¬_
     rw [take_snoc hc,List.mem_append,List.mem_singleton]
     rintro (q | q)
     ·exact HE.out q
     ·exact he q.symm
    clear he
    go_wp2_with fail
    go_roundg (na - (k+1))
    case measure=>omega
    case rel=>exact ⟨k+1,by omega,rfl,by simp,HE2,rfl⟩
  ·have hkk:k=na:=by omega
   subst hkk
   go_wp2_with fail
   go_ret
   refine ⟨ret_bool ?_,rfl⟩
   have q:=HE.out
   rw [List.take_of_length_le (by omega)] at q
   exact (decide_eq_false q).symm
theorem grownBelow {a b:World} (h:Below a.heap.size a b) (row:Option Nat):a.grownBy b row:=⟨h.os,h.tape,h.output,h.size,fun k hk _=>h.block k hk⟩
theorem own_next {w w1:World} {B e s n:Nat} {v:Value} {xs:List Value} (h:w.ownsRow B e s v n xs) (hb:Below w.heap.size w w1):w1.ownsRow B e s v n xs:=by
 refine h.kept (grownBelow hb none) ?_
 cases v.ownBlock <;> simp
theorem own_below {a w w1:World} {B C e s n:Nat} {v:Value} {xs:List Value} (h:w.ownsRow C e s v n xs) (hg:w.grownBy w1 v.ownBlock) (hb:Below B a w) (hB:B<=w.heap.size) (hC:B<=C):Below B a w1:=
 hb.grown hg hB (fun k hk=>Nat.le_trans hC (h.lt k hk).1)
theorem nums_of_own {w:World} {B e n:Nat} {v:Value} {l:List Int} (h:w.ownsRow B e 1 v n (l.map (Value.int .i64))):∃ga cap,v=.slice ga n cap∧NumsAt w ga l∧l.length=n:=by
 have hn:l.length=n:=by have:=h.1;simpa using this
 rcases h.2 with ⟨e1,e0⟩ | ⟨g,cap,cur,e1,hb,hg,hc,hm,hz,ht⟩
 ·refine ⟨none,0,by rw [e1,e0],?_,hn⟩
  intro k c hk
  have:=(List.getElem?_eq_some_iff.1 hk).1
  omega
 ·refine ⟨_,cap,e1,fun k c hk=>⟨g,0,rfl,(Array.getElem?_eq_some_iff.1 hg).1,?_⟩,hn⟩
  have hk':=(List.getElem?_eq_some_iff.1 hk).1
  have h1:(cur.toList.take (n * 1))[k]?=(l.map (Value.int .i64))[k]?:=by rw [ht]
  rw [Nat.mul_one,List.getElem?_take_of_lt (by omega),List.getElem?_map,hk] at h1
  simp only [World.cell?,hg]
  simpa using h1
def flat (l:List (Int × Int)):List Value:=l.flatMap (fun x=>[.int .i64 x.1,.int .i64 x.2])
theorem flat_length (l:List (Int × Int)):(flat l).length=l.length * 2:=by
 unfold flat
 induction l with
 | nil=>rfl
 | cons x r ih=>rw [List.flatMap_cons,List.length_append,ih];simp;omega
theorem flat_at (l:List (Int × Int)):∀k c d,l[k]?=some (c,d)->(flat l)[k * 2]?=some (.int .i64 c)∧(flat l)[k * 2+1]?=some (.int .i64 d):=by
 unfold flat
 induction l with
 | nil=>intro k c d h;simp at h
 | cons x r ih=>
   intro k c d h
   cases k with
   | zero=>
     have:x=(c,d):=by simpa using h
     subst this
     simp
   | succ k=>
     have h':r[k]?=some (c,d):=by simpa using h
     obtain ⟨a,b⟩:=ih k c d h'
     rw [List.flatMap_cons]
     constructor
     ·rw [List.getElem?_append_right (by simp;omega)]
      have:(k+1) * 2 - [Value.int .i64 x.1,.int .i64 x.2].length=k * 2:=by simp;omega
      rw [this];exact a
     ·rw [List.getElem?_append_right (by simp;omega)]
      have:(k+1) * 2+1 - [Value.int .i64 x.1,.int .i64 x.2].length=k * 2+1:=by simp;omega
      rw [this];exact b
theorem flat_snoc (l:List (Int × Int)) (c d:Int):flat (l++[(c,d)])=flat l++[.int .i64 c,.int .i64 d]:=by
 unfold flat;simp
theorem wants_of_own {w:World} {B e n:Nat} {v:Value} {l:List (Int × Int)} (h:w.ownsRow B e 2 v n (flat l)):∃ga cap,v=.slice ga n cap∧WantsAt w ga l∧l.length=n:=by
 have hn:l.length=n:=by have:=h.1;rw [flat_length] at this;omega
 rcases h.2 with ⟨e1,e0⟩ | ⟨g,cap,cur,e1,hb,hg,hc,hm,hz,ht⟩
 ·refine ⟨none,0,by rw [e1,e0],?_,hn⟩
  intro k c d hk
  have:=(List.getElem?_eq_some_iff.1 hk).1
  omega
 ·refine ⟨_,cap,e1,fun k c d hk=>⟨g,0,rfl,(Array.getElem?_eq_some_iff.1 hg).1,?_,?_⟩,hn⟩
  ·have hk':=(List.getElem?_eq_some_iff.1 hk).1
   have h1:(cur.toList.take (n * 2))[k * 2]?=(flat l)[k * 2]?:=by rw [ht]
   rw [List.getElem?_take_of_lt (by omega),(flat_at l k c d hk).1] at h1
   simp only [World.cell?,hg]
   simpa using h1
  ·have hk':=(List.getElem?_eq_some_iff.1 hk).1
   have h1:(cur.toList.take (n * 2))[k * 2+1]?=(flat l)[k * 2+1]?:=by rw [ht]
   rw [List.getElem?_take_of_lt (by omega),(flat_at l k c d hk).2] at h1
   simp only [World.cell?,hg]
   simpa using h1
def stands (l:List (Int × Int)) (s:Int):Bool:=l.any (fun y=>shp y.1 == s)
def shopsTo (l:List (Int × Int)) (k:Nat):List Int:=((List.range k).filter (fun s:Nat=>stands l (s:Int))).map (fun s=>((s:Nat):Int))
theorem shopsTo_hit {l:List (Int × Int)} {k:Nat} (h:stands l (k:Int)=true):shopsTo l (k+1)=shopsTo l k++[(k:Int)]:=by
 unfold shopsTo
 rw [List.range_succ,List.filter_append,List.map_append]
 simp [h]
theorem shopsTo_miss {l:List (Int × Int)} {k:Nat} (h:stands l (k:Int)=false):shopsTo l (k+1)=shopsTo l k:=by
 unfold shopsTo
 rw [List.range_succ,List.filter_append,List.map_append]
 simp [h]
theorem shopsTo_length (l:List (Int × Int)) (k:Nat):(shopsTo l k).length<=k:=by
 unfold shopsTo
 rw [List.length_map]
 have:=List.length_filter_le (fun s=>stands l ((s:Nat):Int)) (List.range k)
 simpa using this
theorem stands_next {l:List (Int × Int)} {k:Nat} {c d:Int} (h:l[k]?=some (c,d)) (s:Int):stands (l.take (k+1)) s=(stands (l.take k) s || shp c == s):=by
 unfold stands
 rw [take_snoc h];simp
def shopsL (l:List (Int × Int)):List Int:=shopsTo l 3
theorem num_new {w:World} {n:Int} {t:TypeId} (H:Nat) (hH:w.heap.size=H):∀j u,[Value.int .i64 n][j]?=some u->(w.alloc (.cells #[.int .i64 n] t)).cell? ((⟨H,0,none⟩:Addr).add j)=some u:=by
 subst hH
 intro j u h
 cases j with
 | zero=>have e:u=.int .i64 n:=by simpa using h.symm
         subst e;simp [go_sem,Addr.add]
 | succ j=>simp at h
theorem num_cell {n:Int}:∀u∈[Value.int .i64 n],u.oneCell'=true:=by
 intro u hu
 rw [List.mem_singleton.1 hu];rfl
theorem want_new {w:World} {c d:Int} {t:TypeId} (H:Nat) (hH:w.heap.size=H):∀j u,[Value.int .i64 c,.int .i64 d][j]?=some u->(w.alloc (.cells #[.int .i64 c,.int .i64 d] t)).cell? ((⟨H,0,none⟩:Addr).add j)=some u:=by
 subst hH
 intro j u h
 match j,h with
 | 0,h=>have e:u=.int .i64 c:=by simpa using h.symm
        subst e;simp [go_sem,Addr.add]
 | 1,h=>have e:u=.int .i64 d:=by simpa using h.symm
        subst e;simp [go_sem,Addr.add]
 | j+2,h=>simp at h
theorem want_cell {c d:Int}:∀u∈[Value.int .i64 c,.int .i64 d],u.oneCell'=true:=by
 intro u hu
 rcases List.mem_cons.1 hu with rfl | hu
 ·rfl
 ·rw [List.mem_singleton.1 hu];rfl
theorem infoInt:(Tryz.prog.info? 3).map (fun i=>(i.zero,i.size,i.bytes))=some (some (.int .i64 0),1,8):=by kernel_rfl
theorem infoWant:(Tryz.prog.info? 97).map (fun i=>(i.zero,i.size,i.bytes))=some (some (.agg #[.int .i64 0,.int .i64 0]),2,16):=by kernel_rfl
structure SSt (B:Nat) (w:World) (s:Int->Bool) (wr:World):Prop where
 row:∀j:Nat,j<3->wr.cell? ⟨B,j,none⟩=some (.bool (s j))
 f0:∀k,wr.frozen? ⟨B,k,none⟩=false
 below:Below B w wr
 lt:B<wr.heap.size
theorem SSt.next {B:Nat} {w wr wx:World} {s:Int->Bool} (h:SSt B w s wr) (hb:Below wr.heap.size wr wx):SSt B w s wx:=by
 have hlt:=h.lt
 have:=hb.size
 exact ⟨fun j hj=>((bcell hb).1 _ _ h.lt).trans (h.row j hj),loose B hb h.lt h.f0,after h.below hb (by omega),by omega⟩
theorem SSt.set {B:Nat} {w wr:World} {s:Int->Bool} (h:SSt B w s wr) (n:Nat):SSt B w (fun j=>s j || (n:Int) == j) (wr.setCell ⟨B,n,none⟩ (.bool true)):=by
 refine ⟨?_,by simpa [go_sem] using h.f0,h.below.setCell (by simp) _,by simpa using h.lt⟩
 intro j hj
 by_cases e:j=n
 ·subst e
  rw [World.cell?_setCell_same _ _ _ (h.row j hj)]
  simp
 ·rw [World.cell?_setCell_other _ _ _ _ (by intro e';simp only [Addr.mk.injEq] at e';omega),h.row j hj]
  have:((n:Int) == (j:Int))=false:=by simp;omega
  rw [this,Bool.or_false]
theorem idx3 (b0 b1 b2:Bool) (W:World):(Instr.index 189 (.agg #[.bool b0,.bool b1,.bool b2]) (.int .i64 0)).run Tryz.prog W=.ok (.bool b0) W∧(Instr.index 189 (.agg #[.bool b0,.bool b1,.bool b2]) (.int .i64 1)).run Tryz.prog W=.ok (.bool b1) W∧(Instr.index 189 (.agg #[.bool b0,.bool b1,.bool b2]) (.int .i64 2)).run Tryz.prog W=.ok (.bool b2) W:=by
 refine ⟨?_,?_,?_⟩ <;> simp [Instr.index,run_underlying Tryz.underlying189,asIntOf,go_sem]
theorem shops_any (la:Option Addr) (ll lc:Nat) (l:List (Int × Int)) (w:World) (hl:WantsAt w la l) (hll:l.length=ll) (hs:ll<2 ^ 62):
 Calls Tryz.prog 145 #[.slice la ll lc] w fun e w'=>(∃ga cap,e=.returned (.slice ga (shopsL l).length cap)∧NumsAt w' ga (shopsL l))∧Below w.heap.size w w':=by
 obtain ⟨i0,hi,hz0,hz1,hz2⟩:=info_parts infoInt
 go_enter Tryz.func145,Tryz.ntmps145
 go_wp2_with fail
 go_loopg [12] ll (fun g i wr=>∃k:Nat,k<=ll∧g=ll - k∧i=.int .i64 k∧SSt w.heap.size w (stands (l.take k)) wr)
 case atStart=>
  refine ⟨0,Nat.zero_le _,rfl,rfl,?_,by simp [go_sem],by go_grown,by simp⟩
  intro j hj
  have:j=0∨j=1∨j=2:=by omega
  rcases this with rfl | rfl | rfl <;> simp [go_sem,stands]
 case round=>
  obtain ⟨k,hk,rfl,rfl,hS⟩:=hrel
  have hlt0:=hS.lt
  by_cases hlt:k<ll
  ·obtain ⟨⟨c,d⟩,hkl⟩:∃x,l[k]?=some x:=⟨_,List.getElem?_eq_getElem (by omega)⟩
   obtain ⟨bl,ol,rfl,hbl,hcl,hdl⟩:=hl k c d hkl
   have j0:(0:Int)<=(k:Int):=by omega
   have j1:(k:Int)<(ll:Int):=by omega
   have j2:(ll:Int)<2 ^ 62:=by omega
   have hcl':wr.cell? ⟨bl,ol+k * 2,none⟩=some (.int .i64 c):=(hS.below.cell (p:=⟨bl,ol+k * 2,none⟩) hbl).trans hcl
   have hdl':wr.cell? ⟨bl,ol+k * 2+1,none⟩=some (.int .i64 d):=(hS.below.cell (p:=⟨bl,ol+k * 2+1,none⟩) hbl).trans hdl
   clear hcl hdl hl
   by_cases hc:shp c<0
   ·have hcm:shp c= -1:=by unfold shp at hc ⊢;repeat' split
                           all_goals first | rfl | (exfalso;revert hc;repeat' split
                                                    all_goals omega)
    have HCM:Hid _:=hcm
    clear hcm
    have hcq:∀j:Nat,¬shp c=(j:Int):=fun j=>by omega
    have HQ:Hid (∀j:Nat,stands (l.take (k+1)) (j:Int)=stands (l.take k) (j:Int)):=by
     intro j
     rw [stands_next hkl]
     have:(shp c == (j:Int))=false:=by simpa using hcq j
     rw [this,Bool.or_false]
    clear hcq hc
    go_wp2_with fail
    refine (shop_any _ _).mono ?_
    rw [HCM.out]
    rintro e w' ⟨rfl,rfl⟩
    go_wp2_with fail
    go_roundg (ll - (k+1))
    case measure=>omega
    case rel=>
     have hS2:=hS.next ((Below.refl _ _).alloc (Nat.le_refl _) (.cells #[.int .i64 c,.int .i64 d] 97))
     exact ⟨k+1,by omega,rfl,by simp,fun j hj=>by rw [HQ.out];exact hS2.row j hj,hS2.f0,hS2.below,hS2.lt⟩
   ·obtain ⟨n,hn⟩:=Int.eq_ofNat_of_zero_le (show 0<=shp c by omega)
    have hn3:n<3:=by have:=shp_lt c;omega
    have HQ:Hid (∀j:Nat,stands (l.take (k+1)) (j:Int)=(stands (l.take k) (j:Int) || (n:Int) == (j:Int))):=by
     intro j
     rw [stands_next hkl,hn]
    have HN:Hid _:=hn
    have rn:=hS.row n hn3
    have g0:=hS.f0
    clear hn hc
    go_wp2_with fail
    refine (shop_any _ _).mono ?_
    rw [HN.out]
    rintro e w' ⟨rfl,rfl⟩
    go_wp2_with fail
    go_roundg (ll - (k+1))
    case measure=>omega
    case rel=>
     have hS2:=(hS.set n).next ((Below.refl _ _).alloc (Nat.le_refl _) (.cells #[.int .i64 c,.int .i64 d] 97))
     exact ⟨k+1,by omega,rfl,by simp,fun j hj=>by rw [HQ.out];exact hS2.row j hj,hS2.f0,hS2.below,hS2.lt⟩
  ·have hkk:k=ll:=by omega
   subst hkk
   have a0:=hS.row 0 (by omega)
   have a1:=hS.row 1 (by omega)
   have a2:=hS.row 2 (by omega)
   rw [List.take_of_length_le (by omega)] at a0 a1 a2
   have HS:Hid _:=hS.below
   clear hS hl
   go_wp2_with fail
   go_loopg [7,25] 3 (fun g hv i wx=>∃m:Nat,m<=3∧g=3 - m∧i=.int .i64 m∧wx.ownsRow (w.heap.size+1) 3 1 hv (shopsTo l m).length ((shopsTo l m).map (Value.int .i64))∧Below w.heap.size w wx∧w.heap.size<wx.heap.size)
   case atStart=>exact ⟨0,Nat.zero_le _,rfl,rfl,World.ownsRow_nil _ _ _ _,HS.out,hlt0⟩
   case round=>
    obtain ⟨m,hm,rfl,rfl,hR,hB,hz⟩:=hrel
    clear a0 a1 a2
    have hq:m=0∨m=1∨m=2∨m=3:=by omega
    have hsl:=shopsTo_length l m
    have HSL:Hid _:=hsl
    clear hsl
    rcases hq with rfl | rfl | rfl | rfl
    ·by_cases hb:stands l (0:Nat)=true
     ·have HR:Hid (wr.ownsRow (w.heap.size+1) 3 1 u7 (shopsTo l 0).length ((shopsTo l 0).map (Value.int .i64))):=hR
      have HB:Hid _:=hB
      have HT:Hid _:=shopsTo_hit hb
      have hix:∀W:World,(Instr.index 189 (.agg #[.bool (stands l 0),.bool (stands l 1),.bool (stands l 2)]) (.int .i64 0)).run Tryz.prog W=.ok (.bool true) W:=fun W=>by rw [(idx3 _ _ _ W).1,show stands l 0=true from hb]
      clear hR hB hb
      go_wp2_with (at_builtin;refine wpList_append_own _ rfl (.tmp 30) (.tmp 32) 66 rfl (w.heap.size+1) 3 i0 (.int .i64 0) 1 8 Tryz.underlying66 hi hz0 hz1 hz2 rfl (by decide) _ _ _ rfl (HR.out.alloc _) ⟨wr.heap.size,0,none⟩ 1 1 [.int .i64 0] rfl rfl (num_new _ (by simp)) num_cell (by have:=HSL.out;unfold maxLen;omega) (by have:=HSL.out;omega) (by simp;omega) ?_;intro v7 w7 hown7 hgrow7 _)
      go_roundg (3 - (0+1))
      case measure=>omega
      case rel=>exact ⟨_,by omega,rfl,rfl,by rw [HT.out];simpa using hown7,own_below (HR.out.alloc _) hgrow7 (HB.out.alloc (Nat.le_of_lt hz) _) (by simp;omega) (Nat.le_succ _),by have:=hgrow7.size;simp at this;omega⟩
     ·have HT:Hid _:=shopsTo_miss (Bool.eq_false_iff.2 hb)
      have hix:∀W:World,(Instr.index 189 (.agg #[.bool (stands l 0),.bool (stands l 1),.bool (stands l 2)]) (.int .i64 0)).run Tryz.prog W=.ok (.bool false) W:=fun W=>by rw [(idx3 _ _ _ W).1,show stands l 0=false from Bool.eq_false_iff.2 hb]
      clear hb
      go_wp2_with fail
      go_roundg (3 - (0+1))
      case measure=>omega
      case rel=>exact ⟨0+1,by omega,rfl,by simp,by rw [HT.out];exact hR,hB,hz⟩
    ·by_cases hb:stands l (1:Nat)=true
     ·have HR:Hid (wr.ownsRow (w.heap.size+1) 3 1 u7 (shopsTo l 1).length ((shopsTo l 1).map (Value.int .i64))):=hR
      have HB:Hid _:=hB
      have HT:Hid _:=shopsTo_hit hb
      have hix:∀W:World,(Instr.index 189 (.agg #[.bool (stands l 0),.bool (stands l 1),.bool (stands l 2)]) (.int .i64 1)).run Tryz.prog W=.ok (.bool true) W:=fun W=>by rw [(idx3 _ _ _ W).2.1,show stands l 1=true from hb]
      clear hR hB hb
      go_wp2_with (at_builtin;refine wpList_append_own _ rfl (.tmp 30) (.tmp 32) 66 rfl (w.heap.size+1) 3 i0 (.int .i64 0) 1 8 Tryz.underlying66 hi hz0 hz1 hz2 rfl (by decide) _ _ _ rfl (HR.out.alloc _) ⟨wr.heap.size,0,none⟩ 1 1 [.int .i64 1] rfl rfl (num_new _ (by simp)) num_cell (by have:=HSL.out;unfold maxLen;omega) (by have:=HSL.out;omega) (by simp;omega) ?_;intro v7 w7 hown7 hgrow7 _)
      go_roundg (3 - (1+1))
      case measure=>omega
      case rel=>exact ⟨_,by omega,rfl,rfl,by rw [HT.out];simpa using hown7,own_below (HR.out.alloc _) hgrow7 (HB.out.alloc (Nat.le_of_lt hz) _) (by simp;omega) (Nat.le_succ _),by have:=hgrow7.size;simp at this;omega⟩
     ·have HT:Hid _:=shopsTo_miss (Bool.eq_false_iff.2 hb)
      have hix:∀W:World,(Instr.index 189 (.agg #[.bool (stands l 0),.bool (stands l 1),.bool (stands l 2)]) (.int .i64 1)).run Tryz.prog W=.ok (.bool false) W:=fun W=>by rw [(idx3 _ _ _ W).2.1,show stands l 1=false from Bool.eq_false_iff.2 hb]
      clear hb
      go_wp2_with fail
      go_roundg (3 - (1+1))
      case measure=>omega
      case rel=>exact ⟨1+1,by omega,rfl,by simp,by rw [HT.out];exact hR,hB,hz⟩
    ·by_cases hb:stands l (2:Nat)=true
     ·have HR:Hid (wr.ownsRow (w.heap.size+1) 3 1 u7 (shopsTo l 2).length ((shopsTo l 2).map (Value.int .i64))):=hR
      have HB:Hid _:=hB
      have HT:Hid _:=shopsTo_hit hb
      have hix:∀W:World,(Instr.index 189 (.agg #[.bool (stands l 0),.bool (stands l 1),.bool (stands l 2)]) (.int .i64 2)).run Tryz.prog W=.ok (.bool true) W:=fun W=>by rw [(idx3 _ _ _ W).2.2,show stands l 2=true from hb]
      clear hR hB hb
      go_wp2_with (at_builtin;refine wpList_append_own _ rfl (.tmp 30) (.tmp 32) 66 rfl (w.heap.size+1) 3 i0 (.int .i64 0) 1 8 Tryz.underlying66 hi hz0 hz1 hz2 rfl (by decide) _ _ _ rfl (HR.out.alloc _) ⟨wr.heap.size,0,none⟩ 1 1 [.int .i64 2] rfl rfl (num_new _ (by simp)) num_cell (by have:=HSL.out;unfold maxLen;omega) (by have:=HSL.out;omega) (by simp;omega) ?_;intro v7 w7 hown7 hgrow7 _)
      go_roundg (3 - (2+1))
      case measure=>omega
      case rel=>exact ⟨_,by omega,rfl,rfl,by rw [HT.out];simpa using hown7,own_below (HR.out.alloc _) hgrow7 (HB.out.alloc (Nat.le_of_lt hz) _) (by simp;omega) (Nat.le_succ _),by have:=hgrow7.size;simp at this;omega⟩
     ·have HT:Hid _:=shopsTo_miss (Bool.eq_false_iff.2 hb)
      have hix:∀W:World,(Instr.index 189 (.agg #[.bool (stands l 0),.bool (stands l 1),.bool (stands l 2)]) (.int .i64 2)).run Tryz.prog W=.ok (.bool false) W:=fun W=>by rw [(idx3 _ _ _ W).2.2,show stands l 2=false from Bool.eq_false_iff.2 hb]
      clear hb
      go_wp2_with fail
      go_roundg (3 - (2+1))
      case measure=>omega
      case rel=>exact ⟨2+1,by omega,rfl,by simp,by rw [HT.out];exact hR,hB,hz⟩
    ·go_wp2_with fail
     obtain ⟨ga,cap,rfl,hA,hlen⟩:=nums_of_own hR
     go_ret
     exact ⟨⟨ga,cap,rfl,hA⟩,hB⟩
def BoxAt (w:World) (b:Nat) (vs:List Value):Prop:=b<w.heap.size∧∀j v,vs[j]?=some v->w.cell? ⟨b,j,none⟩=some v
theorem BoxAt.next {w w1:World} {b:Nat} {vs:List Value} (h:BoxAt w b vs) (hb:Below w.heap.size w w1):BoxAt w1 b vs:=
 ⟨by have:=hb.size;have:=h.1;omega,fun j v hj=>((bcell hb).1 _ _ h.1).trans (h.2 j v hj)⟩
theorem BoxAt.new (w:World) (vs:List Value) (t:TypeId):BoxAt (w.alloc (.cells vs.toArray t)) w.heap.size vs:=
 ⟨by simp,fun j v hj=>by simpa [go_sem] using hj⟩
theorem pair_new (w:World) (vs us:List Value) (t u:TypeId):BoxAt ((w.alloc (.cells vs.toArray t)).alloc (.cells us.toArray u)) w.heap.size vs∧BoxAt ((w.alloc (.cells vs.toArray t)).alloc (.cells us.toArray u)) (w.heap.size+1) us∧Below w.heap.size w ((w.alloc (.cells vs.toArray t)).alloc (.cells us.toArray u)):=by
 refine ⟨(BoxAt.new w vs t).next ((Below.refl _ _).alloc (Nat.le_refl _) _),?_,((Below.refl _ _).alloc (Nat.le_refl _) _).alloc (by simp) _⟩
 have:=BoxAt.new (w.alloc (.cells vs.toArray t)) us u
 simpa using this
theorem append_where {P:Program} {w:World} {base:Nat} {t ty e:TypeId} {i:TypeInfo} {z:Value} {size bytes:Nat} (ht:P.underlying t=some (.slice e)) (hi:P.info? e=some i) (hz:i.zero=some z) (hsize:i.size=size) (hby:i.bytes=bytes)
 {v:Value} {n:Nat} {xs:List Value} (hown:w.ownsRow base e size v n xs) {a:Addr} {m c:Nat} {news:List Value} (hl:news.length=m * size) (hnews:∀j u,news[j]?=some u->w.cell? (a.add j)=some u) (h1:∀u∈news,u.oneCell'=true)
 (h63:n+m<=maxLen) (hbytes:(n+m) * bytes<=140737488355328) (hm:0<m) {v':Value} {w':World} (hr:(Builtin.append_ #[t,t] ty #[v,.slice (some a) m c]).run P w=.ok v' w'):
 ∀k,v'.ownBlock=some k->v.ownBlock=some k∨k=w.heap.size:=by
 subst hsize
 subst hby
 have hsmall:n+m<=9223372036854775807:=by simp only [maxLen] at h63;omega
 intro k hk
 rcases hown.2 with ⟨rfl,rfl⟩ | ⟨g,cap,cur,rfl,hbg,hg,hnc,hcm,hcs,htake⟩
 ·have q:=run_append_nil (P:=P) w t ty e i z ht hi hz a m c news hl hnews hm (by omega) (by have hb:=hbytes;simp only [Nat.zero_add] at hb;omega)
  rw [q] at hr
  injection hr with e1 _
  rw [<-e1] at hk
  right
  simpa [Value.ownBlock] using hk.symm
 ·by_cases hroom:n+m<=cap
  ·have hfit:n * i.size+news.length<=cur.size:=by rw [hl,hcs,<-Nat.add_mul];exact Nat.mul_le_mul_right _ hroom
   have q:=run_append_room (P:=P) w t ty e i ht hi g n cap cur hg a m c news hl hnews h1 hroom hfit
   rw [q] at hr
   injection hr with e1 _
   rw [<-e1] at hk
   left
   simpa [Value.ownBlock] using hk
  ·have q:=run_append_grow (P:=P) w t ty e i z ht hi hz ⟨g,0,none⟩ n cap xs hown.1 (hown.cells (g:=g) rfl) a m c news hl hnews (by omega) (by omega) (growslice_fits (by omega) hbytes)
   rw [q] at hr
   injection hr with e1 _
   rw [<-e1] at hk
   right
   simpa [Value.ownBlock] using hk.symm
theorem append_two {P:Program} {w:World} {o:Oper} {a:Act} {K:Act->World->Prop} {Q:Exit->Act->World->Prop} (s x:Operand) (t:TypeId)
 (ho:o.op=.call { callee:=.builtin .append,args:=#[s,x],argTypes:=#[t,t] })
 (base:Nat) (e:TypeId) (i:TypeInfo) (z:Value) (size bytes:Nat) (ht:P.underlying t=some (.slice e)) (hi:P.info? e=some i) (hz:i.zero=some z)
 (hsize:i.size=size) (hby:i.bytes=bytes) (hzs:z.cells.size=size) (hsz:0<size)
 (v:Value) (n:Nat) (xs:List Value) (hs:a.eval s=v) (hown:w.ownsRow base e size v n xs)
 (ad:Addr) (m c:Nat) (news:List Value) (hx:a.eval x=.slice (some ad) m c) (hl:news.length=m * size) (hnews:∀j u,news[j]?=some u->w.cell? (ad.add j)=some u) (h1:∀u∈news,u.oneCell'=true)
 (h63:n+m<=maxLen) (hbytes:(n+m) * bytes<=140737488355328) (hbase:base<=w.heap.size) (hm:0<m)
 (h:∀v' w',w'.ownsRow base e size v' (n+m) (xs++news)->w.grownBy w' v.ownBlock->(∀k,v'.ownBlock=some k->v.ownBlock=some k∨k=w.heap.size)->K (a.put o.dst v') w'):o.wp P a w K Q:=by
 obtain ⟨v',w',hr,h2,h3,_⟩:=run_append_own (P:=P) w base t o.type e i z size bytes ht hi hz hsize hby hzs hsz v n xs hown ad m c news hl hnews h1 h63 hbytes hbase
 have h4:=append_where ht hi hz hsize hby hown hl hnews h1 h63 hbytes hm hr
 unfold Oper.wp execOp
 simp only [ho,resolve,invoke,builtin,Sem.run_bind,Sem.run_pure,Result.andThen_ok,List.map_toArray,List.map_cons,List.map_nil,hs,hx,hr]
 exact h v' w' h2 h3 h4
theorem list_append_two {P:Program} {w:World} {ops:Array Oper} {rest:List Oper} {o:Oper} {a:Act} {Q:Exit->Act->World->Prop} (hgd:o.guard=none) (s x:Operand) (t:TypeId)
 (ho:o.op=.call { callee:=.builtin .append,args:=#[s,x],argTypes:=#[t,t] })
 (base:Nat) (e:TypeId) (i:TypeInfo) (z:Value) (size bytes:Nat) (ht:P.underlying t=some (.slice e)) (hi:P.info? e=some i) (hz:i.zero=some z)
 (hsize:i.size=size) (hby:i.bytes=bytes) (hzs:z.cells.size=size) (hsz:0<size)
 (v:Value) (n:Nat) (xs:List Value) (hs:a.eval s=v) (hown:w.ownsRow base e size v n xs)
 (ad:Addr) (m c:Nat) (news:List Value) (hx:a.eval x=.slice (some ad) m c) (hl:news.length=m * size) (hnews:∀j u,news[j]?=some u->w.cell? (ad.add j)=some u) (h1:∀u∈news,u.oneCell'=true)
 (h63:n+m<=maxLen) (hbytes:(n+m) * bytes<=140737488355328) (hbase:base<=w.heap.size) (hm:0<m)
 (h:∀v' w',w'.ownsRow base e size v' (n+m) (xs++news)->w.grownBy w' v.ownBlock->(∀k,v'.ownBlock=some k->v.ownBlock=some k∨k=w.heap.size)->wpList P ops Q rest (a.put o.dst v') w'):wpList P ops Q (o :: rest) a w:=
 wpList_plain hgd fun _ hK=>append_two s x t ho base e i z size bytes ht hi hz hsize hby hzs hsz v n xs hs hown ad m c news hx hl hnews h1 h63 hbytes hbase hm fun v' w' h2 h3 h4=>hK _ _ (h v' w' h2 h3 h4)
theorem step_append_two {P:Program} {w:World} {ops:Array Oper} {o:Oper} {a:Act} {K:Act->World->Prop} {Q:Exit->Act->World->Prop} {E:Prop} (hgd:o.guard=none) (s x:Operand) (t:TypeId)
 (ho:o.op=.call { callee:=.builtin .append,args:=#[s,x],argTypes:=#[t,t] })
 (base:Nat) (e:TypeId) (i:TypeInfo) (z:Value) (size bytes:Nat) (ht:P.underlying t=some (.slice e)) (hi:P.info? e=some i) (hz:i.zero=some z)
 (hsize:i.size=size) (hby:i.bytes=bytes) (hzs:z.cells.size=size) (hsz:0<size)
 (v:Value) (n:Nat) (xs:List Value) (hs:a.eval s=v) (hown:w.ownsRow base e size v n xs)
 (ad:Addr) (m c:Nat) (news:List Value) (hx:a.eval x=.slice (some ad) m c) (hl:news.length=m * size) (hnews:∀j u,news[j]?=some u->w.cell? (ad.add j)=some u) (h1:∀u∈news,u.oneCell'=true)
 (h63:n+m<=maxLen) (hbytes:(n+m) * bytes<=140737488355328) (hbase:base<=w.heap.size) (hm:0<m)
 (h:∀v' w',w'.ownsRow base e size v' (n+m) (xs++news)->w.grownBy w' v.ownBlock->(∀k,v'.ownBlock=some k->v.ownBlock=some k∨k=w.heap.size)->K (a.put o.dst v') w'):if Region.wanted o (yielded ops a.tmps)=true then Oper.wp P o a w K Q else E:=by
 have hw:Region.wanted o (yielded ops a.tmps)=true:=by simp [Region.wanted,hgd]
 rw [if_pos hw]
 exact append_two s x t ho base e i z size bytes ht hi hz hsize hby hzs hsz v n xs hs hown ad m c news hx hl hnews h1 h63 hbytes hbase hm h
open Go.ChangeShapes Go.WideShapes Go.ChangeAt Go.RowKit Go.Deep
end Go.Proofs.YtbgnajcmhmpjlacGreatDoor
