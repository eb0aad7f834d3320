/- The document's desk hears a line: the second switch, all but holds. -/
import Derived.Test.YtbgnajcmhmpjlacGreatDoorH3
set_option maxRecDepth 100000
set_option maxHeartbeats 100000000
namespace Go.Proofs.YtbgnajcmhmpjlacGreatDoor
open Go.RowKit
theorem line_tell (w0 w:World) (Z:Nat->Prop) (r mk:Nat) (ws:Nat->Int) (l:List UInt8) (T:Twn) (s:ByteArray) (LR:List UInt8 × Twn) (wd:ByteArray) (ns:List Int) (k Bl Bn bl ol cap:Nat) (na:Option Addr) (nc:Nat) (W:World) (Bx:Nat) (u7 u8 u29 u30 u31 u32 u33 u34 u35 u36 u37 u38 u39 u40 u41 u42 u43 u44 u45 u46 u47 u48 u49 u50 u51 u52 u53 u54 u55:Value) (h:LX w0 w Z r mk ws l T LR wd ns k Bl Bn bl ol cap na nc W Bx) (u11 u58 u59 u60 u61 u62 u63 u64 u65 u66 u67 u68 u69 u70 u71 u72 u73 u74 u75 u76 u77 u78 u79 u80 u81 u82 u83 u84 u85 u86 u87 u88 u89 u90 u91 u92 u93 u94 u95 u96 u97 u98 u99 u100 u101 u102 u103 u104 u105 u106 u107 u108 u109 u110 u111 u112 u113 u114 u115 u116 u117 u118 u119 u120 u121 u122 u123 u124 u125 u126 u127 u128 u129 u130 u131 u132 u133 u134 u135 u136 u137 u138:Value) (hn:NoStep wd k) (e_holds:¬(wd=⟨#[104,111,108,100,115]⟩∧k=1)):line2.b w0 w Z r mk ws l T s LR wd ns k Bl Bn bl ol cap na nc W Bx u7 u8 u29 u30 u31 u32 u33 u34 u35 u36 u37 u38 u39 u40 u41 u42 u43 u44 u45 u46 u47 u48 u49 u50 u51 u52 u53 u54 u55 W u11 u58 u59 u60 u61 u62 u63 u64 u65 u66 u67 u68 u69 u70 u71 u72 u73 u74 u75 u76 u77 u78 u79 u80 u81 u82 u83 u84 u85 u86 u87 u88 u89 u90 u91 u92 u93 u94 u95 u96 u97 u98 u99 u100 u101 u102 u103 u104 u105 u106 u107 u108 u109 u110 u111 u112 u113 u114 u115 u116 u117 u118 u119 u120 u121 u122 u123 u124 u125 u126 u127 u128 u129 u130 u131 u132 u133 u134 u135 u136 u137 u138:=by
 have HT:=hid h.ht
 have HD:=hid h.hd
 have HR:=hid h.hr
 have HObe:=hid h.ob
 have HYl:=hid h.yl
 have HNl:=hid h.nl
 have HBW:=hid h.bw
 have HNx:=hid h.nx
 have HXo:=hid h.xo
 have HR2:Hid (Room (l.length+2000)):=h.hr.le (by omega)
 have c0:=h.c0
 have c1:=h.c1
 have y0:=h.y0
 have x0:=h.x0
 have x1:=h.x1
 have x2:=h.x2
 have xf:=h.xf
 have hBx:=h.bx
 have HNs:=hid hn
 have HN_holds:=hid e_holds
 clear h hn e_holds
 unfold line2
 dsimp -zeta only
 intro Q1 K1 a1
 go_upto_region 38 with fail
 by_cases e_calm:wd=⟨#[99,97,108,109]⟩∧k=0
 ·have HE1:=hid e_calm
  clear e_calm
  obtain rfl:ns=[]:=List.eq_nil_of_length_eq_zero (by have:=HE1.out.2;have:=HNl.out;omega)
  have HO:Hid (obeyR ws T wd.data.toList []=some (sayN (bytes "calm") [((calmR 20 0 T).1:Int)],(calmR 20 0 T).2)):=by show _=_;rw [HE1.out.1];unfold obeyR;rw [if_neg (by decide)];show aloneR ws T _=_;unfold aloneR;rw [if_neg (by decide),if_neg (by decide),if_pos (by decide)]
  have b_calm:isB wd k ⟨#[99,97,108,109]⟩ 0=true:=by rw [isB_eq,HE1.out.1,HE1.out.2];decide
  have HMk:=hid HD.out.bx.1
  have hrl:r<w.heap.size:=(bx_cell HMk.out).2.2.1
  have r1:W.cell? ⟨r,1,none⟩=some (.pointer (some ⟨mk,0,none⟩)):=(HBW.out.cell (p:=⟨r,1,none⟩) hrl).trans (bx_cell HMk.out).2.1
  have HDW:Hid (ELv w0 Z W r mk ws l T):=HD.out.next HBW.out
  have HTw:Hid (∀W:World,Below w0.heap.size w0 W->Tied W):=fun W hW=>HT.out.below hW
  have HBw:Hid (Below w.heap.size w W):=HBW.out
  have HLR:Hid (LR=(sayN (bytes "calm") [((calmR 20 0 T).1:Int)],(calmR 20 0 T).2)):=by show _=_;rw [HObe.out,HO.out];rfl
  have HC:=ecalm_elv HDW.out
  have HM:Hid (Sm ((calmR 20 0 T).1:Int)):=calm_tell HD.out.full.full
  clear HObe HO HNx HXo HD HMk x1 x2 xf
  generalize (calmR 20 0 T).2=T' at *
  generalize ((calmR 20 0 T).1:Int)=n at *
  have HSx:Hid (sayN (bytes "calm") [n]=([99,97,108,109,32]++Lib.itoa n)++[10]):=sayN_one _ _
  have hsz:(bs (Lib.itoa n)).size<=7:=itoa_short HM.out.1 HM.out.2
  have HAp:=hid (bs_append [99,97,108,109,32] (Lib.itoa n))
  have HLn:Hid (([99,97,108,109,32]++Lib.itoa n).length<=1000):=by
   have e2:(bs (Lib.itoa n)).size=(Lib.itoa n).length:=rfl
   show _<=_
   rw [List.length_append]
   simp only [List.length_cons,List.length_nil]
   omega
  have HN:Hid (∀W6,Below w0.heap.size w0 W6->Calls Tryz.prog 34 #[.int .i64 n] W6 fun e w'=>e=.returned (.string (bs (Lib.itoa n)))∧Below W6.heap.size W6 w'):=fun W6 hW=>enum_any n HM.out.i64.1 HM.out.i64.2 W6 (HTw.out W6 hW)
  have HCs:Hid (∀W6 W8 X,ELv w0 Z W6 r mk ws l T'->Save (fun k=>¬Z k) W W6->Below W6.heap.size W6 W8->X=bs ([99,97,108,109,32]++Lib.itoa n)->Calls Tryz.prog 35 #[.pointer (some ⟨r,0,none⟩),.string X] W8 fun e w'=>e=.returned (.tuple #[])∧ELv w0 Z w' r mk ws (l++sayN (bytes "calm") [n]) T'∧Save (fun k=>¬Z k) W w'∧Save (fun k=>k=r) W8 w'):=fun W6 W8 X h6 hs6 hW hX=>by
   subst hX
   refine (esay_elv2 ([99,97,108,109,32]++Lib.itoa n) (h6.next hW) HLn.out HR2.out).mono ?_
   rintro e w' ⟨rfl,k1,k2,k3⟩
   rw [HSx.out]
   exact ⟨rfl,k1,hs6.trans ((Save.of_below hW).trans k2 (fun _ _ hj=>hj)) (fun _ _ hj=>hj),k3⟩
  generalize bs (Lib.itoa n)=sv at HN hsz HAp
  go_wp2_with (first | (go_at_call 36;refine Calls.mono (eis_any c0 y0 c1 _ _) ?_;rintro e w5 ⟨rfl,hw5⟩;subst w5) | (go_at_call 38;refine Calls.mono HC ?_;rintro e w6 ⟨rfl,k1,k2⟩;have HK6:=hid (And.intro k1 k2);clear k1 k2) | (go_at_call 34;refine Calls.mono (HN.out _ HK6.out.1.below) ?_;rintro e w8 ⟨rfl,hb8⟩;have HB8:=hid hb8;clear hb8) | (go_at_call 35;refine Calls.mono (HCs.out _ _ _ HK6.out.1 HK6.out.2 HB8.out HAp.out) ?_;rintro e w7 ⟨rfl,k1,k2,k3⟩;have HK7:=hid (And.intro k1 k2);clear k1 k2 k3))
  all_goals (try (exfalso;omega))
  go_returns
  rw [HLR.out]
  exact ⟨rfl,HK7.out.1,(Save.of_below HBw.out).trans HK7.out.2 (fun _ _ hj=>hj)⟩
 have n_calm:isB wd k ⟨#[99,97,108,109]⟩ 0=false:=isB_no e_calm
 have HN_calm:=hid e_calm
 clear e_calm
 go_upto_region 40 with (go_at_call 36;refine Calls.mono (eis_any c0 y0 c1 _ _) ?_;rintro e w5 ⟨rfl,hw5⟩;subst w5)
 clear n_calm
 by_cases e_world:wd=⟨#[119,111,114,108,100]⟩∧k=0
 ·have HE1:=hid e_world
  clear e_world
  obtain rfl:ns=[]:=List.eq_nil_of_length_eq_zero (by have:=HE1.out.2;have:=HNl.out;omega)
  have HO:Hid (obeyR ws T wd.data.toList []=some (sayN (bytes "world") (six6 (valT T)),T)):=by show _=_;rw [HE1.out.1];unfold obeyR;rw [if_neg (by decide)];show aloneR ws T _=_;unfold aloneR;rw [if_neg (by decide),if_neg (by decide),if_neg (by decide),if_pos (by decide)]
  have b_world:isB wd k ⟨#[119,111,114,108,100]⟩ 0=true:=by rw [isB_eq,HE1.out.1,HE1.out.2];decide
  have HMk:=hid HD.out.bx.1
  have hrl:r<w.heap.size:=(bx_cell HMk.out).2.2.1
  have r1:W.cell? ⟨r,1,none⟩=some (.pointer (some ⟨mk,0,none⟩)):=(HBW.out.cell (p:=⟨r,1,none⟩) hrl).trans (bx_cell HMk.out).2.1
  have HDW:Hid (ELv w0 Z W r mk ws l T):=HD.out.next HBW.out
  have HTw:Hid (∀W:World,Below w0.heap.size w0 W->Tied W):=fun W hW=>HT.out.below hW
  have HBw:Hid (Below w.heap.size w W):=HBW.out
  have HLR:Hid (LR=(sayN (bytes "world") (six6 (valT T)),T)):=by show _=_;rw [HObe.out,HO.out];rfl
  have HM:Hid (∀k,k<6->Sm (valT T k)):=fun k hk=>(world_tell HD.out.full.full hk).1
  have HC:Hid (Calls Tryz.prog 39 #[.pointer (some ⟨mk,0,none⟩)] W fun e w'=>e=.returned (wldV (valT T))∧Below W.heap.size W w'):=by
   obtain ⟨O,h1,_,_⟩:=HDW.out.mkt
   exact mworld_any h1
  have HCl:Hid (∀W6,Below W.heap.size W W6->Calls Tryz.prog 40 #[.pointer (some ⟨r,0,none⟩),.string ⟨#[119,111,114,108,100]⟩,.slice (some ⟨W6.heap.size,0,none⟩) 6 6] (W6.alloc (.cells #[.int .i64 ((valT T) 0),.int .i64 ((valT T) 1),.int .i64 ((valT T) 2),.int .i64 ((valT T) 3),.int .i64 ((valT T) 4),.int .i64 ((valT T) 5)] 40)) fun e w'=>e=.returned (.tuple #[])∧ELv w0 Z w' r mk ws (l++sayN (bytes "world") (six6 (valT T))) T∧Save (fun k=>¬Z k) W w'):=fun W6 hW=>by
   have hg:Below W.heap.size W (W6.alloc (.cells #[.int .i64 ((valT T) 0),.int .i64 ((valT T) 1),.int .i64 ((valT T) 2),.int .i64 ((valT T) 3),.int .i64 ((valT T) 4),.int .i64 ((valT T) 5)] 40)):=after hW (by go_grown) hW.size
   refine (elist_elv (bytes "world") (six6 (valT T)) (lc:=6) HT.out (HDW.out.next hg) (nums_row (by simp) (fun k n hk=>by
    match k,hk with
    | 0,hk=>simp [six6] at hk;subst hk;simp [go_sem]
    | 1,hk=>simp [six6] at hk;subst hk;simp [go_sem]
    | 2,hk=>simp [six6] at hk;subst hk;simp [go_sem]
    | 3,hk=>simp [six6] at hk;subst hk;simp [go_sem]
    | 4,hk=>simp [six6] at hk;subst hk;simp [go_sem]
    | 5,hk=>simp [six6] at hk;subst hk;simp [go_sem]
    | k+6,hk=>simp [six6] at hk)) (fun n hn=>?_) (by simp [six6]) (by decide) HR2.out).mono ?_
   ·simp only [six6,List.mem_cons,List.mem_nil_iff,or_false] at hn
    rcases hn with q | q | q | q | q | q <;> rw [q] <;> exact HM.out _ (by omega)
   ·rintro e w' ⟨rfl,k1,k2,_⟩
    exact ⟨rfl,k1,(Save.of_below hg).trans k2 (fun _ _ hj=>hj)⟩
  clear HObe HO HNx HXo HD HMk x1 x2 xf
  unfold wldV at HC
  go_wp2_with (first | (go_at_call 36;refine Calls.mono (eis_any c0 y0 c1 _ _) ?_;rintro e w5 ⟨rfl,hw5⟩;subst w5) | (go_at_call 39;refine Calls.mono HC.out ?_;rintro e w6 ⟨rfl,hb6⟩;have HB6:=hid hb6;clear hb6) | (go_at_call 40;refine Calls.mono (HCl.out _ HB6.out) ?_;rintro e w7 ⟨rfl,k1,k2⟩;have HK7:=hid (And.intro k1 k2);clear k1 k2))
  go_returns
  rw [HLR.out]
  exact ⟨rfl,HK7.out.1,(Save.of_below HBw.out).trans HK7.out.2 (fun _ _ hj=>hj)⟩
 have n_world:isB wd k ⟨#[119,111,114,108,100]⟩ 0=false:=isB_no e_world
 have HN_world:=hid e_world
 clear e_world
 go_upto_region 43 with (go_at_call 36;refine Calls.mono (eis_any c0 y0 c1 _ _) ?_;rintro e w5 ⟨rfl,hw5⟩;subst w5)
 clear n_world
 by_cases e_serial:wd=⟨#[115,101,114,105,97,108]⟩∧k=0
 ·have HE1:=hid e_serial
  clear e_serial
  obtain rfl:ns=[]:=List.eq_nil_of_length_eq_zero (by have:=HE1.out.2;have:=HNl.out;omega)
  have HO:Hid (obeyR ws T wd.data.toList []=some (sayN (bytes "world") (six6 (curR ws T)),T)):=by show _=_;rw [HE1.out.1];unfold obeyR;rw [if_neg (by decide)];show aloneR ws T _=_;unfold aloneR;rw [if_neg (by decide),if_neg (by decide),if_neg (by decide),if_neg (by decide),if_pos (by decide)]
  have b_serial:isB wd k ⟨#[115,101,114,105,97,108]⟩ 0=true:=by rw [isB_eq,HE1.out.1,HE1.out.2];decide
  have HMk:=hid HD.out.bx.1
  have hrl:r<w.heap.size:=(bx_cell HMk.out).2.2.1
  have r1:W.cell? ⟨r,1,none⟩=some (.pointer (some ⟨mk,0,none⟩)):=(HBW.out.cell (p:=⟨r,1,none⟩) hrl).trans (bx_cell HMk.out).2.1
  have HDW:Hid (ELv w0 Z W r mk ws l T):=HD.out.next HBW.out
  have HTw:Hid (∀W:World,Below w0.heap.size w0 W->Tied W):=fun W hW=>HT.out.below hW
  have HBw:Hid (Below w.heap.size w W):=HBW.out
  have HLR:Hid (LR=(sayN (bytes "world") (six6 (curR ws T)),T)):=by show _=_;rw [HObe.out,HO.out];rfl
  have HM:Hid (∀k,k<6->Sm (curR ws T k)):=fun k hk=>(world_tell HD.out.full.full hk).2
  have HC:Hid (Calls Tryz.prog 41 #[.pointer (some ⟨mk,0,none⟩)] W fun e w'=>e=.returned (.tuple #[wldV (curR ws T),.int .i64 0])∧Below W.heap.size W w'):=by
   obtain ⟨O,h1,_,_⟩:=HDW.out.mkt
   exact mserial_any h1 HD.out.full.full
  have HCl:Hid (∀W6,Below W.heap.size W W6->Calls Tryz.prog 40 #[.pointer (some ⟨r,0,none⟩),.string ⟨#[119,111,114,108,100]⟩,.slice (some ⟨W6.heap.size,0,none⟩) 6 6] (W6.alloc (.cells #[.int .i64 ((curR ws T) 0),.int .i64 ((curR ws T) 1),.int .i64 ((curR ws T) 2),.int .i64 ((curR ws T) 3),.int .i64 ((curR ws T) 4),.int .i64 ((curR ws T) 5)] 40)) fun e w'=>e=.returned (.tuple #[])∧ELv w0 Z w' r mk ws (l++sayN (bytes "world") (six6 (curR ws T))) T∧Save (fun k=>¬Z k) W w'):=fun W6 hW=>by
   have hg:Below W.heap.size W (W6.alloc (.cells #[.int .i64 ((curR ws T) 0),.int .i64 ((curR ws T) 1),.int .i64 ((curR ws T) 2),.int .i64 ((curR ws T) 3),.int .i64 ((curR ws T) 4),.int .i64 ((curR ws T) 5)] 40)):=after hW (by go_grown) hW.size
   refine (elist_elv (bytes "world") (six6 (curR ws T)) (lc:=6) HT.out (HDW.out.next hg) (nums_row (by simp) (fun k n hk=>by
    match k,hk with
    | 0,hk=>simp [six6] at hk;subst hk;simp [go_sem]
    | 1,hk=>simp [six6] at hk;subst hk;simp [go_sem]
    | 2,hk=>simp [six6] at hk;subst hk;simp [go_sem]
    | 3,hk=>simp [six6] at hk;subst hk;simp [go_sem]
    | 4,hk=>simp [six6] at hk;subst hk;simp [go_sem]
    | 5,hk=>simp [six6] at hk;subst hk;simp [go_sem]
    | k+6,hk=>simp [six6] at hk)) (fun n hn=>?_) (by simp [six6]) (by decide) HR2.out).mono ?_
   ·simp only [six6,List.mem_cons,List.mem_nil_iff,or_false] at hn
    rcases hn with q | q | q | q | q | q <;> rw [q] <;> exact HM.out _ (by omega)
   ·rintro e w' ⟨rfl,k1,k2,_⟩
    exact ⟨rfl,k1,(Save.of_below hg).trans k2 (fun _ _ hj=>hj)⟩
  clear HObe HO HNx HXo HD HMk x1 x2 xf
  unfold wldV at HC
  go_wp2_with (first | (go_at_call 36;refine Calls.mono (eis_any c0 y0 c1 _ _) ?_;rintro e w5 ⟨rfl,hw5⟩;subst w5) | (go_at_call 41;refine Calls.mono HC.out ?_;rintro e w6 ⟨rfl,hb6⟩;have HB6:=hid hb6;clear hb6) | (go_at_call 40;refine Calls.mono (HCl.out _ HB6.out) ?_;rintro e w7 ⟨rfl,k1,k2⟩;have HK7:=hid (And.intro k1 k2);clear k1 k2))
  go_returns
  rw [HLR.out]
  exact ⟨rfl,HK7.out.1,(Save.of_below HBw.out).trans HK7.out.2 (fun _ _ hj=>hj)⟩
 have n_serial:isB wd k ⟨#[115,101,114,105,97,108]⟩ 0=false:=isB_no e_serial
 have HN_serial:=hid e_serial
 clear e_serial
 go_upto_region 48 with (go_at_call 36;refine Calls.mono (eis_any c0 y0 c1 _ _) ?_;rintro e w5 ⟨rfl,hw5⟩;subst w5)
 clear n_serial
 by_cases e_state:wd=⟨#[115,116,97,116,101]⟩∧k=1
 ·have HE1:=hid e_state
  clear e_state
  obtain ⟨n0,rfl⟩:∃n0,ns=[n0]:=List.length_eq_one_iff.1 (by have:=HE1.out.2;have:=HNl.out;omega)
  have HO:Hid (obeyR ws T wd.data.toList [n0]=some (sayN (bytes "state") [stR T.B n0],T)):=by show _=_;rw [HE1.out.1];unfold obeyR;rw [if_neg (by decide)];show withR T _ n0=_;unfold withR;rw [if_neg (by decide),if_neg (by decide),if_neg (by decide),if_neg (by decide),if_neg (by decide),if_pos (by decide)]
  have b_state:isB wd k ⟨#[115,116,97,116,101]⟩ 1=true:=by rw [isB_eq,HE1.out.1,HE1.out.2];decide
  obtain ⟨bn,on,hna,hbn,yn'⟩:=HNx.out 0 n0 rfl
  have yn:W.cell? ⟨bn,on,none⟩=some (.int .i64 n0):=yn'
  clear yn'
  have hbnx:bn<Bx:=(HXo.out.2.2.2.2.1 _ hna).2
  have hbnw:w.heap.size<=bn:=(HXo.out.2.2.2.2.1 _ hna).1
  subst hna
  have hk0:0<k:=by have:=HE1.out.2;omega
  have HMk:=hid HD.out.bx.1
  have hrl:r<w.heap.size:=(bx_cell HMk.out).2.2.1
  have r1:W.cell? ⟨r,1,none⟩=some (.pointer (some ⟨mk,0,none⟩)):=(HBW.out.cell (p:=⟨r,1,none⟩) hrl).trans (bx_cell HMk.out).2.1
  have HDW:Hid (ELv w0 Z W r mk ws l T):=HD.out.next HBW.out
  have HTw:Hid (∀W:World,Below w0.heap.size w0 W->Tied W):=fun W hW=>HT.out.below hW
  have HBw:Hid (Below w.heap.size w W):=HBW.out
  have HLR:Hid (LR=(sayN (bytes "state") [stR T.B n0],T)):=by show _=_;rw [HObe.out,HO.out];rfl
  have HM:Hid (Sm (stR T.B n0)):=state_tell HD.out.full.full.brk n0
  have HC:Hid (∀W1,Below W.heap.size W W1->Calls Tryz.prog 42 #[.pointer (some ⟨mk,0,none⟩),.int .i64 n0] W1 fun e w'=>e=.returned (.int .i64 (stR T.B n0))∧w'=W1):=fun W1 hW=>by
   obtain ⟨O,h1,_,_⟩:=(HDW.out.next hW).mkt
   obtain ⟨Ob,hB,_,_⟩:=h1.book
   exact qstate_any Ob T.B mk n0 W1 hB HD.out.full.full.brk.len
  have hrn:r ≠ Bn∧r ≠ bn:=⟨by have:=HXo.out.2.2.2.2.2;omega,by omega⟩
  have hrW:r<W.heap.size:=Nat.lt_of_lt_of_le hrl HBw.out.size
  have hnW:Bn<W.heap.size∧bn<W.heap.size:=⟨Nat.lt_trans HXo.out.2.2.1 hBx,Nat.lt_trans hbnx hBx⟩
  have HKb:Hid (∀w',Below W.heap.size W w'->w'.cell? ⟨r,1,none⟩=some (.pointer (some ⟨mk,0,none⟩))∧w'.cell? ⟨Bn,0,none⟩=some (.slice (some ⟨bn,on,none⟩) k nc)∧w'.cell? ⟨bn,on,none⟩=some (.int .i64 n0)):=fun w' hb'=>⟨((bcell hb').1 _ _ hrW).trans r1,((bcell hb').1 _ _ hnW.1).trans c1,((bcell hb').1 _ _ hnW.2).trans yn⟩
  have HKs:Hid (∀w6 w' l',Below W.heap.size W w6->ELv w0 Z w' r mk ws l' T->Save (fun k=>k=r) w6 w'->w'.cell? ⟨r,1,none⟩=some (.pointer (some ⟨mk,0,none⟩))∧w'.cell? ⟨Bn,0,none⟩=some (.slice (some ⟨bn,on,none⟩) k nc)∧w'.cell? ⟨bn,on,none⟩=some (.int .i64 n0)):=fun w6 w' l' hb hE hs=>⟨(bx_cell hE.bx.1).2.1,(hs.cell (p:=⟨Bn,0,none⟩) (Nat.lt_of_lt_of_le hnW.1 hb.size) (fun e=>hrn.1 e.symm)).trans (((bcell hb).1 _ _ hnW.1).trans c1),(hs.cell (p:=⟨bn,on,none⟩) (Nat.lt_of_lt_of_le hnW.2 hb.size) (fun e=>hrn.2 e.symm)).trans (((bcell hb).1 _ _ hnW.2).trans yn)⟩
  clear HObe HO HNx HXo HD HMk x1 x2 xf
  generalize stR T.B n0=n at *
  obtain ⟨T',hT'⟩:∃T',T'=T:=⟨_,rfl⟩
  have HSx:Hid (sayN (bytes "state") [n]=([115,116,97,116,101,32]++Lib.itoa n)++[10]):=sayN_one _ _
  have hsz:(bs (Lib.itoa n)).size<=7:=itoa_short HM.out.1 HM.out.2
  have HAp:=hid (bs_append [115,116,97,116,101,32] (Lib.itoa n))
  have HLn:Hid (([115,116,97,116,101,32]++Lib.itoa n).length<=1000):=by
   have e2:(bs (Lib.itoa n)).size=(Lib.itoa n).length:=rfl
   show _<=_
   rw [List.length_append]
   simp only [List.length_cons,List.length_nil]
   omega
  have HN:Hid (∀W6,Below w0.heap.size w0 W6->Calls Tryz.prog 34 #[.int .i64 n] W6 fun e w'=>e=.returned (.string (bs (Lib.itoa n)))∧Below W6.heap.size W6 w'):=fun W6 hW=>enum_any n HM.out.i64.1 HM.out.i64.2 W6 (HTw.out W6 hW)
  have HCs:Hid (∀W6 W8 X,ELv w0 Z W6 r mk ws l T->Save (fun k=>¬Z k) W W6->Below W6.heap.size W6 W8->X=bs ([115,116,97,116,101,32]++Lib.itoa n)->Calls Tryz.prog 35 #[.pointer (some ⟨r,0,none⟩),.string X] W8 fun e w'=>e=.returned (.tuple #[])∧ELv w0 Z w' r mk ws (l++sayN (bytes "state") [n]) T∧Save (fun k=>¬Z k) W w'∧Save (fun k=>k=r) W8 w'):=fun W6 W8 X h6 hs6 hW hX=>by
   subst hX
   refine (esay_elv2 ([115,116,97,116,101,32]++Lib.itoa n) (h6.next hW) HLn.out HR2.out).mono ?_
   rintro e w' ⟨rfl,k1,k2,k3⟩
   rw [HSx.out]
   exact ⟨rfl,k1,hs6.trans ((Save.of_below hW).trans k2 (fun _ _ hj=>hj)) (fun _ _ hj=>hj),k3⟩
  generalize bs (Lib.itoa n)=sv at HN hsz HAp
  have hq6:¬9223372036854775807<6+sv.size:=by omega
  go_upto_region 49 with (go_at_call 36;refine Calls.mono (eis_any c0 y0 c1 _ _) ?_;rintro e w5 ⟨rfl,hw5⟩;subst w5)
  go_region_held3 (fun w'=>w'.cell? ⟨r,1,none⟩=some (.pointer (some ⟨mk,0,none⟩))∧w'.cell? ⟨Bn,0,none⟩=some (.slice (some ⟨bn,on,none⟩) k nc)∧w'.cell? ⟨bn,on,none⟩=some (.int .i64 n0))
   (first | with_reducible exact HS9.out | with_reducible exact HKb.out _ HB8.out | exact HKb.out _ (by go_grown))
   (first | (go_at_call 42;refine Calls.mono (HC.out _ (by go_grown)) ?_;rintro e w6 ⟨rfl,hw6⟩;subst w6) | (go_at_call 34;refine Calls.mono (HN.out _ (after HDW.out.below (by go_grown) HDW.out.below.size)) ?_;rintro e w8 ⟨rfl,hb8⟩;have HB8:Hid (Below W.heap.size W w8):=after (by go_grown) hb8 (by simp);clear hb8) | (go_at_call 35;refine Calls.mono (HCs.out W w8 _ HDW.out (Save.refl _ _) HB8.out HAp.out) ?_;rintro e w7 ⟨rfl,k1,k2,k3⟩;have HK7:=hid (And.intro k1 k2);have HS9:=hid (HKs.out _ _ _ HB8.out k1 k3);clear k1 k2 k3))
  all_goals (try (exfalso;omega))
  all_goals
   go_wp2_with fail
   go_returns
   rw [HLR.out]
   exact ⟨rfl,HK7.out.1,(Save.of_below HBw.out).trans HK7.out.2 (fun _ _ hj=>hj)⟩
 have n_state:isB wd k ⟨#[115,116,97,116,101]⟩ 1=false:=isB_no e_state
 have HN_state:=hid e_state
 clear e_state
 go_upto_region 50 with (go_at_call 36;refine Calls.mono (eis_any c0 y0 c1 _ _) ?_;rintro e w5 ⟨rfl,hw5⟩;subst w5)
 clear n_state
 by_cases e_done:wd=⟨#[100,111,110,101]⟩∧k=0
 ·have HE1:=hid e_done
  clear e_done
  obtain rfl:ns=[]:=List.eq_nil_of_length_eq_zero (by have:=HE1.out.2;have:=HNl.out;omega)
  have HO:Hid (obeyR ws T wd.data.toList []=some (sayN (bytes "done") T.B.ord,T)):=by show _=_;rw [HE1.out.1];unfold obeyR;rw [if_neg (by decide)];show aloneR ws T _=_;unfold aloneR;rw [if_neg (by decide),if_neg (by decide),if_neg (by decide),if_neg (by decide),if_neg (by decide),if_pos (by decide)]
  have b_done:isB wd k ⟨#[100,111,110,101]⟩ 0=true:=by rw [isB_eq,HE1.out.1,HE1.out.2];decide
  have HMk:=hid HD.out.bx.1
  have hrl:r<w.heap.size:=(bx_cell HMk.out).2.2.1
  have r1:W.cell? ⟨r,1,none⟩=some (.pointer (some ⟨mk,0,none⟩)):=(HBW.out.cell (p:=⟨r,1,none⟩) hrl).trans (bx_cell HMk.out).2.1
  have HDW:Hid (ELv w0 Z W r mk ws l T):=HD.out.next HBW.out
  have HTw:Hid (∀W:World,Below w0.heap.size w0 W->Tied W):=fun W hW=>HT.out.below hW
  have HBw:Hid (Below w.heap.size w W):=HBW.out
  have HLR:Hid (LR=(sayN (bytes "done") T.B.ord,T)):=by show _=_;rw [HObe.out,HO.out];rfl
  obtain ⟨O,h1,_,_⟩:=HDW.out.mkt
  obtain ⟨go,capo,m1,hno⟩:=h1.ordc
  have h8:=HD.out.full.full.brk.ordLen
  have HCl:=hid (elist_elv (bytes "done") T.B.ord (lc:=capo) HT.out HDW.out hno (ord_tell HD.out.full.full.brk) (by omega) (by decide) HR2.out)
  clear hno h1 h8
  clear HObe HO HNx HXo HD HMk x1 x2 xf
  generalize T.B.ord.length=lo at *
  go_wp2_with (first | (go_at_call 36;refine Calls.mono (eis_any c0 y0 c1 _ _) ?_;rintro e w5 ⟨rfl,hw5⟩;subst w5) | (go_at_call 40;refine Calls.mono HCl.out ?_;rintro e w7 ⟨rfl,k1,k2,_⟩;have HK7:=hid (And.intro k1 k2);clear k1 k2))
  go_returns
  rw [HLR.out]
  exact ⟨rfl,HK7.out.1,(Save.of_below HBw.out).trans HK7.out.2 (fun _ _ hj=>hj)⟩
 have n_done:isB wd k ⟨#[100,111,110,101]⟩ 0=false:=isB_no e_done
 have HN_done:=hid e_done
 clear e_done
 go_upto_region 52 with (go_at_call 36;refine Calls.mono (eis_any c0 y0 c1 _ _) ?_;rintro e w5 ⟨rfl,hw5⟩;subst w5)
 clear n_done
 by_cases e_mail:wd=⟨#[109,97,105,108]⟩∧k=0
 ·have HE1:=hid e_mail
  clear e_mail
  obtain rfl:ns=[]:=List.eq_nil_of_length_eq_zero (by have:=HE1.out.2;have:=HNl.out;omega)
  have HO:Hid (obeyR ws T wd.data.toList []=some (sayMails T.M,T)):=by show _=_;rw [HE1.out.1];unfold obeyR;rw [if_neg (by decide)];show aloneR ws T _=_;unfold aloneR;rw [if_neg (by decide),if_neg (by decide),if_neg (by decide),if_neg (by decide),if_neg (by decide),if_neg (by decide),if_pos (by decide)]
  have b_mail:isB wd k ⟨#[109,97,105,108]⟩ 0=true:=by rw [isB_eq,HE1.out.1,HE1.out.2];decide
  have HMk:=hid HD.out.bx.1
  have hrl:r<w.heap.size:=(bx_cell HMk.out).2.2.1
  have r1:W.cell? ⟨r,1,none⟩=some (.pointer (some ⟨mk,0,none⟩)):=(HBW.out.cell (p:=⟨r,1,none⟩) hrl).trans (bx_cell HMk.out).2.1
  have HDW:Hid (ELv w0 Z W r mk ws l T):=HD.out.next HBW.out
  have HTw:Hid (∀W:World,Below w0.heap.size w0 W->Tied W):=fun W hW=>HT.out.below hW
  have HBw:Hid (Below w.heap.size w W):=HBW.out
  have HLR:Hid (LR=(sayMails T.M,T)):=by show _=_;rw [HObe.out,HO.out];rfl
  obtain ⟨O,h1,hOr,_⟩:=HDW.out.mkt
  obtain ⟨ga,capo,m1,hno,hgo⟩:=h1.bagc2
  have HCl:=hid (emails_elv T.M (gc:=capo) HT.out HDW.out hno (fun a ha=>hOr _ (hgo a ha)) (mail_tell HD.out.full) HD.out.full.full.town.inv.mlen HR.out)
  clear hno h1 hOr hgo
  clear HObe HO HNx HXo HD HMk x1 x2 xf
  generalize T.M.length=lo at *
  go_wp2_with (first | (go_at_call 36;refine Calls.mono (eis_any c0 y0 c1 _ _) ?_;rintro e w5 ⟨rfl,hw5⟩;subst w5) | (go_at_call 43;refine Calls.mono HCl.out ?_;rintro e w7 ⟨rfl,k1,k2⟩;have HK7:=hid (And.intro k1 k2);clear k1 k2))
  go_returns
  rw [HLR.out]
  exact ⟨rfl,HK7.out.1,(Save.of_below HBw.out).trans HK7.out.2 (fun _ _ hj=>hj)⟩
 have n_mail:isB wd k ⟨#[109,97,105,108]⟩ 0=false:=isB_no e_mail
 have HN_mail:=hid e_mail
 clear e_mail
 go_upto_region 54 with (go_at_call 36;refine Calls.mono (eis_any c0 y0 c1 _ _) ?_;rintro e w5 ⟨rfl,hw5⟩;subst w5)
 clear n_mail
 by_cases e_due:wd=⟨#[100,117,101]⟩∧k=0
 ·have HE1:=hid e_due
  clear e_due
  obtain rfl:ns=[]:=List.eq_nil_of_length_eq_zero (by have:=HE1.out.2;have:=HNl.out;omega)
  have HO:Hid (obeyR ws T wd.data.toList []=some (sayMails (dueR T.B),T)):=by show _=_;rw [HE1.out.1];unfold obeyR;rw [if_neg (by decide)];show aloneR ws T _=_;unfold aloneR;rw [if_neg (by decide),if_neg (by decide),if_neg (by decide),if_neg (by decide),if_neg (by decide),if_neg (by decide),if_neg (by decide),if_pos (by decide)]
  have b_due:isB wd k ⟨#[100,117,101]⟩ 0=true:=by rw [isB_eq,HE1.out.1,HE1.out.2];decide
  have HMk:=hid HD.out.bx.1
  have hrl:r<w.heap.size:=(bx_cell HMk.out).2.2.1
  have r1:W.cell? ⟨r,1,none⟩=some (.pointer (some ⟨mk,0,none⟩)):=(HBW.out.cell (p:=⟨r,1,none⟩) hrl).trans (bx_cell HMk.out).2.1
  have HDW:Hid (ELv w0 Z W r mk ws l T):=HD.out.next HBW.out
  have HTw:Hid (∀W:World,Below w0.heap.size w0 W->Tied W):=fun W hW=>HT.out.below hW
  have HBw:Hid (Below w.heap.size w W):=HBW.out
  have HLR:Hid (LR=(sayMails (dueR T.B),T)):=by show _=_;rw [HObe.out,HO.out];rfl
  have HC:Hid (Calls Tryz.prog 44 #[.pointer (some ⟨mk,0,none⟩)] W fun e w'=>(∃ga cap,e=.returned (.slice ga (dueR T.B).length cap)∧MailsAt w' ga (dueR T.B)∧∀a,ga=some a->W.heap.size<=a.block)∧Below W.heap.size W w'):=by
   obtain ⟨O,h1,_,_⟩:=HDW.out.mkt
   refine (qdue_mk h1 HD.out.full.full.brk).mono ?_
   rintro e w' ⟨⟨ga,cap,rfl,q1,q2⟩,hb⟩
   exact ⟨⟨ga,cap,rfl,q1,fun a ha=>(q2 a ha).2.1⟩,hb⟩
  have HCl:Hid (∀W6 ga cap,Below W.heap.size W W6->MailsAt W6 ga (dueR T.B)->(∀a,ga=some a->W.heap.size<=a.block)->Calls Tryz.prog 43 #[.pointer (some ⟨r,0,none⟩),.slice ga (dueR T.B).length cap] W6 fun e w'=>e=.returned (.tuple #[])∧ELv w0 Z w' r mk ws (l++sayMails (dueR T.B)) T∧Save (fun k=>¬Z k) W w'):=fun W6 ga cap hW hm hz=>by
   have hrW:r<W.heap.size:=Nat.lt_of_lt_of_le hrl HBw.out.size
   refine (emails_elv (dueR T.B) (gc:=cap) HT.out (HDW.out.next hW) hm (fun a ha e=>by have:=hz a ha;omega) (due_tell HD.out.full.full.brk) (due_few HD.out.full.full.brk) HR.out).mono ?_
   rintro e w' ⟨rfl,k1,k2⟩
   exact ⟨rfl,k1,(Save.of_below hW).trans k2 (fun _ _ hj=>hj)⟩
  clear HObe HO HNx HXo HD HMk x1 x2 xf
  generalize (dueR T.B).length=lo at *
  go_wp2_with (first | (go_at_call 36;refine Calls.mono (eis_any c0 y0 c1 _ _) ?_;rintro e w5 ⟨rfl,hw5⟩;subst w5) | (go_at_call 44;refine Calls.mono HC.out ?_;rintro e w6 ⟨⟨ga,cap,rfl,hm,hz⟩,hb6⟩;have HC6:=hid (HCl.out w6 ga cap hb6 hm hz);clear hm hz hb6) | (go_at_call 43;refine Calls.mono HC6.out ?_;rintro e w7 ⟨rfl,k1,k2⟩;have HK7:=hid (And.intro k1 k2);clear k1 k2))
  go_returns
  rw [HLR.out]
  exact ⟨rfl,HK7.out.1,(Save.of_below HBw.out).trans HK7.out.2 (fun _ _ hj=>hj)⟩
 have n_due:isB wd k ⟨#[100,117,101]⟩ 0=false:=isB_no e_due
 have HN_due:=hid e_due
 clear e_due
 go_upto_region 56 with (go_at_call 36;refine Calls.mono (eis_any c0 y0 c1 _ _) ?_;rintro e w5 ⟨rfl,hw5⟩;subst w5)
 clear n_due
 have n_holds:isB wd k ⟨#[104,111,108,100,115]⟩ 1=false:=isB_no HN_holds.out
 have HO:Hid ((obeyR ws T wd.data.toList ns).getD (say [bytes "what"],T)=(say [bytes "what"],T)):=by
  show _=_
  unfold obeyR
  by_cases hb:wd.data.toList=bytes "begin"
  ·rw [if_pos hb,if_neg (fun q=>HNs.out.1 ⟨ba_eq hb,by have:=HNl.out;omega⟩)];exact rfl
  rw [if_neg hb]
  match ns,HNl.out with
  | [],hnl=>
    have hk0:k=0:=by simpa using hnl.symm
    show (aloneR ws T _).getD _=_
    unfold aloneR
    rw [if_neg (show ¬wd.data.toList=bytes "tick" from fun h=>HNs.out.2.1 ⟨ba_eq h,hk0⟩),if_neg (show ¬wd.data.toList=bytes "broker" from fun h=>HNs.out.2.2.1 ⟨ba_eq h,hk0⟩),if_neg (show ¬wd.data.toList=bytes "calm" from fun h=>HN_calm.out ⟨ba_eq h,hk0⟩),if_neg (show ¬wd.data.toList=bytes "world" from fun h=>HN_world.out ⟨ba_eq h,hk0⟩),if_neg (show ¬wd.data.toList=bytes "serial" from fun h=>HN_serial.out ⟨ba_eq h,hk0⟩),if_neg (show ¬wd.data.toList=bytes "done" from fun h=>HN_done.out ⟨ba_eq h,hk0⟩),if_neg (show ¬wd.data.toList=bytes "mail" from fun h=>HN_mail.out ⟨ba_eq h,hk0⟩),if_neg (show ¬wd.data.toList=bytes "due" from fun h=>HN_due.out ⟨ba_eq h,hk0⟩)]
    exact rfl
  | [n0],hnl=>
    have hk0:k=1:=by simpa using hnl.symm
    show (withR T _ n0).getD _=_
    unfold withR
    rw [if_neg (show ¬wd.data.toList=bytes "deliver" from fun h=>HNs.out.2.2.2.1 ⟨ba_eq h,hk0⟩),if_neg (show ¬wd.data.toList=bytes "lose" from fun h=>HNs.out.2.2.2.2.1 ⟨ba_eq h,hk0⟩),if_neg (show ¬wd.data.toList=bytes "double" from fun h=>HNs.out.2.2.2.2.2.1 ⟨ba_eq h,hk0⟩),if_neg (show ¬wd.data.toList=bytes "quit" from fun h=>HNs.out.2.2.2.2.2.2.1 ⟨ba_eq h,hk0⟩),if_neg (show ¬wd.data.toList=bytes "shop" from fun h=>HNs.out.2.2.2.2.2.2.2 ⟨ba_eq h,hk0⟩),if_neg (show ¬wd.data.toList=bytes "state" from fun h=>HN_state.out ⟨ba_eq h,hk0⟩),if_neg (show ¬wd.data.toList=bytes "holds" from fun h=>HN_holds.out ⟨ba_eq h,hk0⟩)]
    exact rfl
  | _ :: _ :: _,_=>exact rfl
 have HLR:Hid (LR=([119,104,97,116]++[10],T)):=by show _=_;rw [HObe.out,HO.out];rfl
 clear HNs HN_calm HN_world HN_serial HN_state HN_done HN_mail HN_due HN_holds
 have HMk:=hid HD.out.bx.1
 have hrl:r<w.heap.size:=(bx_cell HMk.out).2.2.1
 have r1:W.cell? ⟨r,1,none⟩=some (.pointer (some ⟨mk,0,none⟩)):=(HBW.out.cell (p:=⟨r,1,none⟩) hrl).trans (bx_cell HMk.out).2.1
 have HDW:Hid (ELv w0 Z W r mk ws l T):=HD.out.next HBW.out
 have HTw:Hid (∀W:World,Below w0.heap.size w0 W->Tied W):=fun W hW=>HT.out.below hW
 have HBw:Hid (Below w.heap.size w W):=HBW.out
 have HC:=hid (esay_elv [119,104,97,116] HDW.out (by decide) HR2.out)
 clear HObe HO HNx HXo HD HMk x1 x2 xf
 go_wp2_with (first | (go_at_call 36;refine Calls.mono (eis_any c0 y0 c1 _ _) ?_;rintro e w5 ⟨rfl,hw5⟩;subst w5) | (go_at_call 35;refine Calls.mono HC.out ?_;rintro e w7 ⟨rfl,k1,k2⟩;have HK7:=hid (And.intro k1 k2);clear k1 k2))
 go_returns
 rw [HLR.out]
 exact ⟨rfl,HK7.out.1,(Save.of_below HBw.out).trans HK7.out.2 (fun _ _ hj=>hj)⟩
end Go.Proofs.YtbgnajcmhmpjlacGreatDoor
