/- The document's desk hears a line: a step is told. -/
import Derived.Deep.CutBlock
import Derived.Deep.DeepCutAuto
import Derived.Test.YtbgnajcmhmpjlacGreatDoorH2
set_option maxRecDepth 100000
set_option maxHeartbeats 100000000
namespace Go.Proofs.YtbgnajcmhmpjlacGreatDoor
open Go.RowKit
structure Two (α β:Type) (P:α->β->Prop) where
 a:α
 b:β
 ok:P a b
def NoStep (wd:ByteArray) (k:Nat):Prop:=¬(wd=⟨#[98,101,103,105,110]⟩∧k % 2=0)∧¬(wd=⟨#[116,105,99,107]⟩∧k=0)∧¬(wd=⟨#[98,114,111,107,101,114]⟩∧k=0)∧¬(wd=⟨#[100,101,108,105,118,101,114]⟩∧k=1)∧¬(wd=⟨#[108,111,115,101]⟩∧k=1)∧¬(wd=⟨#[100,111,117,98,108,101]⟩∧k=1)∧¬(wd=⟨#[113,117,105,116]⟩∧k=1)∧¬(wd=⟨#[115,104,111,112]⟩∧k=1)
structure L33 (w:World) (r mk:Nat) (ws:Nat->Int) (T:Twn) (wd:ByteArray) (ns:List Int) (Bx:Nat) (x:TSp) (sa:Option Addr) (sc:Nat) (wx:World):Prop where
 bw:Below w.heap.size w wx
 q1:wx.cell? ⟨r,1,none⟩=some (.pointer (some ⟨mk,0,none⟩))
 q2:wx.cell? ⟨Bx,0,none⟩=some (.int .i64 x.kind)
 q3:wx.cell? ⟨Bx,1,none⟩=some (.int .i64 x.n)
 q4:wx.cell? ⟨Bx,2,none⟩=some (.slice sa x.w.length sc)
 lt:Bx<wx.heap.size
 wn:WantsAt wx sa x.w
 kd:x.kind ≠ 0
 ho:obeyR ws T wd.data.toList ns=some (stepW T x)
def L2R (w:World) (r mk:Nat) (ws:Nat->Int) (T:Twn) (wd:ByteArray) (ns:List Int) (k:Nat) (W:World) (Bx:Nat) (wx:World):Prop:=(∃x sa sc,L33 w r mk ws T wd ns Bx x sa sc wx)∨(wx=W∧NoStep wd k)
theorem LX.r1 {w0 w:World} {Z:Nat->Prop} {r mk:Nat} {ws:Nat->Int} {l:List UInt8} {T:Twn} {LR:List UInt8 × Twn} {wd:ByteArray} {ns:List Int} {k Bl Bn bl ol cap:Nat} {na:Option Addr} {nc:Nat} {W:World} {Bx:Nat} (h:LX w0 w Z r mk ws l T LR wd ns k Bl Bn bl ol cap na nc W Bx):W.cell? ⟨r,1,none⟩=some (.pointer (some ⟨mk,0,none⟩))∧r<Bx:=by
 have h1:=bx_cell h.hd.bx.1
 exact ⟨(h.bw.cell (p:=⟨r,1,none⟩) h1.2.2.1).trans h1.2.1,Nat.lt_of_lt_of_le h1.2.2.1 h.xo.1⟩
theorem LX.put1 {w0 w:World} {Z:Nat->Prop} {r mk:Nat} {ws:Nat->Int} {l:List UInt8} {T:Twn} {LR:List UInt8 × Twn} {wd:ByteArray} {ns:List Int} {k Bl Bn bl ol cap:Nat} {na:Option Addr} {nc:Nat} {W:World} {Bx:Nat} (h:LX w0 w Z r mk ws l T LR wd ns k Bl Bn bl ol cap na nc W Bx) (kd:Int) (hk:kd ≠ 0) (ho:obeyR ws T wd.data.toList ns=some (stepW T ⟨kd,0,[]⟩)):L2R w r mk ws T wd ns k W Bx (W.setCell ⟨Bx,0,none⟩ (.int .i64 kd)):=by
 have hr:=h.r1
 have o:∀b j v,(b ≠ Bx∨j ≠ 0)->W.cell? ⟨b,j,none⟩=some v->(W.setCell ⟨Bx,0,none⟩ (.int .i64 kd)).cell? ⟨b,j,none⟩=some v:=fun b j v hj hc=>by
  rw [World.cell?_setCell_other _ _ _ _ (by intro e;simp only [Addr.mk.injEq] at e;omega)]
  exact hc
 exact .inl ⟨⟨kd,0,[]⟩,none,0,h.bw.setCell (p:=⟨Bx,0,none⟩) h.xo.1 _,o _ _ _ (by omega) hr.1,World.cell?_setCell_same _ _ _ h.x0,o _ _ _ (by omega) h.x1,o _ _ _ (by omega) h.x2,by simpa using h.bx,wants_nil _,hk,ho⟩
theorem LX.put2 {w0 w:World} {Z:Nat->Prop} {r mk:Nat} {ws:Nat->Int} {l:List UInt8} {T:Twn} {LR:List UInt8 × Twn} {wd:ByteArray} {ns:List Int} {k Bl Bn bl ol cap:Nat} {na:Option Addr} {nc:Nat} {W:World} {Bx:Nat} (h:LX w0 w Z r mk ws l T LR wd ns k Bl Bn bl ol cap na nc W Bx) (kd n:Int) (hk:kd ≠ 0) (ho:obeyR ws T wd.data.toList ns=some (stepW T ⟨kd,n,[]⟩)):L2R w r mk ws T wd ns k W Bx ((W.setCell ⟨Bx,0,none⟩ (.int .i64 kd)).setCell ⟨Bx,1,none⟩ (.int .i64 n)).drew:=by
 have hr:=h.r1
 have o:∀b j v,(b ≠ Bx∨j ≠ 0)->W.cell? ⟨b,j,none⟩=some v->(W.setCell ⟨Bx,0,none⟩ (.int .i64 kd)).cell? ⟨b,j,none⟩=some v:=fun b j v hj hc=>by
  rw [World.cell?_setCell_other _ _ _ _ (by intro e;simp only [Addr.mk.injEq] at e;omega)]
  exact hc
 have o2:∀b j v,(b ≠ Bx∨j ≠ 1)->(W.setCell ⟨Bx,0,none⟩ (.int .i64 kd)).cell? ⟨b,j,none⟩=some v->((W.setCell ⟨Bx,0,none⟩ (.int .i64 kd)).setCell ⟨Bx,1,none⟩ (.int .i64 n)).drew.cell? ⟨b,j,none⟩=some v:=fun b j v hj hc=>by
  show ((W.setCell ⟨Bx,0,none⟩ (.int .i64 kd)).setCell ⟨Bx,1,none⟩ (.int .i64 n)).cell? ⟨b,j,none⟩=some v
  rw [World.cell?_setCell_other _ _ _ _ (by intro e;simp only [Addr.mk.injEq] at e;omega)]
  exact hc
 exact .inl ⟨⟨kd,n,[]⟩,none,0,((h.bw.setCell (p:=⟨Bx,0,none⟩) h.xo.1 _).setCell (p:=⟨Bx,1,none⟩) h.xo.1 _).drew,o2 _ _ _ (by omega) (o _ _ _ (by omega) hr.1),o2 _ _ _ (by omega) (World.cell?_setCell_same _ _ _ h.x0),World.cell?_setCell_same _ _ _ (o _ _ _ (by omega) h.x1),o2 _ _ _ (by omega) (o _ _ _ (by omega) h.x2),by simpa using h.bx,wants_nil _,hk,ho⟩
def line2:Two (World->World->(Nat->Prop)->Nat->Nat->(Nat->Int)->List UInt8->Twn->ByteArray->List UInt8 × Twn->ByteArray->List Int->Nat->Nat->Nat->Nat->Nat->Nat->Option Addr->Nat->World->Nat->Value->Value->Value->Value->Value->Value->Value->Value->Value->Value->Value->Value->Value->Value->Value->Value->Value->Value->Value->Value->Value->Value->Value->Value->Value->Value->Value->Value->Value->Prop) (World->World->(Nat->Prop)->Nat->Nat->(Nat->Int)->List UInt8->Twn->ByteArray->List UInt8 × Twn->ByteArray->List Int->Nat->Nat->Nat->Nat->Nat->Nat->Option Addr->Nat->World->Nat->Value->Value->Value->Value->Value->Value->Value->Value->Value->Value->Value->Value->Value->Value->Value->Value->Value->Value->Value->Value->Value->Value->Value->Value->Value->Value->Value->Value->Value->World->Value->Value->Value->Value->Value->Value->Value->Value->Value->Value->Value->Value->Value->Value->Value->Value->Value->Value->Value->Value->Value->Value->Value->Value->Value->Value->Value->Value->Value->Value->Value->Value->Value->Value->Value->Value->Value->Value->Value->Value->Value->Value->Value->Value->Value->Value->Value->Value->Value->Value->Value->Value->Value->Value->Value->Value->Value->Value->Value->Value->Value->Value->Value->Value->Value->Value->Value->Value->Value->Value->Value->Value->Value->Value->Value->Value->Value->Value->Value->Value->Value->Value->Prop) (fun A B=>∀w0 w Z r mk ws l T s LR wd ns k Bl Bn bl ol cap na nc W Bx u7 u8 u29 u30 u31 u32 u33 u34 u35 u36 u37 u38 u39 u40 u41 u42 u43 u44 u45 u46 u47 u48 u49 u50 u51 u52 u53 u54 u55,LX w0 w Z r mk ws l T LR wd ns k Bl Bn bl ol cap na nc W Bx->Hid (A w0 w Z r mk ws l T s LR wd ns k Bl Bn bl ol cap na nc W Bx u7 u8 u29 u30 u31 u32 u33 u34 u35 u36 u37 u38 u39 u40 u41 u42 u43 u44 u45 u46 u47 u48 u49 u50 u51 u52 u53 u54 u55)->Hid (∀wc u11 u58 u59 u60 u61 u62 u63 u64 u65 u66 u67 u68 u69 u70 u71 u72 u73 u74 u75 u76 u77 u78 u79 u80 u81 u82 u83 u84 u85 u86 u87 u88 u89 u90 u91 u92 u93 u94 u95 u96 u97 u98 u99 u100 u101 u102 u103 u104 u105 u106 u107 u108 u109 u110 u111 u112 u113 u114 u115 u116 u117 u118 u119 u120 u121 u122 u123 u124 u125 u126 u127 u128 u129 u130 u131 u132 u133 u134 u135 u136 u137 u138,L2R w r mk ws T wd ns k W Bx wc->B w0 w Z r mk ws l T s LR wd ns k Bl Bn bl ol cap na nc W Bx u7 u8 u29 u30 u31 u32 u33 u34 u35 u36 u37 u38 u39 u40 u41 u42 u43 u44 u45 u46 u47 u48 u49 u50 u51 u52 u53 u54 u55 wc u11 u58 u59 u60 u61 u62 u63 u64 u65 u66 u67 u68 u69 u70 u71 u72 u73 u74 u75 u76 u77 u78 u79 u80 u81 u82 u83 u84 u85 u86 u87 u88 u89 u90 u91 u92 u93 u94 u95 u96 u97 u98 u99 u100 u101 u102 u103 u104 u105 u106 u107 u108 u109 u110 u111 u112 u113 u114 u115 u116 u117 u118 u119 u120 u121 u122 u123 u124 u125 u126 u127 u128 u129 u130 u131 u132 u133 u134 u135 u136 u137 u138)->line1.1 w0 w Z r mk ws l T s LR wd ns k Bl Bn bl ol cap na nc W Bx u7 u8 u29 u30 u31 u32 u33 u34 u35 u36 u37 u38 u39 u40 u41 u42 u43 u44 u45 u46 u47 u48 u49 u50 u51 u52 u53 u54 u55):=by
 apply Two.mk
 case ok=>
  intro w0 w Z r mk ws l T s LR wd ns k Bl Bn bl ol cap na nc W Bx u7 u8 u29 u30 u31 u32 u33 u34 u35 u36 u37 u38 u39 u40 u41 u42 u43 u44 u45 u46 u47 u48 u49 u50 u51 u52 u53 u54 u55 h hA hB
  have c0:=h.c0
  have c1:=h.c1
  have y0:=h.y0
  have x0:=h.x0
  unfold line1
  dsimp -zeta only
  intro Q1 K1 a1
  go_cut [11] from 58 to 138 (fun _ wx=>L2R w r mk ws T wd ns k W Bx wx)
  case first=>
   rename_i J1 K2 b1 b2
   clear a1
   revert Q1 J1 K2
   exact hA.out
  case rest=>
   revert Q1 K1
   exact hB.out wc u11 u58 u59 u60 u61 u62 u63 u64 u65 u66 u67 u68 u69 u70 u71 u72 u73 u74 u75 u76 u77 u78 u79 u80 u81 u82 u83 u84 u85 u86 u87 u88 u89 u90 u91 u92 u93 u94 u95 u96 u97 u98 u99 u100 u101 u102 u103 u104 u105 u106 u107 u108 u109 u110 u111 u112 u113 u114 u115 u116 u117 u118 u119 u120 u121 u122 u123 u124 u125 u126 u127 u128 u129 u130 u131 u132 u133 u134 u135 u136 u137 u138 hcut
theorem line_step (w0 w:World) (Z:Nat->Prop) (r mk:Nat) (ws:Nat->Int) (l:List UInt8) (T:Twn) (s:ByteArray) (LR:List UInt8 × Twn) (wd:ByteArray) (ns:List Int) (k Bl Bn bl ol cap:Nat) (na:Option Addr) (nc:Nat) (W:World) (Bx:Nat) (u7 u8 u29 u30 u31 u32 u33 u34 u35 u36 u37 u38 u39 u40 u41 u42 u43 u44 u45 u46 u47 u48 u49 u50 u51 u52 u53 u54 u55:Value) (h:LX w0 w Z r mk ws l T LR wd ns k Bl Bn bl ol cap na nc W Bx) (wx:World) (u11 u58 u59 u60 u61 u62 u63 u64 u65 u66 u67 u68 u69 u70 u71 u72 u73 u74 u75 u76 u77 u78 u79 u80 u81 u82 u83 u84 u85 u86 u87 u88 u89 u90 u91 u92 u93 u94 u95 u96 u97 u98 u99 u100 u101 u102 u103 u104 u105 u106 u107 u108 u109 u110 u111 u112 u113 u114 u115 u116 u117 u118 u119 u120 u121 u122 u123 u124 u125 u126 u127 u128 u129 u130 u131 u132 u133 u134 u135 u136 u137 u138:Value) (x:TSp) (sa:Option Addr) (sc:Nat) (h3:L33 w r mk ws T wd ns Bx x sa sc wx):line2.b w0 w Z r mk ws l T s LR wd ns k Bl Bn bl ol cap na nc W Bx u7 u8 u29 u30 u31 u32 u33 u34 u35 u36 u37 u38 u39 u40 u41 u42 u43 u44 u45 u46 u47 u48 u49 u50 u51 u52 u53 u54 u55 wx u11 u58 u59 u60 u61 u62 u63 u64 u65 u66 u67 u68 u69 u70 u71 u72 u73 u74 u75 u76 u77 u78 u79 u80 u81 u82 u83 u84 u85 u86 u87 u88 u89 u90 u91 u92 u93 u94 u95 u96 u97 u98 u99 u100 u101 u102 u103 u104 u105 u106 u107 u108 u109 u110 u111 u112 u113 u114 u115 u116 u117 u118 u119 u120 u121 u122 u123 u124 u125 u126 u127 u128 u129 u130 u131 u132 u133 u134 u135 u136 u137 u138:=by
 obtain ⟨xk,xn,xw⟩:=x
 have HT:=hid h.ht
 have HD:=hid h.hd
 have HObe:=hid h.ob
 have HR2:Hid (Room (l.length+2000)):=h.hr.le (by omega)
 have hBw:Hid (w.heap.size<=Bx):=h.xo.1
 have hrl:r<w.heap.size:=(bx_cell h.hd.bx.1).2.2.1
 have HW2:=hid h3.bw
 have q1:=h3.q1
 have q2:=h3.q2
 have q3:=h3.q3
 have q4:=h3.q4
 have hB2:=h3.lt
 have HWn:=hid h3.wn
 have HO:=hid h3.ho
 have hkd:(xk == 0)=false:=by simpa using h3.kd
 clear h h3
 have HDz:Hid (ELv w0 (fun k=>Z k∨k=Bx) wx r mk ws l T):=HD.out.more HW2.out (fun k hk=>hk.elim .inl (fun e=>.inr (by rw [e];exact ⟨hBw.out,hB2⟩)))
 have HKb:Hid (∀w',Below wx.heap.size wx w'->w'.cell? ⟨r,1,none⟩=some (.pointer (some ⟨mk,0,none⟩))∧w'.cell? ⟨Bx,0,none⟩=some (.int .i64 (⟨xk,xn,xw⟩:TSp).kind)∧w'.cell? ⟨Bx,1,none⟩=some (.int .i64 (⟨xk,xn,xw⟩:TSp).n)∧w'.cell? ⟨Bx,2,none⟩=some (.slice sa (⟨xk,xn,xw⟩:TSp).w.length sc)):=fun w' hb'=>⟨((bcell hb').1 _ _ (Nat.lt_of_lt_of_le hrl HW2.out.size)).trans q1,((bcell hb').1 _ _ hB2).trans q2,((bcell hb').1 _ _ hB2).trans q3,((bcell hb').1 _ _ hB2).trans q4⟩
 have HKs:Hid (∀w' l' T',ELv w0 (fun k=>Z k∨k=Bx) w' r mk ws l' T'->Save (fun k=>¬(Z k∨k=Bx)) wx w'->w'.cell? ⟨r,1,none⟩=some (.pointer (some ⟨mk,0,none⟩))∧w'.cell? ⟨Bx,0,none⟩=some (.int .i64 (⟨xk,xn,xw⟩:TSp).kind)∧w'.cell? ⟨Bx,1,none⟩=some (.int .i64 (⟨xk,xn,xw⟩:TSp).n)∧w'.cell? ⟨Bx,2,none⟩=some (.slice sa (⟨xk,xn,xw⟩:TSp).w.length sc)):=fun w' l' T' hE hs=>⟨(bx_cell hE.bx.1).2.1,(hs.cell (p:=⟨Bx,0,none⟩) hB2 (fun q=>q (.inr rfl))).trans q2,(hs.cell (p:=⟨Bx,1,none⟩) hB2 (fun q=>q (.inr rfl))).trans q3,(hs.cell (p:=⟨Bx,2,none⟩) hB2 (fun q=>q (.inr rfl))).trans q4⟩
 have HS:Hid (∀W1:World,Below wx.heap.size wx W1->Calls Tryz.prog 37 #[.pointer (some ⟨mk,0,none⟩),.agg #[.int .i64 (⟨xk,xn,xw⟩:TSp).kind,.int .i64 (⟨xk,xn,xw⟩:TSp).n,.slice sa (⟨xk,xn,xw⟩:TSp).w.length sc]] W1 fun e w'=>e=.returned (.int .i64 (townR T ⟨xk,xn,xw⟩).1)∧ELv w0 (fun k=>Z k∨k=Bx) w' r mk ws l (townR T ⟨xk,xn,xw⟩).2∧Save (fun k=>¬(Z k∨k=Bx)) W1 w'):=fun W1 hW=>estep_elv ⟨xk,xn,xw⟩ (HDz.out.next hW) (HWn.out.below hW (Nat.le_refl _))
 have HSm:Hid (Sm (townR T ⟨xk,xn,xw⟩).1):=code_small T ⟨xk,xn,xw⟩
 have HLR:Hid (LR=(sayStep (townR T ⟨xk,xn,xw⟩).1,(townR T ⟨xk,xn,xw⟩).2)):=by show _=_;rw [HObe.out,HO.out];rfl
 have HTw:Hid (∀W:World,Below w0.heap.size w0 W->Tied W):=fun W hW=>HT.out.below hW
 clear HObe HO HWn
 dsimp only at HS HKs HKb q2 q3 q4
 generalize townR T ⟨xk,xn,xw⟩=rr at HS HSm HLR
 obtain ⟨c,T'⟩:=rr
 dsimp only at HS HSm HLR
 unfold line2
 dsimp -zeta only
 intro Q1 K1 a1
 go_upto_region 33 with fail
 by_cases hc:c=0
 ·subst hc
  have HLS:Hid (LR=([111,107]++[10],T')):=HLR.out
  clear HLR HSm
  go_region_held3 (fun w'=>w'.cell? ⟨r,1,none⟩=some (.pointer (some ⟨mk,0,none⟩))∧w'.cell? ⟨Bx,0,none⟩=some (.int .i64 xk)∧w'.cell? ⟨Bx,1,none⟩=some (.int .i64 xn)∧w'.cell? ⟨Bx,2,none⟩=some (.slice sa xw.length sc))
   (first | exact HS9.out | exact HKb.out _ (by go_grown))
   (first | (go_at_call 37;refine Calls.mono (HS.out _ (by go_grown)) ?_;rintro e w9 ⟨rfl,k1,k2⟩;have HS9:=hid (HKs.out w9 _ _ k1 ((Save.of_below (by go_grown)).trans k2 (fun _ _ hj=>hj)));have HK9:Hid (ELv w0 (fun k=>Z k∨k=Bx) w9 r mk ws l T'∧Save (fun k=>¬(Z k∨k=Bx)) wx w9):=hid (And.intro k1 ((Save.of_below (by go_grown)).trans k2 (fun _ _ hj=>hj)));clear k1 k2))
  all_goals
   clear HKb HKs HS
   have HC:=esay_elv [111,107] HK9.out.1 (by decide) HR2.out
   go_wp2_with (go_at_call 35;refine Calls.mono HC ?_;rintro e w7 ⟨rfl,k1,k2⟩;have HK7:=hid (And.intro k1 k2);clear k1 k2)
   go_returns
   rw [HLS.out]
   refine ⟨rfl,HK7.out.1.less (fun _ hk=>.inl hk),(Save.of_below HW2.out).trans (HK9.out.2.trans HK7.out.2 (fun _ _ hj=>hj)) (fun _ _ hj hz=>hj (.inl hz))⟩
 ·have hc':(c == 0)=false:=by simpa using hc
  have HLS:Hid (LR=(([110,111,32]++Lib.itoa c)++[10],T')):=by
   show _=_
   rw [HLR.out]
   unfold sayStep
   rw [if_neg hc,sayN_one]
   exact rfl
  have hsz:(bs (Lib.itoa c)).size<=7:=itoa_short HSm.out.1 HSm.out.2
  have HAp:=hid (bs_append [110,111,32] (Lib.itoa c))
  have HLn:Hid (([110,111,32]++Lib.itoa c).length<=1000):=by
   have e2:(bs (Lib.itoa c)).size=(Lib.itoa c).length:=rfl
   show _<=_
   rw [List.length_append]
   simp only [List.length_cons,List.length_nil]
   omega
  clear HLR hc
  go_region_held3 (fun w'=>w'.cell? ⟨r,1,none⟩=some (.pointer (some ⟨mk,0,none⟩))∧w'.cell? ⟨Bx,0,none⟩=some (.int .i64 xk)∧w'.cell? ⟨Bx,1,none⟩=some (.int .i64 xn)∧w'.cell? ⟨Bx,2,none⟩=some (.slice sa xw.length sc))
   (first | exact HS9.out | exact HKb.out _ (by go_grown))
   (first | (go_at_call 37;refine Calls.mono (HS.out _ (by go_grown)) ?_;rintro e w9 ⟨rfl,k1,k2⟩;have HS9:=hid (HKs.out w9 _ _ k1 ((Save.of_below (by go_grown)).trans k2 (fun _ _ hj=>hj)));have HK9:Hid (ELv w0 (fun k=>Z k∨k=Bx) w9 r mk ws l T'∧Save (fun k=>¬(Z k∨k=Bx)) wx w9):=hid (And.intro k1 ((Save.of_below (by go_grown)).trans k2 (fun _ _ hj=>hj)));clear k1 k2))
  all_goals
   clear HKb HKs HS
   have HN:=enum_any c HSm.out.i64.1 HSm.out.i64.2 w9 (HTw.out w9 HK9.out.1.below)
   have HC:Hid (∀W1 X,Below w9.heap.size w9 W1->X=bs ([110,111,32]++Lib.itoa c)->Calls Tryz.prog 35 #[.pointer (some ⟨r,0,none⟩),.string X] W1 fun e w'=>e=.returned (.tuple #[])∧ELv w0 (fun k=>Z k∨k=Bx) w' r mk ws (l++(([110,111,32]++Lib.itoa c)++[10])) T'∧Save (fun k=>¬(Z k∨k=Bx)) w9 w'):=fun W1 X hW hX=>by
    subst hX
    refine (esay_elv ([110,111,32]++Lib.itoa c) (HK9.out.1.next hW) HLn.out HR2.out).mono ?_
    rintro e w' ⟨rfl,k1,k2⟩
    exact ⟨rfl,k1,(Save.of_below hW).trans k2 (fun _ _ hj=>hj)⟩
   generalize bs (Lib.itoa c)=sv at HN hsz HAp
   go_wp2_with (first | (go_at_call 34;refine Calls.mono HN ?_;rintro e w6 ⟨rfl,hb6⟩;have HB6:=hid hb6;clear hb6) | (go_at_call 35;refine Calls.mono (HC.out _ _ HB6.out HAp.out) ?_;rintro e w7 ⟨rfl,k1,k2⟩;have HK7:=hid (And.intro k1 k2);clear k1 k2))
   all_goals (try (exfalso;omega))
   go_returns
   rw [HLS.out]
   refine ⟨rfl,HK7.out.1.less (fun _ hk=>.inl hk),(Save.of_below HW2.out).trans (HK9.out.2.trans HK7.out.2 (fun _ _ hj=>hj)) (fun _ _ hj hz=>hj (.inl hz))⟩
end Go.Proofs.YtbgnajcmhmpjlacGreatDoor
