/- The document's desk hears a line: holds. -/
import Derived.Test.YtbgnajcmhmpjlacGreatDoorH3
set_option maxRecDepth 100000
set_option maxHeartbeats 100000000
namespace Go.Proofs.YtbgnajcmhmpjlacGreatDoor
open Go.RowKit
theorem line_holds (w0 w:World) (Z:Nat->Prop) (r mk:Nat) (ws:Nat->Int) (l:List UInt8) (T:Twn) (s:ByteArray) (LR:List UInt8 × Twn) (wd:ByteArray) (ns:List Int) (k Bl Bn bl ol cap:Nat) (na:Option Addr) (nc:Nat) (W:World) (Bx:Nat) (u7 u8 u29 u30 u31 u32 u33 u34 u35 u36 u37 u38 u39 u40 u41 u42 u43 u44 u45 u46 u47 u48 u49 u50 u51 u52 u53 u54 u55:Value) (h:LX w0 w Z r mk ws l T LR wd ns k Bl Bn bl ol cap na nc W Bx) (u11 u58 u59 u60 u61 u62 u63 u64 u65 u66 u67 u68 u69 u70 u71 u72 u73 u74 u75 u76 u77 u78 u79 u80 u81 u82 u83 u84 u85 u86 u87 u88 u89 u90 u91 u92 u93 u94 u95 u96 u97 u98 u99 u100 u101 u102 u103 u104 u105 u106 u107 u108 u109 u110 u111 u112 u113 u114 u115 u116 u117 u118 u119 u120 u121 u122 u123 u124 u125 u126 u127 u128 u129 u130 u131 u132 u133 u134 u135 u136 u137 u138:Value) (e_holds:wd=⟨#[104,111,108,100,115]⟩∧k=1):line2.b w0 w Z r mk ws l T s LR wd ns k Bl Bn bl ol cap na nc W Bx u7 u8 u29 u30 u31 u32 u33 u34 u35 u36 u37 u38 u39 u40 u41 u42 u43 u44 u45 u46 u47 u48 u49 u50 u51 u52 u53 u54 u55 W u11 u58 u59 u60 u61 u62 u63 u64 u65 u66 u67 u68 u69 u70 u71 u72 u73 u74 u75 u76 u77 u78 u79 u80 u81 u82 u83 u84 u85 u86 u87 u88 u89 u90 u91 u92 u93 u94 u95 u96 u97 u98 u99 u100 u101 u102 u103 u104 u105 u106 u107 u108 u109 u110 u111 u112 u113 u114 u115 u116 u117 u118 u119 u120 u121 u122 u123 u124 u125 u126 u127 u128 u129 u130 u131 u132 u133 u134 u135 u136 u137 u138:=by
 have HT:=hid h.ht
 have HD:=hid h.hd
 have HR:=hid h.hr
 have HObe:=hid h.ob
 have HYl:=hid h.yl
 have HNl:=hid h.nl
 have HBW:=hid h.bw
 have HNx:=hid h.nx
 have HXo:=hid h.xo
 have HR2:Hid (Room (l.length+2000)):=h.hr.le (by omega)
 have c0:=h.c0
 have c1:=h.c1
 have y0:=h.y0
 have x0:=h.x0
 have x1:=h.x1
 have x2:=h.x2
 have xf:=h.xf
 have hBx:=h.bx
 clear h
 unfold line2
 dsimp -zeta only
 intro Q1 K1 a1
 have HE1:=hid e_holds
 clear e_holds
 obtain ⟨n0,rfl⟩:∃n0,ns=[n0]:=List.length_eq_one_iff.1 (by have:=HE1.out.2;have:=HNl.out;omega)
 have HO:Hid (obeyR ws T wd.data.toList [n0]=some (if 0<=n0∧n0<3 then sayHolds (T.P n0.toNat).A else sayN (bytes "no") [1],T)):=by show _=_;rw [HE1.out.1];unfold obeyR;rw [if_neg (by decide)];show withR T _ n0=_;unfold withR;rw [if_neg (by decide),if_neg (by decide),if_neg (by decide),if_neg (by decide),if_neg (by decide),if_neg (by decide),if_pos (by decide)]
 have b_calm:isB wd k ⟨#[99,97,108,109]⟩ 0=false:=isB_no (fun q=>by rw [HE1.out.1] at q;exact absurd q.1 (by decide))
 have b_world:isB wd k ⟨#[119,111,114,108,100]⟩ 0=false:=isB_no (fun q=>by rw [HE1.out.1] at q;exact absurd q.1 (by decide))
 have b_serial:isB wd k ⟨#[115,101,114,105,97,108]⟩ 0=false:=isB_no (fun q=>by rw [HE1.out.1] at q;exact absurd q.1 (by decide))
 have b_state:isB wd k ⟨#[115,116,97,116,101]⟩ 1=false:=isB_no (fun q=>by rw [HE1.out.1] at q;exact absurd q.1 (by decide))
 have b_done:isB wd k ⟨#[100,111,110,101]⟩ 0=false:=isB_no (fun q=>by rw [HE1.out.1] at q;exact absurd q.1 (by decide))
 have b_mail:isB wd k ⟨#[109,97,105,108]⟩ 0=false:=isB_no (fun q=>by rw [HE1.out.1] at q;exact absurd q.1 (by decide))
 have b_due:isB wd k ⟨#[100,117,101]⟩ 0=false:=isB_no (fun q=>by rw [HE1.out.1] at q;exact absurd q.1 (by decide))
 have b_holds:isB wd k ⟨#[104,111,108,100,115]⟩ 1=true:=by rw [isB_eq,HE1.out.1,HE1.out.2];decide
 obtain ⟨bn,on,hna,hbn,yn'⟩:=HNx.out 0 n0 rfl
 have yn:W.cell? ⟨bn,on,none⟩=some (.int .i64 n0):=yn'
 clear yn'
 have hbnx:bn<Bx:=(HXo.out.2.2.2.2.1 _ hna).2
 have hbnw:w.heap.size<=bn:=(HXo.out.2.2.2.2.1 _ hna).1
 subst hna
 have hk0:0<k:=by have:=HE1.out.2;omega
 have HMk:=hid HD.out.bx.1
 have hrl:r<w.heap.size:=(bx_cell HMk.out).2.2.1
 have r1:W.cell? ⟨r,1,none⟩=some (.pointer (some ⟨mk,0,none⟩)):=(HBW.out.cell (p:=⟨r,1,none⟩) hrl).trans (bx_cell HMk.out).2.1
 have HDW:Hid (ELv w0 Z W r mk ws l T):=HD.out.next HBW.out
 have HTw:Hid (∀W:World,Below w0.heap.size w0 W->Tied W):=fun W hW=>HT.out.below hW
 have HBw:Hid (Below w.heap.size w W):=HBW.out
 by_cases hin:0<=n0∧n0<3
 ·obtain ⟨sh,rfl⟩:∃sh:Nat,n0=sh:=⟨n0.toNat,by omega⟩
  have hsh:sh<3:=by omega
  have HLR:Hid (LR=(sayHolds (T.P sh).A,T)):=by show _=_;rw [HObe.out,HO.out,if_pos hin];rfl
  obtain ⟨q,qb,gh,caph,m8,hH,hCt⟩:=HDW.out.pen hsh
  have HHS:=hid hH
  have HCt:Hid (∀W1,Below W.heap.size W W1->Calls Tryz.prog 45 #[.pointer (some ⟨qb,0,none⟩)] W1 fun e w'=>e=.returned (cntV (cnt6 (T.P sh).A))∧Below W1.heap.size W1 w'):=hCt
  have HF:Hid (∀k,k<6->Sm (cnt6 (T.P sh).A k)):=fun k hk=>cnt_tell HD.out.full.full hsh hk
  have HHs:Hid (∀x∈(T.P sh).A.hs,Sm x.1∧Sm x.2.1∧Sm x.2.2):=hold_tell HD.out.full.full hsh
  have HLen:Hid ((T.P sh).A.hs.length<=24):=(HD.out.full.full.shop hsh).2.2.2.1
  have HSC:Hid (∀k,k<2->(sayC (T.P sh).A k).length<=33):=fun k hk=>three_short (by decide) (HF.out _ (by omega)) (HF.out _ (by omega)) (HF.out _ (by omega))
  have HR1:Hid (∀k,k<=2->Room ((l++sayCs (T.P sh).A k).length+2000)):=fun k hk=>by
   have a0:=HSC.out 0 (by omega)
   have a1:=HSC.out 1 (by omega)
   refine HR.out.le ?_
   rw [List.length_append]
   match k,hk with
   | 0,_=>simp only [sayCs,List.length_nil];omega
   | 1,_=>simp only [sayCs,List.length_append,List.length_nil];omega
   | 2,_=>simp only [sayCs,List.length_append,List.length_nil];omega
  have HR3:Hid (∀k,Room ((l++sayCs (T.P sh).A 2++(((T.P sh).A.hs.take k).map sayH).flatten).length+2000)):=fun k=>by
   have a0:=HSC.out 0 (by omega)
   have a1:=HSC.out 1 (by omega)
   have h1:=flat_short (l:=(T.P sh).A.hs.take k) (f:=sayH) (n:=33) (fun x hx=>by
    have q:=HHs.out x (List.mem_of_mem_take hx)
    exact three_short (by decide) q.1 q.2.1 q.2.2)
   have h2:((T.P sh).A.hs.take k).length<=24:=by have:=HLen.out;rw [List.length_take];omega
   refine HR.out.le ?_
   rw [List.length_append,List.length_append]
   simp only [sayCs,List.length_append,List.length_nil]
   omega
  obtain ⟨A,hA⟩:∃A,(T.P sh).A=A:=⟨_,rfl⟩
  rw [hA] at HCt HF HHs HLen HR1 HR3 HLR HHS
  have j0:(0:Int)<=(sh:Int):=by omega
  have j1:(sh:Int)<3:=by omega
  have j2:¬(3:Int)<=(sh:Int):=by omega
  have j2':sh<3:=hsh
  have hp0:=HHS.out.c0
  have hrW:r<W.heap.size:=Nat.lt_of_lt_of_le hrl HBw.out.size
  have hnW:Bn<W.heap.size∧bn<W.heap.size:=⟨Nat.lt_trans HXo.out.2.2.1 hBx,Nat.lt_trans hbnx hBx⟩
  have hmW:mk<W.heap.size:=by obtain ⟨O,h1,_,_⟩:=HDW.out.mkt;exact h1.lt
  clear hA HSC hH hCt hin hsh HObe HO HNx HXo HD HMk x1 x2 xf
  unfold cntV at HCt
  go_upto_region 59 with (go_at_call 36;refine Calls.mono (eis_any c0 y0 c1 _ _) ?_;rintro e w5 ⟨rfl,hw5⟩;subst w5)
  have HKb:Hid (∀w',Below W.heap.size W w'->w'.cell? ⟨r,1,none⟩=some (.pointer (some ⟨mk,0,none⟩))∧w'.cell? ⟨Bn,0,none⟩=some (.slice (some ⟨bn,on,none⟩) k nc)∧w'.cell? ⟨bn,on,none⟩=some (.int .i64 sh)∧w'.cell? ⟨mk,8+sh,none⟩=some (.pointer (some ⟨q,0,none⟩))):=fun w' hb'=>⟨((bcell hb').1 _ _ hrW).trans r1,((bcell hb').1 _ _ hnW.1).trans c1,((bcell hb').1 _ _ hnW.2).trans yn,((bcell hb').1 _ _ hmW).trans m8⟩
  clear b_calm b_world b_serial b_state b_done b_mail b_due b_holds
  go_region_held3 (fun w'=>w'.cell? ⟨r,1,none⟩=some (.pointer (some ⟨mk,0,none⟩))∧w'.cell? ⟨Bn,0,none⟩=some (.slice (some ⟨bn,on,none⟩) k nc)∧w'.cell? ⟨bn,on,none⟩=some (.int .i64 sh)∧w'.cell? ⟨mk,8+sh,none⟩=some (.pointer (some ⟨q,0,none⟩)))
   (first | exact HKb.out _ (by go_grown))
   (first | fail)
  go_wp2_with (go_at_call 45;refine Calls.mono (HCt.out _ (by go_grown)) ?_;rintro e w1 ⟨rfl,hb1⟩;have HB1:Hid (Below W.heap.size W w1):=after (by go_grown) hb1 (by simp);have HH1:=hid (HHS.out.next HB1.out);clear hb1)
  clear hp0 HHS m8 HCt r1 c1 c0 yn y0
  generalize hWc:World.alloc w1 _=Wc
  have hBC:BoxAt Wc w1.heap.size [.int .i64 (cnt6 A 0),.int .i64 (cnt6 A 1),.int .i64 (cnt6 A 2),.int .i64 (cnt6 A 3),.int .i64 (cnt6 A 4),.int .i64 (cnt6 A 5)]:=by rw [<-hWc];exact BoxAt.new w1 [.int .i64 (cnt6 A 0),.int .i64 (cnt6 A 1),.int .i64 (cnt6 A 2),.int .i64 (cnt6 A 3),.int .i64 (cnt6 A 4),.int .i64 (cnt6 A 5)] _
  have hWb:Below w1.heap.size w1 Wc:=by rw [<-hWc];go_grown
  have HB2:Hid (Below W.heap.size W Wc):=after HB1.out hWb HB1.out.size
  have HH2:=hid (HH1.out.next hWb)
  have HBc:=hid hBC
  have HrB:Hid (¬w1.heap.size=r):=by have:=HB1.out.size;show ¬_;omega
  clear hWc hBC hWb HH1 HB1
  generalize w1.heap.size=Bc at *
  go_loopg [18] 2 (fun g i wr=>∃k:Nat,k<=2∧g=2 - k∧i=.int .i64 k∧Hid (ELv w0 Z wr r mk ws (l++sayCs A k) T∧Save (fun k=>¬Z k) W wr∧HSt r q qb gh caph A.hs wr∧BoxAt wr Bc [.int .i64 (cnt6 A 0),.int .i64 (cnt6 A 1),.int .i64 (cnt6 A 2),.int .i64 (cnt6 A 3),.int .i64 (cnt6 A 4),.int .i64 (cnt6 A 5)]))
  case atStart=>exact ⟨0,by omega,rfl,rfl,hid ⟨by simpa [sayCs] using HDW.out.next HB2.out,Save.of_below HB2.out,HH2.out,HBc.out⟩⟩
  case round=>
   obtain ⟨k2,hk2,rfl,rfl,HV⟩:=hrel
   by_cases hlt:k2<2
   ·have HS:Hid (∀(W1:World) (g:Nat),Below wr.heap.size wr W1->g<W1.heap.size->W1.cell? ⟨g,0,none⟩=some (.int .i64 (cnt6 A (k2 * 3)))->W1.cell? ⟨g,1,none⟩=some (.int .i64 (cnt6 A (k2 * 3+1)))->W1.cell? ⟨g,2,none⟩=some (.int .i64 (cnt6 A (k2 * 3+2)))->Calls Tryz.prog 40 #[.pointer (some ⟨r,0,none⟩),.string ⟨#[99,111,117,110,116]⟩,.slice (some ⟨g,0,none⟩) 3 3] W1 fun e w'=>e=.returned (.tuple #[])∧Hid (ELv w0 Z w' r mk ws (l++sayCs A (k2+1)) T∧Save (fun k=>¬Z k) W w'∧HSt r q qb gh caph A.hs w'∧BoxAt w' Bc [.int .i64 (cnt6 A 0),.int .i64 (cnt6 A 1),.int .i64 (cnt6 A 2),.int .i64 (cnt6 A 3),.int .i64 (cnt6 A 4),.int .i64 (cnt6 A 5)])):=fun W1 g hW hg a0 a1 a2=>by
     refine (three_elv (bytes "count") _ _ _ HT.out HV.out.1 hW hg a0 a1 a2 (by decide) (HF.out _ (by omega)) (HF.out _ (by omega)) (HF.out _ (by omega)) (HR1.out k2 hk2)).mono ?_
     rintro e w' ⟨rfl,k1,k2,k3⟩
     rw [List.append_assoc] at k1
     exact ⟨rfl,hid ⟨k1,HV.out.2.1.trans k2 (fun _ _ hj=>hj),HV.out.2.2.1.save k3,HV.out.2.2.2.save k3 HrB.out⟩⟩
    have hq:k2=0∨k2=1:=by omega
    clear HHs HLen HR1 HR3 HF
    have hlc:=HV.out.2.2.2.1
    rcases hq with rfl | rfl
    ·have HKb:Hid (∀w',BoxAt w' Bc [.int .i64 (cnt6 A 0),.int .i64 (cnt6 A 1),.int .i64 (cnt6 A 2),.int .i64 (cnt6 A 3),.int .i64 (cnt6 A 4),.int .i64 (cnt6 A 5)]->w'.cell? ⟨Bc,0,none⟩=some (.int .i64 (cnt6 A 0))∧w'.cell? ⟨Bc,1,none⟩=some (.int .i64 (cnt6 A 1))∧w'.cell? ⟨Bc,2,none⟩=some (.int .i64 (cnt6 A 2))):=fun w' hb'=>⟨hb'.2 0 _ rfl,hb'.2 1 _ rfl,hb'.2 2 _ rfl⟩
     have HBn:Hid (∀w',Below wr.heap.size wr w'->BoxAt w' Bc [.int .i64 (cnt6 A 0),.int .i64 (cnt6 A 1),.int .i64 (cnt6 A 2),.int .i64 (cnt6 A 3),.int .i64 (cnt6 A 4),.int .i64 (cnt6 A 5)]):=fun w' hb'=>HV.out.2.2.2.next hb'
     go_upto_region 64 with fail
     go_region_held3 (fun w'=>w'.cell? ⟨Bc,0,none⟩=some (.int .i64 (cnt6 A 0))∧w'.cell? ⟨Bc,1,none⟩=some (.int .i64 (cnt6 A 1))∧w'.cell? ⟨Bc,2,none⟩=some (.int .i64 (cnt6 A 2)))
      (first | with_reducible exact HS9.out | exact HKb.out _ (HBn.out _ (by go_grown)))
      (first | (go_at_call 40;refine Calls.mono (HS.out _ _ (by go_grown) (by simp) (by simp [go_sem]) (by simp [go_sem]) (by simp [go_sem])) ?_;rintro e w6 ⟨rfl,HK6⟩;have HS9:=hid (HKb.out _ HK6.out.2.2.2)))
     all_goals
      go_wp2_with fail
      go_roundg 1
      case measure=>omega
      case rel=>exact ⟨1,by omega,rfl,rfl,HK6⟩
    ·have HKb:Hid (∀w',BoxAt w' Bc [.int .i64 (cnt6 A 0),.int .i64 (cnt6 A 1),.int .i64 (cnt6 A 2),.int .i64 (cnt6 A 3),.int .i64 (cnt6 A 4),.int .i64 (cnt6 A 5)]->w'.cell? ⟨Bc,3,none⟩=some (.int .i64 (cnt6 A 3))∧w'.cell? ⟨Bc,4,none⟩=some (.int .i64 (cnt6 A 4))∧w'.cell? ⟨Bc,5,none⟩=some (.int .i64 (cnt6 A 5))):=fun w' hb'=>⟨hb'.2 3 _ rfl,hb'.2 4 _ rfl,hb'.2 5 _ rfl⟩
     have HBn:Hid (∀w',Below wr.heap.size wr w'->BoxAt w' Bc [.int .i64 (cnt6 A 0),.int .i64 (cnt6 A 1),.int .i64 (cnt6 A 2),.int .i64 (cnt6 A 3),.int .i64 (cnt6 A 4),.int .i64 (cnt6 A 5)]):=fun w' hb'=>HV.out.2.2.2.next hb'
     go_upto_region 64 with fail
     go_region_held3 (fun w'=>w'.cell? ⟨Bc,3,none⟩=some (.int .i64 (cnt6 A 3))∧w'.cell? ⟨Bc,4,none⟩=some (.int .i64 (cnt6 A 4))∧w'.cell? ⟨Bc,5,none⟩=some (.int .i64 (cnt6 A 5)))
      (first | with_reducible exact HS9.out | exact HKb.out _ (HBn.out _ (by go_grown)))
      (first | (go_at_call 40;refine Calls.mono (HS.out _ _ (by go_grown) (by simp) (by simp [go_sem]) (by simp [go_sem]) (by simp [go_sem])) ?_;rintro e w6 ⟨rfl,HK6⟩;have HS9:=hid (HKb.out _ HK6.out.2.2.2)))
     all_goals
      go_wp2_with fail
      go_roundg 0
      case measure=>omega
      case rel=>exact ⟨2,by omega,rfl,rfl,HK6⟩
   ·obtain rfl:k2=2:=by omega
    obtain ⟨ll2,hll2⟩:∃ll2,A.hs.length=ll2:=⟨_,rfl⟩
    go_wp2_with fail
    go_loopg [19] ll2 (fun g i wr=>∃k:Nat,k<=ll2∧g=ll2 - k∧i=.int .i64 k∧Hid (ELv w0 Z wr r mk ws (l++sayCs A 2++((A.hs.take k).map sayH).flatten) T∧Save (fun k=>¬Z k) W wr∧HSt r q qb gh caph A.hs wr))
    case atStart=>exact ⟨0,by omega,rfl,rfl,hid ⟨by simpa using HV.out.1,HV.out.2.1,HV.out.2.2.1⟩⟩
    case round=>
     obtain ⟨k3,hk3,rfl,rfl,HV3⟩:=hrel
     have u0:=HV3.out.2.2.c0
     have u3:=HV3.out.2.2.c3
     rw [hll2] at u3
     have ul:=HV3.out.2.2.lq
     have ub:=HV3.out.2.2.lb
     by_cases hlt3:k3<ll2
     ·obtain ⟨⟨d,cc,dd⟩,hkx⟩:∃x,A.hs[k3]?=some x:=⟨_,List.getElem?_eq_getElem (by omega)⟩
      obtain ⟨bh,oh,rfl,hbh,y0,y1,y2⟩:=HV3.out.2.2.hat k3 d cc dd hkx
      have hx:=HHs.out _ (List.mem_of_getElem? hkx)
      have j5:(0:Int)<=(k3:Int):=by omega
      have j6:(k3:Int)<(ll2:Int):=by omega
      have j7:(ll2:Int)<100:=by have:=HLen.out;omega
      have HE:Hid (((A.hs.take (k3+1)).map sayH).flatten=((A.hs.take k3).map sayH).flatten++sayH (d,cc,dd)):=by
       have e1:A.hs.take (k3+1)=A.hs.take k3++[(d,cc,dd)]:=by rw [List.take_add_one,hkx];rfl
       show _=_
       rw [e1]
       simp
      have HS:Hid (∀(W1:World) (g:Nat),Below wr.heap.size wr W1->g<W1.heap.size->W1.cell? ⟨g,0,none⟩=some (.int .i64 d)->W1.cell? ⟨g,1,none⟩=some (.int .i64 cc)->W1.cell? ⟨g,2,none⟩=some (.int .i64 dd)->Calls Tryz.prog 40 #[.pointer (some ⟨r,0,none⟩),.string ⟨#[104,111,108,100]⟩,.slice (some ⟨g,0,none⟩) 3 3] W1 fun e w'=>e=.returned (.tuple #[])∧Hid (ELv w0 Z w' r mk ws (l++sayCs A 2++((A.hs.take (k3+1)).map sayH).flatten) T∧Save (fun k=>¬Z k) W w'∧HSt r q qb (some ⟨bh,oh,none⟩) caph A.hs w')):=fun W1 g hW hg a0 a1 a2=>by
       refine (three_elv (bytes "hold") _ _ _ HT.out HV3.out.1 hW hg a0 a1 a2 (by decide) hx.1 hx.2.1 hx.2.2 (HR3.out k3)).mono ?_
       rintro e w' ⟨rfl,k1,k2,k3⟩
       rw [HE.out,<-List.append_assoc]
       exact ⟨rfl,hid ⟨k1,HV3.out.2.1.trans k2 (fun _ _ hj=>hj),HV3.out.2.2.save k3⟩⟩
      have HKb:Hid (∀w',Below wr.heap.size wr w'->w'.cell? ⟨q,0,none⟩=some (.pointer (some ⟨qb,0,none⟩))∧w'.cell? ⟨qb,3,none⟩=some (.slice (some ⟨bh,oh,none⟩) ll2 caph)∧w'.cell? ⟨bh,oh+k3 * 3,none⟩=some (.int .i64 d)∧w'.cell? ⟨bh,oh+k3 * 3+1,none⟩=some (.int .i64 cc)∧w'.cell? ⟨bh,oh+k3 * 3+2,none⟩=some (.int .i64 dd)):=fun w' hb'=>⟨((bcell hb').1 _ _ ul).trans u0,((bcell hb').1 _ _ ub).trans u3,((bcell hb').1 _ _ hbh).trans y0,((bcell hb').1 _ _ hbh).trans y1,((bcell hb').1 _ _ hbh).trans y2⟩
      have HKs:Hid (∀w',HSt r q qb (some ⟨bh,oh,none⟩) caph A.hs w'->w'.cell? ⟨q,0,none⟩=some (.pointer (some ⟨qb,0,none⟩))∧w'.cell? ⟨qb,3,none⟩=some (.slice (some ⟨bh,oh,none⟩) ll2 caph)∧w'.cell? ⟨bh,oh+k3 * 3,none⟩=some (.int .i64 d)∧w'.cell? ⟨bh,oh+k3 * 3+1,none⟩=some (.int .i64 cc)∧w'.cell? ⟨bh,oh+k3 * 3+2,none⟩=some (.int .i64 dd)):=fun w' h'=>by
       obtain ⟨b2,o2,e2,_,t0,t1,t2⟩:=h'.hat k3 d cc dd hkx
       cases e2
       have t3:=h'.c3
       rw [hll2] at t3
       exact ⟨h'.c0,t3,t0,t1,t2⟩
      clear hx hkx HHs HV HLen HR3 HR1 HF
      go_upto_region 68 with fail
      go_region_held3 (fun w'=>w'.cell? ⟨q,0,none⟩=some (.pointer (some ⟨qb,0,none⟩))∧w'.cell? ⟨qb,3,none⟩=some (.slice (some ⟨bh,oh,none⟩) ll2 caph)∧w'.cell? ⟨bh,oh+k3 * 3,none⟩=some (.int .i64 d)∧w'.cell? ⟨bh,oh+k3 * 3+1,none⟩=some (.int .i64 cc)∧w'.cell? ⟨bh,oh+k3 * 3+2,none⟩=some (.int .i64 dd))
       (first | with_reducible exact HS9.out | exact HKb.out _ (by go_grown))
       (first | (go_at_call 40;refine Calls.mono (HS.out _ _ (by go_grown) (by simp) (by simp [go_sem]) (by simp [go_sem]) (by simp [go_sem])) ?_;rintro e w6 ⟨rfl,HK6⟩;have HS9:=hid (HKs.out _ HK6.out.2.2)))
      all_goals
       go_wp2_with fail
       go_roundg (ll2 - (k3+1))
       case measure=>omega
       case rel=>exact ⟨k3+1,by omega,rfl,by simp,HK6⟩
     ·have hk':k3=ll2:=by omega
      subst hk'
      have j6:¬(k3:Int)<(k3:Int):=by omega
      have HE:Hid (l++sayCs A 2++((A.hs.take k3).map sayH).flatten++([101,110,100]++[10])=l++sayHolds A):=by
       show _=_
       rw [List.take_of_length_le (by omega),holds_say,say_word]
       simp only [List.append_assoc]
       exact rfl
      have HC:=hid (esay_elv [101,110,100] HV3.out.1 (by decide) (HR3.out k3))
      go_wp2_with (go_at_call 35;refine Calls.mono HC.out ?_;rintro e w7 ⟨rfl,k1,k2⟩;have HK7:Hid (ELv w0 Z w7 r mk ws (l++sayHolds A) T∧Save (fun k=>¬Z k) W w7):=⟨by rw [<-HE.out];exact k1,HV3.out.2.1.trans k2 (fun _ _ hj=>hj)⟩;clear k1 k2)
      go_returns
      rw [HLR.out]
      exact ⟨rfl,HK7.out.1,(Save.of_below HBw.out).trans HK7.out.2 (fun _ _ hj=>hj)⟩
 ·have HLR:Hid (LR=(sayN (bytes "no") [1],T)):=by show _=_;rw [HObe.out,HO.out,if_neg hin];rfl
  have HM:Hid (Sm 1):=by unfold Hid Sm;omega
  have HK6:Hid (ELv w0 Z W r mk ws l T∧Save (fun k=>¬Z k) W W):=⟨HDW.out,Save.refl _ _⟩
  obtain ⟨n,hn1⟩:∃n:Int,n=1:=⟨_,rfl⟩
  rw [<-hn1] at HLR HM
  clear HObe HO HNx HXo HD HMk x1 x2 xf
  have HSx:Hid (sayN (bytes "no") [n]=([110,111,32]++Lib.itoa n)++[10]):=sayN_one _ _
  have hsz:(bs (Lib.itoa n)).size<=7:=itoa_short HM.out.1 HM.out.2
  have HAp:=hid (bs_append [110,111,32] (Lib.itoa n))
  have HLn:Hid (([110,111,32]++Lib.itoa n).length<=1000):=by
   have e2:(bs (Lib.itoa n)).size=(Lib.itoa n).length:=rfl
   show _<=_
   rw [List.length_append]
   simp only [List.length_cons,List.length_nil]
   omega
  have HN:Hid (∀W6,Below w0.heap.size w0 W6->Calls Tryz.prog 34 #[.int .i64 n] W6 fun e w'=>e=.returned (.string (bs (Lib.itoa n)))∧Below W6.heap.size W6 w'):=fun W6 hW=>enum_any n HM.out.i64.1 HM.out.i64.2 W6 (HTw.out W6 hW)
  have HCs:Hid (∀W6 W8 X,ELv w0 Z W6 r mk ws l T->Save (fun k=>¬Z k) W W6->Below W6.heap.size W6 W8->X=bs ([110,111,32]++Lib.itoa n)->Calls Tryz.prog 35 #[.pointer (some ⟨r,0,none⟩),.string X] W8 fun e w'=>e=.returned (.tuple #[])∧ELv w0 Z w' r mk ws (l++sayN (bytes "no") [n]) T∧Save (fun k=>¬Z k) W w'∧Save (fun k=>k=r) W8 w'):=fun W6 W8 X h6 hs6 hW hX=>by
   subst hX
   refine (esay_elv2 ([110,111,32]++Lib.itoa n) (h6.next hW) HLn.out HR2.out).mono ?_
   rintro e w' ⟨rfl,k1,k2,k3⟩
   rw [HSx.out]
   exact ⟨rfl,k1,hs6.trans ((Save.of_below hW).trans k2 (fun _ _ hj=>hj)) (fun _ _ hj=>hj),k3⟩
  generalize bs (Lib.itoa n)=sv at HN hsz HAp
  rw [hn1] at HN
  by_cases hneg:n0<0
  ·clear hin hn1
   go_wp2_with (first | (go_at_call 36;refine Calls.mono (eis_any c0 y0 c1 _ _) ?_;rintro e w5 ⟨rfl,hw5⟩;subst w5) | (go_at_call 34;refine Calls.mono (HN.out _ HK6.out.1.below) ?_;rintro e w8 ⟨rfl,hb8⟩;have HB8:=hid hb8;clear hb8) | (go_at_call 35;refine Calls.mono (HCs.out _ _ _ HK6.out.1 HK6.out.2 HB8.out HAp.out) ?_;rintro e w7 ⟨rfl,k1,k2,k3⟩;have HK7:=hid (And.intro k1 k2);clear k1 k2 k3))
   all_goals (try (exfalso;omega))
   go_returns
   rw [HLR.out]
   exact ⟨rfl,HK7.out.1,(Save.of_below HBw.out).trans HK7.out.2 (fun _ _ hj=>hj)⟩
  ·have j3:(3:Int)<=n0:=by omega
   clear hin hn1
   go_wp2_with (first | (go_at_call 36;refine Calls.mono (eis_any c0 y0 c1 _ _) ?_;rintro e w5 ⟨rfl,hw5⟩;subst w5) | (go_at_call 34;refine Calls.mono (HN.out _ HK6.out.1.below) ?_;rintro e w8 ⟨rfl,hb8⟩;have HB8:=hid hb8;clear hb8) | (go_at_call 35;refine Calls.mono (HCs.out _ _ _ HK6.out.1 HK6.out.2 HB8.out HAp.out) ?_;rintro e w7 ⟨rfl,k1,k2,k3⟩;have HK7:=hid (And.intro k1 k2);clear k1 k2 k3))
   all_goals (try (exfalso;omega))
   go_returns
   rw [HLR.out]
   exact ⟨rfl,HK7.out.1,(Save.of_below HBw.out).trans HK7.out.2 (fun _ _ hj=>hj)⟩
end Go.Proofs.YtbgnajcmhmpjlacGreatDoor
