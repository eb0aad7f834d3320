/- The document's desk hears a line: begin. -/
import Derived.Test.YtbgnajcmhmpjlacGreatDoorH3
set_option maxRecDepth 100000
set_option maxHeartbeats 100000000
namespace Go.Proofs.YtbgnajcmhmpjlacGreatDoor
open Go.RowKit
theorem line_begin (w0 w:World) (Z:Nat->Prop) (r mk:Nat) (ws:Nat->Int) (l:List UInt8) (T:Twn) (s:ByteArray) (LR:List UInt8 × Twn) (wd:ByteArray) (ns:List Int) (k Bl Bn bl ol cap:Nat) (na:Option Addr) (nc:Nat) (W:World) (Bx:Nat) (u7 u8 u29 u30 u31 u32 u33 u34 u35 u36 u37 u38 u39 u40 u41 u42 u43 u44 u45 u46 u47 u48 u49 u50 u51 u52 u53 u54 u55:Value) (h:LX w0 w Z r mk ws l T LR wd ns k Bl Bn bl ol cap na nc W Bx) (eb:wd=⟨#[98,101,103,105,110]⟩) (he:k % 2=0):line2.a w0 w Z r mk ws l T s LR wd ns k Bl Bn bl ol cap na nc W Bx u7 u8 u29 u30 u31 u32 u33 u34 u35 u36 u37 u38 u39 u40 u41 u42 u43 u44 u45 u46 u47 u48 u49 u50 u51 u52 u53 u54 u55:=by
 obtain ⟨i9,hi9,hz9,hz91,hz92⟩:=info_parts infoWant2
 have HT:=hid h.ht
 have HD:=hid h.hd
 have HR:=hid h.hr
 have HObe:=hid h.ob
 have HYl:=hid h.yl
 have HNl:=hid h.nl
 have HBW:=hid h.bw
 have HNx:=hid h.nx
 have HXo:=hid h.xo
 have HR2:Hid (Room (l.length+2000)):=h.hr.le (by omega)
 have c0:=h.c0
 have c1:=h.c1
 have y0:=h.y0
 have x0:=h.x0
 have x1:=h.x1
 have x2:=h.x2
 have xf:=h.xf
 have hBx:=h.bx
 have HXr:=hid h
 clear h
 have f1:(wd.toList == [98,101,103,105,110])=true:=by rw [eb,ByteArray.toList_eq];decide
 have HEb:Hid (wd.data.toList=bytes "begin"):=by show _=_;rw [eb];decide
 unfold line2
 dsimp -zeta only
 intro Q1 J1 K2 b1 b2
 clear eb
 have HO:Hid (obeyR ws T wd.data.toList ns=some (stepW T ⟨1,0,pairs ns⟩)):=by show _=_;unfold obeyR;rw [if_pos HEb.out,if_pos (by have:=HNl.out;omega)]
 obtain ⟨hf,hhf⟩:∃hf,k=2 * hf:=⟨k / 2,by omega⟩
 have j3:(k:Int).tmod 2=0:=by rw [Int.tmod_eq_emod_of_nonneg (by omega)];omega
 have HHf:Hid (k=2 * hf):=hhf
 have hnl':=HNl
 clear hhf he
 go_upto_region 14 with fail
 have HX0:Hid (XSt W Bx (.slice none 0 0) 0 [] (W.setCell ⟨Bx,0,none⟩ (.int .i64 1))):=⟨(Below.refl Bx W).setCell (p:=⟨Bx,0,none⟩) (Nat.le_refl Bx) _,by simpa using hBx,World.cell?_setCell_same _ _ _ x0,by rw [World.cell?_setCell_other _ _ _ _ (by intro e;simp only [Addr.mk.injEq] at e;omega)];exact x1,by rw [World.cell?_setCell_other _ _ _ _ (by intro e;simp only [Addr.mk.injEq] at e;omega)];exact x2,by simpa [go_sem] using xf,World.ownsRow_nil _ _ _ _⟩
 clear x0 x1 x2 xf hBx
 generalize W.setCell ⟨Bx,0,none⟩ (.int .i64 1)=Wa at *
 go_wp2_with fail
 go_loopg [11] hf (fun g i wr=>∃(q t:Nat) (v:Value),q<=hf∧g=hf - q∧i=.int .i64 t∧Hid (t=2 * q)∧Hid (XSt W Bx v q (pairs (ns.take t)) wr))
 case atStart=>exact ⟨0,0,_,by omega,rfl,rfl,hid rfl,HX0⟩
 case round=>
  obtain ⟨q,t,v,hq,rfl,rfl,HTk,HX⟩:=hrel
  have cn:=(HX.out.bw.cell (p:=⟨Bn,0,none⟩) HXo.out.2.2.1).trans c1
  by_cases hlt:q<hf
  ·have htl:t+1<k:=by have:=HHf.out;have:=HTk.out;omega
   obtain ⟨a,ha⟩:∃a,ns[t]?=some a:=⟨_,List.getElem?_eq_getElem (by have:=hnl'.out;omega)⟩
   obtain ⟨bb,hb⟩:∃b,ns[t+1]?=some b:=⟨_,List.getElem?_eq_getElem (by have:=hnl'.out;omega)⟩
   obtain ⟨bn,on,hna,hbn,u0⟩:=HNx.out t a ha
   have hbnx:bn<Bx:=(HXo.out.2.2.2.2.1 _ hna).2
   have u1:W.cell? ⟨bn,on+(t+1),none⟩=some (.int .i64 bb):=by
    obtain ⟨b',o',e,_,y⟩:=HNx.out (t+1) bb hb
    rw [hna] at e
    cases e
    exact y
   subst hna
   have z0:=(HX.out.bw.cell (p:=⟨bn,on+t,none⟩) hbnx).trans u0
   have z1:=(HX.out.bw.cell (p:=⟨bn,on+(t+1),none⟩) hbnx).trans u1
   have HE:Hid (flat (pairs (ns.take (t+2)))=flat (pairs (ns.take t))++[.int .i64 a,.int .i64 bb]):=by
    have e1:=HTk.out
    have e2:pairs (ns.take (t+2))=pairs (ns.take t)++[(a,bb)]:=by
     subst e1
     exact pairs_take ha hb
    show _=_
    rw [e2,flat_snoc]
   have HQl:Hid (q<=9000):=by have:=HYl.out;have:=HHf.out;show _<=_;omega
   have j0:(0:Int)<=(t:Int):=by omega
   have j4:(t:Int)<(k:Int):=by omega
   have hr1:IntKind.i64.wrap ((t:Int)+1)=((t+1:Nat):Int):=by have:=HYl.out;rw [show ((t:Int)+1)=((t+1:Nat):Int) by omega];go_unwrap
   have hr2:IntKind.i64.wrap ((t:Int)+2)=((t+2:Nat):Int):=by have:=HYl.out;rw [show ((t:Int)+2)=((t+2:Nat):Int) by omega];go_unwrap
   have j5:((t+1:Nat):Int)<(k:Int):=by omega
   have j6:(0:Int)<=(t:Int)+1:=by omega
   have j7:(t:Int)+1<(k:Int):=by omega
   have v2:=HX.out.c2
   have vf:=HX.out.fz 2
   have hlt2:=HX.out.lt
   have hbr:bn<wr.heap.size:=Nat.lt_trans hbnx hlt2
   have hnr:Bn<wr.heap.size:=Nat.lt_trans HXo.out.2.2.1 hlt2
   clear ha hb u0 u1 hbn HObe HO HNx HHf hnl' HYl HX0 f1 HEb j3 c0 c1 y0 HXo
   clear HR HR2 HD HT HNl HBW HXr
   go_upto_region 17 with fail
   go_region_law
    (first | (refine step_append_two (by rfl) (.tmp 77) (.tmp 88) 93 (by rfl) (Bx+1) 97 i9 (.agg #[.int .i64 0,.int .i64 0]) 2 16 Tryz.underlying93 hi9 hz9 hz91 hz92 rfl (by decide) v _ _ (by simp [Act.eval]) (own_next HX.out.row (by go_grown)) ⟨wr.heap.size,0,none⟩ 1 1 [.int .i64 a,.int .i64 bb] (by simp [Act.eval]) rfl (want_new _ (by simp)) want_cell (by have:=HQl.out;unfold maxLen;omega) (by have:=HQl.out;omega) (by simp;omega) (by decide) ?_;intro v8 w8 hown8 hgrow8 hwh8;have hown9:w8.ownsRow (Bx+1) 97 2 v8 (q+1) (flat (pairs (ns.take (t+2)))):=(by rw [HE.out];exact hown8);obtain ⟨g8,cap8,rfl,_,_⟩:=wants_of_own hown9;have HO8:=hid hown9;have HB8:Hid (Below (Bx+1) wr w8):=own_below (own_next HX.out.row (by go_grown)) hgrow8 (by go_grown) (by simp;omega) (Nat.le_refl _);have c8:=(HB8.out.cell (p:=⟨Bx,2,none⟩) (Nat.lt_succ_self Bx)).trans v2;have f8:=(HB8.out.frozen (p:=⟨Bx,2,none⟩) (Nat.lt_succ_self Bx)).trans vf;clear hown8 hown9 hgrow8 hwh8))
   all_goals
    go_wp2_with fail
    go_roundg (hf - (q+1))
    case measure=>omega
    case rel=>exact ⟨q+1,t+2,_,by omega,rfl,by simp,hid (by have:=HTk.out;omega),hid (HX.out.put HB8.out HO8.out)⟩
  ·obtain rfl:q=hf:=by omega
   have ht':t=k:=by have:=HTk.out;have:=HHf.out;omega
   subst ht'
   have j1:¬(t:Int)<(t:Int):=by omega
   obtain ⟨ga9,cap9,rfl,hwa,hpl⟩:=wants_of_own HX.out.row
   have htake:ns.take t=ns:=List.take_of_length_le (by have:=hnl'.out;omega)
   rw [htake] at hwa hpl
   have hlR:=HXr.out.r1
   have q1:wr.cell? ⟨r,1,none⟩=some (.pointer (some ⟨mk,0,none⟩)):=(HX.out.bw.cell (p:=⟨r,1,none⟩) hlR.2).trans hlR.1
   have HR3:Hid (L2R w r mk ws T wd ns t W Bx wr):=.inl ⟨⟨1,0,pairs ns⟩,ga9,cap9,HBW.out.trans (HX.out.bw.mono HXo.out.1),q1,HX.out.c0,HX.out.c1,by rw [hpl];exact HX.out.c2,HX.out.lt,hwa,(show (1:Int) ≠ 0 by decide),HO.out⟩
   go_wp2_with fail
   go_meet
   case rel=>exact HR3.out
end Go.Proofs.YtbgnajcmhmpjlacGreatDoor
