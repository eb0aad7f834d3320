/- The contract of a market's World. -/
import Derived.Test.YtbgnajcmhmpjlacGreatDoorB2
import Derived.Test.YtbgnajcmhmpjlacGreatDoorA2
import Derived.Test.YtbgnajcmhmpjlacGreatDoorB4
import Derived.Test.YtbgnajcmhmpjlacGreatDoorA8
set_option maxRecDepth 100000
set_option maxHeartbeats 100000000
namespace Go.Proofs.YtbgnajcmhmpjlacGreatDoor
open Go.RowKit
theorem applied_any (ws:Nat->Int) (la:Option Addr) (ll lc:Nat) (l:List (Int × Int)) (w:World) (hl:WantsAt w la l) (hll:l.length=ll):
 Calls Tryz.prog 66 #[.agg #[.int .i64 (ws 0),.int .i64 (ws 1),.int .i64 (ws 2),.int .i64 (ws 3),.int .i64 (ws 4),.int .i64 (ws 5)],.slice la ll lc] w fun e w'=>e=.returned (.tuple #[.agg #[.int .i64 ((appW ws l).1 0),.int .i64 ((appW ws l).1 1),.int .i64 ((appW ws l).1 2),.int .i64 ((appW ws l).1 3),.int .i64 ((appW ws l).1 4),.int .i64 ((appW ws l).1 5)],.agg #[.int .i64 (appW ws l).2.1,.int .i64 (appW ws l).2.2]])∧Below w.heap.size w w':=by
 by_cases hf:(chkW l).1=0
 ·have e1:appW ws l=runW ws 0 (l.drop 0):=by unfold appW;rw [if_pos hf];rfl
  rw [e1]
  have hx:((chkW l).1 != 0)=false:=by simp [hf]
  have hF:Fit l:=fit_iff.1 hf
  have k1:(ll:Int)<=4:=by have:=hF.few;omega
  clear hf e1
  go_enter Tryz.func66,Tryz.ntmps66
  go_wp2_with fail
  have hS0:=PSt.begin ws w 40 31
  refine (wantsFault_any _ _ _ _ _ (hl.below hS0.below (Nat.le_refl _)) hll).mono ?_
  rintro e w1 ⟨rfl,hb1⟩
  have hS1:=hS0.next hb1
  clear hb1 hS0
  go_wp2_with fail
  go_loopg [7] ll (fun g i wr=>∃(k:Nat) (vs:Nat->Int),k<=ll∧g=ll - k∧i=.int .i64 k∧Hid (runW ws 0 (l.drop 0)=runW vs k (l.drop k))∧PSt w.heap.size w vs wr)
  case atStart=>exact ⟨0,ws,Nat.zero_le _,rfl,rfl,rfl,hS1.next (by go_grown)⟩
  case round=>
   obtain ⟨k,vs,hk,rfl,rfl,HE,hS⟩:=hrel
   have hlt2:=hS.lt
   have hlt1:w.heap.size+1<wr.heap.size:=by omega
   have hlt0:w.heap.size<wr.heap.size:=by omega
   by_cases hlt:k<ll
   ·obtain ⟨⟨c,d⟩,hkl⟩:∃x,l[k]?=some x:=⟨_,List.getElem?_eq_getElem (by omega)⟩
    obtain ⟨bl,ol,rfl,hbl,hcl,hdl⟩:=hl k c d hkl
    obtain ⟨t0,t1,t2,t3,t4⟩:=hF.at hkl
    obtain ⟨n,rfl⟩:=Int.eq_ofNat_of_zero_le t0
    have hn:n<6:=by omega
    have j0:(0:Int)<=(k:Int):=by omega
    have j1:(k:Int)<(ll:Int):=by omega
    have hcl':wr.cell? ⟨bl,ol+k * 2,none⟩=some (.int .i64 n):=(hS.below.cell (p:=⟨bl,ol+k * 2,none⟩) hbl).trans hcl
    have hdl':wr.cell? ⟨bl,ol+k * 2+1,none⟩=some (.int .i64 d):=(hS.below.cell (p:=⟨bl,ol+k * 2+1,none⟩) hbl).trans hdl
    have rn:=hS.row n hn
    have g0:=hS.f0
    clear hcl hdl hl t2
    have z6:vs n<=100∨100<vs n:=by omega
    by_cases b1:vs n<0
    ·have HE2:Hid _:=HE.out.trans (run_bad hkl (ws:=vs) (by unfold morC;rw [if_pos b1];decide))
     have e2:Hid (morC (vs n) d=1):=by show _=_;unfold morC;rw [if_pos b1]
     go_wp2_with fail
     refine (fF_any _ _ _).mono ?_
     rintro e w2 ⟨rfl,hb2⟩
     have hS2:=hS.next hb2
     clear hb2 hS hlt0 hlt1 hlt2 hcl' hdl' rn g0
     have z0:=hS2.zer 0 (by omega)
     have z1:=hS2.zer 1 (by omega)
     have z2:=hS2.zer 2 (by omega)
     have z3:=hS2.zer 3 (by omega)
     have z4:=hS2.zer 4 (by omega)
     have z5:=hS2.zer 5 (by omega)
     have q0:=hS2.c0
     have q1:=hS2.c1
     have g1:=hS2.f1
     have g2:=hS2.f2
     have hb:=hS2.below
     go_wp2_with fail
     exact bodyPost_ret (v:=.tuple #[.agg #[.int .i64 0,.int .i64 0,.int .i64 0,.int .i64 0,.int .i64 0,.int .i64 0],.agg #[.int .i64 1,.int .i64 k]]) (by simp [results,Tryz.results66,go_sem,z0,z1,z2,z3,z4,z5,q0,q1]) rfl ⟨by rw [HE2.out,e2.out];rfl,by go_grown⟩
    by_cases b2:100<vs n
    ·have HE2:Hid _:=HE.out.trans (run_bad hkl (ws:=vs) (by unfold morC;rw [if_neg b1,if_pos b2];decide))
     have e2:Hid (morC (vs n) d=1):=by show _=_;unfold morC;rw [if_neg b1,if_pos b2]
     go_wp2_with fail
     refine (fF_any _ _ _).mono ?_
     rintro e w2 ⟨rfl,hb2⟩
     have hS2:=hS.next hb2
     clear hb2 hS hlt0 hlt1 hlt2 hcl' hdl' rn g0
     have z0:=hS2.zer 0 (by omega)
     have z1:=hS2.zer 1 (by omega)
     have z2:=hS2.zer 2 (by omega)
     have z3:=hS2.zer 3 (by omega)
     have z4:=hS2.zer 4 (by omega)
     have z5:=hS2.zer 5 (by omega)
     have q0:=hS2.c0
     have q1:=hS2.c1
     have g1:=hS2.f1
     have g2:=hS2.f2
     have hb:=hS2.below
     go_wp2_with fail
     exact bodyPost_ret (v:=.tuple #[.agg #[.int .i64 0,.int .i64 0,.int .i64 0,.int .i64 0,.int .i64 0,.int .i64 0],.agg #[.int .i64 1,.int .i64 k]]) (by simp [results,Tryz.results66,go_sem,z0,z1,z2,z3,z4,z5,q0,q1]) rfl ⟨by rw [HE2.out,e2.out];rfl,by go_grown⟩
    have b3:0<=vs n:=by omega
    have b4:vs n<=100:=by omega
    have e5:Hid (morC (vs n) d=if vs n+d<0 then 5 else if 100<vs n+d then 6 else 0):=by show _=_;unfold morC;rw [if_neg b1,if_neg b2]
    have e6:Hid (morV (vs n) d=if vs n+d<0 then 0 else if 100<vs n+d then 0 else vs n+d):=by show _=_;unfold morV;rw [if_neg b1,if_neg b2]
    have hu:IntKind.i64.wrap (vs n+d)=vs n+d:=by go_unwrap
    clear z6 b1 b2
    have bne:Hid (bl<w.heap.size):=hbl
    go_wp2_with fail
    go_region
    have hS2:=(hS.set n hn (vs n+d)).next (Below.refl _ _).drew
    clear hS hlt0 hlt1 hlt2 hcl' hdl' rn g0 hu
    generalize (wr.setCell ⟨w.heap.size,n,none⟩ (.int .i64 (vs n+d))).drew=W0 at hS2 ⊢
    have rn2:W0.cell? ⟨w.heap.size,n,none⟩=some (.int .i64 (vs n+d)):=by have:=hS2.row n hn;rwa [upd,if_pos rfl] at this
    by_cases b5:vs n+d<0
    ·have e2:Hid (morC (vs n) d=5):=by show _=_;rw [e5.out,if_pos b5]
     have HE2:Hid _:=HE.out.trans (run_bad hkl (ws:=vs) (by rw [e2.out];decide))
     go_wp2_with fail
     refine (fF_any _ _ _).mono ?_
     rintro e w2 ⟨rfl,hb2⟩
     have hS3:=hS2.next hb2
     clear hb2 hS2 rn2
     have z0:=hS3.zer 0 (by omega)
     have z1:=hS3.zer 1 (by omega)
     have z2:=hS3.zer 2 (by omega)
     have z3:=hS3.zer 3 (by omega)
     have z4:=hS3.zer 4 (by omega)
     have z5:=hS3.zer 5 (by omega)
     have q0:=hS3.c0
     have q1:=hS3.c1
     have g1:=hS3.f1
     have g2:=hS3.f2
     have hb:=hS3.below
     go_wp2_with fail
     exact bodyPost_ret (v:=.tuple #[.agg #[.int .i64 0,.int .i64 0,.int .i64 0,.int .i64 0,.int .i64 0,.int .i64 0],.agg #[.int .i64 5,.int .i64 k]]) (by simp [results,Tryz.results66,go_sem,z0,z1,z2,z3,z4,z5,q0,q1]) rfl ⟨by rw [HE2.out,e2.out];rfl,by go_grown⟩
    by_cases b6:100<vs n+d
    ·have e2:Hid (morC (vs n) d=6):=by show _=_;rw [e5.out,if_neg b5,if_pos b6]
     have HE2:Hid _:=HE.out.trans (run_bad hkl (ws:=vs) (by rw [e2.out];decide))
     go_wp2_with fail
     refine (fF_any _ _ _).mono ?_
     rintro e w2 ⟨rfl,hb2⟩
     have hS3:=hS2.next hb2
     clear hb2 hS2 rn2
     have z0:=hS3.zer 0 (by omega)
     have z1:=hS3.zer 1 (by omega)
     have z2:=hS3.zer 2 (by omega)
     have z3:=hS3.zer 3 (by omega)
     have z4:=hS3.zer 4 (by omega)
     have z5:=hS3.zer 5 (by omega)
     have q0:=hS3.c0
     have q1:=hS3.c1
     have g1:=hS3.f1
     have g2:=hS3.f2
     have hb:=hS3.below
     go_wp2_with fail
     exact bodyPost_ret (v:=.tuple #[.agg #[.int .i64 0,.int .i64 0,.int .i64 0,.int .i64 0,.int .i64 0,.int .i64 0],.agg #[.int .i64 6,.int .i64 k]]) (by simp [results,Tryz.results66,go_sem,z0,z1,z2,z3,z4,z5,q0,q1]) rfl ⟨by rw [HE2.out,e2.out];rfl,by go_grown⟩
    have e2:Hid (morC (vs n) d=0):=by show _=_;rw [e5.out,if_neg b5,if_neg b6]
    have e3:Hid (morV (vs n) d=vs n+d):=by show _=_;rw [e6.out,if_neg b5,if_neg b6]
    have HE2:Hid _:=HE.out.trans (run_next hkl (ws:=vs) e2.out)
    have b7:0<=vs n+d:=by omega
    have b8:vs n+d<=100:=by omega
    clear b5 b6
    go_wp2_with fail
    go_roundg (ll - (k+1))
    case measure=>omega
    case rel=>exact ⟨k+1,upd vs n (vs n+d),by omega,rfl,by simp,by have q:=HE2.out;rw [e3.out] at q;exact q,hS2⟩
   ·have hkk:k=ll:=by omega
    subst hkk
    have hE2:Hid (runW ws 0 (l.drop 0)=(vs,0,0)):=by
     show _=_
     rw [HE.out,List.drop_of_length_le (l:=l) (by omega),runW]
    clear HE
    have z0:=hS.zer 0 (by omega)
    have z1:=hS.zer 1 (by omega)
    have z2:=hS.zer 2 (by omega)
    have z3:=hS.zer 3 (by omega)
    have z4:=hS.zer 4 (by omega)
    have z5:=hS.zer 5 (by omega)
    have q0:=hS.c0
    have q1:=hS.c1
    have g1:=hS.f1
    have g2:=hS.f2
    have hb:=hS.below
    have a0:=hS.row 0 (by omega)
    have a1:=hS.row 1 (by omega)
    have a2:=hS.row 2 (by omega)
    have a3:=hS.row 3 (by omega)
    have a4:=hS.row 4 (by omega)
    have a5:=hS.row 5 (by omega)
    go_wp2_with fail
    exact bodyPost_ret (v:=.tuple #[.agg #[.int .i64 (vs 0),.int .i64 (vs 1),.int .i64 (vs 2),.int .i64 (vs 3),.int .i64 (vs 4),.int .i64 (vs 5)],.agg #[.int .i64 0,.int .i64 0]]) (by simp [results,Tryz.results66,go_sem,z0,z1,z2,z3,z4,z5,q0,q1]) rfl ⟨by rw [hE2.out],by go_grown⟩
 ·have hx:((chkW l).1 != 0)=true:=by simpa using hf
  have e1:appW ws l=(noW,(chkW l).1,(chkW l).2):=by unfold appW;rw [if_neg hf]
  rw [e1]
  clear hf e1
  go_enter Tryz.func66,Tryz.ntmps66
  go_wp2_with fail
  have hS0:=PSt.begin ws w 40 31
  refine (wantsFault_any _ _ _ _ _ (hl.below hS0.below (Nat.le_refl _)) hll).mono ?_
  rintro e w1 ⟨rfl,hb1⟩
  have hS1:=hS0.next hb1
  clear hb1 hS0
  have hlt:=hS1.lt
  have r0:(w1.alloc (.cells #[.int .i64 (chkW l).1,.int .i64 (chkW l).2] 31)).cell? ⟨w1.heap.size,0,none⟩=some (.int .i64 (chkW l).1):=by simp [go_sem]
  have r1:(w1.alloc (.cells #[.int .i64 (chkW l).1,.int .i64 (chkW l).2] 31)).cell? ⟨w1.heap.size,1,none⟩=some (.int .i64 (chkW l).2):=by simp [go_sem]
  have hS2:=hS1.next ((Below.refl _ _).alloc (Nat.le_refl _) (.cells #[.int .i64 (chkW l).1,.int .i64 (chkW l).2] 31))
  clear hS1
  go_wp2_with fail
  generalize w1.alloc (.cells #[.int .i64 (chkW l).1,.int .i64 (chkW l).2] 31)=W0 at r0 r1 hS2 ⊢
  generalize w1.heap.size=bf at r0 r1 hlt ⊢
  have z0:=hS2.zer 0 (by omega)
  have z1:=hS2.zer 1 (by omega)
  have z2:=hS2.zer 2 (by omega)
  have z3:=hS2.zer 3 (by omega)
  have z4:=hS2.zer 4 (by omega)
  have z5:=hS2.zer 5 (by omega)
  have q0:=hS2.c0
  have q1:=hS2.c1
  have g1:=hS2.f1
  have g2:=hS2.f2
  have hb:=hS2.below
  have hlt1:w.heap.size+1<bf:=by omega
  go_region
  all_goals
   go_wp2_with fail
   exact bodyPost_ret (v:=.tuple #[.agg #[.int .i64 0,.int .i64 0,.int .i64 0,.int .i64 0,.int .i64 0,.int .i64 0],.agg #[.int .i64 (chkW l).1,.int .i64 (chkW l).2]]) (by simp [results,Tryz.results66,go_sem,z0,z1,z2,z3,z4,z5,q0,q1]) rfl ⟨rfl,by go_grown⟩
theorem MkIn.deal {p:Nat} {ws:Nat->Int} {T:Twn} {O:Nat->Prop} {w:World} (h:MkIn p ws T O w) (hI:BInv T.B) {k:Nat} {n:Int} (hk:T.B.ord[k]?=some n):∃kn gl capl go capo sw cw,n=((kn:Nat):Int)∧kn<T.B.L.length∧w.cell? ⟨p,0,none⟩=some (.slice (some ⟨gl,0,none⟩) T.B.L.length capl)∧w.cell? ⟨p,1,none⟩=some (.slice (some ⟨go,0,none⟩) T.B.ord.length capo)∧w.cell? ⟨go,k,none⟩=some (.int .i64 n)∧w.cell? ⟨gl,kn * 4,none⟩=some (.slice sw (wantsR T.B n).length cw)∧WantsAt w sw (wantsR T.B n)∧gl<w.heap.size∧go<w.heap.size:=by
 obtain ⟨OB,hB,_⟩:=h.book
 obtain ⟨rv,ov,V,hR,_⟩:=hB.raw
 obtain ⟨D,hD,_⟩:=(hI.ord n).1 (List.mem_of_getElem? hk)
 obtain ⟨kn,rfl,hkn⟩:∃kn:Nat,n=(kn:Int)∧T.B.L[kn]?=some D:=by
  unfold dealAt at hD
  split at hD
  ·exact absurd hD (by simp)
  ·exact ⟨n.toNat,by omega,hD⟩
 have hkl:kn<T.B.L.length:=(List.getElem?_eq_some_iff.1 hkn).1
 obtain ⟨v,hv⟩:∃v,V[kn]?=some v:=⟨_,List.getElem?_eq_getElem (by rw [hR.len];exact hkl)⟩
 obtain ⟨gl,capl,rfl⟩:=own_any hR.row (by omega)
 obtain ⟨go,capo,rfl⟩:=own_any hR.ord (by have:=(List.getElem?_eq_some_iff.1 hk).1;omega)
 obtain ⟨_,_,_,_,hcl⟩:=own_row hR.row
 obtain ⟨_,_,_,_,hco⟩:=own_row hR.ord
 have lt1:=hR.row.lt gl rfl
 have lt2:=hR.ord.lt go rfl
 have hw:wantsR T.B (kn:Int)=D.w:=by unfold wantsR;rw [hD]
 have hW:=(hR.deal kn D v hkn hv).1
 obtain ⟨sw,cw,e,hWA,_⟩:=wants_of_own hW
 refine ⟨kn,gl,capl,go,capo,sw,cw,rfl,hkl,hR.c0,hR.c1,hco k _ (by rw [List.getElem?_map,hk];rfl),?_,by rw [hw];exact hWA,lt1.2,lt2.2⟩
 rw [hw,<-e]
 exact hcl _ _ (flatD_at hkn hv).1
theorem MkIn.ordc {p:Nat} {ws:Nat->Int} {T:Twn} {O:Nat->Prop} {w:World} (h:MkIn p ws T O w):∃go capo,w.cell? ⟨p,1,none⟩=some (.slice go T.B.ord.length capo)∧NumsAt w go T.B.ord:=by
 obtain ⟨OB,hB,_⟩:=h.book
 obtain ⟨rv,ov,V,hR,_⟩:=hB.raw
 have h1:=hR.c1
 obtain ⟨go,capo,rfl,hN,_⟩:=nums_of_own hR.ord
 exact ⟨go,capo,h1,hN⟩
theorem mserial_any {O:Nat->Prop} {p:Nat} {ws:Nat->Int} {T:Twn} {w:World} (h:MkIn p ws T O w) (hF:Full ws T):
 Calls Tryz.prog 41 #[.pointer (some ⟨p,0,none⟩)] w fun e w'=>e=.returned (.tuple #[wldV (curR ws T),.int .i64 0])∧Below w.heap.size w w':=by
 have HI:=hid h
 have HBr:=hid hF.brk
 have HSer:Hid (serR T.B ws T.B.ord=(curR ws T,0)):=hF.town.ser
 have HZ:Hid ((serR T.B ws T.B.ord).2=0):=by show _=_;rw [HSer.out]
 have p1:=MktIn.fr h (k:=0) (by omega)
 have p2:=MktIn.fr h (k:=1) (by omega)
 have p3:=MktIn.fr h (k:=2) (by omega)
 have p4:=MktIn.fr h (k:=3) (by omega)
 have p5:=MktIn.fr h (k:=4) (by omega)
 have p6:=MktIn.fr h (k:=5) (by omega)
 have hpl:=h.lt
 clear h hF
 go_enter Tryz.func41,Tryz.ntmps41
 go_upto_region 2 with fail
 have hS:=S6.begin w 40 ws
 generalize ((w.alloc (.cells #[.int .i64 0,.int .i64 0,.int .i64 0,.int .i64 0,.int .i64 0,.int .i64 0] 40)).alloc (.cells #[.int .i64 (ws 0),.int .i64 (ws 1),.int .i64 (ws 2),.int .i64 (ws 3),.int .i64 (ws 4),.int .i64 (ws 5)] 40))=w1 at hS ⊢
 clear p1 p2 p3 p4 p5 p6
 have HS1:=hid hS
 have HOl:Hid (T.B.ord.length<=8∧T.B.L.length<=8):=⟨HBr.out.ordLen,HBr.out.len⟩
 clear hS
 go_wp2_with fail
 go_loopg [5,6,7] T.B.ord.length (fun g s5 _ _ wr=>∃k:Nat,k<=T.B.ord.length∧g=T.B.ord.length - k∧s5=.int .i64 k∧Hid (S6 w.heap.size w (serR T.B ws (T.B.ord.take k)).1 wr))
 case atStart=>exact ⟨0,Nat.zero_le _,rfl,rfl,HS1.out⟩
 case round=>
 obtain ⟨k,hk,rfl,rfl,HS⟩:=hrel
 clear HS1
 have hpw:p<wr.heap.size:=by have:=HS.out.lt;omega
 by_cases hlt:k<T.B.ord.length
 case neg=>
  have j1:¬(k:Int)<(T.B.ord.length:Int):=by omega
  obtain ⟨go,capo,hoc,_⟩:=(HI.out.next HS.out.below).ordc
  have HE:Hid ((serR T.B ws (T.B.ord.take k)).1=curR ws T):=by
   show _=_
   rw [List.take_of_length_le (by omega),HSer.out]
  have hS2:S6 w.heap.size w (curR ws T) wr:=by have:=HS.out;rw [HE.out] at this;exact this
  clear HS
  have z0:=hS2.zer 0 (by omega)
  have z1:=hS2.zer 1 (by omega)
  have z2:=hS2.zer 2 (by omega)
  have z3:=hS2.zer 3 (by omega)
  have z4:=hS2.zer 4 (by omega)
  have z5:=hS2.zer 5 (by omega)
  have a0:=hS2.row 0 (by omega)
  have a1:=hS2.row 1 (by omega)
  have a2:=hS2.row 2 (by omega)
  have a3:=hS2.row 3 (by omega)
  have a4:=hS2.row 4 (by omega)
  have a5:=hS2.row 5 (by omega)
  have g0:=hS2.f0
  have hb:=hS2.below
  have hl2:=hS2.lt
  clear hS2
  go_wp2_with fail
  exact bodyPost_ret (v:=.tuple #[wldV (curR ws T),.int .i64 0]) (by simp [wldV,results,Tryz.results41,go_sem,z0,z1,z2,z3,z4,z5]) rfl ⟨rfl,by go_grown⟩
 obtain ⟨n,hn⟩:∃n,T.B.ord[k]?=some n:=⟨_,List.getElem?_eq_getElem hlt⟩
 obtain ⟨ha,hb⟩:=ser_next HZ.out hn
 obtain ⟨kn,gl,capl,go,capo,sw,cw,rfl,hkl,d0,d1,d2,d3,hWA,lgl,lgo⟩:=(HI.out.next HS.out.below).deal HBr.out hn
 have HA:=hid ha
 have HB:=hid hb
 have HK:Hid (k<T.B.ord.length):=hlt
 generalize (serR T.B ws (T.B.ord.take k)).1=vs at *
 have j0:(0:Int)<=(k:Int):=by omega
 have j1:(k:Int)<(T.B.ord.length:Int):=by omega
 have j2:(T.B.ord.length:Int)<=8:=by have:=HOl.out;omega
 have n0:(0:Int)<=(kn:Int):=by omega
 have n1:(kn:Int)<(T.B.L.length:Int):=by omega
 have n2:(T.B.L.length:Int)<=8:=by have:=HOl.out;omega
 have HWA:=hid hWA
 have HP:Hid (∀w',Below wr.heap.size wr w'->w'.cell? ⟨p,0,none⟩=some (.slice (some ⟨gl,0,none⟩) T.B.L.length capl)∧w'.cell? ⟨p,1,none⟩=some (.slice (some ⟨go,0,none⟩) T.B.ord.length capo)∧w'.cell? ⟨go,k,none⟩=some (.int .i64 (kn:Int))∧w'.cell? ⟨gl,kn * 4,none⟩=some (.slice sw (wantsR T.B (kn:Int)).length cw)∧w'.cell? ⟨w.heap.size+1,0,none⟩=some (.int .i64 (vs 0))∧w'.cell? ⟨w.heap.size+1,1,none⟩=some (.int .i64 (vs 1))∧w'.cell? ⟨w.heap.size+1,2,none⟩=some (.int .i64 (vs 2))∧w'.cell? ⟨w.heap.size+1,3,none⟩=some (.int .i64 (vs 3))∧w'.cell? ⟨w.heap.size+1,4,none⟩=some (.int .i64 (vs 4))∧w'.cell? ⟨w.heap.size+1,5,none⟩=some (.int .i64 (vs 5))):=fun w' hb=>⟨((bcell hb).1 _ _ hpw).trans d0,((bcell hb).1 _ _ hpw).trans d1,((bcell hb).1 _ _ lgo).trans d2,((bcell hb).1 _ _ lgl).trans d3,(HS.out.next hb).row 0 (by omega),(HS.out.next hb).row 1 (by omega),(HS.out.next hb).row 2 (by omega),(HS.out.next hb).row 3 (by omega),(HS.out.next hb).row 4 (by omega),(HS.out.next hb).row 5 (by omega)⟩
 clear hn ha hb hk hlt hWA hkl
 generalize hr:appW vs (wantsR T.B (kn:Int))=r at HA HB
 go_upto_region 5 with fail
 go_cut [6,7] (fun s6 s7 wx=>∃nb nf,s6=.pointer (some ⟨nb,0,none⟩)∧s7=.pointer (some ⟨nf,0,none⟩)∧BoxAt wx nb [.int .i64 (r.1 0),.int .i64 (r.1 1),.int .i64 (r.1 2),.int .i64 (r.1 3),.int .i64 (r.1 4),.int .i64 (r.1 5)]∧BoxAt wx nf [.int .i64 r.2.1,.int .i64 r.2.2]∧Below wr.heap.size wr wx)
 case first=>
  have HAp:Hid (∀W:World,Below wr.heap.size wr W->Calls Tryz.prog 66 #[.agg #[.int .i64 (vs 0),.int .i64 (vs 1),.int .i64 (vs 2),.int .i64 (vs 3),.int .i64 (vs 4),.int .i64 (vs 5)],.slice sw (wantsR T.B (kn:Int)).length cw] W fun e w'=>e=.returned (.tuple #[.agg #[.int .i64 (r.1 0),.int .i64 (r.1 1),.int .i64 (r.1 2),.int .i64 (r.1 3),.int .i64 (r.1 4),.int .i64 (r.1 5)],.agg #[.int .i64 r.2.1,.int .i64 r.2.2]])∧Below W.heap.size W w'):=fun W hW=>by rw [<-hr];exact applied_any vs sw _ cw _ W (HWA.out.below hW (Nat.le_refl _)) rfl
  clear hr HS HA HB HI HBr HSer HZ hpl d0 d1 d2 d3 lgl lgo hpw HWA
  go_region_held3 (fun w'=>w'.cell? ⟨p,0,none⟩=some (.slice (some ⟨gl,0,none⟩) T.B.L.length capl)∧w'.cell? ⟨p,1,none⟩=some (.slice (some ⟨go,0,none⟩) T.B.ord.length capo)∧w'.cell? ⟨go,k,none⟩=some (.int .i64 (kn:Int))∧w'.cell? ⟨gl,kn * 4,none⟩=some (.slice sw (wantsR T.B (kn:Int)).length cw)∧w'.cell? ⟨w.heap.size+1,0,none⟩=some (.int .i64 (vs 0))∧w'.cell? ⟨w.heap.size+1,1,none⟩=some (.int .i64 (vs 1))∧w'.cell? ⟨w.heap.size+1,2,none⟩=some (.int .i64 (vs 2))∧w'.cell? ⟨w.heap.size+1,3,none⟩=some (.int .i64 (vs 3))∧w'.cell? ⟨w.heap.size+1,4,none⟩=some (.int .i64 (vs 4))∧w'.cell? ⟨w.heap.size+1,5,none⟩=some (.int .i64 (vs 5)))
   (first | exact HP.out _ (by go_grown))
   (first | (go_at_call 66;refine (HAp.out _ (by go_grown)).mono ?_;rintro e w9 ⟨rfl,hb9⟩;have hw9:Below wr.heap.size wr w9:=after (by go_grown) hb9 (by first | omega | (simp <;> omega));have hz9:wr.heap.size<=w9.heap.size:=hw9.size;have hy9:=hb9.size;(try simp [Nat.add_one_le_iff] at hy9);obtain ⟨hc9,hf9⟩:=bcell hb9;(try (have ec90:∀o,w9.cell? ⟨wr.heap.size,o,none⟩=_:=fun o=>hc9 _ o (by first | omega | (simp;done) | (simp;omega));have ef90:∀o,w9.frozen? ⟨wr.heap.size,o,none⟩=_:=fun o=>hf9 _ o (by first | omega | (simp;done) | (simp;omega))));(try (have ec91:∀o,w9.cell? ⟨wr.heap.size+1,o,none⟩=_:=fun o=>hc9 _ o (by first | omega | (simp;done) | (simp;omega));have ef91:∀o,w9.frozen? ⟨wr.heap.size+1,o,none⟩=_:=fun o=>hf9 _ o (by first | omega | (simp;done) | (simp;omega))));(try (have:wr.heap.size<w9.heap.size:=by omega));(try (have:wr.heap.size<w9.heap.size+1:=by omega));(try (have:wr.heap.size<w9.heap.size+1+1:=by omega));(try (have:¬wr.heap.size=w9.heap.size:=by omega));(try (have:¬w9.heap.size=wr.heap.size:=by omega));(try (have:¬wr.heap.size=w9.heap.size+1:=by omega));(try (have:¬w9.heap.size+1=wr.heap.size:=by omega));(try (have:wr.heap.size+1<w9.heap.size:=by omega));(try (have:wr.heap.size+1<w9.heap.size+1:=by omega));(try (have:wr.heap.size+1<w9.heap.size+1+1:=by omega));(try (have:¬wr.heap.size+1=w9.heap.size:=by omega));(try (have:¬w9.heap.size=wr.heap.size+1:=by omega));(try (have:¬wr.heap.size+1=w9.heap.size+1:=by omega));(try (have:¬w9.heap.size+1=wr.heap.size+1:=by omega))))
  all_goals
   clear HP HAp
   go_wp2_with fail
   go_meet
   case rel=>
    refine ⟨_,_,rfl,rfl,?_,?_,?_⟩
    ·refine box_s6 ?_ ?_ ?_ ?_ ?_ ?_ ?_
     ·have:=hb9.size
      simp at this ⊢
      try omega
     all_goals simp [go_sem, *]
    ·refine box_s2 ?_ ?_ ?_
     ·have:=hb9.size
      simp at this ⊢
      try omega
     all_goals simp [go_sem, *]
    ·go_grown
 case rest=>
  obtain ⟨nb,nf,rfl,rfl,hN,hF,hb5⟩:=hcut
  have hS5:=HS.out.next hb5
  clear HP HS hb5 d0 d1 d2 d3
  have f0:=hF.2 0 _ rfl
  have n0:=hN.2 0 _ rfl
  have n1:=hN.2 1 _ rfl
  have n2:=hN.2 2 _ rfl
  have n3:=hN.2 3 _ rfl
  have n4:=hN.2 4 _ rfl
  have n5:=hN.2 5 _ rfl
  have a0:=hS5.row 0 (by omega)
  have a1:=hS5.row 1 (by omega)
  have a2:=hS5.row 2 (by omega)
  have a3:=hS5.row 3 (by omega)
  have a4:=hS5.row 4 (by omega)
  have a5:=hS5.row 5 (by omega)
  have g1:=hS5.f1
  have hl5:=hS5.lt
  have HS5:=hid hS5
  have hz:(r.2.1 != 0)=false:=by rw [HA.out];rfl
  clear hS5
  go_wp2_with fail
  go_roundg (T.B.ord.length - (k+1))
  case measure=>have:=HK.out;omega
  case rel=>exact ⟨k+1,HK.out,rfl,by simp,by rw [HB.out];exact HS5.out.put r.1⟩
theorem mworld_any {O:Nat->Prop} {p:Nat} {ws:Nat->Int} {T:Twn} {w:World} (h:MkIn p ws T O w):
 Calls Tryz.prog 39 #[.pointer (some ⟨p,0,none⟩)] w fun e w'=>e=.returned (wldV (valT T))∧Below w.heap.size w w':=by
 have HI:=hid h
 clear h
 go_enter Tryz.func39,Tryz.ntmps39
 go_wp2_with fail
 go_loopg [4,5] 3 (fun g s4 _ wr=>∃k:Nat,k<=3∧g=3 - k∧s4=.int .i64 k∧S6 w.heap.size w (uptoW (valT T) (k * 2)) wr)
 case atStart=>exact ⟨0,Nat.zero_le _,rfl,rfl,(S6.begin w 40 (fun _=>0)).congr (fun j hj=>by simp [uptoW])⟩
 case round=>
 obtain ⟨k,hk,rfl,rfl,hS⟩:=hrel
 by_cases hlt:k<3
 case neg=>
  have j1:¬(k:Int)<3:=by omega
  have hk3:k=3:=by omega
  subst hk3
  have hS2:S6 w.heap.size w (valT T) wr:=hS.congr (fun j hj=>by unfold uptoW;rw [if_pos (by omega)])
  clear hS
  have z0:=hS2.zer 0 (by omega)
  have z1:=hS2.zer 1 (by omega)
  have z2:=hS2.zer 2 (by omega)
  have z3:=hS2.zer 3 (by omega)
  have z4:=hS2.zer 4 (by omega)
  have z5:=hS2.zer 5 (by omega)
  have a0:=hS2.row 0 (by omega)
  have a1:=hS2.row 1 (by omega)
  have a2:=hS2.row 2 (by omega)
  have a3:=hS2.row 3 (by omega)
  have a4:=hS2.row 4 (by omega)
  have a5:=hS2.row 5 (by omega)
  have g0:=hS2.f0
  have hb:=hS2.below
  have hl2:=hS2.lt
  clear hS2
  go_wp2_with fail
  exact bodyPost_ret (v:=wldV (valT T)) (by simp [wldV,results,Tryz.results39,go_sem,z0,z1,z2,z3,z4,z5]) rfl ⟨rfl,by go_grown⟩
 have j1:(k:Int)<3:=by omega
 have j0:(0:Int)<=(k:Int):=by omega
 have HK:=hid hlt
 clear hk hlt
 go_wp2_with fail
 go_loopg [5] 2 (fun g s5 wx=>∃i:Nat,i<=2∧g=2 - i∧s5=.int .i64 i∧S6 w.heap.size w (uptoW (valT T) (k * 2+i)) wx)
 case atStart=>exact ⟨0,Nat.zero_le _,rfl,rfl,hS⟩
 case round=>
 clear hS
 obtain ⟨i,hi,rfl,rfl,hX⟩:=hrel
 by_cases hit:i<2
 case neg=>
  have i1:¬(i:Int)<2:=by omega
  have hi2:i=2:=by omega
  subst hi2
  have hHX:=hid hX
  clear hX
  go_wp2_with fail
  go_roundg (3 - (k+1))
  case measure=>have:=HK.out;omega
  case rel=>exact ⟨k+1,by have:=HK.out;omega,rfl,by simp,by rw [show (k+1) * 2=k * 2+2 by omega];exact hHX.out⟩
 have i1:(i:Int)<2:=by omega
 have i0:(0:Int)<=(i:Int):=by omega
 have HI2:Hid (i<2):=hit
 obtain ⟨n,hn⟩:∃n:Nat,n=k * 2+i:=⟨_,rfl⟩
 obtain ⟨c,q,v0,v1,v2,v3⟩:=MktIn.vals (HI.out.next hX.below) HK.out
 have v4:wr.cell? ⟨q,1+i,none⟩=some (.int .i64 (valT T n)):=by
  rw [hn]
  match i,hit with
  | 0,_=>exact v2
  | 1,_=>exact v3
 have HN:=hid hn
 have hrow:=hX.row n (by have:=HK.out;omega)
 have hn6:(n:Int)<6:=by have:=HK.out;omega
 have hn0:(0:Int)<=(n:Int):=by omega
 have hwr:IntKind.i64.wrap ((k:Int) * 2+(i:Int))=(n:Int):=by
  rw [show (k:Int) * 2+(i:Int)=(n:Int) by omega]
  go_unwrap
 have hf1:=hX.f1
 have hlt1:=hX.lt
 have hHX:=hid hX
 clear hi hit hX hn v2 v3
 go_wp2_with fail
 go_roundg (2 - (i+1))
 case measure=>have:=HI2.out;omega
 case rel=>
  have hq:=hid (hHX.out.set n (by have:=HK.out;have:=HI2.out;have:=HN.out;omega) (valT T n))
  refine ⟨i+1,by have:=HI2.out;omega,rfl,by simp,?_⟩
  have he:uptoW (valT T) (k * 2+(i+1))=upd (uptoW (valT T) (k * 2+i)) n (valT T n):=by rw [HN.out,uptoW_next];rfl
  rw [he]
  exact hq.out
end Go.Proofs.YtbgnajcmhmpjlacGreatDoor
