/- The contract of NewMarket. -/
import Derived.BigQuiet
import Derived.Test.YtbgnajcmhmpjlacGreatDoorB4
import Derived.Test.YtbgnajcmhmpjlacGreatDoorA8
import Derived.Test.YtbgnajcmhmpjlacGreatDoorB2
set_option maxRecDepth 100000
set_option maxHeartbeats 100000000
namespace Go.Proofs.YtbgnajcmhmpjlacGreatDoor
open Go.RowKit
theorem MkIn.bagc {p:Nat} {ws:Nat->Int} {T:Twn} {O:Nat->Prop} {w:World} (h:MkIn p ws T O w):∃ga cap,w.cell? ⟨p,11,none⟩=some (.slice ga T.M.length cap)∧MailsAt w ga T.M∧T.M.length<=cap:=by
 obtain ⟨OM,hM,_⟩:=h.bag
 obtain ⟨mv,h1,h2,_⟩:=hM.raw
 have h2':=h2
 obtain ⟨ga,cap,rfl,h3,_⟩:=mails_of_own h2
 refine ⟨ga,cap,h1,h3,?_⟩
 rcases h2'.2 with ⟨e1,e0⟩ | ⟨g,cap',cur,e1,hb,hg,hc,_⟩
 ·omega
 ·simp at e1
  omega
theorem mcalm_any {O:Nat->Prop} {p:Nat} {ws:Nat->Int} {T:Twn} {w:World} (h:MkIn p ws T O w) (hF:Full ws T) (ok:∀s:Nat,s<3->newOk (s:Int) ws=true):
 Calls Tryz.prog 38 #[.pointer (some ⟨p,0,none⟩)] w fun e w'=>e=.returned (.int .i64 ((calmR 20 0 T).1:Int))∧To (MkIn p ws (calmR 20 0 T).2) O w w':=by
 have HI:=hid h
 have HF:=hid hF
 have HO:=hid ok
 clear h hF ok
 go_enter Tryz.func38,Tryz.ntmps38
 go_wp2_with fail
 go_loopg [3] 20 (fun g s3 wr=>∃(n:Nat) (T':Twn),g=20 - n∧s3=.int .i64 n∧Hid (Clm ws T n T')∧Hid (To (MkIn p ws T') O w wr))
 case atStart=>exact ⟨0,T,rfl,rfl,clm_start HF.out,To.stay (mk_stands ..) HI.out (Below.refl _ _)⟩
 case round=>
 obtain ⟨n,T',rfl,rfl,HD,HT⟩:=hrel
 have HN:Hid (n<20):=HD.out.few HF.out
 have j0:(n:Int)<20:=by have:=HN.out;omega
 have HDr:=hid HD.out.drained
 have HX1:Hid (dueR (drainR 80 T').B=[]->calmR 20 0 T=(n,drainR 80 T')):=fun q=>HD.out.out HN.out q
 have HX2:Hid (dueR (drainR 80 T').B ≠ []->Clm ws T (n+1) (tickR (drainR 80 T'))):=fun q=>HD.out.turn HN.out q
 have HD0:=hid (drn_start HD.out.full)
 go_wp2_with fail
 go_loopg [] 80 (fun g wx=>∃T2:Twn,Hid (Drn ws T' g T2)∧Hid (To (MkIn p ws T2) O w wx))
 case atStart=>exact ⟨T',HD0,HT⟩
 case round=>
 clear HT HD0
 obtain ⟨T2,HD2,HT2⟩:=hrel
 obtain ⟨O1,h1,h2,h3⟩:=HT2.out
 have HI1:=hid h1
 have HS1:Hid (Save O w wr∧Moved O O1 w):=⟨h2,h3⟩
 obtain ⟨ga,cap,hbc,_,_⟩:=h1.bagc
 have hpl:=h1.lt
 clear h1 h2 h3
 by_cases hM:T2.M=[]
 case neg=>
  have hl:(0:Int)<(T2.M.length:Int):=by
   have:0<T2.M.length:=List.length_pos_iff.2 hM
   omega
  obtain ⟨_,f,hf,hD3⟩:=HD2.out.step hM
  have HC:=hid (mdeliver_any 0 HI1.out (HD2.out.full.rdy HO.out))
  have HD3:=hid hD3
  clear hM hD3
  subst hf
  go_wp2_with fail
  refine Calls.mono HC.out ?_
  rintro e w1 ⟨rfl,hT1⟩
  have HT1:=hid hT1
  clear hT1 hbc HC
  go_wp2_with fail
  go_roundg f
  case measure=>omega
  case rel=>exact ⟨_,HD3,To.comp HS1.out.1 HS1.out.2 HT1.out⟩
 have hl:¬(0:Int)<(T2.M.length:Int):=by rw [hM];simp
 have hDe:=HD2.out.done hM
 rw [hDe] at HDr HX1 HX2
 clear hM hDe HD2 HD
 have HU:=hid (qdue_mk HI1.out HDr.out.1.brk)
 go_wp2_with fail
 refine Calls.mono HU.out ?_
 rintro e w2 ⟨⟨gd,cd,rfl,_⟩,hb2⟩
 have HI2:=hid (HI1.out.next hb2)
 have HB2:=hid hb2
 clear hb2 HU hbc
 by_cases hz:dueR T2.B=[]
 ·have HE:=hid (HX1.out hz)
  have hz':(((dueR T2.B).length:Int) == 0)=true:=by rw [hz];rfl
  clear hz
  go_wp2_with fail
  go_ret
  exact ⟨by rw [HE.out];rfl,by rw [HE.out];exact To.comp HS1.out.1 HS1.out.2 ((To.stay (mk_stands ..) HI2.out (Below.refl _ _)).behind HB2.out)⟩
 ·have hz':(((dueR T2.B).length:Int) == 0)=false:=by
   rw [beq_eq_false_iff_ne]
   intro q
   exact hz (List.eq_nil_of_length_eq_zero (by omega))
  have HCl:=hid (HX2.out hz)
  have HTk:=hid (mtick_any HI2.out HDr.out.1.brk (by rw [HDr.out.2];simp))
  clear hz
  go_wp2_with fail
  refine Calls.mono HTk.out ?_
  rintro e w3 ⟨rfl,hT3⟩
  have HT3:=hid hT3
  clear hT3 HTk
  go_wp2_with fail
  go_roundg (20 - (n+1))
  case measure=>have:=HN.out;omega
  case rel=>exact ⟨n+1,_,rfl,by simp,HCl,To.comp HS1.out.1 HS1.out.2 (HT3.out.behind HB2.out)⟩
theorem CutR.to {p:Nat} {ws:Nat->Int} {T:Twn} {O2:Nat->Prop} {w3:World} {y:Ml} {nb:Nat} {wx:World} (h:CutR p ws T O2 w3 y nb wx):To (MkIn p ws T) O2 w3 wx:=by
 obtain ⟨O3,_,h1,h2,h3,_⟩:=h
 exact ⟨O3,h1,h2,h3⟩
theorem rep_is {no:Int} {ws:Nat->Int} {K:Kb} {la:Option Addr} {ca:Nat} {w:World} (hG:GoodK (book0 no ws) K) (hok:newOk no ws=true) (hl:StepsAt w la K.rs) (hs:K.rs.length<=24):
 Calls Tryz.prog 64 #[.int .i64 no,.agg #[.int .i64 (ws 0),.int .i64 (ws 1),.int .i64 (ws 2),.int .i64 (ws 3),.int .i64 (ws 4),.int .i64 (ws 5)],.slice la K.rs.length ca] w fun e w'=>(∃q O,e=.returned (.tuple #[.pointer (some ⟨q,0,none⟩),.agg #[.int .i64 0,.int .i64 0]])∧BoothIn O w' q K.A∧∀k,O k->w.heap.size<=k)∧Below w.heap.size w w':=by
 refine (brep_any no ws la K.rs.length ca K.rs w hl rfl (by omega)).mono ?_
 rintro e w' ⟨h,hb⟩
 unfold BRepIs at h
 rw [if_pos hok,if_pos (by rw [hG.fault]),hG.run] at h
 exact ⟨h,hb⟩
theorem mstep_any {O:Nat->Prop} {p:Nat} {ws:Nat->Int} {T:Twn} (x:TSp) {sa:Option Addr} {sc:Nat} {w:World} (h:MkIn p ws T O w) (hR:Rdy ws T) (hx:WantsAt w sa x.w):
 Calls Tryz.prog 37 #[.pointer (some ⟨p,0,none⟩),.agg #[.int .i64 x.kind,.int .i64 x.n,.slice sa x.w.length sc]] w fun e w'=>e=.returned (.int .i64 (townR T x).1)∧To (MkIn p ws (townR T x).2) O w w':=by
 have HR:=hid hR
 go_enter Tryz.func37,Tryz.ntmps37
 go_upto_region 1 with fail
 have hb1:Below w.heap.size w (w.alloc (.cells #[.int .i64 x.kind,.int .i64 x.n,.slice sa x.w.length sc] 95)):=(Below.refl _ _).alloc (Nat.le_refl _) _
 have hY:BoxAt (w.alloc (.cells #[.int .i64 x.kind,.int .i64 x.n,.slice sa x.w.length sc] 95)) w.heap.size [.int .i64 x.kind,.int .i64 x.n,.slice sa x.w.length sc]:=BoxAt.new w [.int .i64 x.kind,.int .i64 x.n,.slice sa x.w.length sc] 95
 have HI:Hid (MkIn p ws T O (w.alloc (.cells #[.int .i64 x.kind,.int .i64 x.n,.slice sa x.w.length sc] 95))):=h.next hb1
 have HX:Hid (WantsAt (w.alloc (.cells #[.int .i64 x.kind,.int .i64 x.n,.slice sa x.w.length sc] 95)) sa x.w):=hx.below hb1 (Nat.le_refl _)
 have HB:Hid (Below w.heap.size w (w.alloc (.cells #[.int .i64 x.kind,.int .i64 x.n,.slice sa x.w.length sc] 95))):=hb1
 have HNo:Hid (¬O w.heap.size):=fun q=>by have:=h.own _ q;omega
 clear h hR hx hb1
 generalize (w.alloc (.cells #[.int .i64 x.kind,.int .i64 x.n,.slice sa x.w.length sc] 95))=w1 at hY HI HX HB ⊢
 generalize w.heap.size=bx at hY HNo ⊢
 have y0:=hY.2 0 _ rfl
 have y1:=hY.2 1 _ rfl
 have y2:=hY.2 2 _ rfl
 have hbx:=hY.1
 have HY:=hid hY
 clear hY
 have hpl:p<w1.heap.size:=HI.out.lt
 have HKs:Hid (∀w',Save O w1 w'->w'.cell? ⟨bx,1,none⟩=some (.int .i64 x.n)∧w'.cell? ⟨bx,2,none⟩=some (.slice sa x.w.length sc)):=fun w' hs=>⟨(HY.out.save hs HNo.out).2 1 _ rfl,(HY.out.save hs HNo.out).2 2 _ rfl⟩
 by_cases h1:x.kind=1
 ·have h1':(x.kind == 1)=true:=by simp [h1]
  have HE:=hid (townR_begin T h1)
  clear h1
  have HC:Hid (∀W,Below w1.heap.size w1 W->Calls Tryz.prog 58 #[.pointer (some ⟨p,0,none⟩),.slice sa x.w.length sc] W fun e w'=>e=.returned (.tuple #[.int .i64 (beginR T.B x.w).1,.int .i64 (beginR T.B x.w).2.1])∧To (MkIn p ws { T with B:=(beginR T.B x.w).2.2 }) O W w'):=fun W hW=>by
   obtain ⟨Ob,hB,_,hS⟩:=(HI.out.next hW).book
   exact (qbegin_any Ob T.B p sa x.w.length sc x.w W hB HR.out.brk (HX.out.below hW (Nat.le_refl _)) rfl).mono (fun e w' z=>⟨z.1,hS w' _ z.2⟩)
  generalize beginR T.B x.w=r at HE HC
  go_upto_region 3 with fail
  go_region_held3 (fun w'=>w'.cell? ⟨bx,1,none⟩=some (.int .i64 x.n)∧w'.cell? ⟨bx,2,none⟩=some (.slice sa x.w.length sc))
   (first | exact HKs.out _ HT9.out.save | exact HKs.out _ (.of_below (by go_grown)))
   (first | (go_at_call 58;refine Calls.mono (HC.out _ (by go_grown)) ?_;rintro e w9 ⟨rfl,hT9⟩;have HT9:Hid (To (MkIn p ws { T with B:=r.2.2 }) O w1 w9):=hT9.behind (by go_grown);clear hT9))
  all_goals
   go_wp2_with fail
   go_ret
   exact ⟨by rw [HE.out];rfl,by rw [HE.out];exact HT9.out.behind HB.out⟩
 have h1':(x.kind == 1)=false:=by simpa using h1
 by_cases h2:x.kind=2
 ·have h2':(x.kind == 2)=true:=by simp [h2]
  have HE:=hid (townR_tick T h2)
  have HC:=hid (mtick_any HI.out HR.out.brk HR.out.ml)
  clear h1 h2
  go_wp2_with fail
  refine Calls.mono HC.out ?_
  rintro e w2 ⟨rfl,hT⟩
  go_wp2_with fail
  go_ret
  exact ⟨by rw [HE.out];rfl,by rw [HE.out];exact hT.behind HB.out⟩
 have h2':(x.kind == 2)=false:=by simpa using h2
 by_cases h3:x.kind=3
 ·have h3':(x.kind == 3)=true:=by simp [h3]
  have HE:=hid (townR_deliver T h3)
  have HC:=hid (mdeliver_any x.n HI.out HR.out)
  clear h1 h2 h3
  go_wp2_with fail
  refine Calls.mono HC.out ?_
  rintro e w2 ⟨rfl,hT⟩
  go_wp2_with fail
  go_ret
  exact ⟨by rw [HE.out];rfl,by rw [HE.out];exact hT.behind HB.out⟩
 have h3':(x.kind == 3)=false:=by simpa using h3
 by_cases h4:x.kind=4
 ·have h4':(x.kind == 4)=true:=by simp [h4]
  have HE:=hid (townR_lose T h4)
  have HC:Hid (∀W,Below w1.heap.size w1 W->Calls Tryz.prog 61 #[.pointer (some ⟨p,11,none⟩),.int .i64 x.n] W fun e w'=>e=.returned (.tuple #[mlV (takeR T.M x.n).1,.bool (takeR T.M x.n).2.1])∧To (MkIn p ws { T with M:=(takeR T.M x.n).2.2 }) O W w'):=fun W hW=>by
   obtain ⟨Om,hM,_,hS⟩:=(HI.out.next hW).bag
   exact (gtake_any Om T.M p 11 x.n W hM (by have:=HR.out.ml;omega)).mono (fun e w' q=>⟨q.1,hS w' _ q.2⟩)
  clear h1 h2 h3 h4
  generalize takeR T.M x.n=r at HE HC
  obtain ⟨y,ok,l'⟩:=r
  simp only [mlV] at HC
  dsimp only at HE
  go_upto_region 11 with fail
  go_cut [7,8] (fun s7 s8 wx=>∃nb,s7=.pointer (some ⟨nb,0,none⟩)∧s8=.bool ok∧CutR p ws { T with M:=l' } O w1 y nb wx)
  case first=>
   have HPL:=hid hbx
   have HNw:Hid (¬O w1.heap.size):=fun z=>by have:=HI.out.own _ z;omega
   clear HE hbx hpl
   go_region_held3 (fun w'=>w'.cell? ⟨bx,1,none⟩=some (.int .i64 x.n)∧w'.cell? ⟨bx,2,none⟩=some (.slice sa x.w.length sc))
    (first | exact HKr.out _ (by go_grown) | exact HKs.out _ (.of_below (by go_grown)))
    (first | (go_at_call 61;refine Calls.mono (HC.out _ (by go_grown)) ?_;rintro e w9 ⟨rfl,hT9⟩;have HT0:=hid hT9;have HT9:Hid (To (MkIn p ws { T with M:=l' }) O w1 w9):=hT9.behind (by go_grown);have HKr:Hid (∀w',Below w1.heap.size w9 w'->w'.cell? ⟨bx,1,none⟩=some (.int .i64 x.n)∧w'.cell? ⟨bx,2,none⟩=some (.slice sa x.w.length sc)):=(fun w' hb=>by obtain ⟨f0,f1⟩:=HKs.out _ HT9.out.save;exact ⟨(hb.cell (p:=⟨bx,1,none⟩) HPL.out).trans f0,(hb.cell (p:=⟨bx,2,none⟩) HPL.out).trans f1⟩);have hz9:w1.heap.size<=w9.heap.size:=HT9.out.save.size;(try (have ec:∀o,w9.cell? ⟨w1.heap.size,o,none⟩=_:=fun o=>HT0.out.save.cell (p:=⟨w1.heap.size,o,none⟩) (by simp) HNw.out;have ef:∀o,w9.frozen? ⟨w1.heap.size,o,none⟩=_:=fun o=>HT0.out.save.frozen (p:=⟨w1.heap.size,o,none⟩) (by simp) HNw.out;have hy9:=HT0.out.save.size;simp at hy9;have:w1.heap.size<w9.heap.size:=by omega));clear hT9))
   all_goals
    go_wp2_with fail
    go_meet
    case rel=>
     refine ⟨_,rfl,rfl,?_⟩
     first
      | (with_reducible exact cut_after HT9.out)
      | (with_reducible exact cut_before HT0.out ((Below.refl _ _).drew) HI.out.own)
  case rest=>
   obtain ⟨nb,rfl,rfl,hCut⟩:=hcut
   have HT9:=hid hCut.to
   clear hCut HC
   cases ok with
   | true=>
     go_wp2_with fail
     go_ret
     exact ⟨by rw [HE.out];rfl,by rw [HE.out];exact HT9.out.behind HB.out⟩
   | false=>
     go_wp2_with fail
     go_ret
     exact ⟨by rw [HE.out];rfl,by rw [HE.out];exact HT9.out.behind HB.out⟩
 have h4':(x.kind == 4)=false:=by simpa using h4
 by_cases h5:x.kind=5
 ·have h5':(x.kind == 5)=true:=by simp [h5]
  have HE:=hid (townR_double T h5)
  obtain ⟨ga,cap,hbc,_,_⟩:=HI.out.bagc
  clear h1 h2 h3 h4 h5
  by_cases hz:T.M.length=0
  ·have hz':((T.M.length:Int) == 0)=true:=by simp [hz]
   have HD:Hid (dblR T.M x.n=(false,T.M)):=by show _=_;rw [List.eq_nil_of_length_eq_zero hz,dblR_nil]
   have HZ:=hid hz
   clear hz
   go_wp2_with fail
   go_ret
   exact ⟨by rw [HE.out,if_pos HZ.out];rfl,by rw [HE.out,HD.out];exact (To.stay (mk_stands ..) HI.out (Below.refl _ _)).behind HB.out⟩
  ·have hz':((T.M.length:Int) == 0)=false:=by rw [beq_eq_false_iff_ne];omega
   rw [if_neg hz] at HE
   clear hz
   have HC:Hid (∀W,Below w1.heap.size w1 W->Calls Tryz.prog 62 #[.pointer (some ⟨p,11,none⟩),.int .i64 x.n] W fun e w'=>e=.returned (.bool (dblR T.M x.n).1)∧To (MkIn p ws { T with M:=(dblR T.M x.n).2 }) O W w'):=fun W hW=>by
    obtain ⟨Om,hM,_,hS⟩:=(HI.out.next hW).bag
    exact (gdbl_any Om T.M p 11 x.n W hM (by have:=HR.out.ml;omega)).mono (fun e w' q=>⟨q.1,hS w' _ q.2⟩)
   generalize dblR T.M x.n=r at HE HC
   obtain ⟨ok,l'⟩:=r
   cases ok
   all_goals dsimp only at HE HC
   all_goals simp only [if_true,if_false,Bool.false_eq_true] at HE
   case false=>
    go_upto_region 18 with fail
    go_region_held3 (fun w'=>w'.cell? ⟨bx,1,none⟩=some (.int .i64 x.n)∧w'.cell? ⟨bx,2,none⟩=some (.slice sa x.w.length sc))
     (first | exact HKs.out _ HT9.out.save | exact HKs.out _ (.of_below (by go_grown)))
     (first | (go_at_call 62;refine Calls.mono (HC.out _ (by go_grown)) ?_;rintro e w9 ⟨rfl,hT9⟩;have HT9:Hid (To (MkIn p ws { T with M:=l' }) O w1 w9):=hT9.behind (by go_grown);clear hT9))
    all_goals
     go_wp2_with fail
     go_ret
     exact ⟨by rw [HE.out];rfl,by rw [HE.out];exact HT9.out.behind HB.out⟩
   case true=>
    go_upto_region 18 with fail
    go_region_held3 (fun w'=>w'.cell? ⟨bx,1,none⟩=some (.int .i64 x.n)∧w'.cell? ⟨bx,2,none⟩=some (.slice sa x.w.length sc))
     (first | exact HKs.out _ HT9.out.save | exact HKs.out _ (.of_below (by go_grown)))
     (first | (go_at_call 62;refine Calls.mono (HC.out _ (by go_grown)) ?_;rintro e w9 ⟨rfl,hT9⟩;have HT9:Hid (To (MkIn p ws { T with M:=l' }) O w1 w9):=hT9.behind (by go_grown);clear hT9))
    all_goals
     go_wp2_with fail
     go_ret
     exact ⟨by rw [HE.out];rfl,by rw [HE.out];exact HT9.out.behind HB.out⟩
 have h5':(x.kind == 5)=false:=by simpa using h5
 by_cases h6:x.kind=6
 ·have h6':(x.kind == 6)=true:=by simp [h6]
  have HE:=hid (townR_quits T h6)
  clear h1 h2 h3 h4 h5 h6
  have HC:Hid (∀W,Below w1.heap.size w1 W->Calls Tryz.prog 63 #[.pointer (some ⟨p,0,none⟩),.int .i64 x.n] W fun e w'=>e=.returned (.int .i64 (quitR T.B x.n).1)∧To (MkIn p ws { T with B:=(quitR T.B x.n).2 }) O W w'):=fun W hW=>by
   obtain ⟨Ob,hB,_,hS⟩:=(HI.out.next hW).book
   exact (qquit_any Ob T.B p x.n W hB HR.out.brk).mono (fun e w' z=>⟨z.1,hS w' _ z.2⟩)
  generalize quitR T.B x.n=r at HE HC
  go_upto_region 22 with fail
  go_region_held3 (fun w'=>w'.cell? ⟨bx,1,none⟩=some (.int .i64 x.n)∧w'.cell? ⟨bx,2,none⟩=some (.slice sa x.w.length sc))
   (first | exact HKs.out _ HT9.out.save | exact HKs.out _ (.of_below (by go_grown)))
   (first | (go_at_call 63;refine Calls.mono (HC.out _ (by go_grown)) ?_;rintro e w9 ⟨rfl,hT9⟩;have HT9:Hid (To (MkIn p ws { T with B:=r.2 }) O w1 w9):=hT9.behind (by go_grown);clear hT9))
  all_goals
   go_wp2_with fail
   go_ret
   exact ⟨by rw [HE.out];rfl,by rw [HE.out];exact HT9.out.behind HB.out⟩
 have h6':(x.kind == 6)=false:=by simpa using h6
 by_cases h7:x.kind=7
 ·have h7':(x.kind == 7)=true:=by simp [h7]
  have HE:=hid (townR_shop T h7)
  clear h1 h2 h3 h4 h5 h6 h7
  by_cases hn0:x.n<0
  ·rw [if_pos hn0] at HE
   go_wp2_with fail
   go_ret
   exact ⟨by rw [HE.out];rfl,by rw [HE.out];exact (To.stay (mk_stands ..) HI.out (Below.refl _ _)).behind HB.out⟩
  by_cases hn3:3<=x.n
  ·rw [if_neg hn0,if_pos hn3] at HE
   go_wp2_with fail
   go_ret
   exact ⟨by rw [HE.out];rfl,by rw [HE.out];exact (To.stay (mk_stands ..) HI.out (Below.refl _ _)).behind HB.out⟩
  rw [if_neg hn0,if_neg hn3] at HE
  obtain ⟨kd,xn,xw⟩:=x
  dsimp only at *
  obtain ⟨s,rfl⟩:∃s:Nat,xn=(s:Int):=⟨xn.toNat,by omega⟩
  have hs:s<3:=by omega
  have t0:(0:Int)<=(s:Int):=by omega
  have t3:(s:Int)<3:=by omega
  obtain ⟨OP,q,hq0,hP,_,hnp,hSt⟩:=HI.out.pen hs
  obtain ⟨Os,qb,rv,hRw,_,_,_,hrow,_⟩:=hP.raw
  obtain ⟨la,ca,rfl,hSA,_⟩:=steps_of_own hrow
  have hql:=hRw.lt
  have hq1:=hRw.c1
  have hqp:¬q=p:=fun e=>hnp (by rw [<-e];exact hP.mine)
  have hqb:¬q=bx:=fun e=>HNo.out (by rw [<-e];exact (‹∀k,OP k->O k›) q hP.mine)
  obtain ⟨g1,_,_,_,_,g2⟩:=HR.out.shop s hs
  have HRp:Hid (∀W,Below w1.heap.size w1 W->Calls Tryz.prog 64 #[.int .i64 (s:Int),.agg #[.int .i64 (ws 0),.int .i64 (ws 1),.int .i64 (ws 2),.int .i64 (ws 3),.int .i64 (ws 4),.int .i64 (ws 5)],.slice la (T.P s).rs.length ca] W fun e w'=>(∃q O,e=.returned (.tuple #[.pointer (some ⟨q,0,none⟩),.agg #[.int .i64 0,.int .i64 0]])∧BoothIn O w' q (T.P s).A∧∀k,O k->W.heap.size<=k)∧Below W.heap.size W w'):=fun W hW=>rep_is g1 (HR.out.ok s hs) (hSA.below hW (Nat.le_refl _)) g2
  have HAg:Hid (∀(w9:World) (qn:Nat) (O9:Nat->Prop),Below w1.heap.size w1 w9->BoothIn O9 w9 qn (T.P s).A->(∀k,O9 k->w1.heap.size<=k)->To (MkIn p ws T) O w1 (w9.setCell ⟨q,0,none⟩ (.pointer (some ⟨qn,0,none⟩)))):=fun w9 qn O9 hb hBo hO9=>by
   have:=hSt _ _ (pen_again hP hb hBo hO9)
   rwa [updP_id] at this
  have HFr:Hid (∀w',Below w1.heap.size w1 w'->w'.cell? ⟨bx,1,none⟩=some (.int .i64 (s:Int))∧w'.cell? ⟨p,2,none⟩=some (.int .i64 (ws 0))∧w'.cell? ⟨p,3,none⟩=some (.int .i64 (ws 1))∧w'.cell? ⟨p,4,none⟩=some (.int .i64 (ws 2))∧w'.cell? ⟨p,5,none⟩=some (.int .i64 (ws 3))∧w'.cell? ⟨p,6,none⟩=some (.int .i64 (ws 4))∧w'.cell? ⟨p,7,none⟩=some (.int .i64 (ws 5))∧w'.cell? ⟨q,1,none⟩=some (.slice la (T.P s).rs.length ca)):=fun w' hb=>by
   have f:=fun k hk=>MktIn.fr (HI.out.next hb) (k:=k) hk
   exact ⟨((bcell hb).1 _ _ hbx).trans y1,f 0 (by omega),f 1 (by omega),f 2 (by omega),f 3 (by omega),f 4 (by omega),f 5 (by omega),((bcell hb).1 _ _ hql).trans hq1⟩
  have HFs:Hid (∀(w':World) (u:Value),Below w1.heap.size w1 w'->(w'.setCell ⟨q,0,none⟩ u).cell? ⟨bx,1,none⟩=some (.int .i64 (s:Int))∧(w'.setCell ⟨q,0,none⟩ u).cell? ⟨p,2,none⟩=some (.int .i64 (ws 0))∧(w'.setCell ⟨q,0,none⟩ u).cell? ⟨p,3,none⟩=some (.int .i64 (ws 1))∧(w'.setCell ⟨q,0,none⟩ u).cell? ⟨p,4,none⟩=some (.int .i64 (ws 2))∧(w'.setCell ⟨q,0,none⟩ u).cell? ⟨p,5,none⟩=some (.int .i64 (ws 3))∧(w'.setCell ⟨q,0,none⟩ u).cell? ⟨p,6,none⟩=some (.int .i64 (ws 4))∧(w'.setCell ⟨q,0,none⟩ u).cell? ⟨p,7,none⟩=some (.int .i64 (ws 5))∧(w'.setCell ⟨q,0,none⟩ u).cell? ⟨q,1,none⟩=some (.slice la (T.P s).rs.length ca)):=fun w' u hb=>by
   obtain ⟨f0,f1,f2,f3,f4,f5,f6,f7⟩:=HFr.out w' hb
   exact ⟨(cell_set_block (fun e=>hqb e.symm)).trans f0,(cell_set_block (fun e=>hqp e.symm)).trans f1,(cell_set_block (fun e=>hqp e.symm)).trans f2,(cell_set_block (fun e=>hqp e.symm)).trans f3,(cell_set_block (fun e=>hqp e.symm)).trans f4,(cell_set_block (fun e=>hqp e.symm)).trans f5,(cell_set_block (fun e=>hqp e.symm)).trans f6,(cell_set_off (by omega)).trans f7⟩
  have HC0:Hid (∀w',Below w1.heap.size w1 w'->w'.cell? ⟨q,0,none⟩=some (.pointer (some ⟨qb,0,none⟩))∧(∀k,w'.frozen? ⟨q,k,none⟩=false)∧q<w'.heap.size):=fun w' hb=>⟨((bcell hb).1 _ _ hql).trans hRw.c0,loose q hb hql hRw.loose,Nat.lt_of_lt_of_le hql hb.size⟩
  clear hn0 hn3 hs hP hSt hrow hSA g1 g2 hRw
  go_upto_region 26 with fail
  go_quiet (fail)
  go_upto_region 27 with fail
  have HDr:Hid (Below w1.heap.size w1 (w1.drewN nq)):=bdrewN (Below.refl _ _) nq
  clear y0 y1 y2 hq0 hq1 hpl hbx hql
  generalize w1.drewN nq=W1 at HDr ⊢
  have HRq:Hid (∀W,Below W1.heap.size W1 W->Below w1.heap.size w1 W):=fun W hW=>after HDr.out hW HDr.out.size
  go_region_held3 (fun w'=>w'.cell? ⟨bx,1,none⟩=some (.int .i64 (s:Int))∧w'.cell? ⟨p,2,none⟩=some (.int .i64 (ws 0))∧w'.cell? ⟨p,3,none⟩=some (.int .i64 (ws 1))∧w'.cell? ⟨p,4,none⟩=some (.int .i64 (ws 2))∧w'.cell? ⟨p,5,none⟩=some (.int .i64 (ws 3))∧w'.cell? ⟨p,6,none⟩=some (.int .i64 (ws 4))∧w'.cell? ⟨p,7,none⟩=some (.int .i64 (ws 5))∧w'.cell? ⟨q,1,none⟩=some (.slice la (T.P s).rs.length ca))
   (first | exact HFs.out _ _ hw9 | exact HFr.out _ (HRq.out _ (by go_grown)))
   (first | (go_at_call 64;refine Calls.mono (HRp.out _ (HRq.out _ (by go_grown))) ?_;rintro e w9 ⟨⟨qn,O9,rfl,hI9,hO9⟩,hb9⟩;have hv9:Below W1.heap.size W1 w9:=after (by go_grown) hb9 (by first | omega | (simp <;> omega));have hw9:Below w1.heap.size w1 w9:=HRq.out _ hv9;have hz9:W1.heap.size<=w9.heap.size:=hv9.size;have hzw:w1.heap.size<=W1.heap.size:=HDr.out.size;have HI9:=hid hI9;have HO9:Hid (∀k,O9 k->w1.heap.size<=k):=(fun k hk=>by have:=hO9 k hk;first | omega | (simp at this;omega));clear hI9 hO9;obtain ⟨u9,hf9,hl9⟩:=HC0.out _ hw9))
  all_goals
   go_wp2_with fail
   go_ret
   exact ⟨by rw [HE.out];rfl,by rw [HE.out];exact (HAg.out w9 qn O9 hw9 HI9.out HO9.out).behind HB.out⟩
 have h7':(x.kind == 7)=false:=by simpa using h7
 by_cases h8:x.kind=8
 ·have h8':(x.kind == 8)=true:=by simp [h8]
  have HE:=hid (townR_broker T h8)
  obtain ⟨Ob,hB,_,hS⟩:=HI.out.book
  have HC:=hid (qcrash_any Ob T.B p w1 hB HR.out.brk)
  have HS:=hid hS
  clear hB hS
  clear h1 h2 h3 h4 h5 h6 h7 h8
  go_wp2_with fail
  refine Calls.mono HC.out ?_
  rintro e w2 ⟨rfl,hT⟩
  go_wp2_with fail
  go_ret
  exact ⟨by rw [HE.out];rfl,by rw [HE.out];exact (HS.out w2 _ hT).behind HB.out⟩
 have h8':(x.kind == 8)=false:=by simpa using h8
 have HE:=hid (townR_none T h1 h2 h3 h4 h5 h6 h7 h8)
 clear h1 h2 h3 h4 h5 h6 h7 h8
 go_wp2_with fail
 go_ret
 exact ⟨by rw [HE.out];rfl,by rw [HE.out];exact (To.stay (mk_stands ..) HI.out (Below.refl _ _)).behind HB.out⟩
def MNewIs (ws:Nat->Int) (w w':World) (e:Ending):Prop:=(OkT ws->∃p O,e=.returned (.pointer (some ⟨p,0,none⟩))∧MkIn p ws (T00 ws) O w'∧∀k,O k->w.heap.size<=k)∧(¬OkT ws->e=.returned (.pointer none))
theorem mk_new0 {n0:Nat} {ws:Nat->Int} {w:World} (hn:n0<=w.heap.size) (t:TypeId):MktNew (w.alloc (.cells #[.slice none 0 0,.slice none 0 0,.int .i64 (ws 0),.int .i64 (ws 1),.int .i64 (ws 2),.int .i64 (ws 3),.int .i64 (ws 4),.int .i64 (ws 5),.pointer none,.pointer none,.pointer none,.slice none 0 0] t)) n0 w.heap.size ws ws 0:=by
 refine ⟨fun _ _=>False,fun _=>0,hn,by simp,fun j=>by simp [go_sem],by simp [go_sem],by simp [go_sem],fun j hj=>?_,fun s hs=>?_,by simp [go_sem],fun s hs=>absurd hs (by omega),fun s hs=>absurd hs (by omega),fun s hs=>absurd hs (by omega),fun s t hs=>absurd hs (by omega)⟩
 ·rcases six_cases hj with rfl | rfl | rfl | rfl | rfl | rfl <;> simp [go_sem]
 ·match s,hs with
  | 0,_=>simp [go_sem]
  | 1,_=>simp [go_sem]
  | 2,_=>simp [go_sem]
theorem mnew_any (ws:Nat->Int) (w:World):Calls Tryz.prog 13 #[wldV ws] w fun e w'=>MNewIs ws w w' e∧Below w.heap.size w w':=by
 unfold wldV
 go_enter Tryz.func13,Tryz.ntmps13
 go_upto_region 1 with fail
 have hb1:Below w.heap.size w (w.alloc (.cells #[.int .i64 (ws 0),.int .i64 (ws 1),.int .i64 (ws 2),.int .i64 (ws 3),.int .i64 (ws 4),.int .i64 (ws 5)] 40)):=(Below.refl _ _).alloc (Nat.le_refl _) _
 have hX:BoxAt (w.alloc (.cells #[.int .i64 (ws 0),.int .i64 (ws 1),.int .i64 (ws 2),.int .i64 (ws 3),.int .i64 (ws 4),.int .i64 (ws 5)] 40)) w.heap.size [.int .i64 (ws 0),.int .i64 (ws 1),.int .i64 (ws 2),.int .i64 (ws 3),.int .i64 (ws 4),.int .i64 (ws 5)]:=BoxAt.new w _ _
 generalize (w.alloc (.cells #[.int .i64 (ws 0),.int .i64 (ws 1),.int .i64 (ws 2),.int .i64 (ws 3),.int .i64 (ws 4),.int .i64 (ws 5)] 40))=w1 at hb1 hX ⊢
 have HB1:=hid hb1
 have HX:=hid hX
 have x0:=hX.2 0 _ rfl
 have x1:=hX.2 1 _ rfl
 have x2:=hX.2 2 _ rfl
 have x3:=hX.2 3 _ rfl
 have x4:=hX.2 4 _ rfl
 have x5:=hX.2 5 _ rfl
 clear hb1 hX
 go_upto_region 2 with fail
 have hN:=mk_new0 (n0:=w.heap.size) (ws:=ws) (w:=w1) HB1.out.size 74
 have hb10:Below w1.heap.size w1 (w1.alloc (.cells #[.slice none 0 0,.slice none 0 0,.int .i64 (ws 0),.int .i64 (ws 1),.int .i64 (ws 2),.int .i64 (ws 3),.int .i64 (ws 4),.int .i64 (ws 5),.pointer none,.pointer none,.pointer none,.slice none 0 0] 74)):=(Below.refl _ _).alloc (Nat.le_refl _) _
 have hX2:=HX.out.next hb10
 have hbw:=after HB1.out hb10 HB1.out.size
 have hlp:w.heap.size<w1.heap.size:=HX.out.1
 generalize (w1.alloc (.cells #[.slice none 0 0,.slice none 0 0,.int .i64 (ws 0),.int .i64 (ws 1),.int .i64 (ws 2),.int .i64 (ws 3),.int .i64 (ws 4),.int .i64 (ws 5),.pointer none,.pointer none,.pointer none,.slice none 0 0] 74))=w10 at hN hX2 hbw ⊢
 generalize w1.heap.size=p at hN hlp ⊢
 have HN0:=hid hN
 have HX0:=hid hX2
 have HW0:=hid hbw
 have HLP:=hid hlp
 clear hb10 HX HB1 hN hX2 hbw hlp x0 x1 x2 x3 x4 x5
 go_wp2_with fail
 go_loopg [4] 3 (fun g s4 wr=>∃k:Nat,k<=3∧g=3 - k∧s4=.int .i64 k∧Hid (∀s:Nat,s<k->newOk (s:Int) ws=true)∧Hid (MktNew wr w.heap.size p ws ws k)∧Hid (BoxAt wr w.heap.size [.int .i64 (ws 0),.int .i64 (ws 1),.int .i64 (ws 2),.int .i64 (ws 3),.int .i64 (ws 4),.int .i64 (ws 5)])∧Hid (Below w.heap.size w wr))
 case atStart=>exact ⟨0,Nat.zero_le _,rfl,rfl,fun s hs=>absurd hs (by omega),HN0,HX0,HW0⟩
 case round=>
 obtain ⟨k,hk,rfl,rfl,HOk,HN,HXr,HW⟩:=hrel
 clear HN0 HX0 HW0
 by_cases hlt:k<3
 case neg=>
  have j1:¬(k:Int)<3:=by omega
  have hk3:k=3:=by omega
  subst hk3
  go_wp2_with fail
  go_ret
  refine ⟨⟨fun _=>?_,fun q=>absurd HOk.out q⟩,HW.out⟩
  obtain ⟨O,h1,h2⟩:=MktNew.done (tD:=151) (tW:=97) (tI:=3) HN.out
  exact ⟨p,O,rfl,h1,h2⟩
 have j1:(k:Int)<3:=by omega
 have j0:(0:Int)<=(k:Int):=by omega
 have HKn:=hid hlt
 have HK:Hid (∀w',Below wr.heap.size wr w'->w'.cell? ⟨w.heap.size,0,none⟩=some (.int .i64 (ws 0))∧w'.cell? ⟨w.heap.size,1,none⟩=some (.int .i64 (ws 1))∧w'.cell? ⟨w.heap.size,2,none⟩=some (.int .i64 (ws 2))∧w'.cell? ⟨w.heap.size,3,none⟩=some (.int .i64 (ws 3))∧w'.cell? ⟨w.heap.size,4,none⟩=some (.int .i64 (ws 4))∧w'.cell? ⟨w.heap.size,5,none⟩=some (.int .i64 (ws 5))):=fun w' hb=>⟨(HXr.out.next hb).2 0 _ rfl,(HXr.out.next hb).2 1 _ rfl,(HXr.out.next hb).2 2 _ rfl,(HXr.out.next hb).2 3 _ rfl,(HXr.out.next hb).2 4 _ rfl,(HXr.out.next hb).2 5 _ rfl⟩
 have HSt:Hid (∀(w':World) (u:Value),Below wr.heap.size wr w'->(w'.setCell ⟨p,8+k,none⟩ u).cell? ⟨w.heap.size,0,none⟩=some (.int .i64 (ws 0))∧(w'.setCell ⟨p,8+k,none⟩ u).cell? ⟨w.heap.size,1,none⟩=some (.int .i64 (ws 1))∧(w'.setCell ⟨p,8+k,none⟩ u).cell? ⟨w.heap.size,2,none⟩=some (.int .i64 (ws 2))∧(w'.setCell ⟨p,8+k,none⟩ u).cell? ⟨w.heap.size,3,none⟩=some (.int .i64 (ws 3))∧(w'.setCell ⟨p,8+k,none⟩ u).cell? ⟨w.heap.size,4,none⟩=some (.int .i64 (ws 4))∧(w'.setCell ⟨p,8+k,none⟩ u).cell? ⟨w.heap.size,5,none⟩=some (.int .i64 (ws 5))):=fun w' u hb=>by
  have hq:=(HXr.out.next hb).save ((Save.refl (fun j=>j=p) w').setCell (p:=⟨p,8+k,none⟩) (fun _=>rfl) u) (by have:=HLP.out;show ¬_=_;omega)
  exact ⟨hq.2 0 _ rfl,hq.2 1 _ rfl,hq.2 2 _ rfl,hq.2 3 _ rfl,hq.2 4 _ rfl,hq.2 5 _ rfl⟩
 have HCell:Hid (∀w',Below wr.heap.size wr w'->∃u,w'.cell? ⟨p,8+k,none⟩=some u∧(∀j,w'.frozen? ⟨p,j,none⟩=false)∧p<w'.heap.size):=fun w' hb=>by
  obtain ⟨Q,q,r⟩:=HN.out.next hb
  exact ⟨_,Option.eq_some_of_isSome (r.here k HKn.out),r.loose,r.lt⟩
 have HC:=hid (fun W (_:Below wr.heap.size wr W)=>npen_any (k:Int) ws W)
 clear hk hlt
 by_cases hok:newOk (k:Int) ws=true
 case neg=>
  have HNo:Hid (¬OkT ws):=fun q=>hok (q k HKn.out)
  have HOf:=hid hok
  clear hok
  go_upto_region 5 with fail
  go_region_held3 (fun w'=>w'.cell? ⟨w.heap.size,0,none⟩=some (.int .i64 (ws 0))∧w'.cell? ⟨w.heap.size,1,none⟩=some (.int .i64 (ws 1))∧w'.cell? ⟨w.heap.size,2,none⟩=some (.int .i64 (ws 2))∧w'.cell? ⟨w.heap.size,3,none⟩=some (.int .i64 (ws 3))∧w'.cell? ⟨w.heap.size,4,none⟩=some (.int .i64 (ws 4))∧w'.cell? ⟨w.heap.size,5,none⟩=some (.int .i64 (ws 5)))
   (first | exact HSt.out _ _ hw9 | exact HK.out _ (by go_grown))
   (first | (go_at_call 23;refine Calls.mono (HC.out _ (by go_grown)) ?_;rintro e w9 ⟨hN9,hb9⟩;have hw9:Below wr.heap.size wr w9:=after (by go_grown) hb9 (by first | omega | (simp <;> omega));have hz9:wr.heap.size<=w9.heap.size:=hw9.size;unfold NewPIs at hN9;rw [if_neg HOf.out] at hN9;subst hN9;obtain ⟨u9,hu9,hfz9,hpl9⟩:=HCell.out _ hw9))
  all_goals
   go_wp2_with fail
   go_ret
   exact ⟨⟨fun q=>absurd q HNo.out,fun _=>rfl⟩,(after HW.out hw9 HW.out.size).setCell (p:=⟨p,8+k,none⟩) (by show _<=p;have:=HLP.out;omega) _⟩
 have HOK:=hid hok
 clear hok
 go_upto_region 5 with fail
 go_region_held3 (fun w'=>w'.cell? ⟨w.heap.size,0,none⟩=some (.int .i64 (ws 0))∧w'.cell? ⟨w.heap.size,1,none⟩=some (.int .i64 (ws 1))∧w'.cell? ⟨w.heap.size,2,none⟩=some (.int .i64 (ws 2))∧w'.cell? ⟨w.heap.size,3,none⟩=some (.int .i64 (ws 3))∧w'.cell? ⟨w.heap.size,4,none⟩=some (.int .i64 (ws 4))∧w'.cell? ⟨w.heap.size,5,none⟩=some (.int .i64 (ws 5)))
  (first | exact HSt.out _ _ hw9 | exact HK.out _ (by go_grown))
  (first | (go_at_call 23;refine Calls.mono (HC.out _ (by go_grown)) ?_;rintro e w9 ⟨hN9,hb9⟩;have hw9:Below wr.heap.size wr w9:=after (by go_grown) hb9 (by first | omega | (simp <;> omega));have hz9:wr.heap.size<=w9.heap.size:=hw9.size;unfold NewPIs at hN9;rw [if_pos HOK.out] at hN9;obtain ⟨q9,O9,rfl,hI9,hO9⟩:=hN9;have HI9:=hid hI9;have HO9:Hid (∀j,O9 j->wr.heap.size<=j):=(fun j hj=>by have:=hO9 j hj;first | omega | (simp at this;omega));clear hI9 hO9;obtain ⟨u9,hu9,hfz9,hpl9⟩:=HCell.out _ hw9))
 all_goals
  go_wp2_with fail
  go_roundg (3 - (k+1))
  case measure=>have:=HKn.out;omega
  case rel=>
   refine ⟨k+1,HKn.out,rfl,by simp,fun s hs=>?_,HN.out.pen HKn.out hw9 HI9.out HO9.out,?_,(after HW.out hw9 HW.out.size).setCell (p:=⟨p,8+k,none⟩) (by show _<=p;have:=HLP.out;omega) _⟩
   ·by_cases e:s=k
    ·subst e;exact HOK.out
    ·exact HOk.out s (by omega)
   ·exact (HXr.out.next hw9).save ((Save.refl (fun j=>j=p) w9).setCell (p:=⟨p,8+k,none⟩) (fun _=>rfl) _) (by have:=HLP.out;show ¬_=_;omega)
end Go.Proofs.YtbgnajcmhmpjlacGreatDoor
