/- The contract of the document's Book: Crash. -/
import Derived.BigRegion
import Derived.Test.YtbgnajcmhmpjlacGreatDoorB9
set_option maxRecDepth 100000
set_option maxHeartbeats 100000000
namespace Go.Proofs.YtbgnajcmhmpjlacGreatDoor
open Go.RowKit
theorem BokRaw.none2 {w:World} {q g n cap k:Nat} {B:Bok} {ov:Value} {V:List DV} {D:Dl} {v:DV} (h:BokRaw 151 97 3 w q 0 B (.slice (some ⟨g,0,none⟩) n cap) ov V) (hl:q<w.heap.size) (hall:∀u∈(.slice (some ⟨g,0,none⟩) n cap:Value) :: ov :: V.flatMap DV.all,∀j,u.ownBlock=some j->j<w.heap.size) (hk:B.L[k]?=some D) (hv:V[k]?=some v):BokRaw 151 97 3 ((w.setCell ⟨g,k * 4+2,none⟩ (.slice none 0 0)).setCell ⟨g,k * 4+3,none⟩ (.slice none 0 0)) q 0 (putD B (k:Int) { D with yes:=[],ov:=[] }) (.slice (some ⟨g,0,none⟩) n cap) ov (V.set k { v with y:=.slice none 0 0,o:=.slice none 0 0 }):=by
 have nn:∀j,(Value.slice none 0 0).ownBlock=some j->False:=fun j e=>by simp [Value.ownBlock] at e
 have h1:=h.yes (l:=[]) (v8:=.slice none 0 0) hl hall hk hv (Save.refl _ _) (World.ownsRow_nil _ _ _ _) (fun j e=>(nn j e).elim)
 have hkl:=(List.getElem?_eq_some_iff.1 hk).1
 have hvl:=(List.getElem?_eq_some_iff.1 hv).1
 have hk1:(putD B (k:Int) { D with yes:=[] }).L[k]?=some { D with yes:=[] }:=by
  show (B.L.set (k:Int).toNat _)[k]?=_
  rw [Int.toNat_natCast]
  exact List.getElem?_set_self hkl
 have hv1:(V.set k { v with y:=.slice none 0 0 })[k]?=some { v with y:=.slice none 0 0 }:=List.getElem?_set_self hvl
 have h2:=h1.ov' (l:=[]) (v8:=.slice none 0 0) (by simpa using hl) (fun u hu j hj=>?_) hk1 hv1 (Save.refl _ _) (World.ownsRow_nil _ _ _ _) (fun j e=>(nn j e).elim)
 ·have e1:putD (putD B (k:Int) { D with yes:=[] }) (k:Int) { D with yes:=[],ov:=[] }=putD B (k:Int) { D with yes:=[],ov:=[] }:=by
   unfold putD
   simp
  have e2:(V.set k { v with y:=.slice none 0 0 }).set k { v with y:=.slice none 0 0,o:=.slice none 0 0 }=V.set k { v with y:=.slice none 0 0,o:=.slice none 0 0 }:=by simp
  rw [<-e1,<-e2]
  exact h2
 ·rcases List.mem_cons.1 hu with rfl | hu
  ·simpa using hall _ (by simp) j hj
  ·rcases List.mem_cons.1 hu with rfl | hu
   ·simpa using hall _ (by simp) j hj
   ·rw [(all_y (.slice none 0 0) hv).1] at hu
    rcases mem_set hu with rfl | hu
    ·exact (nn j hj).elim
    ·simpa using hall u (by simp [hu]) j hj
theorem set_swap (w:World) (g a b:Nat) (hab:a ≠ b) (u v:Value):(w.setCell ⟨g,a,none⟩ u).setCell ⟨g,b,none⟩ v=(w.setCell ⟨g,b,none⟩ v).setCell ⟨g,a,none⟩ u:=by
 unfold World.setCell
 congr 1
 apply Array.ext_getElem?
 intro i
 simp only [Array.getElem?_modify]
 by_cases e:g=i
 ·subst e
  simp only [if_true]
  cases h:w.heap[g]? with
  | none=>rfl
  | some o=>
    cases o with
    | cells cs t fr=>
      simp only [Option.map_some]
      congr 1
      simp only [Option.isSome_none,Bool.false_eq_true,if_false]
      congr 1
      exact Array.setIfInBounds_comm _ _ hab
    | _=>rfl
 ·simp [e]
theorem qcrash_any (O:Nat->Prop) (B:Bok) (q:Nat) (w:World) (h:BokIn 151 97 3 O w q 0 B) (hI:BInv B):
 Calls Tryz.prog 65 #[.pointer (some ⟨q,0,none⟩)] w fun e w'=>e=.returned (.tuple #[])∧BokTo 151 97 3 O w w' q 0 (crashR B):=by
 obtain ⟨rv,ov,V,hR,hsub⟩:=h.raw
 have HI:Hid (BokIn 151 97 3 O w q 0 B):=h
 have hql:=h.lt
 have c0:=hR.c0
 have h8:(B.L.length:Int)<=8:=by have:=hI.len;omega
 by_cases hne:B.L.length=0
 ·obtain ⟨ga,cap,rfl⟩:=own_sl hR.row
  have HE:Hid (crashR B=B):=by
   have:B.L=[]:=List.length_eq_zero_iff.1 hne
   show _=_
   unfold crashR
   rw [this]
   cases B
   simp_all
  have hn':¬(0:Int)<(B.L.length:Int):=by omega
  clear hR hsub h hI hne
  go_enter Tryz.func65,Tryz.ntmps65
  go_wp2_with fail
  go_loopg [2] 0 (fun _ s2 wr=>s2=.int .i64 0∧w=wr)
  case atStart=>exact ⟨rfl,rfl⟩
  case round=>
   obtain ⟨rfl,rfl⟩:=hrel
   go_wp2_with fail
   exact bodyPost_end (v:=.tuple #[]) (by simp [results,Tryz.results65,go_sem]) rfl ⟨rfl,by rw [HE.out];exact BokTo.stay HI.out (Below.refl _ _)⟩
 ·obtain ⟨g,cap,rfl⟩:=own_any hR.row hne
  have HSub:Hid (∀u∈(.slice (some ⟨g,0,none⟩) B.L.length cap:Value) :: ov :: V.flatMap DV.all,∀k,u.ownBlock=some k->O k):=hsub
  have hqg:q ≠ g:=by have:=(hR.row.lt g rfl).1;omega
  clear h hI hne
  go_enter Tryz.func65,Tryz.ntmps65
  go_wp2_with fail
  go_loopg [2] B.L.length (fun gg s2 wr=>∃(k:Nat) (V':List DV),k<=B.L.length∧gg=B.L.length - k∧s2=.int .i64 k∧BokRaw 151 97 3 wr q 0 ⟨crashTo B.L k,B.ord⟩ (.slice (some ⟨g,0,none⟩) B.L.length cap) ov V'∧Hid (∀u∈(.slice (some ⟨g,0,none⟩) B.L.length cap:Value) :: ov :: V'.flatMap DV.all,∀k,u.ownBlock=some k->O k)∧Hid (Save (fun b=>b=g) w wr))
  case atStart=>exact ⟨0,V,Nat.zero_le _,rfl,rfl,by rw [crashTo_zero];exact hR,hsub,Save.refl _ _⟩
  case round=>
   obtain ⟨k,V',hk,rfl,rfl,hRk,HSk,HSv⟩:=hrel
   clear hR c0 hsub
   have c0:=hRk.c0
   have hqr:q<wr.heap.size:=Nat.lt_of_lt_of_le hql HSv.out.size
   by_cases hlt:k<B.L.length
   ·obtain ⟨D,hkD⟩:∃x,B.L[k]?=some x:=⟨_,List.getElem?_eq_getElem hlt⟩
    obtain ⟨g',cap',v,erv,hV',h4,_,_⟩:=hRk.deal4 (crashTo_at hkD)
    have e1:g=g':=by
     simp only [Value.slice.injEq,Option.some.injEq,Addr.mk.injEq] at erv
     exact erv.1.1
    subst e1
    have j0:(0:Int)<=(k:Int):=by omega
    have j1:(k:Int)<(B.L.length:Int):=by omega
    have hr4:IntKind.i64.wrap ((k:Int)+1)=(k:Int)+1:=by go_unwrap
    obtain ⟨d0,d1,d2,d3,dl,df⟩:=h4
    have HRk:Hid (BokRaw 151 97 3 wr q 0 ⟨crashTo B.L k,B.ord⟩ (.slice (some ⟨g,0,none⟩) B.L.length cap) ov V'):=hRk
    have HV':Hid (V'[k]?=some v):=hV'
    have HKL:Hid (k<B.L.length):=hlt
    have HkD:Hid _:=hkD
    have hall:∀u∈(.slice (some ⟨g,0,none⟩) B.L.length cap:Value) :: ov :: V'.flatMap DV.all,∀j,u.ownBlock=some j->j<wr.heap.size:=fun u hu j hj=>Nat.lt_of_lt_of_le (HI.out.own j (HSk.out u hu j hj)) HSv.out.size
    have HAll:Hid _:=hall
    have HRel:Hid (∀(x:Int) (w2:World),x=(crashD D).st->BokRaw 151 97 3 w2 q 0 (putD ⟨crashTo B.L k,B.ord⟩ (k:Int) { D with st:=x }) (.slice (some ⟨g,0,none⟩) B.L.length cap) ov V'->Save (fun b=>b=g) wr w2->BokRaw 151 97 3 ((w2.setCell ⟨g,k * 4+2,none⟩ (.slice none 0 0)).setCell ⟨g,k * 4+3,none⟩ (.slice none 0 0)) q 0 ⟨crashTo B.L (k+1),B.ord⟩ (.slice (some ⟨g,0,none⟩) B.L.length cap) ov (V'.set k { v with y:=.slice none 0 0,o:=.slice none 0 0 })∧Save (fun b=>b=g) w ((w2.setCell ⟨g,k * 4+2,none⟩ (.slice none 0 0)).setCell ⟨g,k * 4+3,none⟩ (.slice none 0 0))):=fun x w2 hx h2 hs=>by
     have hk2:(putD ⟨crashTo B.L k,B.ord⟩ (k:Int) { D with st:=x }).L[k]?=some { D with st:=x }:=by
      show ((crashTo B.L k).set (k:Int).toNat _)[k]?=_
      rw [Int.toNat_natCast]
      exact List.getElem?_set_self (by rw [crashTo_len];exact HKL.out)
     have h3:=h2.none2 (Nat.lt_of_lt_of_le hqr hs.size) (fun u hu j hj=>Nat.lt_of_lt_of_le (HAll.out u hu j hj) hs.size) hk2 HV'.out
     have e2:putD (putD ⟨crashTo B.L k,B.ord⟩ (k:Int) { D with st:=x }) (k:Int) { D with st:=x,yes:=[],ov:=[] }=⟨crashTo B.L (k+1),B.ord⟩:=by
      rw [crashTo_next HkD.out,hx]
      unfold putD crashD
      simp
     rw [e2] at h3
     refine ⟨h3,((HSv.out.trans hs (fun _ _ e=>e)).setCell (p:=⟨g,k * 4+2,none⟩) (fun _=>rfl) _).setCell (p:=⟨g,k * 4+3,none⟩) (fun _=>rfl) _⟩
    have HSk2:Hid (∀u∈(.slice (some ⟨g,0,none⟩) B.L.length cap:Value) :: ov :: (V'.set k { v with y:=.slice none 0 0,o:=.slice none 0 0 }).flatMap DV.all,∀k,u.ownBlock=some k->O k):=by
     intro u hu j hj
     rcases List.mem_cons.1 hu with rfl | hu
     ·exact HSk.out _ (by simp) j hj
     ·rcases List.mem_cons.1 hu with rfl | hu
      ·exact HSk.out _ (by simp) j hj
      ·obtain ⟨x,hx,hux⟩:=List.mem_flatMap.1 hu
       rcases mem_set hx with rfl | hx
       ·simp only [DV.all,List.mem_cons,List.not_mem_nil,or_false] at hux
        rcases hux with rfl | rfl | rfl
        ·exact HSk.out _ (by simp [(mem_all HV'.out).1]) j hj
        ·simp [Value.ownBlock] at hj
        ·simp [Value.ownBlock] at hj
       ·exact HSk.out u (List.mem_cons_of_mem _ (List.mem_cons_of_mem _ (List.mem_flatMap.2 ⟨x,hx,hux⟩))) j hj
    have hgk:(k * 4+2) ≠ (k * 4+3):=by omega
    clear erv hV' hRk hlt hkD hk hall
    by_cases hst:D.st=0
    ·have hst':(D.st == 0)=true:=by simp [hst]
     have HRel2:Hid _:=HRel.out 2 (wr.setCell ⟨g,k * 4+1,none⟩ (.int .i64 2)) (by simp [crashD,hst]) (HRk.out.st hqr (crashTo_at HkD.out) 2) (Save.setCell (O:=fun b=>b=g) (Save.refl _ _) (p:=⟨g,k * 4+1,none⟩) (fun _=>rfl) _)
     clear hst HRel
     go_upto_region 5 with fail
     go_region
     all_goals
      go_wp2_with fail
      go_roundg (B.L.length - (k+1))
      case measure=>have:=HKL.out;omega
      case rel=>
       obtain ⟨r1,r2⟩:=HRel2.out
       have hb6:∀W:World,Below W.heap.size W W.drew:=fun W=>(Below.refl _ _).drew
       have hl6:∀W:World,Save (fun b=>b=g) w W->q<W.heap.size:=fun W hW=>Nat.lt_of_lt_of_le hql hW.size
       have r5:=r1.save (hl6 _ r2) (.of_below (O:=fun _=>False) (hb6 _)) (fun q=>q) (fun _ _ _ _ q=>q)
       have r7:Hid _:=r2.next (hb6 _)
       have hk1:k+1<=B.L.length:=HKL.out
       first
        | with_reducible exact ⟨k+1,_,hk1,rfl,by simp,r5,HSk2,r7⟩
        | (rw [set_swap _ _ _ _ hgk] at r5 r7
           with_reducible exact ⟨k+1,_,hk1,rfl,by simp,r5,HSk2,r7⟩)
    ·have hst':(D.st == 0)=false:=by simpa using hst
     have HRel2:Hid _:=HRel.out D.st wr (by simp [crashD,hst]) (by
      have:putD ⟨crashTo B.L k,B.ord⟩ (k:Int) { D with st:=D.st }=⟨crashTo B.L k,B.ord⟩:=put_self (by rw [dealAt_nat];exact crashTo_at HkD.out)
      rw [this]
      exact HRk.out) (Save.refl _ _)
     clear hst HRel
     go_upto_region 5 with fail
     go_region
     all_goals
      go_wp2_with fail
      go_roundg (B.L.length - (k+1))
      case measure=>have:=HKL.out;omega
      case rel=>
       obtain ⟨r1,r2⟩:=HRel2.out
       have hb6:∀W:World,Below W.heap.size W W.drew:=fun W=>(Below.refl _ _).drew
       have hl6:∀W:World,Save (fun b=>b=g) w W->q<W.heap.size:=fun W hW=>Nat.lt_of_lt_of_le hql hW.size
       have r5:=r1.save (hl6 _ r2) (.of_below (O:=fun _=>False) (hb6 _)) (fun q=>q) (fun _ _ _ _ q=>q)
       have r7:Hid _:=r2.next (hb6 _)
       have hk1:k+1<=B.L.length:=HKL.out
       first
        | with_reducible exact ⟨k+1,_,hk1,rfl,by simp,r5,HSk2,r7⟩
        | (rw [set_swap _ _ _ _ hgk] at r5 r7
           with_reducible exact ⟨k+1,_,hk1,rfl,by simp,r5,HSk2,r7⟩)
   ·have hkk:k=B.L.length:=by omega
    subst hkk
    have HT:Hid (BokTo 151 97 3 O w wr q 0 (crashR B)):=by
     rw [crashTo_all] at hRk
     have hgO:O g:=HSub.out _ List.mem_cons_self g rfl
     refine bok_to HI.out.own HI.out.mine (HSv.out.mono (fun j _ e=>by rw [e];exact hgO)) hRk (fun j=>(HSv.out.frozen (p:=⟨q,j,none⟩) hql hqg).trans (HI.out.loose j)) (fun u hu j hj=>?_) (fun j _ _=>HSv.out.cell (p:=⟨q,j,none⟩) hql hqg)
     have h1:=HSk.out u hu j hj
     exact ⟨.inl h1,Nat.lt_of_lt_of_le (HI.out.own j h1) HSv.out.size⟩
    clear hRk hk hlt
    go_wp2_with fail
    exact bodyPost_end (v:=.tuple #[]) (by simp [results,Tryz.results65,go_sem]) rfl ⟨rfl,HT.out⟩
end Go.Proofs.YtbgnajcmhmpjlacGreatDoor
