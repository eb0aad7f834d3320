/- For every two lists of lines: the statement DeskDoes of the program returns true, and its arguments read as before, where the library's listed variables read as the program's own text lays them (the card ties them to it). -/
import Derived.Test.YtbgnajcmhmpjlacGreatDoorCards
import Derived.Test.YtbgnajcmhmpjlacGreatDoorTie
import Derived.OpenShut
import Derived.Stop.Joined
import Derived.Test.YtbgnajcmhmpjlacGreatDoorB0
import Derived.Test.YtbgnajcmhmpjlacGreatDoorH8
import Derived.Test.YtbgnajcmhmpjlacGreatDoorH9
set_option maxRecDepth 100000
set_option maxHeartbeats 100000000
namespace Go.Proofs.YtbgnajcmhmpjlacGreatDoor
open Go.ChangeShapes Go.WideShapes Go.ChangeAt Go.RowKit Go.Deep
theorem lineOk:LineOk:=fun s hs ht h hR=>eline_any s hs ht h hR
theorem Tryz.ownDeskDoes:ownKnob Tryz.prog.godebug=none:=by kernel_rfl
theorem Tryz.laidOutDeskDoes:laidOutB Tryz.prog=true:=by kernel_rfl
theorem door_met (os:Os) (args:Array Value):laidMetH Tryz.prog Rows.deskDoesRow.laid ((World.doorLaid Tryz.prog 62 os).forCall (fun _ _=>0) ⟨#[],args,[]⟩).memory:=
 laidMetH_of_parts3 (fuel:=8) (laidMet_of_run' 8 (by kernel_rfl) (by kernel_rfl)) (by kernel_rfl) (by kernel_rfl)
theorem deskDoes_lifted (os:Os) (started:os.Started) (H:Type) (enc:TypeId × Value->H):
 ReturnsInHanded {} Tryz.checked os 3 .any (fun w args=>(Rows.deskDoesSpec.pre enc Tryz.prog Tryz.f3 [] false w args∧laidMetH Tryz.prog Rows.deskDoesRow.laid w)∧sizedMet enc Tryz.prog Tryz.f3 (OpenSpec.ofChange Rows.deskDoesSpec) false w args)
  (Rows.deskDoesSpec.post enc Tryz.prog Tryz.f3 false true false false):=by
 refine returnsInHanded_of_change_and (C:=Tryz.checked) (X:=fun w _=>laidMetH Tryz.prog Rows.deskDoesRow.laid w) (fun _ _ _ hh h=>h.of_heap hh) Tryz.ownDeskDoes started (by kernel_rfl) Tryz.func3
  (ChangeSpec.witness_shaped (enc:=enc) (C:=Tryz.checked) (os:=os) (X:=fun w _=>laidMetH Tryz.prog Rows.deskDoesRow.laid w) false (World.doorLaid Tryz.prog 62 os) #[.slice none 0 0,.slice none 0 0] 8 rfl (World.shaped_of_RefB (by kernel_rfl) (by kernel_rfl)) (by kernel_rfl) (by kernel_rfl) (by kernel_rfl) (door_met os _)) ?_
 intro W base args ds gs before hval0 hW _ hwt hL _
 have hval:∀(j:Nat) t v,Tryz.f3.params[j]?=some t->args[j]?=some v->Value.okWide Tryz.prog W .any base t v:=hval0
 have hW':=hW
 obtain ⟨p,q,hA0,hV,rfl,hfz,hnd⟩:=hW
 have hA:DataW.TrodAll enc Tryz.prog W 0 (fun _=>true) true Tryz.f3.params.toList args.toList ds p:=hA0
 rw [Tryz.params3] at hA hval hwt
 obtain ⟨v0,v1,d0,d1,p0,p1,rfl,rfl,rfl,h0,h1⟩:=trodAll_two hA
 obtain ⟨rfl,rfl⟩:=trodVars_none hV
 have k0:=h0
 have lt0:∀x∈p0,x.block<W.heap.size:=by obtain ⟨m,hm⟩:=k0;exact DataW.trod_lt m _ _ _ hm
 have k1:=h1
 have lt1:∀x∈p1,x.block<W.heap.size:=by obtain ⟨m,hm⟩:=k1;exact DataW.trod_lt m _ _ _ hm
 obtain ⟨a0,l0,c0,rfl⟩:=okWide_slice Tryz.underlying22 (hval 0 22 v0 rfl rfl)
 obtain ⟨xs,hx,hxl,hxc,hxn,hxd⟩:=open_lines h0
 have hsz:=sized_lines hwt (j:=0) (xs:=xs) (d:=d0) rfl rfl hxd
 obtain ⟨a1,l1,c1,rfl⟩:=okWide_slice Tryz.underlying22 (hval 1 22 v1 rfl rfl)
 obtain ⟨ys,hy,hyl,hyc,hyn,hyd⟩:=open_lines h1
 have hsy:=sized_lines hwt (j:=1) (xs:=ys) (d:=d1) rfl rfl hyd
 have hT:=tied_of_laid hL
 clear hA0 hval0
 refine (does_walk lineOk a0 a1 l0 c0 l1 c1 xs ys W hT hx hy hxl hyl hsz hsy).mono fun e W' ⟨hret,hb⟩=>?_
 subst hret
 exact ⟨_,rfl,_,_,_,[],_,[],hW',trodAll_mk1 (shut_bool Tryz.underlying4 true),trodAll_mk2 (Below.trod Tryz.laidOutDeskDoes (by kernel_rfl) (of_decide_eq_true (by kernel_rfl)) k0 hb lt0) (Below.trod Tryz.laidOutDeskDoes (by kernel_rfl) (of_decide_eq_true (by kernel_rfl)) k1 hb lt1),rfl,hb.frame _,fun h=>by cases h⟩
theorem deskDoes_row:Rows.DeskDoesSaid:=
 OpenClaim.holds_of_wide 3 Tryz.f3 rfl rfl rfl rfl rfl rfl rfl ⟨rfl,rfl,rfl,rfl,rfl⟩ rfl rfl rfl rfl rfl (by kernel_rfl) Tryz.func3 (by kernel_rfl)
  (of_decide_eq_true (by kernel_rfl)) (by unfold Func.isWrapper;first | (rw [if_pos (by decide+kernel)];kernel_rfl) | (rw [if_neg (by decide+kernel)];exact ⟨rfl,rfl⟩))
  (fun os started H enc _=>deskDoes_lifted os started H enc)
theorem deskDoes_holds:Rows.DeskDoesCardSaid:=
 Claim7.holds_tied_plain_at .later [] [.data,.data,.data,.sentinel,.sentinel] true (true, "ec50a7657c8e2f3c41fae44cabbbe056cbbcf370acbafd49ce4bd35962b8d36d") true
  deskDoes_row (fun _ h=>by cases h) (by kernel_rfl) (fun _ h=>by cases h) deskDoes_row_tie rfl ⟨rfl,rfl⟩ (by kernel_rfl) rfl
  (fun f fn hf hfn=>by
    obtain rfl:f=3:=Option.some.inj ((show Tryz.prog.funcNamed "handsel/handsellaw.DeskDoes" =some 3 by kernel_rfl).symm.trans hf) |>.symm
    obtain rfl:fn=Tryz.f3:=(Option.some.inj (Tryz.func3.symm.trans hfn)).symm
    exact ⟨by kernel_rfl,fun j t ht=>by
     rw [Tryz.params3] at ht
     rcases j with _ | _ | j
     ·have h3:t=22:=by simpa using ht.symm
      subst h3
      exact (show Tryz.prog.wantsStandIn 22=false by kernel_rfl)
     ·have h3:t=22:=by simpa using ht.symm
      subst h3
      exact (show Tryz.prog.wantsStandIn 22=false by kernel_rfl)
     ·simp at ht⟩)
  (by kernel_rfl)
#print axioms deskDoes_holds
end Go.Proofs.YtbgnajcmhmpjlacGreatDoor
