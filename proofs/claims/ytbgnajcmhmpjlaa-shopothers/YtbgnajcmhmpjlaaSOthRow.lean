/- For every number, every world, every list of steps and every step: the statement ShopOthers of the program returns true, and its arguments read as before (no condition). -/
import Derived.Test.YtbgnajcmhmpjlaaRows
import Derived.Test.YtbgnajcmhmpjlaaSKit
import Derived.Test.YtbgnajcmhmpjlaaSOthW
namespace Go.Proofs.Ytbgnajcmhmpjlaa
open Go.ChangeShapes Go.WideShapes Go.ChangeAt Go.RowKit Go.Deep

theorem open_stepV {H : Type} {enc : TypeId × Value → H} {W : World} {b : Nat} {sp : Nat → Bool} {held : Bool} {r : Reach} {b0 : Nat} {v : Value} {d : DataW H} {ps : List MemPlace} (hval : Value.okWide Try.prog W r b0 72 v) (hd : DataW.Trod enc Try.prog W b sp held 72 v d ps) :
    ∃ x : Stp, v = .agg #[.int .i64 x.what, .int .i64 x.deal, .int .i64 x.c, .int .i64 x.d, .bool x.done] := by
  simp only [Value.okWide, Try.underlying72] at hval
  obtain ⟨cs, rfl, h2, _⟩ := hval
  rw [Try.cellsStepP] at h2
  obtain ⟨fuel, hf⟩ := hd
  obtain ⟨l⟩ := cs
  simp only [Value.cells] at hf
  obtain ⟨s, hs⟩ := open_step (by simpa using h2) hf
  refine ⟨s, ?_⟩
  have hs' : l = s.cells := hs
  rw [hs']
  rfl

theorem Try.ownShopOthers : ownKnob Try.prog.godebug = none := by kernel_rfl
theorem Try.laidOutShopOthers : laidOutB Try.prog = true := by kernel_rfl

set_option maxRecDepth 100000 in
theorem shopOthers_lifted (os : Os) (started : os.Started) (H : Type) (enc : TypeId × Value → H) :
    ReturnsInHanded {} Try.checked os 14 .any (Rows.shopOthersSpec.pre6 enc Try.prog Try.f14 Rows.shopOthersRow.domain false) (Rows.shopOthersSpec.post enc Try.prog Try.f14 false true false false) := by
  refine returnsInHanded_of_change (C := Try.checked) Try.ownShopOthers started (by kernel_rfl) Try.func14
    (ChangeSpec.witness6 (enc := enc) (C := Try.checked) false ⟨#[], #[.int .i64 0, .agg #[.int .i64 0, .int .i64 0, .int .i64 0, .int .i64 0, .int .i64 0, .int .i64 0], .slice none 0 0, .agg #[.int .i64 0, .int .i64 0, .int .i64 0, .int .i64 0, .bool false]], []⟩ 8 (by kernel_rfl) (by kernel_rfl) (by kernel_rfl) (by kernel_rfl)) ?_
  intro W base args ds gs before hval0 hW _ _
  have hval : ∀ (j : Nat) t v, Try.f14.params[j]? = some t → args[j]? = some v → Value.okWide Try.prog W .any base t v := hval0
  have hW' := hW
  obtain ⟨p, q, hA0, hV, rfl, hfz, hnd⟩ := hW
  have hA : DataW.TrodAll enc Try.prog W 0 (fun _ => true) true Try.f14.params.toList args.toList ds p := hA0
  rw [Try.params14] at hA hval
  obtain ⟨v0, v1, v2, v3, d0, d1, d2, d3, p0, p1, p2, p3, rfl, rfl, rfl, h0, h1, h2, h3⟩ := trodAll_four hA
  obtain ⟨rfl, rfl⟩ := trodVars_none hV
  have k0 := h0
  have lt0 : ∀ x ∈ p0, x.block < W.heap.size := by obtain ⟨m, hm⟩ := k0; exact DataW.trod_lt m _ _ _ hm
  have k1 := h1
  have lt1 : ∀ x ∈ p1, x.block < W.heap.size := by obtain ⟨m, hm⟩ := k1; exact DataW.trod_lt m _ _ _ hm
  have k2 := h2
  have lt2 : ∀ x ∈ p2, x.block < W.heap.size := by obtain ⟨m, hm⟩ := k2; exact DataW.trod_lt m _ _ _ hm
  have k3 := h3
  have lt3 : ∀ x ∈ p3, x.block < W.heap.size := by obtain ⟨m, hm⟩ := k3; exact DataW.trod_lt m _ _ _ hm
  obtain ⟨n, rfl, _, _, wn⟩ := open_int Try.underlying3 (hval 0 3 v0 rfl rfl) h0
  obtain ⟨ws, rfl⟩ := open_world (hval 1 39 v1 rfl rfl) h1
  obtain ⟨a0, l0, c0, rfl⟩ := okWide_slice Try.underlying54 (hval 2 54 v2 rfl rfl)
  obtain ⟨l, hl, hll⟩ := open_steps h2
  obtain ⟨x, rfl⟩ := open_stepV (hval 3 72 v3 rfl rfl) h3
  clear hA0 hval0
  refine (others_walk n ws a0 l0 c0 l x W hl hll).mono fun e W' ⟨hret, hb⟩ => ?_
  subst hret
  exact ⟨_, rfl, _, _, _, [], _, [], hW', trodAll_mk1 (shut_bool Try.underlying4 true), trodAll_mk4 (Below.trod Try.laidOutShopOthers (by kernel_rfl) (of_decide_eq_true (by kernel_rfl)) k0 hb lt0) (Below.trod Try.laidOutShopOthers (by kernel_rfl) (of_decide_eq_true (by kernel_rfl)) k1 hb lt1) (Below.trod Try.laidOutShopOthers (by kernel_rfl) (of_decide_eq_true (by kernel_rfl)) k2 hb lt2) (Below.trod Try.laidOutShopOthers (by kernel_rfl) (of_decide_eq_true (by kernel_rfl)) k3 hb lt3), rfl, hb.frame _, fun h => by cases h⟩

theorem shopOthers_holds : Rows.ShopOthersSaid :=
  OpenClaim.holds_of_wide 14 Try.f14 rfl rfl rfl rfl rfl rfl rfl ⟨rfl, rfl, rfl, rfl, rfl⟩ rfl rfl rfl rfl rfl (by kernel_rfl) Try.func14 (by kernel_rfl)
    (of_decide_eq_true (by kernel_rfl)) (by unfold Func.isWrapper; first | (rw [if_pos (by decide +kernel)]; kernel_rfl) | (rw [if_neg (by decide +kernel)]; exact ⟨rfl, rfl⟩))
    (fun os started H enc _ => shopOthers_lifted os started H enc)

#print axioms shopOthers_holds
end Go.Proofs.Ytbgnajcmhmpjlaa
