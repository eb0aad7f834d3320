/- How a list of wants and a world come in as arguments. -/
import Derived.Test.YtboenplenoemfabPMath
import Derived.Test.YtboenplenoemfabRows
import Derived.ProofKit
import Derived.OpenShut
import Derived.Deep.Slices
import Derived.Deep.SlicePairs
namespace Go.Proofs.Ytboenplenoemfab
open Go.ChangeShapes Go.WideShapes Go.ChangeAt Go.RowKit Go.Deep

theorem Try.cellsIntP : Try.prog.cellsOf 3 = 1 := by kernel_rfl
theorem Try.cellsWantP : Try.prog.cellsOf 69 = 2 := by kernel_rfl
theorem Try.cellsWorldP : Try.prog.cellsOf 23 = 6 := by kernel_rfl

set_option maxRecDepth 20000 in
theorem open_world {H : Type} {enc : TypeId × Value → H} {W : World} {b : Nat} {sp : Nat → Bool} {held : Bool} {r : Reach} {b0 : Nat} {v : Value} {d : DataW H} {ps : List MemPlace} (hval : Value.okWide Try.prog W r b0 23 v) (hd : DataW.Trod enc Try.prog W b sp held 23 v d ps) :
    ∃ ws : Nat → Int, v = .agg #[.int .i64 (ws 0), .int .i64 (ws 1), .int .i64 (ws 2), .int .i64 (ws 3), .int .i64 (ws 4), .int .i64 (ws 5)] := by
  simp only [Value.okWide, Try.underlying23] at hval
  obtain ⟨cs, rfl, h2, _⟩ := hval
  rw [Try.cellsWorldP] at h2
  obtain ⟨fuel, hf⟩ := hd
  obtain ⟨xs, m, rfl, _, _, hl, hi⟩ := DataW.trod_array Try.underlying23 hf
  simp only [Value.cells, Try.cellsIntP, Nat.mul_one] at hi
  obtain ⟨l⟩ := cs
  match l, h2 with
  | [v0, v1, v2, v3, v4, v5], _ =>
    have each : ∀ i (v : Value), i < 6 → [v0, v1, v2, v3, v4, v5][i]? = some v → ∃ a : Int, v = .int .i64 a := by
      intro i v hlt hv
      have q := hi i hlt
      rw [List.getElem?_eq_getElem (by omega)] at q
      have e1 : (([v0, v1, v2, v3, v4, v5] : List Value).drop i).take 1 = [v] := by
        have := drop_cons hv
        rw [this]; rfl
      simp only [e1] at q
      obtain ⟨a, ea, _⟩ := DataW.trod_int Try.underlying3 q
      simp at ea
      exact ⟨a, ea⟩
    obtain ⟨a0, rfl⟩ := each 0 v0 (by omega) rfl
    obtain ⟨a1, rfl⟩ := each 1 v1 (by omega) rfl
    obtain ⟨a2, rfl⟩ := each 2 v2 (by omega) rfl
    obtain ⟨a3, rfl⟩ := each 3 v3 (by omega) rfl
    obtain ⟨a4, rfl⟩ := each 4 v4 (by omega) rfl
    obtain ⟨a5, rfl⟩ := each 5 v5 (by omega) rfl
    exact ⟨fun i => [a0, a1, a2, a3, a4, a5].getD i 0, rfl⟩

end Go.Proofs.Ytboenplenoemfab
