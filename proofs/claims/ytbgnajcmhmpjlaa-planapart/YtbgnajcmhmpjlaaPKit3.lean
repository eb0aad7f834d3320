/- A world comes in with numbers that an int has room for. -/
import Derived.Test.YtbgnajcmhmpjlaaPKit
namespace Go.Proofs.Ytbgnajcmhmpjlaa
open Go.ChangeShapes Go.WideShapes Go.ChangeAt Go.RowKit Go.Deep

theorem world_room {H : Type} {enc : TypeId × Value → H} {W : World} {b : Nat} {sp : Nat → Bool} {held : Bool} {ws : Nat → Int} {d : DataW H} {ps : List MemPlace}
    (hd : DataW.Trod enc Try.prog W b sp held 39 (.agg #[.int .i64 (ws 0), .int .i64 (ws 1), .int .i64 (ws 2), .int .i64 (ws 3), .int .i64 (ws 4), .int .i64 (ws 5)]) d ps) : ∀ j, j < 6 → -9223372036854775808 ≤ ws j ∧ ws j ≤ 9223372036854775807 := by
  obtain ⟨fuel, hf⟩ := hd
  obtain ⟨xs, m, rfl, _, _, hl, hi⟩ := DataW.trod_array Try.underlying39 hf
  simp only [Value.cells, Try.cellsIntP, Nat.mul_one] at hi
  intro j hj
  have q := hi j hj
  rw [List.getElem?_eq_getElem (by omega)] at q
  have e1 : ((([.int .i64 (ws 0), .int .i64 (ws 1), .int .i64 (ws 2), .int .i64 (ws 3), .int .i64 (ws 4), .int .i64 (ws 5)] : List Value)).drop j).take 1 = [.int .i64 (ws j)] := by
    have : j = 0 ∨ j = 1 ∨ j = 2 ∨ j = 3 ∨ j = 4 ∨ j = 5 := by omega
    rcases this with rfl | rfl | rfl | rfl | rfl | rfl <;> rfl
  simp only [e1] at q
  obtain ⟨a, ea, _, wa⟩ := DataW.trod_int Try.underlying3 q
  simp at ea
  subst ea
  exact bounds_i64 wa

end Go.Proofs.Ytbgnajcmhmpjlaa
