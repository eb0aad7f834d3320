/- A list of wants that comes in is no longer than its room. -/
import Derived.Test.YtbgnajcmhmpjlaaPKit
namespace Go.Proofs.Ytbgnajcmhmpjlaa
open Go.ChangeShapes Go.WideShapes Go.ChangeAt Go.RowKit Go.Deep

theorem wants_cap {H : Type} {enc : TypeId × Value → H} {W : World} {held : Bool} {a : Option Addr} {l c : Nat} {d : DataW H} {ps : List MemPlace} (hd : DataW.Trod enc Try.prog W 0 (fun _ => true) held 37 (.slice a l c) d ps) : l ≤ c := by
  obtain ⟨fuel, hf⟩ := hd
  rcases open_slice_pairs Try.underlying37 Try.underlying42 Try.cellsWantP rfl rfl Try.cellsIntP Try.cellsIntP hf with ⟨hcs, _⟩ | ⟨x, l', c', m, n, V0, V1, D0, D1, P0, P1, hcs, _, hl, hm, hz, hx, hcell⟩
  · simp [Value.cells] at hcs
    omega
  · simp [Value.cells] at hcs
    omega

end Go.Proofs.Ytbgnajcmhmpjlaa
