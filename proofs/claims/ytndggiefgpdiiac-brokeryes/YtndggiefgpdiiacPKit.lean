/- How a list of wants and a world come in as arguments. -/
import Derived.Test.YtndggiefgpdiiacPMath
import Derived.Test.YtndggiefgpdiiacRows
import Derived.ProofKit
import Derived.OpenShut
import Derived.Deep.Slices
import Derived.Deep.SlicePairs
namespace Go.Proofs.Ytndggiefgpdiiac
open Go.ChangeShapes Go.WideShapes Go.ChangeAt Go.RowKit Go.Deep

theorem Try.cellsIntP : Try.prog.cellsOf 3 = 1 := by kernel_rfl
theorem Try.cellsWantP : Try.prog.cellsOf 35 = 2 := by kernel_rfl
theorem open_wants {H : Type} {enc : TypeId × Value → H} {W : World} {held : Bool} {a : Option Addr} {l c : Nat} {d : DataW H} {ps : List MemPlace} (hd : DataW.Trod enc Try.prog W 0 (fun _ => true) held 22 (.slice a l c) d ps) :
    ∃ m : List (Int × Int), WantsAt W a m ∧ m.length = l := by
  obtain ⟨fuel, hf⟩ := hd
  rcases open_slice_pairs Try.underlying22 Try.underlying35 Try.cellsWantP rfl rfl Try.cellsIntP Try.cellsIntP hf with ⟨hcs, _⟩ | ⟨x, l', c', m, n, V0, V1, D0, D1, P0, P1, hcs, _, hl, hm, hz, hx, hcell⟩
  · simp [Value.cells] at hcs
    obtain ⟨rfl, rfl, rfl⟩ := hcs
    exact ⟨[], by intro k c d h; simp at h, rfl⟩
  · simp [Value.cells] at hcs
    obtain ⟨rfl, rfl, rfl⟩ := hcs
    simp only [if_true] at hz
    have each : ∀ k, k < l → ∃ q : Int × Int, V0 k = .int .i64 q.1 ∧ V1 k = .int .i64 q.2 := by
      intro k hk
      obtain ⟨_, _, t0, t1⟩ := hcell k (by omega)
      obtain ⟨a0, e0, _⟩ := DataW.trod_int Try.underlying3 t0
      obtain ⟨a1, e1, _⟩ := DataW.trod_int Try.underlying3 t1
      simp at e0 e1
      exact ⟨(a0, a1), e0, e1⟩
    obtain ⟨q, hq⟩ := choose_lt each
    refine ⟨(List.range l).map q, ?_, by simp⟩
    intro k c d hk
    have hk' : k < l := by have := (List.getElem?_eq_some_iff.1 hk).1; simpa using this
    have eq : q k = (c, d) := by
      rw [List.getElem?_map, List.getElem?_range hk'] at hk
      simpa using hk
    obtain ⟨t0, t1, _, _⟩ := hcell k (by omega)
    have h00 := (hcell 0 (by omega)).1
    rw [(hq k hk').1, eq] at t0
    rw [(hq k hk').2, eq] at t1
    obtain ⟨bb, off, spot⟩ := x
    have hspot : spot = none := by simpa [Addr.add] using World.cell?_spot h00
    subst hspot
    rw [add_plain] at t0 t1
    exact ⟨bb, off, rfl, World.block_lt_of_cell? W _ t0, t0, by rw [Nat.add_assoc]; exact t1⟩

end Go.Proofs.Ytndggiefgpdiiac
