/- How a list of wants and a world come in as arguments. -/
import Derived.Test.YtbgnajcmhmpjlabPMath
import Derived.Test.YtbgnajcmhmpjlabRows
import Derived.ProofKit
import Derived.OpenShut
import Derived.Deep.Slices
import Derived.Deep.SlicePairs
namespace Go.Proofs.Ytbgnajcmhmpjlab
open Go.ChangeShapes Go.WideShapes Go.ChangeAt Go.RowKit Go.Deep

theorem Try.cellsIntP : Try.prog.cellsOf 3 = 1 := by kernel_rfl
theorem Try.cellsWantP : Try.prog.cellsOf 69 = 2 := by kernel_rfl
theorem Try.cellsWorldP : Try.prog.cellsOf 23 = 6 := by kernel_rfl

set_option maxRecDepth 20000 in
theorem open_world {H : Type} {enc : TypeId × Value → H} {W : World} {b : Nat} {sp : Nat → Bool} {held : Bool} {r : Reach} {b0 : Nat} {v : Value} {d : DataW H} {ps : List MemPlace} (hval : Value.okWide Try.prog W r b0 23 v) (hd : DataW.Trod enc Try.prog W b sp held 23 v d ps) :
    ∃ ws : Nat → Int, v = .agg #[.int .i64 (ws 0), .int .i64 (ws 1), .int .i64 (ws 2), .int .i64 (ws 3), .int .i64 (ws 4), .int .i64 (ws 5)] := by
  simp only [Value.okWide, Try.underlying23] at hval
  obtain ⟨cs, rfl, h2, _⟩ := hval
  rw [Try.cellsWorldP] at h2
  obtain ⟨fuel, hf⟩ := hd
  obtain ⟨xs, m, rfl, _, _, hl, hi⟩ := DataW.trod_array Try.underlying23 hf
  simp only [Value.cells, Try.cellsIntP, Nat.mul_one] at hi
  obtain ⟨l⟩ := cs
  match l, h2 with
  | [v0, v1, v2, v3, v4, v5], _ =>
    have each : ∀ i (v : Value), i < 6 → [v0, v1, v2, v3, v4, v5][i]? = some v → ∃ a : Int, v = .int .i64 a := by
      intro i v hlt hv
      have q := hi i hlt
      rw [List.getElem?_eq_getElem (by omega)] at q
      have e1 : (([v0, v1, v2, v3, v4, v5] : List Value).drop i).take 1 = [v] := by
        have := drop_cons hv
        rw [this]; rfl
      simp only [e1] at q
      obtain ⟨a, ea, _⟩ := DataW.trod_int Try.underlying3 q
      simp at ea
      exact ⟨a, ea⟩
    obtain ⟨a0, rfl⟩ := each 0 v0 (by omega) rfl
    obtain ⟨a1, rfl⟩ := each 1 v1 (by omega) rfl
    obtain ⟨a2, rfl⟩ := each 2 v2 (by omega) rfl
    obtain ⟨a3, rfl⟩ := each 3 v3 (by omega) rfl
    obtain ⟨a4, rfl⟩ := each 4 v4 (by omega) rfl
    obtain ⟨a5, rfl⟩ := each 5 v5 (by omega) rfl
    exact ⟨fun i => [a0, a1, a2, a3, a4, a5].getD i 0, rfl⟩

theorem open_wants {H : Type} {enc : TypeId × Value → H} {W : World} {held : Bool} {a : Option Addr} {l c : Nat} {d : DataW H} {ps : List MemPlace} (hd : DataW.Trod enc Try.prog W 0 (fun _ => true) held 103 (.slice a l c) d ps) :
    ∃ m : List (Int × Int), WantsAt W a m ∧ m.length = l := by
  obtain ⟨fuel, hf⟩ := hd
  rcases open_slice_pairs Try.underlying103 Try.underlying69 Try.cellsWantP rfl rfl Try.cellsIntP Try.cellsIntP hf with ⟨hcs, _⟩ | ⟨x, l', c', m, n, V0, V1, D0, D1, P0, P1, hcs, _, hl, hm, hz, hx, hcell⟩
  · simp [Value.cells] at hcs
    obtain ⟨rfl, rfl, rfl⟩ := hcs
    exact ⟨[], by intro k c d h; simp at h, rfl⟩
  · simp [Value.cells] at hcs
    obtain ⟨rfl, rfl, rfl⟩ := hcs
    simp only [if_true] at hz
    have each : ∀ k, k < l → ∃ q : Int × Int, V0 k = .int .i64 q.1 ∧ V1 k = .int .i64 q.2 := by
      intro k hk
      obtain ⟨_, _, t0, t1⟩ := hcell k (by omega)
      obtain ⟨a0, e0, _⟩ := DataW.trod_int Try.underlying3 t0
      obtain ⟨a1, e1, _⟩ := DataW.trod_int Try.underlying3 t1
      simp at e0 e1
      exact ⟨(a0, a1), e0, e1⟩
    obtain ⟨q, hq⟩ := choose_lt each
    refine ⟨(List.range l).map q, ?_, by simp⟩
    intro k c d hk
    have hk' : k < l := by have := (List.getElem?_eq_some_iff.1 hk).1; simpa using this
    have eq : q k = (c, d) := by
      rw [List.getElem?_map, List.getElem?_range hk'] at hk
      simpa using hk
    obtain ⟨t0, t1, _, _⟩ := hcell k (by omega)
    have h00 := (hcell 0 (by omega)).1
    rw [(hq k hk').1, eq] at t0
    rw [(hq k hk').2, eq] at t1
    obtain ⟨bb, off, spot⟩ := x
    have hspot : spot = none := by simpa [Addr.add] using World.cell?_spot h00
    subst hspot
    rw [add_plain] at t0 t1
    exact ⟨bb, off, rfl, World.block_lt_of_cell? W _ t0, t0, by rw [Nat.add_assoc]; exact t1⟩

end Go.Proofs.Ytbgnajcmhmpjlab
