/- How a list of records comes in as an argument. -/
import Derived.Test.YtbgnajcmhmpjlabSKit
namespace Go.Proofs.Ytbgnajcmhmpjlab
open Go.ChangeShapes Go.WideShapes Go.ChangeAt Go.RowKit Go.Deep

theorem Try.cellsRecP : Try.prog.cellsOf 51 = 5 := by kernel_rfl

set_option maxRecDepth 20000 in
theorem open_rec {H : Type} {enc : TypeId × Value → H} {W : World} {b : Nat} {sp : Nat → Bool} {held : Bool} {fuel : Nat} {cs : List Value} {x : DataW H × List MemPlace} (hlen : cs.length = 5) (h : DataW.trod enc Try.prog W b sp held fuel 51 cs = some x) : ∃ s : Stp, cs = s.cells := by
  obtain ⟨xs, k, hk, hxy, _, hxl, hf⟩ := DataW.trod_struct Try.underlying51 h
  match xs, hxl, cs, hlen with
  | [z0, z1, z2, z3, z4], _, [v0, v1, v2, v3, v4], _ =>
    have f0 := hf 0 _ rfl
    have f1 := hf 1 _ rfl
    have f2 := hf 2 _ rfl
    have f3 := hf 3 _ rfl
    have f4 := hf 4 _ rfl
    simp [Try.cellsIntP, Try.cellsBoolP] at f0 f1 f2 f3 f4
    obtain ⟨a0, e0, _⟩ := DataW.trod_int Try.underlying3 f0
    obtain ⟨a1, e1, _⟩ := DataW.trod_int Try.underlying3 f1
    obtain ⟨a2, e2, _⟩ := DataW.trod_int Try.underlying3 f2
    obtain ⟨a3, e3, _⟩ := DataW.trod_int Try.underlying3 f3
    obtain ⟨a4, e4, _⟩ := DataW.trod_bool Try.underlying4 f4
    simp at e0 e1 e2 e3 e4
    exact ⟨⟨a0, a1, a2, a3, a4⟩, by rw [e0, e1, e2, e3, e4]; rfl⟩

theorem open_recs {H : Type} {enc : TypeId × Value → H} {W : World} {held : Bool} {a : Option Addr} {l c : Nat} {d : DataW H} {ps : List MemPlace} (hd : DataW.Trod enc Try.prog W 0 (fun _ => true) held 24 (.slice a l c) d ps) :
    ∃ m : List Stp, StepsAt W a m ∧ m.length = l := by
  obtain ⟨fuel, hf⟩ := hd
  rcases open_slice Try.underlying24 hf with ⟨hcs, _⟩ | ⟨x, l', c', m, n, D, Pl, hcs, _, hl, hm, hz, _, hx⟩
  · simp [Value.cells] at hcs
    obtain ⟨rfl, rfl, rfl⟩ := hcs
    exact ⟨[], by intro k x h; simp at h, rfl⟩
  · simp [Value.cells] at hcs
    obtain ⟨rfl, rfl, rfl⟩ := hcs
    simp only [if_true] at hz
    have each : ∀ k, k < l → ∃ q : Stp, ∀ j v, q.cells[j]? = some v → W.cell? (x.add (k * 5 + j)) = some v := by
      intro k hk
      obtain ⟨cs, h1, h2⟩ := hx k (by omega)
      rw [Try.cellsRecP] at h1
      obtain ⟨_, hlen, hcell⟩ := World.cells?_some h1
      obtain ⟨s, rfl⟩ := open_rec hlen h2
      refine ⟨s, fun j v hj => ?_⟩
      have hj' := (List.getElem?_eq_some_iff.1 hj).1
      have q := hcell j (by simpa [Stp.cells] using hj')
      rw [add_add] at q
      rw [q]
      exact hj
    haveI : Inhabited Stp := ⟨⟨0, 0, 0, 0, false⟩⟩
    obtain ⟨q, hq⟩ := choose_lt each
    refine ⟨(List.range l).map q, ?_, by simp⟩
    intro k s hk
    have hk' : k < l := by have := (List.getElem?_eq_some_iff.1 hk).1; simpa using this
    have eq : q k = s := by
      rw [List.getElem?_map, List.getElem?_range hk'] at hk
      simpa using hk
    have h00 := hq 0 (by omega) 0 _ rfl
    obtain ⟨bb, off, spot⟩ := x
    have hspot : spot = none := by simpa [Addr.add] using World.cell?_spot h00
    subst hspot
    rw [add_plain] at h00
    refine ⟨bb, off, rfl, World.block_lt_of_cell? W _ h00, fun j v hj => ?_⟩
    have := hq k hk' j v (by rw [eq]; exact hj)
    rw [add_plain] at this
    rw [Nat.add_assoc]; exact this

end Go.Proofs.Ytbgnajcmhmpjlab
