/- The plain mathematics of a counter: what package count's functions answer, as functions on integers. No program is named here. -/
import Derived.WalkKit
namespace Go.Proofs.Ytbgnajcmhmpjlab
open Go.RowKit

/-- Check's code. -/
def chk (v o i : Int) : Int := if v < 0 then 1 else if 100 < v then 1 else if o < 0 then 5 else if v < o then 5 else if i < 0 then 6 else if 100 - v < i then 6 else 0
/-- Delta's code. -/
def dlt (n : Int) : Int := if n = 0 then 2 else if n < -100 then 1 else if 100 < n then 1 else 0

theorem chk_ok {v o i : Int} (h : chk v o i = 0) : 0 ≤ v ∧ v ≤ 100 ∧ 0 ≤ o ∧ o ≤ v ∧ 0 ≤ i ∧ v + i ≤ 100 := by
  unfold chk at h
  repeat' split at h
  all_goals omega
theorem chk_of {v o i : Int} (h1 : 0 ≤ v) (h2 : v ≤ 100) (h3 : 0 ≤ o) (h4 : o ≤ v) (h5 : 0 ≤ i) (h6 : v + i ≤ 100) : chk v o i = 0 := by
  unfold chk
  repeat' split
  all_goals omega
theorem dlt_ok {n : Int} (h : dlt n = 0) : n ≠ 0 ∧ -100 ≤ n ∧ n ≤ 100 := by
  unfold dlt at h
  repeat' split at h
  all_goals omega
theorem dlt_of {n : Int} (h1 : n ≠ 0) (h2 : -100 ≤ n) (h3 : n ≤ 100) : dlt n = 0 := by
  unfold dlt
  repeat' split
  all_goals omega

/-- Behind a contract that only makes memory: old cells and old marks read as they did. -/
theorem bcell {W w1 : World} (hb : Below W.heap.size W w1) : (∀ b o, b < W.heap.size → w1.cell? ⟨b, o, none⟩ = W.cell? ⟨b, o, none⟩) ∧ (∀ b o, b < W.heap.size → w1.frozen? ⟨b, o, none⟩ = W.frozen? ⟨b, o, none⟩) :=
  ⟨fun b o h => hb.cell (p := ⟨b, o, none⟩) h, fun b o h => hb.frozen (p := ⟨b, o, none⟩) h⟩
theorem after {B : Nat} {w W w1 : World} (h : Below B w W) (hb : Below W.heap.size W w1) (hB : B ≤ W.heap.size) : Below B w w1 := h.trans (hb.mono hB)
theorem box3 {W w1 : World} (b : Nat) {x y z : Value} (hb : Below W.heap.size W w1) (hlt : b < W.heap.size) (c0 : W.cell? ⟨b, 0, none⟩ = some x) (c1 : W.cell? ⟨b, 1, none⟩ = some y) (c2 : W.cell? ⟨b, 2, none⟩ = some z) :
    w1.cell? ⟨b, 0, none⟩ = some x ∧ w1.cell? ⟨b, 1, none⟩ = some y ∧ w1.cell? ⟨b, 2, none⟩ = some z :=
  ⟨((bcell hb).1 _ _ hlt).trans c0, ((bcell hb).1 _ _ hlt).trans c1, ((bcell hb).1 _ _ hlt).trans c2⟩
theorem loose {W w1 : World} (b : Nat) (hb : Below W.heap.size W w1) (hlt : b < W.heap.size) (hf : ∀ k, W.frozen? ⟨b, k, none⟩ = false) : ∀ k, w1.frozen? ⟨b, k, none⟩ = false := fun k => ((bcell hb).2 _ _ hlt).trans (hf k)
theorem ret_int {k : IntKind} {a b : Int} (h : a = b) : Ending.returned (.int k a) = .returned (.int k b) := by rw [h]

end Go.Proofs.Ytbgnajcmhmpjlab
