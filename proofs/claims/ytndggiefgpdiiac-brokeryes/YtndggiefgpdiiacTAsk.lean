/- What is due of a broker's book, part by part. No program is named here. -/
import Derived.Test.YtndggiefgpdiiacTBrk2
namespace Go.Proofs.Ytndggiefgpdiiac
open Go.RowKit

theorem asks_append (n : Int) (yes : List Int) : ∀ (a b : List (Int × Int)) (j : Nat), asksR n yes j (a ++ b) = asksR n yes j a ++ asksR n yes (j + a.length) b := by
  intro a
  induction a with
  | nil => intro b j; simp [asksR]
  | cons x r ih =>
    intro b j
    simp only [List.cons_append, asksR, ih, List.length_cons, show j + (r.length + 1) = j + 1 + r.length by omega]
    split
    · rfl
    · rfl
/-- The asks of a deal's first k wants. -/
def asksTo (n : Int) (yes : List Int) (w : List (Int × Int)) (k : Nat) : List Ml := asksR n yes 0 (w.take k)
theorem asksTo_zero (n : Int) (yes : List Int) (w : List (Int × Int)) : asksTo n yes w 0 = [] := by simp [asksTo, asksR]
theorem asksTo_hit {n : Int} {yes : List Int} {w : List (Int × Int)} {k : Nat} {c d : Int} (h : w[k]? = some (c, d)) (hy : (k : Int) ∈ yes) : asksTo n yes w (k + 1) = asksTo n yes w k := by
  have hk := (List.getElem?_eq_some_iff.1 h).1
  unfold asksTo
  rw [take_snoc h, asks_append, List.length_take, Nat.min_eq_left (by omega), Nat.zero_add]
  simp [asksR, hy]
theorem asksTo_miss {n : Int} {yes : List Int} {w : List (Int × Int)} {k : Nat} {c d : Int} (h : w[k]? = some (c, d)) (hy : (k : Int) ∉ yes) : asksTo n yes w (k + 1) = asksTo n yes w k ++ [⟨1, n, shp c, c, d, false⟩] := by
  have hk := (List.getElem?_eq_some_iff.1 h).1
  unfold asksTo
  rw [take_snoc h, asks_append, List.length_take, Nat.min_eq_left (by omega), Nat.zero_add]
  simp [asksR, hy]
theorem asksTo_all (n : Int) (yes : List Int) (w : List (Int × Int)) : asksTo n yes w w.length = asksR n yes 0 w := by
  unfold asksTo
  rw [List.take_of_length_le (Nat.le_refl _)]
theorem asksTo_len (n : Int) (yes : List Int) (w : List (Int × Int)) (k : Nat) : (asksTo n yes w k).length ≤ k := by
  unfold asksTo
  have h1 := asks_len n yes (w.take k) 0
  have h2 : (w.take k).length ≤ k := by rw [List.length_take]; omega
  omega
theorem asks_nil {n : Int} {yes : List Int} : ∀ {w : List (Int × Int)} {j : Nat}, asksR n yes j w = [] ↔ ∀ i, i < w.length → ((j + i : Nat) : Int) ∈ yes := by
  intro w
  induction w with
  | nil => intro j; simp [asksR]
  | cons x r ih =>
    intro j
    simp only [asksR]
    split
    · rename_i h
      rw [ih]
      constructor
      · intro q i hi
        cases i with
        | zero => simpa using h
        | succ i =>
          have := q i (by simp at hi; omega)
          rw [show j + (i + 1) = j + 1 + i by omega]; exact this
      · intro q i hi
        have := q (i + 1) (by simp; omega)
        rw [show j + 1 + i = j + (i + 1) by omega]; exact this
    · rename_i h
      constructor
      · intro q; cases q
      · intro q
        exact absurd (by simpa using q 0 (by simp)) h
theorem length_of_all : ∀ {k : Nat} {l : List Int}, (∀ i : Nat, i < k → (i : Int) ∈ l) → k ≤ l.length := by
  intro k
  induction k with
  | zero => intro l _; omega
  | succ k ih =>
    intro l h
    have hk := h k (by omega)
    have h1 := ih (l := l.erase (k : Int)) (fun i hi => (List.mem_erase_of_ne (by omega)).2 (h i (by omega)))
    rw [List.length_erase_of_mem hk] at h1
    have := List.length_pos_of_mem hk
    omega
/-- Nothing is asked any more just if all wants are held. -/
theorem asks_empty {n : Int} {yes : List Int} {w : List (Int × Int)} (hnd : yes.Nodup) (hin : ∀ i ∈ yes, 0 ≤ i ∧ i < (w.length : Int)) : asksR n yes 0 w = [] ↔ yes.length = w.length := by
  rw [asks_nil]
  constructor
  · intro h
    have h1 := length_of_all (k := w.length) (l := yes) (fun i hi => by simpa using h i hi)
    have h2 := length_le_of_below hnd hin
    omega
  · intro h i hi
    simpa using all_of_length hnd hin h i hi
/-- The ends of a deal to its first k shops. -/
def endsTo (n : Int) (D : Dl) (k : Nat) : List Ml := (((shopsL D.w).take k).filter (fun s => decide (s ∉ D.ov))).map (fun s => ⟨3, n, s, 0, 0, D.st == 1⟩)
theorem endsTo_zero (n : Int) (D : Dl) : endsTo n D 0 = [] := by simp [endsTo]
theorem endsTo_hit {n : Int} {D : Dl} {k : Nat} {s : Int} (h : (shopsL D.w)[k]? = some s) (hs : s ∈ D.ov) : endsTo n D (k + 1) = endsTo n D k := by
  unfold endsTo
  rw [take_snoc h, List.filter_append, List.map_append]
  simp [hs]
theorem endsTo_miss {n : Int} {D : Dl} {k : Nat} {s : Int} (h : (shopsL D.w)[k]? = some s) (hs : s ∉ D.ov) : endsTo n D (k + 1) = endsTo n D k ++ [⟨3, n, s, 0, 0, D.st == 1⟩] := by
  unfold endsTo
  rw [take_snoc h, List.filter_append, List.map_append]
  simp [hs]
theorem endsTo_all (n : Int) (D : Dl) : endsTo n D (shopsL D.w).length = endsR n D := by
  unfold endsTo endsR
  rw [List.take_of_length_le (Nat.le_refl _)]
theorem endsTo_len (n : Int) (D : Dl) (k : Nat) : (endsTo n D k).length ≤ k := by
  unfold endsTo
  rw [List.length_map]
  have h1 := List.length_filter_le (fun s => decide (s ∉ D.ov)) ((shopsL D.w).take k)
  have h2 : ((shopsL D.w).take k).length ≤ k := by rw [List.length_take]; omega
  omega
theorem dues_append : ∀ (a b : List Dl) (j : Nat), duesR j (a ++ b) = duesR j a ++ duesR (j + a.length) b := by
  intro a
  induction a with
  | nil => intro b j; simp [duesR]
  | cons x r ih =>
    intro b j
    simp only [List.cons_append, duesR, ih, List.length_cons, show j + (r.length + 1) = j + 1 + r.length by omega, List.append_assoc]
/-- What is due of the first k deals. -/
def duesTo (L : List Dl) (k : Nat) : List Ml := duesR 0 (L.take k)
theorem duesTo_zero (L : List Dl) : duesTo L 0 = [] := by simp [duesTo, duesR]
theorem duesTo_next {L : List Dl} {k : Nat} {D : Dl} (h : L[k]? = some D) : duesTo L (k + 1) = duesTo L k ++ dueD (k : Int) D := by
  have hk := (List.getElem?_eq_some_iff.1 h).1
  unfold duesTo
  rw [take_snoc h, dues_append, List.length_take, Nat.min_eq_left (by omega), Nat.zero_add]
  simp [duesR]
theorem duesTo_all (L : List Dl) : duesTo L L.length = duesR 0 L := by
  unfold duesTo
  rw [List.take_of_length_le (Nat.le_refl _)]
theorem duesTo_len {L : List Dl} {k : Nat} (h : ∀ D ∈ L, Fit D.w) : (duesTo L k).length ≤ 4 * k := by
  unfold duesTo
  have h1 := dues_len (L := L.take k) (k := 0) (fun D hD => h D (List.mem_of_mem_take hD))
  have h2 : (L.take k).length ≤ k := by rw [List.length_take]; omega
  omega
/-- The first deals of a book behind a Crash, the others as they were. -/
def crashTo (L : List Dl) (k : Nat) : List Dl := (L.take k).map crashD ++ L.drop k
theorem crashTo_zero (L : List Dl) : crashTo L 0 = L := by simp [crashTo]
theorem crashTo_all (L : List Dl) : crashTo L L.length = L.map crashD := by simp [crashTo]
theorem crashTo_at {L : List Dl} {k : Nat} {D : Dl} (h : L[k]? = some D) : (crashTo L k)[k]? = some D := by
  have hk := (List.getElem?_eq_some_iff.1 h).1
  unfold crashTo
  rw [List.getElem?_append_right (by simp; omega), List.length_map, List.length_take, Nat.min_eq_left (by omega), Nat.sub_self, drop_cons h]
  rfl
theorem crashTo_next {L : List Dl} {k : Nat} {D : Dl} (h : L[k]? = some D) : crashTo L (k + 1) = (crashTo L k).set k (crashD D) := by
  have hk := (List.getElem?_eq_some_iff.1 h).1
  unfold crashTo
  rw [take_snoc h, List.map_append, List.append_assoc, List.set_append_right _ _ (by simp; omega), List.length_map, List.length_take, Nat.min_eq_left (by omega), Nat.sub_self, drop_cons h]
  rfl
theorem crashTo_len (L : List Dl) (k : Nat) : (crashTo L k).length = L.length := by
  unfold crashTo
  rw [List.length_append, List.length_map, List.length_take, List.length_drop]
  omega

end Go.Proofs.Ytndggiefgpdiiac
