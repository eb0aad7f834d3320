/- What is due of a broker's book. No program is named here. -/
import Derived.Test.YtndggiefgpdiiacTBook
namespace Go.Proofs.Ytndggiefgpdiiac
open Go.RowKit

theorem shopsL_range {w : List (Int × Int)} {s : Int} (h : s ∈ shopsL w) : 0 ≤ s ∧ s < 3 := by
  obtain ⟨n, rfl, hn, _⟩ := shopsL_mem.1 h
  omega
theorem asks_mem {n : Int} {yes : List Int} {m : Ml} : ∀ {w : List (Int × Int)} {k : Nat}, m ∈ asksR n yes k w → ∃ c d, (c, d) ∈ w ∧ m = ⟨1, n, shp c, c, d, false⟩ := by
  intro w
  induction w with
  | nil => intro k h; simp [asksR] at h
  | cons x r ih =>
    intro k h
    simp only [asksR] at h
    split at h
    · obtain ⟨c, d, h1, h2⟩ := ih h
      exact ⟨c, d, by simp [h1], h2⟩
    · rcases List.mem_cons.1 h with q | q
      · exact ⟨x.1, x.2, by simp, q⟩
      · obtain ⟨c, d, h1, h2⟩ := ih q
        exact ⟨c, d, by simp [h1], h2⟩
theorem dues_mem {m : Ml} : ∀ {L : List Dl} {k : Nat}, m ∈ duesR k L → ∃ i D, L[i]? = some D ∧ m ∈ dueD ((k + i : Nat) : Int) D := by
  intro L
  induction L with
  | nil => intro k h; simp [duesR] at h
  | cons D r ih =>
    intro k h
    simp only [duesR] at h
    rcases List.mem_append.1 h with q | q
    · exact ⟨0, D, rfl, q⟩
    · obtain ⟨i, E, h1, h2⟩ := ih q
      exact ⟨i + 1, E, by simpa using h1, by rw [show k + (i + 1) = k + 1 + i by omega]; exact h2⟩
theorem mem_dues {m : Ml} : ∀ {L : List Dl} {k i : Nat} {D : Dl}, L[i]? = some D → m ∈ dueD ((k + i : Nat) : Int) D → m ∈ duesR k L := by
  intro L
  induction L with
  | nil => intro k i D h; simp at h
  | cons E r ih =>
    intro k i D h hm
    simp only [duesR]
    cases i with
    | zero =>
      have : E = D := by simpa using h
      subst this
      exact List.mem_append_left _ hm
    | succ i => exact List.mem_append_right _ (ih (by simpa using h) (by rw [show k + 1 + i = k + (i + 1) by omega]; exact hm))
theorem due_mem {B : Bok} {m : Ml} (h : m ∈ dueR B) : ∃ n D, dealAt B n = some D ∧ m ∈ dueD n D := by
  obtain ⟨i, D, h1, h2⟩ := dues_mem h
  exact ⟨(i : Int), D, by rw [dealAt_nat]; exact h1, by simpa using h2⟩
theorem mem_due {B : Bok} {m : Ml} {n : Int} {D : Dl} (h : dealAt B n = some D) (hm : m ∈ dueD n D) : m ∈ dueR B := by
  obtain ⟨k, rfl, _, h1⟩ := dealAt_some h
  exact mem_dues h1 (by simpa using hm)
theorem asks_in {n : Int} {yes : List Int} : ∀ {w : List (Int × Int)} {j k : Nat} {c d : Int}, w[k]? = some (c, d) → ((j + k : Nat) : Int) ∉ yes → (⟨1, n, shp c, c, d, false⟩ : Ml) ∈ asksR n yes j w := by
  intro w
  induction w with
  | nil => intro j k c d h; simp at h
  | cons x r ih =>
    intro j k c d h hn
    simp only [asksR]
    cases k with
    | zero =>
      have e : x = (c, d) := by simpa using h
      subst e
      rw [if_neg (by simpa using hn)]
      simp
    | succ k =>
      have := ih (j := j + 1) (k := k) (c := c) (d := d) (by simpa using h) (by rw [show j + 1 + k = j + (k + 1) by omega]; exact hn)
      split
      · exact this
      · exact List.mem_cons_of_mem _ this
theorem asks_len (n : Int) (yes : List Int) : ∀ (w : List (Int × Int)) (k : Nat), (asksR n yes k w).length ≤ w.length := by
  intro w
  induction w with
  | nil => intro k; simp [asksR]
  | cons x r ih =>
    intro k
    have := ih (k + 1)
    simp only [asksR]
    split
    · simp only [List.length_cons]; omega
    · simp only [List.length_cons]; omega
theorem due_len (n : Int) {D : Dl} (h : Fit D.w) : (dueD n D).length ≤ 4 := by
  unfold dueD
  split
  · have := asks_len n D.yes D.w 0
    have := h.few
    omega
  · unfold endsR
    rw [List.length_map]
    have h1 := List.length_filter_le (fun s => decide (s ∉ D.ov)) (shopsL D.w)
    have h2 : (shopsL D.w).length ≤ 3 := shopsTo_length D.w 3
    omega
theorem dues_len : ∀ {L : List Dl} {k : Nat}, (∀ D ∈ L, Fit D.w) → (duesR k L).length ≤ 4 * L.length := by
  intro L
  induction L with
  | nil => intro k _; simp [duesR]
  | cons D r ih =>
    intro k h
    have h1 := due_len (k : Int) (h D (by simp))
    have h2 := ih (k := k + 1) (fun E hE => h E (by simp [hE]))
    simp only [duesR, List.length_append, List.length_cons]
    omega

end Go.Proofs.Ytndggiefgpdiiac
