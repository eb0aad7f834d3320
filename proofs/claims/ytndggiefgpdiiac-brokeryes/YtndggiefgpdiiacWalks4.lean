/- The contracts of Hold, End, Held and Ended, whole: what they answer for every counter and every number. -/
import Derived.Test.YtndggiefgpdiiacWalks2
import Derived.Test.YtndggiefgpdiiacWalks3
namespace Go.Proofs.Ytndggiefgpdiiac
open Go.RowKit

theorem both_cases (v o i n : Int) : (chk v o i ≠ 0 ∧ both v o i n = chk v o i) ∨ (chk v o i = 0 ∧ dlt n ≠ 0 ∧ both v o i n = dlt n) ∨ (both v o i n = 0 ∧ (0 ≤ v ∧ v ≤ 100 ∧ 0 ≤ o ∧ o ≤ v ∧ 0 ≤ i ∧ v + i ≤ 100) ∧ n ≠ 0 ∧ -100 ≤ n ∧ n ≤ 100) := by
  by_cases h : chk v o i = 0
  · by_cases h' : dlt n = 0
    · exact Or.inr (Or.inr ⟨by unfold both; rw [if_pos h, h'], chk_ok h, dlt_ok h'⟩)
    · exact Or.inr (Or.inl ⟨h, h', by unfold both; rw [if_pos h]⟩)
  · exact Or.inl ⟨h, by unfold both; rw [if_neg h]⟩
theorem bne_of {a b : Int} (h : a ≠ b) : (a != b) = true := by simpa using h
theorem bne_self (a b : Int) (h : a = b) : (a != b) = false := by simp [h]

/-- What Hold and Held answer, by its ways. -/
theorem hold_vals (v o i n : Int) :
    (both v o i n ≠ 0 ∧ hC v o i n = both v o i n ∧ hV v o i n = 0 ∧ hO v o i n = 0 ∧ hI v o i n = 0)
    ∨ (both v o i n = 0 ∧ n < 0 ∧ v < o - n ∧ hC v o i n = 5 ∧ hV v o i n = 0 ∧ hO v o i n = 0 ∧ hI v o i n = 0)
    ∨ (both v o i n = 0 ∧ n < 0 ∧ o - n ≤ v ∧ hC v o i n = 0 ∧ hV v o i n = v ∧ hO v o i n = o - n ∧ hI v o i n = i)
    ∨ (both v o i n = 0 ∧ 0 ≤ n ∧ 100 < v + (i + n) ∧ hC v o i n = 6 ∧ hV v o i n = 0 ∧ hO v o i n = 0 ∧ hI v o i n = 0)
    ∨ (both v o i n = 0 ∧ 0 ≤ n ∧ v + (i + n) ≤ 100 ∧ hC v o i n = 0 ∧ hV v o i n = v ∧ hO v o i n = o ∧ hI v o i n = i + n) := by
  by_cases hb : both v o i n = 0
  · by_cases hn : n < 0
    · by_cases hs : v < o - n
      · exact Or.inr (Or.inl ⟨hb, hn, hs, by simp [hC, hb, hn, hs], by simp [hV, hC, hb, hn, hs], by simp [hO, hC, hb, hn, hs], by simp [hI, hC, hb, hn, hs]⟩)
      · exact Or.inr (Or.inr (Or.inl ⟨hb, hn, by omega, by simp [hC, hb, hn, hs], by simp [hV, hC, hb, hn, hs], by simp [hO, hC, hb, hn, hs], by simp [hI, hC, hb, hn, hs]⟩))
    · by_cases hs : 100 < v + (i + n)
      · exact Or.inr (Or.inr (Or.inr (Or.inl ⟨hb, by omega, hs, by simp [hC, hb, hn, hs], by simp [hV, hC, hb, hn, hs], by simp [hO, hC, hb, hn, hs], by simp [hI, hC, hb, hn, hs]⟩)))
      · exact Or.inr (Or.inr (Or.inr (Or.inr ⟨hb, by omega, by omega, by simp [hC, hb, hn, hs], by simp [hV, hC, hb, hn, hs], by simp [hO, hC, hb, hn, hs], by simp [hI, hC, hb, hn, hs]⟩)))
  · exact Or.inl ⟨hb, by simp [hC, hb], by simp [hV, hC, hb], by simp [hO, hC, hb], by simp [hI, hC, hb]⟩

/-- What End and Ended answer, by its ways. -/
theorem end_vals (v o i n : Int) (d : Bool) :
    (both v o i n ≠ 0 ∧ eC v o i n = both v o i n ∧ eV v o i n d = 0 ∧ eO v o i n = 0 ∧ eI v o i n = 0)
    ∨ (both v o i n = 0 ∧ n < 0 ∧ o + n < 0 ∧ eC v o i n = 7 ∧ eV v o i n d = 0 ∧ eO v o i n = 0 ∧ eI v o i n = 0)
    ∨ (both v o i n = 0 ∧ n < 0 ∧ 0 ≤ o + n ∧ eC v o i n = 0 ∧ eV v o i n d = (if d = true then v + n else v) ∧ eO v o i n = o + n ∧ eI v o i n = i)
    ∨ (both v o i n = 0 ∧ 0 ≤ n ∧ i - n < 0 ∧ eC v o i n = 7 ∧ eV v o i n d = 0 ∧ eO v o i n = 0 ∧ eI v o i n = 0)
    ∨ (both v o i n = 0 ∧ 0 ≤ n ∧ 0 ≤ i - n ∧ eC v o i n = 0 ∧ eV v o i n d = (if d = true then v + n else v) ∧ eO v o i n = o ∧ eI v o i n = i - n) := by
  by_cases hb : both v o i n = 0
  · by_cases hn : n < 0
    · by_cases hs : o + n < 0
      · exact Or.inr (Or.inl ⟨hb, hn, hs, by simp [eC, hb, hn, hs], by simp [eV, eC, hb, hn, hs], by simp [eO, eC, hb, hn, hs], by simp [eI, eC, hb, hn, hs]⟩)
      · exact Or.inr (Or.inr (Or.inl ⟨hb, hn, by omega, by simp [eC, hb, hn, hs], by simp [eV, eC, hb, hn, hs], by simp [eO, eC, hb, hn, hs], by simp [eI, eC, hb, hn, hs]⟩))
    · by_cases hs : i - n < 0
      · exact Or.inr (Or.inr (Or.inr (Or.inl ⟨hb, by omega, hs, by simp [eC, hb, hn, hs], by simp [eV, eC, hb, hn, hs], by simp [eO, eC, hb, hn, hs], by simp [eI, eC, hb, hn, hs]⟩)))
      · exact Or.inr (Or.inr (Or.inr (Or.inr ⟨hb, by omega, by omega, by simp [eC, hb, hn, hs], by simp [eV, eC, hb, hn, hs], by simp [eO, eC, hb, hn, hs], by simp [eI, eC, hb, hn, hs]⟩)))
  · exact Or.inl ⟨hb, by simp [eC, hb], by simp [eV, eC, hb], by simp [eO, eC, hb], by simp [eI, eC, hb]⟩

end Go.Proofs.Ytndggiefgpdiiac
