/- The contracts of Hold, End, Held and Ended, whole: what they answer for every counter and every number. -/
import Derived.Test.YtbgnajcmhmpjlabWalks2
import Derived.Test.YtbgnajcmhmpjlabWalks3
namespace Go.Proofs.Ytbgnajcmhmpjlab
open Go.RowKit

set_option maxHeartbeats 400000 in
theorem hold_no (v o i n : Int) (w : World) (hx : (both v o i n != 0) = true) :
    Calls Try.prog 114 #[.agg #[.int .i64 v, .int .i64 o, .int .i64 i], .int .i64 n] w fun e w' => e = .returned (.tuple #[.agg #[.int .i64 0, .int .i64 0, .int .i64 0], .int .i64 (both v o i n)]) ∧ Below w.heap.size w w' := by
  go_enter Try.func114, Try.ntmps114
  go_wp2_with (go_at_call 115; refine (both_any _ _ _ _ _).mono ?_; rintro e w1 ⟨rfl, hb1⟩; obtain ⟨hc1, hf1⟩ := bcell hb1)
  have hw1 : Below w.heap.size w w1 := after (by go_grown) hb1 (by simp; omega)
  exact bodyPost_ret (v := .tuple #[.agg #[.int .i64 0, .int .i64 0, .int .i64 0], .int .i64 (both v o i n)]) (by simp [results, Try.results114, go_sem, hc1]) rfl ⟨rfl, by go_grown⟩

set_option maxHeartbeats 400000 in
theorem end_no (v o i n : Int) (d : Bool) (w : World) (hx : (both v o i n != 0) = true) :
    Calls Try.prog 107 #[.agg #[.int .i64 v, .int .i64 o, .int .i64 i], .int .i64 n, .bool d] w fun e w' => e = .returned (.tuple #[.agg #[.int .i64 0, .int .i64 0, .int .i64 0], .int .i64 (both v o i n)]) ∧ Below w.heap.size w w' := by
  go_enter Try.func107, Try.ntmps107
  go_wp2_with (go_at_call 115; refine (both_any _ _ _ _ _).mono ?_; rintro e w1 ⟨rfl, hb1⟩; obtain ⟨hc1, hf1⟩ := bcell hb1)
  have hw1 : Below w.heap.size w w1 := after (by go_grown) hb1 (by simp; omega)
  exact bodyPost_ret (v := .tuple #[.agg #[.int .i64 0, .int .i64 0, .int .i64 0], .int .i64 (both v o i n)]) (by simp [results, Try.results107, go_sem, hc1]) rfl ⟨rfl, by go_grown⟩

set_option maxHeartbeats 400000 in
theorem held_no1 (v o i n : Int) (w : World) (hx : (chk v o i != 0) = true) :
    Calls Try.prog 100 #[.agg #[.int .i64 v, .int .i64 o, .int .i64 i], .int .i64 n] w fun e w' => e = .returned (.tuple #[.agg #[.int .i64 0, .int .i64 0, .int .i64 0], .int .i64 (chk v o i)]) ∧ Below w.heap.size w w' := by
  go_enter Try.func100, Try.ntmps100
  go_wp2_with (go_at_call 113; refine (countFault_any _ _ _ _).mono ?_; rintro e w1 ⟨rfl, hb1⟩; obtain ⟨hc1, hf1⟩ := bcell hb1)
  have hw1 : Below w.heap.size w w1 := after (by go_grown) hb1 (by simp; omega)
  exact bodyPost_ret (v := .tuple #[.agg #[.int .i64 0, .int .i64 0, .int .i64 0], .int .i64 (chk v o i)]) (by simp [results, Try.results100, go_sem, hc1]) rfl ⟨rfl, by go_grown⟩

set_option maxHeartbeats 400000 in
theorem held_no2 (v o i n : Int) (w : World) (hx : (chk v o i != 0) = false) (hy : (dlt n != 0) = true) :
    Calls Try.prog 100 #[.agg #[.int .i64 v, .int .i64 o, .int .i64 i], .int .i64 n] w fun e w' => e = .returned (.tuple #[.agg #[.int .i64 0, .int .i64 0, .int .i64 0], .int .i64 (dlt n)]) ∧ Below w.heap.size w w' := by
  go_enter Try.func100, Try.ntmps100
  go_wp2_with (first | (go_at_call 113; refine (countFault_any _ _ _ _).mono ?_; rintro e w1 ⟨rfl, hb1⟩; obtain ⟨hc1, hf1⟩ := bcell hb1) | (go_at_call 112; refine (deltaFault_any _ _).mono ?_; rintro e w2 ⟨rfl, hw2⟩; subst w2))
  have hw1 : Below w.heap.size w w1 := after (by go_grown) hb1 (by simp; omega)
  exact bodyPost_ret (v := .tuple #[.agg #[.int .i64 0, .int .i64 0, .int .i64 0], .int .i64 (dlt n)]) (by simp [results, Try.results100, go_sem, hc1]) rfl ⟨rfl, by go_grown⟩

theorem both_cases (v o i n : Int) : (chk v o i ≠ 0 ∧ both v o i n = chk v o i) ∨ (chk v o i = 0 ∧ dlt n ≠ 0 ∧ both v o i n = dlt n) ∨ (both v o i n = 0 ∧ (0 ≤ v ∧ v ≤ 100 ∧ 0 ≤ o ∧ o ≤ v ∧ 0 ≤ i ∧ v + i ≤ 100) ∧ n ≠ 0 ∧ -100 ≤ n ∧ n ≤ 100) := by
  by_cases h : chk v o i = 0
  · by_cases h' : dlt n = 0
    · exact Or.inr (Or.inr ⟨by unfold both; rw [if_pos h, h'], chk_ok h, dlt_ok h'⟩)
    · exact Or.inr (Or.inl ⟨h, h', by unfold both; rw [if_pos h]⟩)
  · exact Or.inl ⟨h, by unfold both; rw [if_neg h]⟩
theorem bne_of {a b : Int} (h : a ≠ b) : (a != b) = true := by simpa using h
theorem bne_self (a b : Int) (h : a = b) : (a != b) = false := by simp [h]

/-- What Hold and Held answer, by its ways. -/
theorem hold_vals (v o i n : Int) :
    (both v o i n ≠ 0 ∧ hC v o i n = both v o i n ∧ hV v o i n = 0 ∧ hO v o i n = 0 ∧ hI v o i n = 0)
    ∨ (both v o i n = 0 ∧ n < 0 ∧ v < o - n ∧ hC v o i n = 5 ∧ hV v o i n = 0 ∧ hO v o i n = 0 ∧ hI v o i n = 0)
    ∨ (both v o i n = 0 ∧ n < 0 ∧ o - n ≤ v ∧ hC v o i n = 0 ∧ hV v o i n = v ∧ hO v o i n = o - n ∧ hI v o i n = i)
    ∨ (both v o i n = 0 ∧ 0 ≤ n ∧ 100 < v + (i + n) ∧ hC v o i n = 6 ∧ hV v o i n = 0 ∧ hO v o i n = 0 ∧ hI v o i n = 0)
    ∨ (both v o i n = 0 ∧ 0 ≤ n ∧ v + (i + n) ≤ 100 ∧ hC v o i n = 0 ∧ hV v o i n = v ∧ hO v o i n = o ∧ hI v o i n = i + n) := by
  by_cases hb : both v o i n = 0
  · by_cases hn : n < 0
    · by_cases hs : v < o - n
      · exact Or.inr (Or.inl ⟨hb, hn, hs, by simp [hC, hb, hn, hs], by simp [hV, hC, hb, hn, hs], by simp [hO, hC, hb, hn, hs], by simp [hI, hC, hb, hn, hs]⟩)
      · exact Or.inr (Or.inr (Or.inl ⟨hb, hn, by omega, by simp [hC, hb, hn, hs], by simp [hV, hC, hb, hn, hs], by simp [hO, hC, hb, hn, hs], by simp [hI, hC, hb, hn, hs]⟩))
    · by_cases hs : 100 < v + (i + n)
      · exact Or.inr (Or.inr (Or.inr (Or.inl ⟨hb, by omega, hs, by simp [hC, hb, hn, hs], by simp [hV, hC, hb, hn, hs], by simp [hO, hC, hb, hn, hs], by simp [hI, hC, hb, hn, hs]⟩)))
      · exact Or.inr (Or.inr (Or.inr (Or.inr ⟨hb, by omega, by omega, by simp [hC, hb, hn, hs], by simp [hV, hC, hb, hn, hs], by simp [hO, hC, hb, hn, hs], by simp [hI, hC, hb, hn, hs]⟩)))
  · exact Or.inl ⟨hb, by simp [hC, hb], by simp [hV, hC, hb], by simp [hO, hC, hb], by simp [hI, hC, hb]⟩

/-- What End and Ended answer, by its ways. -/
theorem end_vals (v o i n : Int) (d : Bool) :
    (both v o i n ≠ 0 ∧ eC v o i n = both v o i n ∧ eV v o i n d = 0 ∧ eO v o i n = 0 ∧ eI v o i n = 0)
    ∨ (both v o i n = 0 ∧ n < 0 ∧ o + n < 0 ∧ eC v o i n = 7 ∧ eV v o i n d = 0 ∧ eO v o i n = 0 ∧ eI v o i n = 0)
    ∨ (both v o i n = 0 ∧ n < 0 ∧ 0 ≤ o + n ∧ eC v o i n = 0 ∧ eV v o i n d = (if d = true then v + n else v) ∧ eO v o i n = o + n ∧ eI v o i n = i)
    ∨ (both v o i n = 0 ∧ 0 ≤ n ∧ i - n < 0 ∧ eC v o i n = 7 ∧ eV v o i n d = 0 ∧ eO v o i n = 0 ∧ eI v o i n = 0)
    ∨ (both v o i n = 0 ∧ 0 ≤ n ∧ 0 ≤ i - n ∧ eC v o i n = 0 ∧ eV v o i n d = (if d = true then v + n else v) ∧ eO v o i n = o ∧ eI v o i n = i - n) := by
  by_cases hb : both v o i n = 0
  · by_cases hn : n < 0
    · by_cases hs : o + n < 0
      · exact Or.inr (Or.inl ⟨hb, hn, hs, by simp [eC, hb, hn, hs], by simp [eV, eC, hb, hn, hs], by simp [eO, eC, hb, hn, hs], by simp [eI, eC, hb, hn, hs]⟩)
      · exact Or.inr (Or.inr (Or.inl ⟨hb, hn, by omega, by simp [eC, hb, hn, hs], by simp [eV, eC, hb, hn, hs], by simp [eO, eC, hb, hn, hs], by simp [eI, eC, hb, hn, hs]⟩))
    · by_cases hs : i - n < 0
      · exact Or.inr (Or.inr (Or.inr (Or.inl ⟨hb, by omega, hs, by simp [eC, hb, hn, hs], by simp [eV, eC, hb, hn, hs], by simp [eO, eC, hb, hn, hs], by simp [eI, eC, hb, hn, hs]⟩)))
      · exact Or.inr (Or.inr (Or.inr (Or.inr ⟨hb, by omega, by omega, by simp [eC, hb, hn, hs], by simp [eV, eC, hb, hn, hs], by simp [eO, eC, hb, hn, hs], by simp [eI, eC, hb, hn, hs]⟩)))
  · exact Or.inl ⟨hb, by simp [eC, hb], by simp [eV, eC, hb], by simp [eO, eC, hb], by simp [eI, eC, hb]⟩

theorem hold_any (v o i n : Int) (w : World) :
    Calls Try.prog 114 #[.agg #[.int .i64 v, .int .i64 o, .int .i64 i], .int .i64 n] w fun e w' => e = .returned (.tuple #[.agg #[.int .i64 (hV v o i n), .int .i64 (hO v o i n), .int .i64 (hI v o i n)], .int .i64 (hC v o i n)]) ∧ Below w.heap.size w w' := by
  rcases hold_vals v o i n with ⟨hb, e1, e2, e3, e4⟩ | ⟨hb, hn, hs, e1, e2, e3, e4⟩ | ⟨hb, hn, hs, e1, e2, e3, e4⟩ | ⟨hb, hn, hs, e1, e2, e3, e4⟩ | ⟨hb, hn, hs, e1, e2, e3, e4⟩
  · rw [e1, e2, e3, e4]; exact hold_no v o i n w (bne_of hb)
  all_goals
    obtain ⟨k1, k2⟩ := both_ok hb
    obtain ⟨a1, a2, a3, a4, a5, a6⟩ := chk_ok k1
    obtain ⟨b1, b2, b3⟩ := dlt_ok k2
    rw [e1, e2, e3, e4]
  · exact hold_short v o i n w a1 a2 a3 a4 a5 a6 hn b2 hs
  · exact hold_less v o i n w a1 a2 a3 a4 a5 a6 hn b2 hs
  · exact hold_full v o i n w a1 a2 a3 a4 a5 a6 (by omega) b3 hs
  · exact hold_more v o i n w a1 a2 a3 a4 a5 a6 (by omega) b3 hs

theorem held_any (v o i n : Int) (w : World) :
    Calls Try.prog 100 #[.agg #[.int .i64 v, .int .i64 o, .int .i64 i], .int .i64 n] w fun e w' => e = .returned (.tuple #[.agg #[.int .i64 (hV v o i n), .int .i64 (hO v o i n), .int .i64 (hI v o i n)], .int .i64 (hC v o i n)]) ∧ Below w.heap.size w w' := by
  rcases hold_vals v o i n with ⟨hb, e1, e2, e3, e4⟩ | ⟨hb, hn, hs, e1, e2, e3, e4⟩ | ⟨hb, hn, hs, e1, e2, e3, e4⟩ | ⟨hb, hn, hs, e1, e2, e3, e4⟩ | ⟨hb, hn, hs, e1, e2, e3, e4⟩
  · rw [e1, e2, e3, e4]
    rcases both_cases v o i n with ⟨k1, k2⟩ | ⟨k1, k2, k3⟩ | ⟨k1, _⟩
    · rw [k2]; exact held_no1 v o i n w (bne_of k1)
    · rw [k3]; exact held_no2 v o i n w (bne_self _ _ k1) (bne_of k2)
    · exact absurd k1 hb
  all_goals
    obtain ⟨k1, k2⟩ := both_ok hb
    obtain ⟨a1, a2, a3, a4, a5, a6⟩ := chk_ok k1
    obtain ⟨b1, b2, b3⟩ := dlt_ok k2
    rw [e1, e2, e3, e4]
  · exact held_short v o i n w a1 a2 a3 a4 a5 a6 hn b2 hs
  · exact held_less v o i n w a1 a2 a3 a4 a5 a6 hn b2 hs
  · exact held_full v o i n w a1 a2 a3 a4 a5 a6 (by omega) b3 hs
  · exact held_more v o i n w a1 a2 a3 a4 a5 a6 (by omega) b3 hs

theorem end_any (v o i n : Int) (d : Bool) (w : World) :
    Calls Try.prog 107 #[.agg #[.int .i64 v, .int .i64 o, .int .i64 i], .int .i64 n, .bool d] w fun e w' => e = .returned (.tuple #[.agg #[.int .i64 (eV v o i n d), .int .i64 (eO v o i n), .int .i64 (eI v o i n)], .int .i64 (eC v o i n)]) ∧ Below w.heap.size w w' := by
  rcases end_vals v o i n d with ⟨hb, e1, e2, e3, e4⟩ | ⟨hb, hn, hs, e1, e2, e3, e4⟩ | ⟨hb, hn, hs, e1, e2, e3, e4⟩ | ⟨hb, hn, hs, e1, e2, e3, e4⟩ | ⟨hb, hn, hs, e1, e2, e3, e4⟩
  · rw [e1, e2, e3, e4]; exact end_no v o i n d w (bne_of hb)
  all_goals
    obtain ⟨k1, k2⟩ := both_ok hb
    obtain ⟨a1, a2, a3, a4, a5, a6⟩ := chk_ok k1
    obtain ⟨b1, b2, b3⟩ := dlt_ok k2
    rw [e1, e2, e3, e4]
  · exact end_noless v o i n d w a1 a2 a3 a4 a5 a6 hn b2 hs
  · cases d
    · exact end_less_false v o i n w a1 a2 a3 a4 a5 a6 hn b2 hs
    · exact end_less_true v o i n w a1 a2 a3 a4 a5 a6 hn b2 hs
  · exact end_nomore v o i n d w a1 a2 a3 a4 a5 a6 (by omega) b3 hs
  · cases d
    · exact end_more_false v o i n w a1 a2 a3 a4 a5 a6 (by omega) b3 hs
    · exact end_more_true v o i n w a1 a2 a3 a4 a5 a6 (by omega) b3 hs

end Go.Proofs.Ytbgnajcmhmpjlab
