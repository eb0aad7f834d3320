/- The walk of CountOrder: it answers true, whatever counter and numbers it is given. -/
import Derived.Test.YtbgnajcmhmpjlaaFacts
namespace Go.Proofs.Ytbgnajcmhmpjlaa
open Go.RowKit

set_option maxHeartbeats 1000000 in
theorem order_walk (v o i n m a b c e' a2 b2 c2 f' a3 b3 c3 g' a4 b4 c4 h' : Int) (w : World)
    (hh : ((e' == 0) = true ∧ (e' != 0) = false ∧ (f' == 0) = true ∧ (f' != 0) = false ∧ (g' == 0) = true ∧ (h' == 0) = true ∧ (a2 == a4) = true ∧ (b2 == b4) = true ∧ (c2 == c4) = true)
      ∨ ((e' == 0) = false ∧ (e' != 0) = true ∧ (g' == 0) = false) ∨ ((e' == 0) = false ∧ (e' != 0) = true ∧ (g' == 0) = true ∧ (h' == 0) = false)
      ∨ ((e' == 0) = true ∧ (e' != 0) = false ∧ (f' == 0) = false ∧ (f' != 0) = true ∧ (g' == 0) = false) ∨ ((e' == 0) = true ∧ (e' != 0) = false ∧ (f' == 0) = false ∧ (f' != 0) = true ∧ (g' == 0) = true ∧ (h' == 0) = false))
    (H1 : HoldIs v o i n a b c e') (H2 : HoldIs a b c m a2 b2 c2 f') (H3 : HoldIs v o i m a3 b3 c3 g') (H4 : HoldIs a3 b3 c3 n a4 b4 c4 h') :
    Calls Try.prog 6 #[.agg #[.int .i64 v, .int .i64 o, .int .i64 i], .int .i64 n, .int .i64 m] w fun e w' => e = .returned (.bool true) ∧ Below w.heap.size w w' := by
  have HH : Hid _ := hh
  clear hh
  go_enter Try.func6, Try.ntmps6
  go_wp2_with fail
  refine (begun_any _).mono ?_
  rintro e w1 ⟨rfl, hb1⟩
  have hw1 : Below w.heap.size w w1 := after (by go_grown) hb1 (by simp)
  have hz1 : w.heap.size < w1.heap.size := by have := hb1.size; simp at this; omega
  obtain ⟨q0, q1, q2⟩ := box3 w.heap.size (x := .int .i64 v) (y := .int .i64 o) (z := .int .i64 i) hb1 (by simp) (by simp [go_sem]) (by simp [go_sem]) (by simp [go_sem])
  clear hb1
  go_wp2_with fail
  refine (H1 _).mono ?_
  rintro e w2 ⟨rfl, hb2⟩
  have hz2 : w.heap.size < w2.heap.size := by have := hb2.size; omega
  have hw2 : Below w.heap.size w w2 := after hw1 hb2 (by omega)
  obtain ⟨q0, q1, q2⟩ := box3 w.heap.size hb2 (by omega) q0 q1 q2
  clear hb2
  go_wp2_with fail
  refine (H2 _).mono ?_
  rintro e w3 ⟨rfl, hb3⟩
  have hb23 : Below w2.heap.size w2 w3 := after (by go_grown) hb3 (by simp)
  have hz3 : w2.heap.size < w3.heap.size := by have := hb3.size; simp at this; omega
  have hw3 : Below w.heap.size w w3 := after hw2 hb23 (by omega)
  obtain ⟨q0, q1, q2⟩ := box3 w.heap.size hb23 (by omega) q0 q1 q2
  have l2 : w.heap.size < w3.heap.size := by omega
  clear hb3 hb23
  go_wp2_with fail
  refine (H3 _).mono ?_
  rintro e w4 ⟨rfl, hb4⟩
  have hz4 : w3.heap.size < w4.heap.size := by have := hb4.size; simp at this; omega
  have hb34 : Below w3.heap.size w3 w4 := after (by go_grown) hb4 (by simp)
  have hw4 : Below w.heap.size w w4 := after hw3 hb34 (by omega)
  obtain ⟨d0, d1, d2⟩ := box3 w3.heap.size (x := .int .i64 a2) (y := .int .i64 b2) (z := .int .i64 c2) hb4 (by simp) (by simp [go_sem]) (by simp [go_sem]) (by simp [go_sem])
  clear hb4 hb34
  go_wp2_with fail
  refine (H4 _).mono ?_
  rintro e w5 ⟨rfl, hb5⟩
  have hz5 : w4.heap.size < w5.heap.size := by have := hb5.size; simp at this; omega
  have hb45 : Below w4.heap.size w4 w5 := after (by go_grown) hb5 (by simp)
  have hw5 : Below w.heap.size w w5 := after hw4 hb45 (by omega)
  obtain ⟨d0, d1, d2⟩ := box3 w3.heap.size hb45 (by omega) d0 d1 d2
  have l3 : w3.heap.size < w5.heap.size := by omega
  clear hb5 hb45 hw1 hw2 hw3 hw4 H1 H2 H3 H4
  rcases HH.out with ⟨k1, k2, k3, k4, k5, k6, k7, k8, k9⟩ | ⟨k1, k2, k3⟩ | ⟨k1, k2, k3, k4⟩ | ⟨k1, k2, k3, k4, k5⟩ | ⟨k1, k2, k3, k4, k5, k6⟩
  all_goals
    clear HH
    go_wp2
    go_ret
    exact ⟨rfl, by go_grown⟩

theorem order_any (v o i n m : Int) (w : World) :
    Calls Try.prog 6 #[.agg #[.int .i64 v, .int .i64 o, .int .i64 i], .int .i64 n, .int .i64 m] w fun e w' => e = .returned (.bool true) ∧ Below w.heap.size w w' := by
  refine order_walk v o i n m _ _ _ _ _ _ _ _ _ _ _ _ _ _ _ _ w ?_ (holdIs v o i n) (holdIs _ _ _ m) (holdIs v o i m) (holdIs _ _ _ n)
  by_cases h1 : hC v o i n = 0
  · by_cases h2 : hC (hV v o i n) (hO v o i n) (hI v o i n) m = 0
    · obtain ⟨k1, k2, k3, k4, k5⟩ := hold_turn h1 h2
      exact Or.inl ⟨by simp [h1], by simp [h1], by simp [h2], by simp [h2], by simp [k1], by simp [k2], by simp [k3], by simp [k4], by simp [k5]⟩
    · by_cases h3 : hC v o i m = 0
      · by_cases h4 : hC (hV v o i m) (hO v o i m) (hI v o i m) n = 0
        · exact absurd (hold_turn h3 h4).2.1 h2
        · exact Or.inr (Or.inr (Or.inr (Or.inr ⟨by simp [h1], by simp [h1], by simpa using h2, by simpa using h2, by simp [h3], by simpa using h4⟩)))
      · exact Or.inr (Or.inr (Or.inr (Or.inl ⟨by simp [h1], by simp [h1], by simpa using h2, by simpa using h2, by simpa using h3⟩)))
  · by_cases h3 : hC v o i m = 0
    · by_cases h4 : hC (hV v o i m) (hO v o i m) (hI v o i m) n = 0
      · exact absurd (hold_turn h3 h4).1 h1
      · exact Or.inr (Or.inr (Or.inl ⟨by simpa using h1, by simpa using h1, by simp [h3], by simpa using h4⟩))
    · exact Or.inr (Or.inl ⟨by simpa using h1, by simpa using h1, by simpa using h3⟩)

end Go.Proofs.Ytbgnajcmhmpjlaa
