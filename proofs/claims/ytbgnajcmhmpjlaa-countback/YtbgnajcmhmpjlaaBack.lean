/- The walk of CountBack: it answers true, whatever counter and number it is given. -/
import Derived.Test.YtbgnajcmhmpjlaaFacts
namespace Go.Proofs.Ytbgnajcmhmpjlaa
open Go.RowKit

set_option maxHeartbeats 1000000 in
theorem back_no (v o i n k : Int) (w : World) (hk : (k != 0) = true) (H : HoldIs v o i n 0 0 0 k) :
    Calls Try.prog 4 #[.agg #[.int .i64 v, .int .i64 o, .int .i64 i], .int .i64 n] w fun e w' => e = .returned (.bool true) ∧ Below w.heap.size w w' := by
  go_enter Try.func4, Try.ntmps4
  go_wp2_with fail
  refine (begun_any _).mono ?_
  rintro e w1 ⟨rfl, hb1⟩
  have hw1 : Below w.heap.size w w1 := after (by go_grown) hb1 (by simp)
  have hz1 : w.heap.size + 1 ≤ w1.heap.size := by simpa using hb1.size
  obtain ⟨c0, c1, c2⟩ := box3 w.heap.size (x := .int .i64 v) (y := .int .i64 o) (z := .int .i64 i) hb1 (by simp) (by simp [go_sem]) (by simp [go_sem]) (by simp [go_sem])
  clear hb1
  go_wp2_with fail
  refine (H _).mono ?_
  rintro e w2 ⟨rfl, hb2⟩
  have hz2 : w.heap.size + 1 ≤ w2.heap.size := by have := hb2.size; omega
  have hw2 : Below w.heap.size w w2 := after hw1 hb2 (by omega)
  clear hb2
  go_wp2
  go_ret
  exact ⟨rfl, by go_grown⟩

set_option maxHeartbeats 1000000 in
theorem back_yes (v o i n a b c : Int) (w : World) (h1 : 0 ≤ v) (h2 : v ≤ 100) (h3 : -100 ≤ n) (h4 : n ≤ 100) (H : HoldIs v o i n a b c 0) (E1 : EndIs a b c n false v o i 0) (E2 : EndIs a b c n true (v + n) o i 0) :
    Calls Try.prog 4 #[.agg #[.int .i64 v, .int .i64 o, .int .i64 i], .int .i64 n] w fun e w' => e = .returned (.bool true) ∧ Below w.heap.size w w' := by
  go_enter Try.func4, Try.ntmps4
  go_wp2_with fail
  refine (begun_any _).mono ?_
  rintro e w1 ⟨rfl, hb1⟩
  have hw1 : Below w.heap.size w w1 := after (by go_grown) hb1 (by simp)
  have hz1 : w.heap.size + 1 ≤ w1.heap.size := by simpa using hb1.size
  obtain ⟨c0, c1, c2⟩ := box3 w.heap.size (x := .int .i64 v) (y := .int .i64 o) (z := .int .i64 i) hb1 (by simp) (by simp [go_sem]) (by simp [go_sem]) (by simp [go_sem])
  have f1 := loose w.heap.size hb1 (by simp) (by simp [go_sem])
  clear hb1
  go_wp2_with fail
  refine (H _).mono ?_
  rintro e w2 ⟨rfl, hb2⟩
  have hz2 : w.heap.size + 1 ≤ w2.heap.size := by have := hb2.size; omega
  have hw2 : Below w.heap.size w w2 := after hw1 hb2 (by omega)
  obtain ⟨c0, c1, c2⟩ := box3 w.heap.size hb2 (by omega) c0 c1 c2
  have f2 := loose w.heap.size hb2 (by omega) f1
  clear hb2
  go_wp2_with fail
  refine (E1 _).mono ?_
  rintro e w3 ⟨rfl, hb3⟩
  have hb23 : Below w2.heap.size w2 w3 := after (by go_grown) hb3 (by simp)
  have hz3 : w2.heap.size + 1 ≤ w3.heap.size := by simpa using hb3.size
  have hw3 : Below w.heap.size w w3 := after hw2 hb23 (by omega)
  obtain ⟨c0, c1, c2⟩ := box3 w.heap.size hb23 (by omega) c0 c1 c2
  have f3 := loose w.heap.size hb23 (by omega) f2
  obtain ⟨d0, d1, d2⟩ := box3 w2.heap.size (x := .int .i64 a) (y := .int .i64 b) (z := .int .i64 c) hb3 (by simp) (by simp [go_sem]) (by simp [go_sem]) (by simp [go_sem])
  have l1 : w.heap.size < w2.heap.size := by omega
  have l2 : w.heap.size < w3.heap.size := by omega
  have l3 : w2.heap.size < w3.heap.size := by omega
  clear hb3 hb23
  go_wp2_with fail
  refine (E2 _).mono ?_
  rintro e w4 ⟨rfl, hb4⟩
  have hb34 : Below w3.heap.size w3 w4 := after (by go_grown) hb4 (by simp)
  have hz4 : w3.heap.size + 1 ≤ w4.heap.size := by simpa using hb4.size
  have hw4 : Below w.heap.size w w4 := after hw3 hb34 (by omega)
  obtain ⟨c0, c1, c2⟩ := box3 w.heap.size hb34 (by omega) c0 c1 c2
  have f4 := loose w.heap.size hb34 (by omega) f3
  obtain ⟨e0, e1, e2⟩ := box3 w3.heap.size (x := .int .i64 v) (y := .int .i64 o) (z := .int .i64 i) hb4 (by simp) (by simp [go_sem]) (by simp [go_sem]) (by simp [go_sem])
  clear hb4 hb34 hw1 hw2 hw3 f1 f2 f3
  have l4 : w.heap.size < w4.heap.size := by omega
  have l5 : w2.heap.size < w4.heap.size := by omega
  have l6 : w3.heap.size < w4.heap.size := by omega
  go_wp2
  go_ret
  exact ⟨rfl, by go_grown⟩

theorem back_any (v o i n : Int) (w : World) :
    Calls Try.prog 4 #[.agg #[.int .i64 v, .int .i64 o, .int .i64 i], .int .i64 n] w fun e w' => e = .returned (.bool true) ∧ Below w.heap.size w w' := by
  have H := holdIs v o i n
  by_cases h : hC v o i n = 0
  · obtain ⟨⟨a1, a2, a3, a4, a5, a6⟩, b1, b2, b3, hw⟩ := hold_zero h
    rcases hw with ⟨hn, hs, e2, e3, e4⟩ | ⟨hn, hs, e2, e3, e4⟩
    · rw [h, e2, e3, e4] at H
      have hb : both v (o - n) i n = 0 := both_of (chk_of a1 a2 (by omega) (by omega) a5 a6) (dlt_of b1 b2 b3)
      have E1 := endIs_less (v := v) (o := o - n) (i := i) false hb hn (by omega)
      have E2 := endIs_less (v := v) (o := o - n) (i := i) true hb hn (by omega)
      rw [show o - n + n = o from by omega] at E1 E2
      exact back_yes v o i n v (o - n) i w a1 a2 b2 b3 H E1 E2
    · rw [h, e2, e3, e4] at H
      have hb : both v o (i + n) n = 0 := both_of (chk_of a1 a2 (by omega) (by omega) (by omega) (by omega)) (dlt_of b1 b2 b3)
      have E1 := endIs_more (v := v) (o := o) (i := i + n) false hb (by omega) (by omega)
      have E2 := endIs_more (v := v) (o := o) (i := i + n) true hb (by omega) (by omega)
      rw [show i + n - n = i from by omega] at E1 E2
      exact back_yes v o i n v o (i + n) w a1 a2 b2 b3 H E1 E2
  · have e2 : hV v o i n = 0 := by simp [hV, h]
    have e3 : hO v o i n = 0 := by simp [hO, h]
    have e4 : hI v o i n = 0 := by simp [hI, h]
    rw [e2, e3, e4] at H
    exact back_no v o i n _ w (bne_of h) H

end Go.Proofs.Ytbgnajcmhmpjlaa
