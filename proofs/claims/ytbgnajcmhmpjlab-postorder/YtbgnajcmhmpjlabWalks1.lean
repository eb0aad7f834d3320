/- The contracts of package count's small functions and of the document's own: Check, CountFault, Delta, DeltaFault, Low, High, checkBoth. -/
import Derived.Test.YtbgnajcmhmpjlabRows
import Derived.WalkKit
import Derived.WalkSpells
import Derived.Handy
import Derived.Test.YtbgnajcmhmpjlabMath
namespace Go.Proofs.Ytbgnajcmhmpjlab
open Go.RowKit

set_option maxHeartbeats 400000 in
theorem check_any (v o i : Int) (w : World) :
    Calls Try.prog 89 #[.agg #[.int .i64 v, .int .i64 o, .int .i64 i]] w fun e w' => e = .returned (.int .i64 (chk v o i)) ∧ Below w.heap.size w w' := by
  go_enter Try.func89, Try.ntmps89
  go_wp2
  all_goals
    go_ret
    exact ⟨ret_int (by unfold chk; repeat' split
                       all_goals omega), by go_grown⟩

set_option maxHeartbeats 400000 in
theorem countFault_any (v o i : Int) (w : World) :
    Calls Try.prog 113 #[.agg #[.int .i64 v, .int .i64 o, .int .i64 i]] w fun e w' => e = .returned (.int .i64 (chk v o i)) ∧ Below w.heap.size w w' := by
  go_enter Try.func113, Try.ntmps113
  go_wp2
  all_goals
    go_ret
    exact ⟨ret_int (by unfold chk; repeat' split
                       all_goals omega), by go_grown⟩

theorem dlt_zero {n : Int} (h : (n == 0) = true) : 2 = dlt n := by
  have e : n = 0 := by simpa using h
  unfold dlt; rw [if_pos e]
theorem dlt_ne {n : Int} (h : (n == 0) = false) : dlt n = if n < -100 then 1 else if 100 < n then 1 else 0 := by
  have e : ¬ n = 0 := by simpa using h
  unfold dlt; rw [if_neg e]

set_option maxHeartbeats 400000 in
theorem delta_any (n : Int) (w : World) :
    Calls Try.prog 116 #[.int .i64 n] w fun e w' => e = .returned (.int .i64 (dlt n)) ∧ w' = w := by
  go_enter Try.func116, Try.ntmps116
  go_wp2
  all_goals
    go_ret
    refine ⟨ret_int ?_, rfl⟩
    first
      | exact dlt_zero ‹_›
      | (rw [dlt_ne ‹_›]; repeat' split
         all_goals omega)

set_option maxHeartbeats 400000 in
theorem deltaFault_any (n : Int) (w : World) :
    Calls Try.prog 112 #[.int .i64 n] w fun e w' => e = .returned (.int .i64 (dlt n)) ∧ w' = w := by
  go_enter Try.func112, Try.ntmps112
  go_wp2
  all_goals
    go_ret
    refine ⟨ret_int ?_, rfl⟩
    first
      | exact dlt_zero ‹_›
      | (rw [dlt_ne ‹_›]; repeat' split
         all_goals omega)

set_option maxHeartbeats 400000 in
theorem low_any (v o i : Int) (w : World) (hv : 0 ≤ v) (hv' : v ≤ 1000) (ho : 0 ≤ o) (ho' : o ≤ 1000) :
    Calls Try.prog 118 #[.agg #[.int .i64 v, .int .i64 o, .int .i64 i]] w fun e w' => e = .returned (.int .i64 (v - o)) ∧ Below w.heap.size w w' := by
  go_enter Try.func118, Try.ntmps118
  go_wp2
  go_ret
  exact ⟨rfl, by go_grown⟩

set_option maxHeartbeats 400000 in
theorem high_any (v o i : Int) (w : World) (hv : 0 ≤ v) (hv' : v ≤ 1000) (hi : 0 ≤ i) (hi' : i ≤ 1000) :
    Calls Try.prog 119 #[.agg #[.int .i64 v, .int .i64 o, .int .i64 i]] w fun e w' => e = .returned (.int .i64 (v + i)) ∧ Below w.heap.size w w' := by
  go_enter Try.func119, Try.ntmps119
  go_wp2
  go_ret
  exact ⟨rfl, by go_grown⟩

/-- checkBoth's code. -/
def both (v o i n : Int) : Int := if chk v o i = 0 then dlt n else chk v o i

set_option maxHeartbeats 400000 in
theorem both_any (v o i n : Int) (w : World) :
    Calls Try.prog 115 #[.agg #[.int .i64 v, .int .i64 o, .int .i64 i], .int .i64 n] w fun e w' => e = .returned (.int .i64 (both v o i n)) ∧ Below w.heap.size w w' := by
  by_cases hc : chk v o i = 0
  · have hb : both v o i n = dlt n := by unfold both; rw [if_pos hc]
    rw [hb]
    have hx : (chk v o i != 0) = false := by simp [hc]
    clear hb hc
    go_enter Try.func115, Try.ntmps115
    go_wp2_with (first | (go_at_call 89; refine (check_any _ _ _ _).mono ?_; rintro e w1 ⟨rfl, hb1⟩) | (go_at_call 116; refine (delta_any _ _).mono ?_; rintro e w' ⟨rfl, rfl⟩))
    go_ret
    exact ⟨rfl, ((Below.refl _ _).alloc (Nat.le_refl _) _).trans (hb1.mono (by simp))⟩
  · have hb : both v o i n = chk v o i := by unfold both; rw [if_neg hc]
    rw [hb]
    have hx : (chk v o i != 0) = true := by simpa using hc
    clear hb hc
    go_enter Try.func115, Try.ntmps115
    go_wp2_with (first | (go_at_call 89; refine (check_any _ _ _ _).mono ?_; rintro e w1 ⟨rfl, hb1⟩))
    go_ret
    exact ⟨rfl, ((Below.refl _ _).alloc (Nat.le_refl _) _).trans (hb1.mono (by simp))⟩

end Go.Proofs.Ytbgnajcmhmpjlab
