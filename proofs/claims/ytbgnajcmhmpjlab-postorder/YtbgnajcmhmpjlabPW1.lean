/- The contracts of package plan's small functions and of the document's own: Shop, Want, more, ShopOf, WantFault, F. -/
import Derived.Test.YtbgnajcmhmpjlabWalks1
import Derived.Test.YtbgnajcmhmpjlabPMath
namespace Go.Proofs.Ytbgnajcmhmpjlab
open Go.RowKit

set_option maxHeartbeats 400000 in
theorem shop_any (n : Int) (w : World) :
    Calls Try.prog 59 #[.int .i64 n] w fun e w' => e = .returned (.int .i64 (shp n)) ∧ w' = w := by
  go_enter Try.func59, Try.ntmps59
  go_wp2
  all_goals
    go_ret
    refine ⟨ret_int ?_, rfl⟩
    unfold shp
    repeat' split
    all_goals omega

set_option maxHeartbeats 400000 in
theorem fF_any (c a : Int) (w : World) :
    Calls Try.prog 63 #[.int .i64 c, .int .i64 a] w fun e w' => e = .returned (.agg #[.int .i64 c, .int .i64 a]) ∧ Below w.heap.size w w' := by
  go_enter Try.func63, Try.ntmps63
  go_wp2
  exact bodyPost_ret (v := .agg #[.int .i64 _, .int .i64 _]) (by simp [results, Try.results63, go_sem]) rfl ⟨rfl, by go_grown⟩

set_option maxHeartbeats 400000 in
theorem want_any (c d : Int) (w : World) :
    Calls Try.prog 109 #[.agg #[.int .i64 c, .int .i64 d]] w fun e w' => e = .returned (.int .i64 (wnt c d)) ∧ Below w.heap.size w w' := by
  by_cases h : shp c < 0
  · have e1 : wnt c d = 1 := by unfold wnt; rw [if_pos h]
    rw [e1]
    go_enter Try.func109, Try.ntmps109
    go_wp2_with fail
    refine (shop_any _ _).mono ?_
    rintro e w' ⟨rfl, rfl⟩
    go_wp2_with fail
    go_ret
    exact ⟨rfl, by go_grown⟩
  · have e1 : wnt c d = dlt d := by unfold wnt; rw [if_neg h]
    have h' : 0 ≤ shp c := by omega
    rw [e1]
    clear e1 h
    go_enter Try.func109, Try.ntmps109
    go_wp2_with fail
    refine (shop_any _ _).mono ?_
    rintro e w' ⟨rfl, rfl⟩
    go_wp2_with fail
    refine (delta_any _ _).mono ?_
    rintro e w' ⟨rfl, rfl⟩
    go_wp2_with fail
    go_ret
    exact ⟨rfl, by go_grown⟩

end Go.Proofs.Ytbgnajcmhmpjlab
