/- The contracts of package plan's small functions and of the document's own: Shop, Want, more, ShopOf, WantFault, F. -/
import Derived.Test.YtndggiefgpdiiacWalks1
import Derived.Test.YtndggiefgpdiiacPMath
namespace Go.Proofs.Ytndggiefgpdiiac
open Go.RowKit

set_option maxHeartbeats 400000 in
theorem shop_any (n : Int) (w : World) :
    Calls Try.prog 9 #[.int .i64 n] w fun e w' => e = .returned (.int .i64 (shp n)) ∧ w' = w := by
  go_enter Try.func9, Try.ntmps9
  go_wp2
  all_goals
    go_ret
    refine ⟨ret_int ?_, rfl⟩
    unfold shp
    repeat' split
    all_goals omega

set_option maxHeartbeats 400000 in
theorem want_any (c d : Int) (w : World) :
    Calls Try.prog 22 #[.agg #[.int .i64 c, .int .i64 d]] w fun e w' => e = .returned (.int .i64 (wnt c d)) ∧ Below w.heap.size w w' := by
  by_cases h : shp c < 0
  · have e1 : wnt c d = 1 := by unfold wnt; rw [if_pos h]
    rw [e1]
    go_enter Try.func22, Try.ntmps22
    go_wp2_with fail
    refine (shop_any _ _).mono ?_
    rintro e w' ⟨rfl, rfl⟩
    go_wp2_with fail
    go_ret
    exact ⟨rfl, by go_grown⟩
  · have e1 : wnt c d = dlt d := by unfold wnt; rw [if_neg h]
    have h' : 0 ≤ shp c := by omega
    rw [e1]
    clear e1 h
    go_enter Try.func22, Try.ntmps22
    go_wp2_with fail
    refine (shop_any _ _).mono ?_
    rintro e w' ⟨rfl, rfl⟩
    go_wp2_with fail
    refine (delta_any _ _).mono ?_
    rintro e w' ⟨rfl, rfl⟩
    go_wp2_with fail
    go_ret
    exact ⟨rfl, by go_grown⟩

end Go.Proofs.Ytndggiefgpdiiac
