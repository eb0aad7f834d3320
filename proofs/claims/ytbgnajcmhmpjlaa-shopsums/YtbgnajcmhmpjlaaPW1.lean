/- The contracts of package plan's small functions and of the document's own: Shop, Want, more, ShopOf, WantFault, F. -/
import Derived.Test.YtbgnajcmhmpjlaaWalks1
import Derived.Test.YtbgnajcmhmpjlaaPMath
namespace Go.Proofs.Ytbgnajcmhmpjlaa
open Go.RowKit

set_option maxHeartbeats 400000 in
theorem shop_any (n : Int) (w : World) :
    Calls Try.prog 31 #[.int .i64 n] w fun e w' => e = .returned (.int .i64 (shp n)) ∧ w' = w := by
  go_enter Try.func31, Try.ntmps31
  go_wp2
  all_goals
    go_ret
    refine ⟨ret_int ?_, rfl⟩
    unfold shp
    repeat' split
    all_goals omega

set_option maxHeartbeats 400000 in
theorem more_any (v d : Int) (w : World) (h0 : -100 ≤ d) (h1 : d ≤ 100) :
    Calls Try.prog 52 #[.int .i64 v, .int .i64 d] w fun e w' => e = .returned (.tuple #[.int .i64 (morV v d), .int .i64 (morC v d)]) ∧ w' = w := by
  by_cases a : v < 0
  · have e1 : morV v d = 0 := by unfold morV; rw [if_pos a]
    have e2 : morC v d = 1 := by unfold morC; rw [if_pos a]
    rw [e1, e2]
    go_enter Try.func52, Try.ntmps52
    go_wp2
    exact bodyPost_ret (v := .tuple #[.int .i64 _, .int .i64 _]) (by simp [results, Try.results52, go_sem]) rfl ⟨rfl, rfl⟩
  by_cases a' : 100 < v
  · have e1 : morV v d = 0 := by unfold morV; rw [if_neg a, if_pos a']
    have e2 : morC v d = 1 := by unfold morC; rw [if_neg a, if_pos a']
    rw [e1, e2]
    go_enter Try.func52, Try.ntmps52
    go_wp2
    exact bodyPost_ret (v := .tuple #[.int .i64 _, .int .i64 _]) (by simp [results, Try.results52, go_sem]) rfl ⟨rfl, rfl⟩
  have b1 : 0 ≤ v := by omega
  have b2 : v ≤ 100 := by omega
  by_cases a2 : v + d < 0
  · have e1 : morV v d = 0 := by unfold morV; rw [if_neg a, if_neg a', if_pos a2]
    have e2 : morC v d = 5 := by unfold morC; rw [if_neg a, if_neg a', if_pos a2]
    rw [e1, e2]
    go_enter Try.func52, Try.ntmps52
    go_wp2
    exact bodyPost_ret (v := .tuple #[.int .i64 _, .int .i64 _]) (by simp [results, Try.results52, go_sem]) rfl ⟨rfl, rfl⟩
  by_cases a3 : 100 < v + d
  · have e1 : morV v d = 0 := by unfold morV; rw [if_neg a, if_neg a', if_neg a2, if_pos a3]
    have e2 : morC v d = 6 := by unfold morC; rw [if_neg a, if_neg a', if_neg a2, if_pos a3]
    rw [e1, e2]
    go_enter Try.func52, Try.ntmps52
    go_wp2
    exact bodyPost_ret (v := .tuple #[.int .i64 _, .int .i64 _]) (by simp [results, Try.results52, go_sem]) rfl ⟨rfl, rfl⟩
  · have e1 : morV v d = v + d := by unfold morV; rw [if_neg a, if_neg a', if_neg a2, if_neg a3]
    have e2 : morC v d = 0 := by unfold morC; rw [if_neg a, if_neg a', if_neg a2, if_neg a3]
    rw [e1, e2]
    go_enter Try.func52, Try.ntmps52
    go_wp2
    exact bodyPost_ret (v := .tuple #[.int .i64 _, .int .i64 _]) (by simp [results, Try.results52, go_sem]) rfl ⟨rfl, rfl⟩

set_option maxHeartbeats 400000 in
theorem fF_any (c a : Int) (w : World) :
    Calls Try.prog 53 #[.int .i64 c, .int .i64 a] w fun e w' => e = .returned (.agg #[.int .i64 c, .int .i64 a]) ∧ Below w.heap.size w w' := by
  go_enter Try.func53, Try.ntmps53
  go_wp2
  exact bodyPost_ret (v := .agg #[.int .i64 _, .int .i64 _]) (by simp [results, Try.results53, go_sem]) rfl ⟨rfl, by go_grown⟩

set_option maxHeartbeats 400000 in
theorem want_any (c d : Int) (w : World) :
    Calls Try.prog 27 #[.agg #[.int .i64 c, .int .i64 d]] w fun e w' => e = .returned (.int .i64 (wnt c d)) ∧ Below w.heap.size w w' := by
  by_cases h : shp c < 0
  · have e1 : wnt c d = 1 := by unfold wnt; rw [if_pos h]
    rw [e1]
    go_enter Try.func27, Try.ntmps27
    go_wp2_with fail
    refine (shop_any _ _).mono ?_
    rintro e w' ⟨rfl, rfl⟩
    go_wp2_with fail
    go_ret
    exact ⟨rfl, by go_grown⟩
  · have e1 : wnt c d = dlt d := by unfold wnt; rw [if_neg h]
    have h' : 0 ≤ shp c := by omega
    rw [e1]
    clear e1 h
    go_enter Try.func27, Try.ntmps27
    go_wp2_with fail
    refine (shop_any _ _).mono ?_
    rintro e w' ⟨rfl, rfl⟩
    go_wp2_with fail
    refine (delta_any _ _).mono ?_
    rintro e w' ⟨rfl, rfl⟩
    go_wp2_with fail
    go_ret
    exact ⟨rfl, by go_grown⟩

end Go.Proofs.Ytbgnajcmhmpjlaa
