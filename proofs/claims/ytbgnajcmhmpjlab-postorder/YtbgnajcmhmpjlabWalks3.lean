/- The contracts of End and of the document's Ended, way by way. -/
import Derived.Test.YtbgnajcmhmpjlabWalks1
namespace Go.Proofs.Ytbgnajcmhmpjlab
open Go.RowKit

set_option maxHeartbeats 1000000 in
theorem end_less_true (v o i n : Int) (w : World) (h1 : 0 ≤ v) (h2 : v ≤ 100) (h3 : 0 ≤ o) (h4 : o ≤ v) (h5 : 0 ≤ i) (h6 : v + i ≤ 100) (h7 : n < 0) (h8 : -100 ≤ n) (h9 : 0 ≤ o + n) :
    Calls Try.prog 107 #[.agg #[.int .i64 v, .int .i64 o, .int .i64 i], .int .i64 n, .bool true] w fun e w' => e = .returned (.tuple #[.agg #[.int .i64 (v + n), .int .i64 (o + n), .int .i64 i], .int .i64 0]) ∧ Below w.heap.size w w' := by
  go_enter Try.func107, Try.ntmps107
  go_wp2
  exact bodyPost_ret (v := .tuple #[.agg #[.int .i64 (v + n), .int .i64 (o + n), .int .i64 i], .int .i64 0]) (by simp [results, Try.results107, go_sem]) rfl ⟨rfl, by go_grown⟩

set_option maxHeartbeats 1000000 in
theorem end_more_true (v o i n : Int) (w : World) (h1 : 0 ≤ v) (h2 : v ≤ 100) (h3 : 0 ≤ o) (h4 : o ≤ v) (h5 : 0 ≤ i) (h6 : v + i ≤ 100) (h7 : 0 < n) (h8 : n ≤ 100) (h9 : 0 ≤ i - n) :
    Calls Try.prog 107 #[.agg #[.int .i64 v, .int .i64 o, .int .i64 i], .int .i64 n, .bool true] w fun e w' => e = .returned (.tuple #[.agg #[.int .i64 (v + n), .int .i64 o, .int .i64 (i - n)], .int .i64 0]) ∧ Below w.heap.size w w' := by
  go_enter Try.func107, Try.ntmps107
  go_wp2
  exact bodyPost_ret (v := .tuple #[.agg #[.int .i64 (v + n), .int .i64 o, .int .i64 (i - n)], .int .i64 0]) (by simp [results, Try.results107, go_sem]) rfl ⟨rfl, by go_grown⟩

set_option maxHeartbeats 1000000 in
theorem end_less_false (v o i n : Int) (w : World) (h1 : 0 ≤ v) (h2 : v ≤ 100) (h3 : 0 ≤ o) (h4 : o ≤ v) (h5 : 0 ≤ i) (h6 : v + i ≤ 100) (h7 : n < 0) (h8 : -100 ≤ n) (h9 : 0 ≤ o + n) :
    Calls Try.prog 107 #[.agg #[.int .i64 v, .int .i64 o, .int .i64 i], .int .i64 n, .bool false] w fun e w' => e = .returned (.tuple #[.agg #[.int .i64 v, .int .i64 (o + n), .int .i64 i], .int .i64 0]) ∧ Below w.heap.size w w' := by
  go_enter Try.func107, Try.ntmps107
  go_wp2
  exact bodyPost_ret (v := .tuple #[.agg #[.int .i64 v, .int .i64 (o + n), .int .i64 i], .int .i64 0]) (by simp [results, Try.results107, go_sem]) rfl ⟨rfl, by go_grown⟩

set_option maxHeartbeats 1000000 in
theorem end_more_false (v o i n : Int) (w : World) (h1 : 0 ≤ v) (h2 : v ≤ 100) (h3 : 0 ≤ o) (h4 : o ≤ v) (h5 : 0 ≤ i) (h6 : v + i ≤ 100) (h7 : 0 < n) (h8 : n ≤ 100) (h9 : 0 ≤ i - n) :
    Calls Try.prog 107 #[.agg #[.int .i64 v, .int .i64 o, .int .i64 i], .int .i64 n, .bool false] w fun e w' => e = .returned (.tuple #[.agg #[.int .i64 v, .int .i64 o, .int .i64 (i - n)], .int .i64 0]) ∧ Below w.heap.size w w' := by
  go_enter Try.func107, Try.ntmps107
  go_wp2
  exact bodyPost_ret (v := .tuple #[.agg #[.int .i64 v, .int .i64 o, .int .i64 (i - n)], .int .i64 0]) (by simp [results, Try.results107, go_sem]) rfl ⟨rfl, by go_grown⟩

set_option maxHeartbeats 1000000 in
theorem end_noless (v o i n : Int) (d : Bool) (w : World) (h1 : 0 ≤ v) (h2 : v ≤ 100) (h3 : 0 ≤ o) (h4 : o ≤ v) (h5 : 0 ≤ i) (h6 : v + i ≤ 100) (h7 : n < 0) (h8 : -100 ≤ n) (h9 : o + n < 0) :
    Calls Try.prog 107 #[.agg #[.int .i64 v, .int .i64 o, .int .i64 i], .int .i64 n, .bool d] w fun e w' => e = .returned (.tuple #[.agg #[.int .i64 0, .int .i64 0, .int .i64 0], .int .i64 7]) ∧ Below w.heap.size w w' := by
  go_enter Try.func107, Try.ntmps107
  go_wp2
  exact bodyPost_ret (v := .tuple #[.agg #[.int .i64 0, .int .i64 0, .int .i64 0], .int .i64 7]) (by simp [results, Try.results107, go_sem]) rfl ⟨rfl, by go_grown⟩

set_option maxHeartbeats 1000000 in
theorem end_nomore (v o i n : Int) (d : Bool) (w : World) (h1 : 0 ≤ v) (h2 : v ≤ 100) (h3 : 0 ≤ o) (h4 : o ≤ v) (h5 : 0 ≤ i) (h6 : v + i ≤ 100) (h7 : 0 < n) (h8 : n ≤ 100) (h9 : i - n < 0) :
    Calls Try.prog 107 #[.agg #[.int .i64 v, .int .i64 o, .int .i64 i], .int .i64 n, .bool d] w fun e w' => e = .returned (.tuple #[.agg #[.int .i64 0, .int .i64 0, .int .i64 0], .int .i64 7]) ∧ Below w.heap.size w w' := by
  go_enter Try.func107, Try.ntmps107
  go_wp2
  exact bodyPost_ret (v := .tuple #[.agg #[.int .i64 0, .int .i64 0, .int .i64 0], .int .i64 7]) (by simp [results, Try.results107, go_sem]) rfl ⟨rfl, by go_grown⟩

end Go.Proofs.Ytbgnajcmhmpjlab
