/- The contracts of Hold and End, and of the document's Held and Ended. -/
import Derived.Test.YtbgnajcmhmpjlabWalks1
namespace Go.Proofs.Ytbgnajcmhmpjlab
open Go.RowKit

/-- Hold's code, and what it answers. -/
def hC (v o i n : Int) : Int := if both v o i n = 0 then (if n < 0 then (if v < o - n then 5 else 0) else (if 100 < v + (i + n) then 6 else 0)) else both v o i n
def hV (v o i n : Int) : Int := if hC v o i n = 0 then v else 0
def hO (v o i n : Int) : Int := if hC v o i n = 0 then (if n < 0 then o - n else o) else 0
def hI (v o i n : Int) : Int := if hC v o i n = 0 then (if n < 0 then i else i + n) else 0

/-- End's code, and what it answers. -/
def eC (v o i n : Int) : Int := if both v o i n = 0 then (if n < 0 then (if o + n < 0 then 7 else 0) else (if i - n < 0 then 7 else 0)) else both v o i n
def eV (v o i n : Int) (d : Bool) : Int := if eC v o i n = 0 then (if d = true then v + n else v) else 0
def eO (v o i n : Int) : Int := if eC v o i n = 0 then (if n < 0 then o + n else o) else 0
def eI (v o i n : Int) : Int := if eC v o i n = 0 then (if n < 0 then i else i - n) else 0

theorem both_ok {v o i n : Int} (h : both v o i n = 0) : chk v o i = 0 ∧ dlt n = 0 := by
  unfold both at h
  split at h
  · exact ⟨‹_›, h⟩
  · exact absurd h ‹_›

set_option maxHeartbeats 1000000 in
theorem hold_less (v o i n : Int) (w : World) (h1 : 0 ≤ v) (h2 : v ≤ 100) (h3 : 0 ≤ o) (h4 : o ≤ v) (h5 : 0 ≤ i) (h6 : v + i ≤ 100) (h7 : n < 0) (h8 : -100 ≤ n) (h9 : o - n ≤ v) :
    Calls Try.prog 114 #[.agg #[.int .i64 v, .int .i64 o, .int .i64 i], .int .i64 n] w fun e w' => e = .returned (.tuple #[.agg #[.int .i64 v, .int .i64 (o - n), .int .i64 i], .int .i64 0]) ∧ Below w.heap.size w w' := by
  go_enter Try.func114, Try.ntmps114
  go_wp2
  exact bodyPost_ret (v := .tuple #[.agg #[.int .i64 v, .int .i64 (o - n), .int .i64 i], .int .i64 0]) (by simp [results, Try.results114, go_sem]) rfl ⟨rfl, by go_grown⟩

set_option maxHeartbeats 1000000 in
theorem hold_short (v o i n : Int) (w : World) (h1 : 0 ≤ v) (h2 : v ≤ 100) (h3 : 0 ≤ o) (h4 : o ≤ v) (h5 : 0 ≤ i) (h6 : v + i ≤ 100) (h7 : n < 0) (h8 : -100 ≤ n) (h9 : v < o - n) :
    Calls Try.prog 114 #[.agg #[.int .i64 v, .int .i64 o, .int .i64 i], .int .i64 n] w fun e w' => e = .returned (.tuple #[.agg #[.int .i64 0, .int .i64 0, .int .i64 0], .int .i64 5]) ∧ Below w.heap.size w w' := by
  go_enter Try.func114, Try.ntmps114
  go_wp2
  exact bodyPost_ret (v := .tuple #[.agg #[.int .i64 0, .int .i64 0, .int .i64 0], .int .i64 5]) (by simp [results, Try.results114, go_sem]) rfl ⟨rfl, by go_grown⟩

set_option maxHeartbeats 1000000 in
theorem hold_more (v o i n : Int) (w : World) (h1 : 0 ≤ v) (h2 : v ≤ 100) (h3 : 0 ≤ o) (h4 : o ≤ v) (h5 : 0 ≤ i) (h6 : v + i ≤ 100) (h7 : 0 < n) (h8 : n ≤ 100) (h9 : v + (i + n) ≤ 100) :
    Calls Try.prog 114 #[.agg #[.int .i64 v, .int .i64 o, .int .i64 i], .int .i64 n] w fun e w' => e = .returned (.tuple #[.agg #[.int .i64 v, .int .i64 o, .int .i64 (i + n)], .int .i64 0]) ∧ Below w.heap.size w w' := by
  go_enter Try.func114, Try.ntmps114
  go_wp2
  exact bodyPost_ret (v := .tuple #[.agg #[.int .i64 v, .int .i64 o, .int .i64 (i + n)], .int .i64 0]) (by simp [results, Try.results114, go_sem]) rfl ⟨rfl, by go_grown⟩

set_option maxHeartbeats 1000000 in
theorem hold_full (v o i n : Int) (w : World) (h1 : 0 ≤ v) (h2 : v ≤ 100) (h3 : 0 ≤ o) (h4 : o ≤ v) (h5 : 0 ≤ i) (h6 : v + i ≤ 100) (h7 : 0 < n) (h8 : n ≤ 100) (h9 : 100 < v + (i + n)) :
    Calls Try.prog 114 #[.agg #[.int .i64 v, .int .i64 o, .int .i64 i], .int .i64 n] w fun e w' => e = .returned (.tuple #[.agg #[.int .i64 0, .int .i64 0, .int .i64 0], .int .i64 6]) ∧ Below w.heap.size w w' := by
  go_enter Try.func114, Try.ntmps114
  go_wp2
  exact bodyPost_ret (v := .tuple #[.agg #[.int .i64 0, .int .i64 0, .int .i64 0], .int .i64 6]) (by simp [results, Try.results114, go_sem]) rfl ⟨rfl, by go_grown⟩

set_option maxHeartbeats 1000000 in
theorem held_less (v o i n : Int) (w : World) (h1 : 0 ≤ v) (h2 : v ≤ 100) (h3 : 0 ≤ o) (h4 : o ≤ v) (h5 : 0 ≤ i) (h6 : v + i ≤ 100) (h7 : n < 0) (h8 : -100 ≤ n) (h9 : o - n ≤ v) :
    Calls Try.prog 100 #[.agg #[.int .i64 v, .int .i64 o, .int .i64 i], .int .i64 n] w fun e w' => e = .returned (.tuple #[.agg #[.int .i64 v, .int .i64 (o - n), .int .i64 i], .int .i64 0]) ∧ Below w.heap.size w w' := by
  go_enter Try.func100, Try.ntmps100
  go_wp2
  exact bodyPost_ret (v := .tuple #[.agg #[.int .i64 v, .int .i64 (o - n), .int .i64 i], .int .i64 0]) (by simp [results, Try.results100, go_sem]) rfl ⟨rfl, by go_grown⟩

set_option maxHeartbeats 1000000 in
theorem held_short (v o i n : Int) (w : World) (h1 : 0 ≤ v) (h2 : v ≤ 100) (h3 : 0 ≤ o) (h4 : o ≤ v) (h5 : 0 ≤ i) (h6 : v + i ≤ 100) (h7 : n < 0) (h8 : -100 ≤ n) (h9 : v < o - n) :
    Calls Try.prog 100 #[.agg #[.int .i64 v, .int .i64 o, .int .i64 i], .int .i64 n] w fun e w' => e = .returned (.tuple #[.agg #[.int .i64 0, .int .i64 0, .int .i64 0], .int .i64 5]) ∧ Below w.heap.size w w' := by
  go_enter Try.func100, Try.ntmps100
  go_wp2
  exact bodyPost_ret (v := .tuple #[.agg #[.int .i64 0, .int .i64 0, .int .i64 0], .int .i64 5]) (by simp [results, Try.results100, go_sem]) rfl ⟨rfl, by go_grown⟩

set_option maxHeartbeats 1000000 in
theorem held_more (v o i n : Int) (w : World) (h1 : 0 ≤ v) (h2 : v ≤ 100) (h3 : 0 ≤ o) (h4 : o ≤ v) (h5 : 0 ≤ i) (h6 : v + i ≤ 100) (h7 : 0 < n) (h8 : n ≤ 100) (h9 : v + (i + n) ≤ 100) :
    Calls Try.prog 100 #[.agg #[.int .i64 v, .int .i64 o, .int .i64 i], .int .i64 n] w fun e w' => e = .returned (.tuple #[.agg #[.int .i64 v, .int .i64 o, .int .i64 (i + n)], .int .i64 0]) ∧ Below w.heap.size w w' := by
  go_enter Try.func100, Try.ntmps100
  go_wp2
  exact bodyPost_ret (v := .tuple #[.agg #[.int .i64 v, .int .i64 o, .int .i64 (i + n)], .int .i64 0]) (by simp [results, Try.results100, go_sem]) rfl ⟨rfl, by go_grown⟩

set_option maxHeartbeats 1000000 in
theorem held_full (v o i n : Int) (w : World) (h1 : 0 ≤ v) (h2 : v ≤ 100) (h3 : 0 ≤ o) (h4 : o ≤ v) (h5 : 0 ≤ i) (h6 : v + i ≤ 100) (h7 : 0 < n) (h8 : n ≤ 100) (h9 : 100 < v + (i + n)) :
    Calls Try.prog 100 #[.agg #[.int .i64 v, .int .i64 o, .int .i64 i], .int .i64 n] w fun e w' => e = .returned (.tuple #[.agg #[.int .i64 0, .int .i64 0, .int .i64 0], .int .i64 6]) ∧ Below w.heap.size w w' := by
  go_enter Try.func100, Try.ntmps100
  go_wp2
  exact bodyPost_ret (v := .tuple #[.agg #[.int .i64 0, .int .i64 0, .int .i64 0], .int .i64 6]) (by simp [results, Try.results100, go_sem]) rfl ⟨rfl, by go_grown⟩

end Go.Proofs.Ytbgnajcmhmpjlab
