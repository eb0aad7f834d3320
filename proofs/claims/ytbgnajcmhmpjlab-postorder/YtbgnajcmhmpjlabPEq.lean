/- Two worlds, held against each other. -/
import Derived.Test.YtbgnajcmhmpjlabPSt
import Derived.ChangeKeysEq
import Derived.OwnWalk
namespace Go.Proofs.Ytbgnajcmhmpjlab
open Go.RowKit

theorem infoInt6 : (Try.prog.info? 3).map (fun i => (i.zero, i.size, i.bytes)) = some (some (.int .i64 0), 1, 8) := by kernel_rfl
theorem cellsInt : Try.prog.cellsOf 3 = 1 := by kernel_rfl

theorem eq6 (a0 a1 a2 a3 a4 a5 b0 b1 b2 b3 b4 b5 : Int) (W : World) :
    (Op.equalIn 10000 23 (.agg #[.int .i64 a0, .int .i64 a1, .int .i64 a2, .int .i64 a3, .int .i64 a4, .int .i64 a5]) (.agg #[.int .i64 b0, .int .i64 b1, .int .i64 b2, .int .i64 b3, .int .i64 b4, .int .i64 b5])).run Try.prog W = .ok (a0 == b0 && (a1 == b1 && (a2 == b2 && (a3 == b3 && (a4 == b4 && a5 == b5))))) W := by
  obtain ⟨i0, hi, hz0, hz1, hz2⟩ := info_parts infoInt6
  rw [show (10000 : Nat) = 9999 + 1 from rfl, run_equalIn_array W 9999 _ _ Try.underlying23 hi, cellsInt]
  simp [List.range, List.range.loop, Op.eqItems, go_sem]
  repeat' split
  all_goals simp_all

theorem fld2 (a b : Int) (W : World) : (Instr.field 28 (.agg #[.int .i64 a, .int .i64 b]) 0).run Try.prog W = .ok (.int .i64 a) W ∧ (Instr.field 28 (.agg #[.int .i64 a, .int .i64 b]) 1).run Try.prog W = .ok (.int .i64 b) W := by
  constructor
  · simp [Instr.field, asAgg, go_sem]
  · simp [Instr.field, asAgg, go_sem]

end Go.Proofs.Ytbgnajcmhmpjlab
