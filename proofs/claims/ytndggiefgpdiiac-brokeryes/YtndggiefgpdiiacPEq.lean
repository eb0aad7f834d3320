/- Two worlds, held against each other. -/
import Derived.Test.YtndggiefgpdiiacPSt
import Derived.ChangeKeysEq
import Derived.OwnWalk
namespace Go.Proofs.Ytndggiefgpdiiac
open Go.RowKit

theorem infoInt6 : (Try.prog.info? 3).map (fun i => (i.zero, i.size, i.bytes)) = some (some (.int .i64 0), 1, 8) := by kernel_rfl
theorem cellsInt : Try.prog.cellsOf 3 = 1 := by kernel_rfl

theorem fld2 (a b : Int) (W : World) : (Instr.field 48 (.agg #[.int .i64 a, .int .i64 b]) 0).run Try.prog W = .ok (.int .i64 a) W ∧ (Instr.field 48 (.agg #[.int .i64 a, .int .i64 b]) 1).run Try.prog W = .ok (.int .i64 b) W := by
  constructor
  · simp [Instr.field, asAgg, go_sem]
  · simp [Instr.field, asAgg, go_sem]

end Go.Proofs.Ytndggiefgpdiiac
