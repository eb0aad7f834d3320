/- The contracts of package count's small functions and of the document's own: Check, CountFault, Delta, DeltaFault, Low, High, checkBoth. -/
import Derived.Test.YtndggiefgpdiiacRows
import Derived.WalkKit
import Derived.WalkSpells
import Derived.Handy
import Derived.Test.YtndggiefgpdiiacMath
namespace Go.Proofs.Ytndggiefgpdiiac
open Go.RowKit

theorem dlt_zero {n : Int} (h : (n == 0) = true) : 2 = dlt n := by
  have e : n = 0 := by simpa using h
  unfold dlt; rw [if_pos e]
theorem dlt_ne {n : Int} (h : (n == 0) = false) : dlt n = if n < -100 then 1 else if 100 < n then 1 else 0 := by
  have e : ¬ n = 0 := by simpa using h
  unfold dlt; rw [if_neg e]

set_option maxHeartbeats 400000 in
theorem delta_any (n : Int) (w : World) :
    Calls Try.prog 26 #[.int .i64 n] w fun e w' => e = .returned (.int .i64 (dlt n)) ∧ w' = w := by
  go_enter Try.func26, Try.ntmps26
  go_wp2
  all_goals
    go_ret
    refine ⟨ret_int ?_, rfl⟩
    first
      | exact dlt_zero ‹_›
      | (rw [dlt_ne ‹_›]; repeat' split
         all_goals omega)

/-- checkBoth's code. -/
def both (v o i n : Int) : Int := if chk v o i = 0 then dlt n else chk v o i

end Go.Proofs.Ytndggiefgpdiiac
