/- The contracts of ShopOf and WantFault. -/
import Derived.Test.YtndggiefgpdiiacPW1
import Derived.Deep.LoopGhost
import Derived.Deep.DeepCutAuto
import Derived.Deep.QuietTactic
import Derived.BigQuiet
namespace Go.Proofs.Ytndggiefgpdiiac
open Go.RowKit

theorem bdrewN {B : Nat} {a w : World} (h : Below B a w) (n : Nat) : Below B a (w.drewN n) := ⟨h.os, h.tape, h.output, h.size, h.block⟩
theorem ret_bool {a b : Bool} (h : a = b) : Ending.returned (.bool a) = .returned (.bool b) := by rw [h]

theorem shp_hit (n : Int) (s m : Nat) (hs : s < 3) (hm : m < 2) (h : n = (s : Int) * 2 + m) : (s : Int) = shp n := by
  rw [shp_eq (by omega) (by omega)]; omega

end Go.Proofs.Ytndggiefgpdiiac
