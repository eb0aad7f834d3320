/- The contract of plan.Apply. -/
import Derived.Test.YtndggiefgpdiiabPChk
import Derived.Test.YtndggiefgpdiiabPSt
namespace Go.Proofs.Ytndggiefgpdiiab
open Go.RowKit

end Go.Proofs.Ytndggiefgpdiiab
