/- The contract of plan.Apply. -/
import Derived.Test.YtndggiefgpdiiacPChk
import Derived.Test.YtndggiefgpdiiacPSt
namespace Go.Proofs.Ytndggiefgpdiiac
open Go.RowKit

end Go.Proofs.Ytndggiefgpdiiac
