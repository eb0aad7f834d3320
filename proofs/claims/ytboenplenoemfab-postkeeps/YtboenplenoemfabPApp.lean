/- The contract of plan.Apply. -/
import Derived.Test.YtboenplenoemfabPChk
import Derived.Test.YtboenplenoemfabPSt
namespace Go.Proofs.Ytboenplenoemfab
open Go.RowKit

end Go.Proofs.Ytboenplenoemfab
