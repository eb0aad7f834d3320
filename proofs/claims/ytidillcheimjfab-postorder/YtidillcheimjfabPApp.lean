/- The contract of plan.Apply. -/
import Derived.Test.YtidillcheimjfabPChk
import Derived.Test.YtidillcheimjfabPSt
namespace Go.Proofs.Ytidillcheimjfab
open Go.RowKit

end Go.Proofs.Ytidillcheimjfab
