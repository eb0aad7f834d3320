/- The contract of plan.Apply. -/
import Derived.Test.YtbgnajcmhmpjlabPChk
import Derived.Test.YtbgnajcmhmpjlabPSt
namespace Go.Proofs.Ytbgnajcmhmpjlab
open Go.RowKit

end Go.Proofs.Ytbgnajcmhmpjlab
