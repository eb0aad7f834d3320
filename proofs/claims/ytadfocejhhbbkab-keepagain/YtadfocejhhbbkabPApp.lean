/- The contract of plan.Apply. -/
import Derived.Test.YtadfocejhhbbkabPChk
import Derived.Test.YtadfocejhhbbkabPSt
namespace Go.Proofs.Ytadfocejhhbbkab
open Go.RowKit

end Go.Proofs.Ytadfocejhhbbkab
