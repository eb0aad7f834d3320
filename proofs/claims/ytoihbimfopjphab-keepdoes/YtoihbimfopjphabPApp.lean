/- The contract of plan.Apply. -/
import Derived.Test.YtoihbimfopjphabPChk
import Derived.Test.YtoihbimfopjphabPSt
namespace Go.Proofs.Ytoihbimfopjphab
open Go.RowKit

end Go.Proofs.Ytoihbimfopjphab
