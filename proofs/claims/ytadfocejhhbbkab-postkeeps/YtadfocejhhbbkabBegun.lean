/- The contract of the laws' own first look, countBegun: it answers true. -/
import Derived.Test.YtadfocejhhbbkabWalks4
namespace Go.Proofs.Ytadfocejhhbbkab
open Go.RowKit

end Go.Proofs.Ytadfocejhhbbkab
