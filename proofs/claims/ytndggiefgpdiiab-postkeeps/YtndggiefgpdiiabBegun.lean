/- The contract of the laws' own first look, countBegun: it answers true. -/
import Derived.Test.YtndggiefgpdiiabWalks4
namespace Go.Proofs.Ytndggiefgpdiiab
open Go.RowKit

end Go.Proofs.Ytndggiefgpdiiab
