/- The contract of the laws' own first look, countBegun: it answers true. -/
import Derived.Test.YtndggiefgpdiiacWalks4
namespace Go.Proofs.Ytndggiefgpdiiac
open Go.RowKit

end Go.Proofs.Ytndggiefgpdiiac
