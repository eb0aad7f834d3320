/- The contracts of End and of the document's Ended, way by way. -/
import Derived.Test.YtndggiefgpdiiacWalks1
namespace Go.Proofs.Ytndggiefgpdiiac
open Go.RowKit

end Go.Proofs.Ytndggiefgpdiiac
