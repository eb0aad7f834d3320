/- The contracts of post.New, Len and List. -/
import Derived.Test.YtndggiefgpdiiacMSame
namespace Go.Proofs.Ytndggiefgpdiiac
open Go.RowKit

end Go.Proofs.Ytndggiefgpdiiac
