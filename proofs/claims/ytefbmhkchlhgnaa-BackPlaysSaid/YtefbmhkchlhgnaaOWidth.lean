/- What isWidth answers. -/
import Derived.Test.YtefbmhkchlhgnaaRows
import Derived.Test.YtefbmhkchlhgnaaOWords
namespace Go.Proofs.Ytefbmhkchlhgnaa
open Go.RowKit

end Go.Proofs.Ytefbmhkchlhgnaa
