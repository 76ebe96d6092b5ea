/- What isWidth answers. -/
import Derived.Test.YtjkgiepfglimcaaRows
import Derived.Test.YtjkgiepfglimcaaOWords
namespace Go.Proofs.Ytjkgiepfglimcaa
open Go.RowKit

end Go.Proofs.Ytjkgiepfglimcaa
