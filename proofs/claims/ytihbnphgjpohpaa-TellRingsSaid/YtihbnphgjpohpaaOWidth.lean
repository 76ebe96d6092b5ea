/- What isWidth answers. -/
import Derived.Test.YtihbnphgjpohpaaRows
import Derived.Test.YtihbnphgjpohpaaOWords
namespace Go.Proofs.Ytihbnphgjpohpaa
open Go.RowKit

end Go.Proofs.Ytihbnphgjpohpaa
