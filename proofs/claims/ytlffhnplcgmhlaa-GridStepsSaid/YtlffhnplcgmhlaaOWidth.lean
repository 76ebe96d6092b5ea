/- What isWidth answers. -/
import Derived.Test.YtlffhnplcgmhlaaRows
import Derived.Test.YtlffhnplcgmhlaaOWords
namespace Go.Proofs.Ytlffhnplcgmhlaa
open Go.RowKit

end Go.Proofs.Ytlffhnplcgmhlaa
