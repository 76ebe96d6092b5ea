/- What isWidth answers. -/
import Derived.Test.YtnegbiofnjdfaaaRows
import Derived.Test.YtnegbiofnjdfaaaOWords
namespace Go.Proofs.Ytnegbiofnjdfaaa
open Go.RowKit

end Go.Proofs.Ytnegbiofnjdfaaa
