/- What isWidth answers. -/
import Derived.Test.YteobanbcjnahaaaRows
import Derived.Test.YteobanbcjnahaaaOWords
namespace Go.Proofs.Yteobanbcjnahaaa
open Go.RowKit

end Go.Proofs.Yteobanbcjnahaaa
