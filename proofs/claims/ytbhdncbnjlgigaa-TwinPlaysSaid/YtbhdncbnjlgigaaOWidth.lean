/- What isWidth answers. -/
import Derived.Test.YtbhdncbnjlgigaaRows
import Derived.Test.YtbhdncbnjlgigaaOWords
namespace Go.Proofs.Ytbhdncbnjlgigaa
open Go.RowKit

end Go.Proofs.Ytbhdncbnjlgigaa
