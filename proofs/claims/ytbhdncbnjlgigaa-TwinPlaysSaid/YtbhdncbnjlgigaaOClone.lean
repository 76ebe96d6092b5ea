/- What bytes.Clone and the document's Copy hand back. -/
import Derived.Test.YtbhdncbnjlgigaaOPut
namespace Go.Proofs.Ytbhdncbnjlgigaa
open Go.RowKit

end Go.Proofs.Ytbhdncbnjlgigaa
