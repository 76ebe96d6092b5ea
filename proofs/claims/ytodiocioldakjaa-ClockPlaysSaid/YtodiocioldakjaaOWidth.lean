/- What isWidth answers. -/
import Derived.Test.YtodiocioldakjaaRows
import Derived.Test.YtodiocioldakjaaOWords
namespace Go.Proofs.Ytodiocioldakjaa
open Go.RowKit

end Go.Proofs.Ytodiocioldakjaa
