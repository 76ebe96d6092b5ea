/- What isWidth answers. -/
import Derived.Test.YtgpmimohoepeiaaRows
import Derived.Test.YtgpmimohoepeiaaOWords
namespace Go.Proofs.Ytgpmimohoepeiaa
open Go.RowKit

end Go.Proofs.Ytgpmimohoepeiaa
