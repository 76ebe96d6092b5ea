/- What isWidth answers. -/
import Derived.Test.YtdjfnhplbhhgiaaRows
import Derived.Test.YtdjfnhplbhhgiaaOWords
namespace Go.Proofs.Ytdjfnhplbhhgiaa
open Go.RowKit

end Go.Proofs.Ytdjfnhplbhhgiaa
