/- How a unit's cells read, as a part of something longer. -/
import Derived.Deep.Slices
import Derived.Test.YtefbmhkchlhgnaaUIn
namespace Go.Proofs.Ytefbmhkchlhgnaa
open Go.RowKit
set_option linter.unusedVariables false

def wide64 (x : Int) : Prop := -9223372036854775808 ≤ x ∧ x ≤ 9223372036854775807
def PWide (p : PV) : Prop := wide64 p.to ∧ wide64 p.frm ∧ wide64 p.form ∧ wide64 p.kind ∧ wide64 p.ns ∧ wide64 p.nr
section
variable {H : Type} {enc : TypeId × Value → H} {W : World}
end
end Go.Proofs.Ytefbmhkchlhgnaa
