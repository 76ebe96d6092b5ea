/-
  No cell of these rows narrows 'for every input' (looked for: loops, veiled, ifaces, maps, wideKeys, modest, calm, conditions, laid).
  DERIVED. THE GIVEN ROWS OF THIS SEAT. 4 by the template 'for every input the law returns true; each argument reads behind the call as it read before'; 0 by the template 'total and deterministic' (their statements: YtkidacfodpoapaaTotals.lean).
  GIVEN WITH THE SEED: the statements are not yours to turn. If you find one false, say at which input.
  Laid BY PROGRAM, IN A SANDBOX (cutbox-rows.mjs): the forced cells as the released guide's own fill.sh prints them over the translation 10f9e139668b92eb… (all of the seat's roots in one cut). By AI agents, Wed Nov 11 2026. No macro, syntax, notation, axiom, sorry.
-/
import Derived.Test.YtkidacfodpoapaaChecked
import GoSem.Claim
import GoSem.ClaimJoined
import GoSem.ClaimMapViews
import Derived.JoinedTies
import Derived.KernelRfl
namespace Go.Proofs.Ytkidacfodpoapaa
/- THE CELL 'sum', in the pinned program and in every row, IS THE sha256 OF THE DUMP (.gsa) THAT YtkidacfodpoapaaProg.lean LOADS. Nothing in Lean hashes anything: it is a label: what it is worth is what the hold of that sum in a sandbox is worth. -/
noncomputable def Try.pinned : Pinned := { name := "ytkidacfodpoapaa", sum := "10f9e139668b92eb8f6506866a4c56cb821cbb6ca355f52006346421b4fc268a", checked := Try.checked }
namespace Rows
def none {H : Type} : Left H := { results := [], args := [] }

/-- 'antiphonlaw7.FieldKnown': WHATEVER THE INPUT: true; the input reads as it did. -/
def fieldKnownSpec : ChangeSpec := { name := "fieldKnown", fn := fun _ => fun
  | [] => { results := [.lit (.bool true)], args := [] }
  | _ => none }
def fieldKnownRow : OpenClaim := { program := "ytkidacfodpoapaa", sum := "10f9e139668b92eb8f6506866a4c56cb821cbb6ca355f52006346421b4fc268a", func := "antiphon/antiphonlaw7.FieldKnown", spec := "fieldKnown", apart := false }
def FieldKnownSaid : Prop := fieldKnownRow.holds Try.pinned (OpenSpec.ofChange fieldKnownSpec)

/-- ITS FALSE NEIGHBOUR: 'it returns false'. Refute it at one input. -/
def fieldKnownWrong : ChangeSpec := { name := "fieldKnown", fn := fun _ => fun
  | [] => { results := [.lit (.bool false)], args := [] }
  | _ => none }
def FieldKnownWrongFalsely : Prop := fieldKnownRow.holds Try.pinned (OpenSpec.ofChange fieldKnownWrong)

/-- 'antiphonlaw7.FieldReasons': WHATEVER THE INPUT: true; the input reads as it did. -/
def fieldReasonsSpec : ChangeSpec := { name := "fieldReasons", fn := fun _ => fun
  | [d1, d2] => { results := [.lit (.bool true)], args := [d1, d2] }
  | _ => none }
def fieldReasonsRow : OpenClaim := { program := "ytkidacfodpoapaa", sum := "10f9e139668b92eb8f6506866a4c56cb821cbb6ca355f52006346421b4fc268a", func := "antiphon/antiphonlaw7.FieldReasons", spec := "fieldReasons", apart := false }
def FieldReasonsSaid : Prop := fieldReasonsRow.holds Try.pinned (OpenSpec.ofChange fieldReasonsSpec)

/-- ITS FALSE NEIGHBOUR: 'it returns false'. Refute it at one input. -/
def fieldReasonsWrong : ChangeSpec := { name := "fieldReasons", fn := fun _ => fun
  | [d1, d2] => { results := [.lit (.bool false)], args := [d1, d2] }
  | _ => none }
def FieldReasonsWrongFalsely : Prop := fieldReasonsRow.holds Try.pinned (OpenSpec.ofChange fieldReasonsWrong)

/-- 'antiphonlaw7.FieldClasses': WHATEVER THE INPUT: true; the input reads as it did. -/
def fieldClassesSpec : ChangeSpec := { name := "fieldClasses", fn := fun _ => fun
  | [d1, d2, d3] => { results := [.lit (.bool true)], args := [d1, d2, d3] }
  | _ => none }
def fieldClassesRow : OpenClaim := { program := "ytkidacfodpoapaa", sum := "10f9e139668b92eb8f6506866a4c56cb821cbb6ca355f52006346421b4fc268a", func := "antiphon/antiphonlaw7.FieldClasses", spec := "fieldClasses", apart := false }
def FieldClassesSaid : Prop := fieldClassesRow.holds Try.pinned (OpenSpec.ofChange fieldClassesSpec)

/-- ITS FALSE NEIGHBOUR: 'it returns false'. Refute it at one input. -/
def fieldClassesWrong : ChangeSpec := { name := "fieldClasses", fn := fun _ => fun
  | [d1, d2, d3] => { results := [.lit (.bool false)], args := [d1, d2, d3] }
  | _ => none }
def FieldClassesWrongFalsely : Prop := fieldClassesRow.holds Try.pinned (OpenSpec.ofChange fieldClassesWrong)

/-- 'antiphonlaw7.FieldBack': WHATEVER THE INPUT: true; the input reads as it did. -/
def fieldBackSpec : ChangeSpec := { name := "fieldBack", fn := fun _ => fun
  | [d1, d2, d3] => { results := [.lit (.bool true)], args := [d1, d2, d3] }
  | _ => none }
def fieldBackRow : OpenClaim := { program := "ytkidacfodpoapaa", sum := "10f9e139668b92eb8f6506866a4c56cb821cbb6ca355f52006346421b4fc268a", func := "antiphon/antiphonlaw7.FieldBack", spec := "fieldBack", apart := false }
def FieldBackSaid : Prop := fieldBackRow.holds Try.pinned (OpenSpec.ofChange fieldBackSpec)

/-- ITS FALSE NEIGHBOUR: 'it returns false'. Refute it at one input. -/
def fieldBackWrong : ChangeSpec := { name := "fieldBack", fn := fun _ => fun
  | [d1, d2, d3] => { results := [.lit (.bool false)], args := [d1, d2, d3] }
  | _ => none }
def FieldBackWrongFalsely : Prop := fieldBackRow.holds Try.pinned (OpenSpec.ofChange fieldBackWrong)

/- THE SECOND FORM. 'bulk': how many values and letters a reading holds, each counted each time it is reached (what is shared counts as often as it is met; a slice's spare places count too). A statement '..UptoSaid' is the law's where the arguments, and the package variables that the reading takes, are together of bulk at most 1048576: NARROWER than '..Said'. Prove '..Said' where nothing that the law and all that it calls make is longer than what came in: it says more and counts as full. Else prove '..UptoSaid'. A law counts once. -/
mutual
def uptoBulk {H : Type} : DataW H → Nat
  | .lit (.string bytes) => bytes.length + 1
  | .lit _ => 1
  | .nil => 1
  | .ptr d => uptoBulk d + 1
  | .slice elems spare => uptoBulkAll elems + uptoBulkAll spare + 1
  | .agg parts => uptoBulkAll parts + 1
  | .iface _ d => uptoBulk d + 1
  | .map entries => uptoBulkEntries entries + 1
  | .held _ => 1
def uptoBulkAll {H : Type} : List (DataW H) → Nat
  | [] => 0
  | d :: r => uptoBulk d + uptoBulkAll r
def uptoBulkEntries {H : Type} : List (Lit × DataW H) → Nat
  | [] => 0
  | x :: r => uptoBulkEntry x + uptoBulkEntries r
def uptoBulkEntry {H : Type} : Lit × DataW H → Nat
  | (.string bytes, d) => bytes.length + uptoBulk d + 1
  | (_, d) => uptoBulk d + 1
 end
def uptoSmall : (H : Type) → List (DataW H) → Bool := fun _ ds => decide (uptoBulkAll ds ≤ 1048576)
def OpenSpec.upto (s : _root_.Go.ChangeSpec) : _root_.Go.OpenSpec := { _root_.Go.OpenSpec.ofChange s with cond := some uptoSmall }

/-- 'antiphonlaw7.FieldKnown', WHERE WHAT IT READS IS OF BULK AT MOST 1048576: true; the input reads as it did. -/
def fieldKnownUptoRow : OpenClaim := { program := "ytkidacfodpoapaa", sum := "10f9e139668b92eb8f6506866a4c56cb821cbb6ca355f52006346421b4fc268a", func := "antiphon/antiphonlaw7.FieldKnown", spec := "fieldKnown", apart := false, narrowed := true }
def FieldKnownUptoSaid : Prop := fieldKnownUptoRow.holds Try.pinned (OpenSpec.upto fieldKnownSpec)

/-- 'antiphonlaw7.FieldReasons', WHERE WHAT IT READS IS OF BULK AT MOST 1048576: true; the input reads as it did. -/
def fieldReasonsUptoRow : OpenClaim := { program := "ytkidacfodpoapaa", sum := "10f9e139668b92eb8f6506866a4c56cb821cbb6ca355f52006346421b4fc268a", func := "antiphon/antiphonlaw7.FieldReasons", spec := "fieldReasons", apart := false, narrowed := true }
def FieldReasonsUptoSaid : Prop := fieldReasonsUptoRow.holds Try.pinned (OpenSpec.upto fieldReasonsSpec)

/-- 'antiphonlaw7.FieldClasses', WHERE WHAT IT READS IS OF BULK AT MOST 1048576: true; the input reads as it did. -/
def fieldClassesUptoRow : OpenClaim := { program := "ytkidacfodpoapaa", sum := "10f9e139668b92eb8f6506866a4c56cb821cbb6ca355f52006346421b4fc268a", func := "antiphon/antiphonlaw7.FieldClasses", spec := "fieldClasses", apart := false, narrowed := true }
def FieldClassesUptoSaid : Prop := fieldClassesUptoRow.holds Try.pinned (OpenSpec.upto fieldClassesSpec)

/-- 'antiphonlaw7.FieldBack', WHERE WHAT IT READS IS OF BULK AT MOST 1048576: true; the input reads as it did. -/
def fieldBackUptoRow : OpenClaim := { program := "ytkidacfodpoapaa", sum := "10f9e139668b92eb8f6506866a4c56cb821cbb6ca355f52006346421b4fc268a", func := "antiphon/antiphonlaw7.FieldBack", spec := "fieldBack", apart := false, narrowed := true }
def FieldBackUptoSaid : Prop := fieldBackUptoRow.holds Try.pinned (OpenSpec.upto fieldBackSpec)

end Rows
end Go.Proofs.Ytkidacfodpoapaa
