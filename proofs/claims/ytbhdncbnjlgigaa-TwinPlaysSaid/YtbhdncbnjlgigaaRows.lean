/-
  No cell of these rows narrows 'for every input' (looked for: loops, veiled, ifaces, maps, wideKeys, modest, calm, conditions, laid).
  DERIVED. THE GIVEN ROWS OF THIS SEAT. 4 by the template 'for every input the law returns true; each argument reads behind the call as it read before'; 0 by the template 'total and deterministic' (their statements: YtbhdncbnjlgigaaTotals.lean).
  GIVEN WITH THE SEED: the statements are not yours to turn. If you find one false, say at which input.
  Laid BY PROGRAM, IN A SANDBOX (cutbox-rows.mjs): the forced cells as the released guide's own fill.sh prints them over the translation ee0edbfbd24cedda… (all of the seat's roots in one cut). By AI agents, Wed Nov 11 2026. No macro, syntax, notation, axiom, sorry.
-/
import Derived.Test.YtbhdncbnjlgigaaChecked
import GoSem.Claim
import GoSem.ClaimJoined
import GoSem.ClaimMapViews
import Derived.JoinedTies
import Derived.KernelRfl
namespace Go.Proofs.Ytbhdncbnjlgigaa
/- THE CELL 'sum', in the pinned program and in every row, IS THE sha256 OF THE DUMP (.gsa) THAT YtbhdncbnjlgigaaProg.lean LOADS. Nothing in Lean hashes anything: it is a label: what it is worth is what the hold of that sum in a sandbox is worth. -/
noncomputable def Try.pinned : Pinned := { name := "ytbhdncbnjlgigaa", sum := "ee0edbfbd24cedda694d4e67d8a94896e3beba32d9c8fd238a7c7e431c3ad186", checked := Try.checked }
namespace Rows
def none {H : Type} : Left H := { results := [], args := [] }

/-- 'antiphonlaw14.TwinKnown': WHATEVER THE INPUT: true; the input reads as it did. -/
def twinKnownSpec : ChangeSpec := { name := "twinKnown", fn := fun _ => fun
  | [] => { results := [.lit (.bool true)], args := [] }
  | _ => none }
def twinKnownRow : OpenClaim := { program := "ytbhdncbnjlgigaa", sum := "ee0edbfbd24cedda694d4e67d8a94896e3beba32d9c8fd238a7c7e431c3ad186", func := "antiphon/antiphonlaw14.TwinKnown", spec := "twinKnown", unfollowed := true, recurses := true, apart := false }
def TwinKnownSaid : Prop := twinKnownRow.holds Try.pinned (OpenSpec.ofChange twinKnownSpec)

/-- ITS FALSE NEIGHBOUR: 'it returns false'. Refute it at one input. -/
def twinKnownWrong : ChangeSpec := { name := "twinKnown", fn := fun _ => fun
  | [] => { results := [.lit (.bool false)], args := [] }
  | _ => none }
def TwinKnownWrongFalsely : Prop := twinKnownRow.holds Try.pinned (OpenSpec.ofChange twinKnownWrong)

/-- 'antiphonlaw14.TwinPlays': WHATEVER THE INPUT: true; the input reads as it did. -/
def twinPlaysSpec : ChangeSpec := { name := "twinPlays", fn := fun _ => fun
  | [d1, d2, d3] => { results := [.lit (.bool true)], args := [d1, d2, d3] }
  | _ => none }
def twinPlaysRow : OpenClaim := { program := "ytbhdncbnjlgigaa", sum := "ee0edbfbd24cedda694d4e67d8a94896e3beba32d9c8fd238a7c7e431c3ad186", func := "antiphon/antiphonlaw14.TwinPlays", spec := "twinPlays", unfollowed := true, recurses := true, apart := false }
def TwinPlaysSaid : Prop := twinPlaysRow.holds Try.pinned (OpenSpec.ofChange twinPlaysSpec)

/-- ITS FALSE NEIGHBOUR: 'it returns false'. Refute it at one input. -/
def twinPlaysWrong : ChangeSpec := { name := "twinPlays", fn := fun _ => fun
  | [d1, d2, d3] => { results := [.lit (.bool false)], args := [d1, d2, d3] }
  | _ => none }
def TwinPlaysWrongFalsely : Prop := twinPlaysRow.holds Try.pinned (OpenSpec.ofChange twinPlaysWrong)

/-- 'antiphonlaw14.TwinEnds': WHATEVER THE INPUT: true; the input reads as it did. -/
def twinEndsSpec : ChangeSpec := { name := "twinEnds", fn := fun _ => fun
  | [d1, d2, d3] => { results := [.lit (.bool true)], args := [d1, d2, d3] }
  | _ => none }
def twinEndsRow : OpenClaim := { program := "ytbhdncbnjlgigaa", sum := "ee0edbfbd24cedda694d4e67d8a94896e3beba32d9c8fd238a7c7e431c3ad186", func := "antiphon/antiphonlaw14.TwinEnds", spec := "twinEnds", unfollowed := true, recurses := true, apart := false }
def TwinEndsSaid : Prop := twinEndsRow.holds Try.pinned (OpenSpec.ofChange twinEndsSpec)

/-- ITS FALSE NEIGHBOUR: 'it returns false'. Refute it at one input. -/
def twinEndsWrong : ChangeSpec := { name := "twinEnds", fn := fun _ => fun
  | [d1, d2, d3] => { results := [.lit (.bool false)], args := [d1, d2, d3] }
  | _ => none }
def TwinEndsWrongFalsely : Prop := twinEndsRow.holds Try.pinned (OpenSpec.ofChange twinEndsWrong)

/-- 'antiphonlaw14.TwinHears': WHATEVER THE INPUT: true; the input reads as it did. -/
def twinHearsSpec : ChangeSpec := { name := "twinHears", fn := fun _ => fun
  | [d1, d2, d3] => { results := [.lit (.bool true)], args := [d1, d2, d3] }
  | _ => none }
def twinHearsRow : OpenClaim := { program := "ytbhdncbnjlgigaa", sum := "ee0edbfbd24cedda694d4e67d8a94896e3beba32d9c8fd238a7c7e431c3ad186", func := "antiphon/antiphonlaw14.TwinHears", spec := "twinHears", unfollowed := true, recurses := true, apart := false }
def TwinHearsSaid : Prop := twinHearsRow.holds Try.pinned (OpenSpec.ofChange twinHearsSpec)

/-- ITS FALSE NEIGHBOUR: 'it returns false'. Refute it at one input. -/
def twinHearsWrong : ChangeSpec := { name := "twinHears", fn := fun _ => fun
  | [d1, d2, d3] => { results := [.lit (.bool false)], args := [d1, d2, d3] }
  | _ => none }
def TwinHearsWrongFalsely : Prop := twinHearsRow.holds Try.pinned (OpenSpec.ofChange twinHearsWrong)

/- THE SECOND FORM. 'bulk': how many values and letters a reading holds, each counted each time it is reached (what is shared counts as often as it is met; a slice's spare places count too). A statement '..UptoSaid' is the law's where the arguments, and the package variables that the reading takes, are together of bulk at most 1048576: NARROWER than '..Said'. Prove '..Said' where nothing that the law and all that it calls make is longer than what came in: it says more and counts as full. Else prove '..UptoSaid'. A law counts once. -/
mutual
def uptoBulk {H : Type} : DataW H → Nat
  | .lit (.string bytes) => bytes.length + 1
  | .lit _ => 1
  | .nil => 1
  | .ptr d => uptoBulk d + 1
  | .slice elems spare => uptoBulkAll elems + uptoBulkAll spare + 1
  | .agg parts => uptoBulkAll parts + 1
  | .iface _ d => uptoBulk d + 1
  | .map entries => uptoBulkEntries entries + 1
  | .held _ => 1
def uptoBulkAll {H : Type} : List (DataW H) → Nat
  | [] => 0
  | d :: r => uptoBulk d + uptoBulkAll r
def uptoBulkEntries {H : Type} : List (Lit × DataW H) → Nat
  | [] => 0
  | x :: r => uptoBulkEntry x + uptoBulkEntries r
def uptoBulkEntry {H : Type} : Lit × DataW H → Nat
  | (.string bytes, d) => bytes.length + uptoBulk d + 1
  | (_, d) => uptoBulk d + 1
 end
def uptoSmall : (H : Type) → List (DataW H) → Bool := fun _ ds => decide (uptoBulkAll ds ≤ 1048576)
def OpenSpec.upto (s : _root_.Go.ChangeSpec) : _root_.Go.OpenSpec := { _root_.Go.OpenSpec.ofChange s with cond := some uptoSmall }

/-- 'antiphonlaw14.TwinKnown', WHERE WHAT IT READS IS OF BULK AT MOST 1048576: true; the input reads as it did. -/
def twinKnownUptoRow : OpenClaim := { program := "ytbhdncbnjlgigaa", sum := "ee0edbfbd24cedda694d4e67d8a94896e3beba32d9c8fd238a7c7e431c3ad186", func := "antiphon/antiphonlaw14.TwinKnown", spec := "twinKnown", unfollowed := true, recurses := true, apart := false, narrowed := true }
def TwinKnownUptoSaid : Prop := twinKnownUptoRow.holds Try.pinned (OpenSpec.upto twinKnownSpec)

/-- 'antiphonlaw14.TwinPlays', WHERE WHAT IT READS IS OF BULK AT MOST 1048576: true; the input reads as it did. -/
def twinPlaysUptoRow : OpenClaim := { program := "ytbhdncbnjlgigaa", sum := "ee0edbfbd24cedda694d4e67d8a94896e3beba32d9c8fd238a7c7e431c3ad186", func := "antiphon/antiphonlaw14.TwinPlays", spec := "twinPlays", unfollowed := true, recurses := true, apart := false, narrowed := true }
def TwinPlaysUptoSaid : Prop := twinPlaysUptoRow.holds Try.pinned (OpenSpec.upto twinPlaysSpec)

/-- 'antiphonlaw14.TwinEnds', WHERE WHAT IT READS IS OF BULK AT MOST 1048576: true; the input reads as it did. -/
def twinEndsUptoRow : OpenClaim := { program := "ytbhdncbnjlgigaa", sum := "ee0edbfbd24cedda694d4e67d8a94896e3beba32d9c8fd238a7c7e431c3ad186", func := "antiphon/antiphonlaw14.TwinEnds", spec := "twinEnds", unfollowed := true, recurses := true, apart := false, narrowed := true }
def TwinEndsUptoSaid : Prop := twinEndsUptoRow.holds Try.pinned (OpenSpec.upto twinEndsSpec)

/-- 'antiphonlaw14.TwinHears', WHERE WHAT IT READS IS OF BULK AT MOST 1048576: true; the input reads as it did. -/
def twinHearsUptoRow : OpenClaim := { program := "ytbhdncbnjlgigaa", sum := "ee0edbfbd24cedda694d4e67d8a94896e3beba32d9c8fd238a7c7e431c3ad186", func := "antiphon/antiphonlaw14.TwinHears", spec := "twinHears", unfollowed := true, recurses := true, apart := false, narrowed := true }
def TwinHearsUptoSaid : Prop := twinHearsUptoRow.holds Try.pinned (OpenSpec.upto twinHearsSpec)

end Rows
end Go.Proofs.Ytbhdncbnjlgigaa
