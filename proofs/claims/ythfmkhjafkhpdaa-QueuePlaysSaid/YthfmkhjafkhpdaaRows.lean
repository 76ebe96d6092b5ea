/-
  No cell of these rows narrows 'for every input' (looked for: loops, veiled, ifaces, maps, wideKeys, modest, calm, conditions, laid).
  DERIVED. THE GIVEN ROWS OF THIS SEAT. 6 by the template 'for every input the law returns true; each argument reads behind the call as it read before'; 0 by the template 'total and deterministic' (their statements: YthfmkhjafkhpdaaTotals.lean).
  GIVEN WITH THE SEED: the statements are not yours to turn. If you find one false, say at which input.
  Laid BY PROGRAM, IN A SANDBOX (cutbox-rows.mjs): the forced cells as the released guide's own fill.sh prints them over the translation 9987a7f4d4d3e320… (all of the seat's roots in one cut). By AI agents, Wed Nov 11 2026. No macro, syntax, notation, axiom, sorry.
-/
import Derived.Test.YthfmkhjafkhpdaaChecked
import GoSem.Claim
import GoSem.ClaimJoined
import GoSem.ClaimMapViews
import Derived.JoinedTies
import Derived.KernelRfl
namespace Go.Proofs.Ythfmkhjafkhpdaa
/- THE CELL 'sum', in the pinned program and in every row, IS THE sha256 OF THE DUMP (.gsa) THAT YthfmkhjafkhpdaaProg.lean LOADS. Nothing in Lean hashes anything: it is a label: what it is worth is what the hold of that sum in a sandbox is worth. -/
noncomputable def Try.pinned : Pinned := { name := "ythfmkhjafkhpdaa", sum := "9987a7f4d4d3e320dfb7d268c9d99764821848daf3cfe388dc6db5556d8328f6", checked := Try.checked }
namespace Rows
def none {H : Type} : Left H := { results := [], args := [] }

/-- 'antiphonlaw4.QueueKnown': WHATEVER THE INPUT: true; the input reads as it did. -/
def queueKnownSpec : ChangeSpec := { name := "queueKnown", fn := fun _ => fun
  | [] => { results := [.lit (.bool true)], args := [] }
  | _ => none }
def queueKnownRow : OpenClaim := { program := "ythfmkhjafkhpdaa", sum := "9987a7f4d4d3e320dfb7d268c9d99764821848daf3cfe388dc6db5556d8328f6", func := "antiphon/antiphonlaw4.QueueKnown", spec := "queueKnown", inPlace := ["slices.overlaps[*antiphon/queue.cell[int]]", "slices.overlaps[*antiphon/queue.cell[string]]"], apart := false }
def QueueKnownSaid : Prop := queueKnownRow.holds Try.pinned (OpenSpec.ofChange queueKnownSpec)

/-- ITS FALSE NEIGHBOUR: 'it returns false'. Refute it at one input. -/
def queueKnownWrong : ChangeSpec := { name := "queueKnown", fn := fun _ => fun
  | [] => { results := [.lit (.bool false)], args := [] }
  | _ => none }
def QueueKnownWrongFalsely : Prop := queueKnownRow.holds Try.pinned (OpenSpec.ofChange queueKnownWrong)

/-- 'antiphonlaw4.QueuePlays': WHATEVER THE INPUT: true; the input reads as it did. -/
def queuePlaysSpec : ChangeSpec := { name := "queuePlays", fn := fun _ => fun
  | [d1, d2] => { results := [.lit (.bool true)], args := [d1, d2] }
  | _ => none }
def queuePlaysRow : OpenClaim := { program := "ythfmkhjafkhpdaa", sum := "9987a7f4d4d3e320dfb7d268c9d99764821848daf3cfe388dc6db5556d8328f6", func := "antiphon/antiphonlaw4.QueuePlays", spec := "queuePlays", inPlace := ["slices.overlaps[*antiphon/queue.cell[int]]"], unfollowed := true, recurses := true, apart := false }
def QueuePlaysSaid : Prop := queuePlaysRow.holds Try.pinned (OpenSpec.ofChange queuePlaysSpec)

/-- ITS FALSE NEIGHBOUR: 'it returns false'. Refute it at one input. -/
def queuePlaysWrong : ChangeSpec := { name := "queuePlays", fn := fun _ => fun
  | [d1, d2] => { results := [.lit (.bool false)], args := [d1, d2] }
  | _ => none }
def QueuePlaysWrongFalsely : Prop := queuePlaysRow.holds Try.pinned (OpenSpec.ofChange queuePlaysWrong)

/-- 'antiphonlaw4.QueueRows': WHATEVER THE INPUT: true; the input reads as it did. -/
def queueRowsSpec : ChangeSpec := { name := "queueRows", fn := fun _ => fun
  | [d1, d2] => { results := [.lit (.bool true)], args := [d1, d2] }
  | _ => none }
def queueRowsRow : OpenClaim := { program := "ythfmkhjafkhpdaa", sum := "9987a7f4d4d3e320dfb7d268c9d99764821848daf3cfe388dc6db5556d8328f6", func := "antiphon/antiphonlaw4.QueueRows", spec := "queueRows", inPlace := ["slices.overlaps[*antiphon/queue.cell[int]]", "slices.overlaps[*antiphon/queue.cell[[]byte]]"], apart := false }
def QueueRowsSaid : Prop := queueRowsRow.holds Try.pinned (OpenSpec.ofChange queueRowsSpec)

/-- ITS FALSE NEIGHBOUR: 'it returns false'. Refute it at one input. -/
def queueRowsWrong : ChangeSpec := { name := "queueRows", fn := fun _ => fun
  | [d1, d2] => { results := [.lit (.bool false)], args := [d1, d2] }
  | _ => none }
def QueueRowsWrongFalsely : Prop := queueRowsRow.holds Try.pinned (OpenSpec.ofChange queueRowsWrong)

/-- 'antiphonlaw4.QueueWalks': WHATEVER THE INPUT: true; the input reads as it did. -/
def queueWalksSpec : ChangeSpec := { name := "queueWalks", fn := fun _ => fun
  | [d1, d2, d3] => { results := [.lit (.bool true)], args := [d1, d2, d3] }
  | _ => none }
def queueWalksRow : OpenClaim := { program := "ythfmkhjafkhpdaa", sum := "9987a7f4d4d3e320dfb7d268c9d99764821848daf3cfe388dc6db5556d8328f6", func := "antiphon/antiphonlaw4.QueueWalks", spec := "queueWalks", inPlace := ["slices.overlaps[*antiphon/queue.cell[int]]"], unfollowed := true, recurses := true, apart := false }
def QueueWalksSaid : Prop := queueWalksRow.holds Try.pinned (OpenSpec.ofChange queueWalksSpec)

/-- ITS FALSE NEIGHBOUR: 'it returns false'. Refute it at one input. -/
def queueWalksWrong : ChangeSpec := { name := "queueWalks", fn := fun _ => fun
  | [d1, d2, d3] => { results := [.lit (.bool false)], args := [d1, d2, d3] }
  | _ => none }
def QueueWalksWrongFalsely : Prop := queueWalksRow.holds Try.pinned (OpenSpec.ofChange queueWalksWrong)

/-- 'antiphonlaw4.QueueMoves': WHATEVER THE INPUT: true; the input reads as it did. -/
def queueMovesSpec : ChangeSpec := { name := "queueMoves", fn := fun _ => fun
  | [d1, d2] => { results := [.lit (.bool true)], args := [d1, d2] }
  | _ => none }
def queueMovesRow : OpenClaim := { program := "ythfmkhjafkhpdaa", sum := "9987a7f4d4d3e320dfb7d268c9d99764821848daf3cfe388dc6db5556d8328f6", func := "antiphon/antiphonlaw4.QueueMoves", spec := "queueMoves", inPlace := ["slices.overlaps[*antiphon/queue.cell[int]]"], unfollowed := true, recurses := true, apart := false }
def QueueMovesSaid : Prop := queueMovesRow.holds Try.pinned (OpenSpec.ofChange queueMovesSpec)

/-- ITS FALSE NEIGHBOUR: 'it returns false'. Refute it at one input. -/
def queueMovesWrong : ChangeSpec := { name := "queueMoves", fn := fun _ => fun
  | [d1, d2] => { results := [.lit (.bool false)], args := [d1, d2] }
  | _ => none }
def QueueMovesWrongFalsely : Prop := queueMovesRow.holds Try.pinned (OpenSpec.ofChange queueMovesWrong)

/-- 'antiphonlaw4.QueueApart': WHATEVER THE INPUT: true; the input reads as it did. -/
def queueApartSpec : ChangeSpec := { name := "queueApart", fn := fun _ => fun
  | [d] => { results := [.lit (.bool true)], args := [d] }
  | _ => none }
def queueApartRow : OpenClaim := { program := "ythfmkhjafkhpdaa", sum := "9987a7f4d4d3e320dfb7d268c9d99764821848daf3cfe388dc6db5556d8328f6", func := "antiphon/antiphonlaw4.QueueApart", spec := "queueApart", inPlace := ["slices.overlaps[*antiphon/queue.cell[int]]", "slices.overlaps[*antiphon/queue.cell[string]]"], unfollowed := true, recurses := true, apart := false }
def QueueApartSaid : Prop := queueApartRow.holds Try.pinned (OpenSpec.ofChange queueApartSpec)

/-- ITS FALSE NEIGHBOUR: 'it returns false'. Refute it at one input. -/
def queueApartWrong : ChangeSpec := { name := "queueApart", fn := fun _ => fun
  | [d] => { results := [.lit (.bool false)], args := [d] }
  | _ => none }
def QueueApartWrongFalsely : Prop := queueApartRow.holds Try.pinned (OpenSpec.ofChange queueApartWrong)

/- THE SECOND FORM. 'bulk': how many values and letters a reading holds, each counted each time it is reached (what is shared counts as often as it is met; a slice's spare places count too). A statement '..UptoSaid' is the law's where the arguments, and the package variables that the reading takes, are together of bulk at most 1048576: NARROWER than '..Said'. Prove '..Said' where nothing that the law and all that it calls make is longer than what came in: it says more and counts as full. Else prove '..UptoSaid'. A law counts once. -/
mutual
def uptoBulk {H : Type} : DataW H → Nat
  | .lit (.string bytes) => bytes.length + 1
  | .lit _ => 1
  | .nil => 1
  | .ptr d => uptoBulk d + 1
  | .slice elems spare => uptoBulkAll elems + uptoBulkAll spare + 1
  | .agg parts => uptoBulkAll parts + 1
  | .iface _ d => uptoBulk d + 1
  | .map entries => uptoBulkEntries entries + 1
  | .held _ => 1
def uptoBulkAll {H : Type} : List (DataW H) → Nat
  | [] => 0
  | d :: r => uptoBulk d + uptoBulkAll r
def uptoBulkEntries {H : Type} : List (Lit × DataW H) → Nat
  | [] => 0
  | x :: r => uptoBulkEntry x + uptoBulkEntries r
def uptoBulkEntry {H : Type} : Lit × DataW H → Nat
  | (.string bytes, d) => bytes.length + uptoBulk d + 1
  | (_, d) => uptoBulk d + 1
 end
def uptoSmall : (H : Type) → List (DataW H) → Bool := fun _ ds => decide (uptoBulkAll ds ≤ 1048576)
def OpenSpec.upto (s : _root_.Go.ChangeSpec) : _root_.Go.OpenSpec := { _root_.Go.OpenSpec.ofChange s with cond := some uptoSmall }

/-- 'antiphonlaw4.QueueKnown', WHERE WHAT IT READS IS OF BULK AT MOST 1048576: true; the input reads as it did. -/
def queueKnownUptoRow : OpenClaim := { program := "ythfmkhjafkhpdaa", sum := "9987a7f4d4d3e320dfb7d268c9d99764821848daf3cfe388dc6db5556d8328f6", func := "antiphon/antiphonlaw4.QueueKnown", spec := "queueKnown", inPlace := ["slices.overlaps[*antiphon/queue.cell[int]]", "slices.overlaps[*antiphon/queue.cell[string]]"], apart := false, narrowed := true }
def QueueKnownUptoSaid : Prop := queueKnownUptoRow.holds Try.pinned (OpenSpec.upto queueKnownSpec)

/-- 'antiphonlaw4.QueuePlays', WHERE WHAT IT READS IS OF BULK AT MOST 1048576: true; the input reads as it did. -/
def queuePlaysUptoRow : OpenClaim := { program := "ythfmkhjafkhpdaa", sum := "9987a7f4d4d3e320dfb7d268c9d99764821848daf3cfe388dc6db5556d8328f6", func := "antiphon/antiphonlaw4.QueuePlays", spec := "queuePlays", inPlace := ["slices.overlaps[*antiphon/queue.cell[int]]"], unfollowed := true, recurses := true, apart := false, narrowed := true }
def QueuePlaysUptoSaid : Prop := queuePlaysUptoRow.holds Try.pinned (OpenSpec.upto queuePlaysSpec)

/-- 'antiphonlaw4.QueueRows', WHERE WHAT IT READS IS OF BULK AT MOST 1048576: true; the input reads as it did. -/
def queueRowsUptoRow : OpenClaim := { program := "ythfmkhjafkhpdaa", sum := "9987a7f4d4d3e320dfb7d268c9d99764821848daf3cfe388dc6db5556d8328f6", func := "antiphon/antiphonlaw4.QueueRows", spec := "queueRows", inPlace := ["slices.overlaps[*antiphon/queue.cell[int]]", "slices.overlaps[*antiphon/queue.cell[[]byte]]"], apart := false, narrowed := true }
def QueueRowsUptoSaid : Prop := queueRowsUptoRow.holds Try.pinned (OpenSpec.upto queueRowsSpec)

/-- 'antiphonlaw4.QueueWalks', WHERE WHAT IT READS IS OF BULK AT MOST 1048576: true; the input reads as it did. -/
def queueWalksUptoRow : OpenClaim := { program := "ythfmkhjafkhpdaa", sum := "9987a7f4d4d3e320dfb7d268c9d99764821848daf3cfe388dc6db5556d8328f6", func := "antiphon/antiphonlaw4.QueueWalks", spec := "queueWalks", inPlace := ["slices.overlaps[*antiphon/queue.cell[int]]"], unfollowed := true, recurses := true, apart := false, narrowed := true }
def QueueWalksUptoSaid : Prop := queueWalksUptoRow.holds Try.pinned (OpenSpec.upto queueWalksSpec)

/-- 'antiphonlaw4.QueueMoves', WHERE WHAT IT READS IS OF BULK AT MOST 1048576: true; the input reads as it did. -/
def queueMovesUptoRow : OpenClaim := { program := "ythfmkhjafkhpdaa", sum := "9987a7f4d4d3e320dfb7d268c9d99764821848daf3cfe388dc6db5556d8328f6", func := "antiphon/antiphonlaw4.QueueMoves", spec := "queueMoves", inPlace := ["slices.overlaps[*antiphon/queue.cell[int]]"], unfollowed := true, recurses := true, apart := false, narrowed := true }
def QueueMovesUptoSaid : Prop := queueMovesUptoRow.holds Try.pinned (OpenSpec.upto queueMovesSpec)

/-- 'antiphonlaw4.QueueApart', WHERE WHAT IT READS IS OF BULK AT MOST 1048576: true; the input reads as it did. -/
def queueApartUptoRow : OpenClaim := { program := "ythfmkhjafkhpdaa", sum := "9987a7f4d4d3e320dfb7d268c9d99764821848daf3cfe388dc6db5556d8328f6", func := "antiphon/antiphonlaw4.QueueApart", spec := "queueApart", inPlace := ["slices.overlaps[*antiphon/queue.cell[int]]", "slices.overlaps[*antiphon/queue.cell[string]]"], unfollowed := true, recurses := true, apart := false, narrowed := true }
def QueueApartUptoSaid : Prop := queueApartUptoRow.holds Try.pinned (OpenSpec.upto queueApartSpec)

end Rows
end Go.Proofs.Ythfmkhjafkhpdaa
