/-
  No cell of these rows narrows 'for every input' (looked for: loops, veiled, ifaces, maps, wideKeys, modest, calm, conditions, laid).
  DERIVED. THE GIVEN ROWS OF THIS SEAT. 7 by the template 'for every input the law returns true; each argument reads behind the call as it read before'; 0 by the template 'total and deterministic' (their statements: YtohegiphdgihpaaTotals.lean).
  GIVEN WITH THE SEED: the statements are not yours to turn. If you find one false, say at which input.
  Laid BY PROGRAM, IN A SANDBOX (cutbox-rows.mjs): the forced cells as the released guide's own fill.sh prints them over the translation f48a5610a290027e… (all of the seat's roots in one cut). By AI agents, Wed Nov 11 2026. No macro, syntax, notation, axiom, sorry.
-/
import Derived.Test.YtohegiphdgihpaaChecked
import GoSem.Claim
import GoSem.ClaimJoined
import GoSem.ClaimMapViews
import Derived.JoinedTies
import Derived.KernelRfl
namespace Go.Proofs.Ytohegiphdgihpaa
/- THE CELL 'sum', in the pinned program and in every row, IS THE sha256 OF THE DUMP (.gsa) THAT YtohegiphdgihpaaProg.lean LOADS. Nothing in Lean hashes anything: it is a label: what it is worth is what the hold of that sum in a sandbox is worth. -/
noncomputable def Try.pinned : Pinned := { name := "ytohegiphdgihpaa", sum := "f48a5610a290027e7bdd003134577dc1a48971c48036d8343e60ad747946b425", checked := Try.checked }
namespace Rows
def none {H : Type} : Left H := { results := [], args := [] }

/-- 'antiphonlaw6.PduKnown': WHATEVER THE INPUT: true; the input reads as it did. -/
def pduKnownSpec : ChangeSpec := { name := "pduKnown", fn := fun _ => fun
  | [] => { results := [.lit (.bool true)], args := [] }
  | _ => none }
def pduKnownRow : OpenClaim := { program := "ytohegiphdgihpaa", sum := "f48a5610a290027e7bdd003134577dc1a48971c48036d8343e60ad747946b425", func := "antiphon/antiphonlaw6.PduKnown", spec := "pduKnown", unfollowed := true, recurses := true, apart := false }
def PduKnownSaid : Prop := pduKnownRow.holds Try.pinned (OpenSpec.ofChange pduKnownSpec)

/-- ITS FALSE NEIGHBOUR: 'it returns false'. Refute it at one input. -/
def pduKnownWrong : ChangeSpec := { name := "pduKnown", fn := fun _ => fun
  | [] => { results := [.lit (.bool false)], args := [] }
  | _ => none }
def PduKnownWrongFalsely : Prop := pduKnownRow.holds Try.pinned (OpenSpec.ofChange pduKnownWrong)

/-- 'antiphonlaw6.PduCodes': WHATEVER THE INPUT: true; the input reads as it did. -/
def pduCodesSpec : ChangeSpec := { name := "pduCodes", fn := fun _ => fun
  | [d1, d2] => { results := [.lit (.bool true)], args := [d1, d2] }
  | _ => none }
def pduCodesRow : OpenClaim := { program := "ytohegiphdgihpaa", sum := "f48a5610a290027e7bdd003134577dc1a48971c48036d8343e60ad747946b425", func := "antiphon/antiphonlaw6.PduCodes", spec := "pduCodes", unfollowed := true, recurses := true, apart := false }
def PduCodesSaid : Prop := pduCodesRow.holds Try.pinned (OpenSpec.ofChange pduCodesSpec)

/-- ITS FALSE NEIGHBOUR: 'it returns false'. Refute it at one input. -/
def pduCodesWrong : ChangeSpec := { name := "pduCodes", fn := fun _ => fun
  | [d1, d2] => { results := [.lit (.bool false)], args := [d1, d2] }
  | _ => none }
def PduCodesWrongFalsely : Prop := pduCodesRow.holds Try.pinned (OpenSpec.ofChange pduCodesWrong)

/-- 'antiphonlaw6.PduBack': WHATEVER THE INPUT: true; the input reads as it did. -/
def pduBackSpec : ChangeSpec := { name := "pduBack", fn := fun _ => fun
  | [d1, d2, d3] => { results := [.lit (.bool true)], args := [d1, d2, d3] }
  | _ => none }
def pduBackRow : OpenClaim := { program := "ytohegiphdgihpaa", sum := "f48a5610a290027e7bdd003134577dc1a48971c48036d8343e60ad747946b425", func := "antiphon/antiphonlaw6.PduBack", spec := "pduBack", unfollowed := true, recurses := true, apart := false }
def PduBackSaid : Prop := pduBackRow.holds Try.pinned (OpenSpec.ofChange pduBackSpec)

/-- ITS FALSE NEIGHBOUR: 'it returns false'. Refute it at one input. -/
def pduBackWrong : ChangeSpec := { name := "pduBack", fn := fun _ => fun
  | [d1, d2, d3] => { results := [.lit (.bool false)], args := [d1, d2, d3] }
  | _ => none }
def PduBackWrongFalsely : Prop := pduBackRow.holds Try.pinned (OpenSpec.ofChange pduBackWrong)

/-- 'antiphonlaw6.PduAll': WHATEVER THE INPUT: true; the input reads as it did. -/
def pduAllSpec : ChangeSpec := { name := "pduAll", fn := fun _ => fun
  | [d1, d2, d3] => { results := [.lit (.bool true)], args := [d1, d2, d3] }
  | _ => none }
def pduAllRow : OpenClaim := { program := "ytohegiphdgihpaa", sum := "f48a5610a290027e7bdd003134577dc1a48971c48036d8343e60ad747946b425", func := "antiphon/antiphonlaw6.PduAll", spec := "pduAll", unfollowed := true, recurses := true, apart := false }
def PduAllSaid : Prop := pduAllRow.holds Try.pinned (OpenSpec.ofChange pduAllSpec)

/-- ITS FALSE NEIGHBOUR: 'it returns false'. Refute it at one input. -/
def pduAllWrong : ChangeSpec := { name := "pduAll", fn := fun _ => fun
  | [d1, d2, d3] => { results := [.lit (.bool false)], args := [d1, d2, d3] }
  | _ => none }
def PduAllWrongFalsely : Prop := pduAllRow.holds Try.pinned (OpenSpec.ofChange pduAllWrong)

/-- 'antiphonlaw6.PduKinds': WHATEVER THE INPUT: true; the input reads as it did. -/
def pduKindsSpec : ChangeSpec := { name := "pduKinds", fn := fun _ => fun
  | [d] => { results := [.lit (.bool true)], args := [d] }
  | _ => none }
def pduKindsRow : OpenClaim := { program := "ytohegiphdgihpaa", sum := "f48a5610a290027e7bdd003134577dc1a48971c48036d8343e60ad747946b425", func := "antiphon/antiphonlaw6.PduKinds", spec := "pduKinds", unfollowed := true, recurses := true, apart := false }
def PduKindsSaid : Prop := pduKindsRow.holds Try.pinned (OpenSpec.ofChange pduKindsSpec)

/-- ITS FALSE NEIGHBOUR: 'it returns false'. Refute it at one input. -/
def pduKindsWrong : ChangeSpec := { name := "pduKinds", fn := fun _ => fun
  | [d] => { results := [.lit (.bool false)], args := [d] }
  | _ => none }
def PduKindsWrongFalsely : Prop := pduKindsRow.holds Try.pinned (OpenSpec.ofChange pduKindsWrong)

/-- 'antiphonlaw6.PduCuts': WHATEVER THE INPUT: true; the input reads as it did. -/
def pduCutsSpec : ChangeSpec := { name := "pduCuts", fn := fun _ => fun
  | [d1, d2] => { results := [.lit (.bool true)], args := [d1, d2] }
  | _ => none }
def pduCutsRow : OpenClaim := { program := "ytohegiphdgihpaa", sum := "f48a5610a290027e7bdd003134577dc1a48971c48036d8343e60ad747946b425", func := "antiphon/antiphonlaw6.PduCuts", spec := "pduCuts", unfollowed := true, recurses := true, apart := false }
def PduCutsSaid : Prop := pduCutsRow.holds Try.pinned (OpenSpec.ofChange pduCutsSpec)

/-- ITS FALSE NEIGHBOUR: 'it returns false'. Refute it at one input. -/
def pduCutsWrong : ChangeSpec := { name := "pduCuts", fn := fun _ => fun
  | [d1, d2] => { results := [.lit (.bool false)], args := [d1, d2] }
  | _ => none }
def PduCutsWrongFalsely : Prop := pduCutsRow.holds Try.pinned (OpenSpec.ofChange pduCutsWrong)

/-- 'antiphonlaw6.PduSaps': WHATEVER THE INPUT: true; the input reads as it did. -/
def pduSapsSpec : ChangeSpec := { name := "pduSaps", fn := fun _ => fun
  | [d] => { results := [.lit (.bool true)], args := [d] }
  | _ => none }
def pduSapsRow : OpenClaim := { program := "ytohegiphdgihpaa", sum := "f48a5610a290027e7bdd003134577dc1a48971c48036d8343e60ad747946b425", func := "antiphon/antiphonlaw6.PduSaps", spec := "pduSaps", unfollowed := true, recurses := true, apart := false }
def PduSapsSaid : Prop := pduSapsRow.holds Try.pinned (OpenSpec.ofChange pduSapsSpec)

/-- ITS FALSE NEIGHBOUR: 'it returns false'. Refute it at one input. -/
def pduSapsWrong : ChangeSpec := { name := "pduSaps", fn := fun _ => fun
  | [d] => { results := [.lit (.bool false)], args := [d] }
  | _ => none }
def PduSapsWrongFalsely : Prop := pduSapsRow.holds Try.pinned (OpenSpec.ofChange pduSapsWrong)

/- THE SECOND FORM. 'bulk': how many values and letters a reading holds, each counted each time it is reached (what is shared counts as often as it is met; a slice's spare places count too). A statement '..UptoSaid' is the law's where the arguments, and the package variables that the reading takes, are together of bulk at most 1048576: NARROWER than '..Said'. Prove '..Said' where nothing that the law and all that it calls make is longer than what came in: it says more and counts as full. Else prove '..UptoSaid'. A law counts once. -/
mutual
def uptoBulk {H : Type} : DataW H → Nat
  | .lit (.string bytes) => bytes.length + 1
  | .lit _ => 1
  | .nil => 1
  | .ptr d => uptoBulk d + 1
  | .slice elems spare => uptoBulkAll elems + uptoBulkAll spare + 1
  | .agg parts => uptoBulkAll parts + 1
  | .iface _ d => uptoBulk d + 1
  | .map entries => uptoBulkEntries entries + 1
  | .held _ => 1
def uptoBulkAll {H : Type} : List (DataW H) → Nat
  | [] => 0
  | d :: r => uptoBulk d + uptoBulkAll r
def uptoBulkEntries {H : Type} : List (Lit × DataW H) → Nat
  | [] => 0
  | x :: r => uptoBulkEntry x + uptoBulkEntries r
def uptoBulkEntry {H : Type} : Lit × DataW H → Nat
  | (.string bytes, d) => bytes.length + uptoBulk d + 1
  | (_, d) => uptoBulk d + 1
 end
def uptoSmall : (H : Type) → List (DataW H) → Bool := fun _ ds => decide (uptoBulkAll ds ≤ 1048576)
def OpenSpec.upto (s : _root_.Go.ChangeSpec) : _root_.Go.OpenSpec := { _root_.Go.OpenSpec.ofChange s with cond := some uptoSmall }

/-- 'antiphonlaw6.PduKnown', WHERE WHAT IT READS IS OF BULK AT MOST 1048576: true; the input reads as it did. -/
def pduKnownUptoRow : OpenClaim := { program := "ytohegiphdgihpaa", sum := "f48a5610a290027e7bdd003134577dc1a48971c48036d8343e60ad747946b425", func := "antiphon/antiphonlaw6.PduKnown", spec := "pduKnown", unfollowed := true, recurses := true, apart := false, narrowed := true }
def PduKnownUptoSaid : Prop := pduKnownUptoRow.holds Try.pinned (OpenSpec.upto pduKnownSpec)

/-- 'antiphonlaw6.PduCodes', WHERE WHAT IT READS IS OF BULK AT MOST 1048576: true; the input reads as it did. -/
def pduCodesUptoRow : OpenClaim := { program := "ytohegiphdgihpaa", sum := "f48a5610a290027e7bdd003134577dc1a48971c48036d8343e60ad747946b425", func := "antiphon/antiphonlaw6.PduCodes", spec := "pduCodes", unfollowed := true, recurses := true, apart := false, narrowed := true }
def PduCodesUptoSaid : Prop := pduCodesUptoRow.holds Try.pinned (OpenSpec.upto pduCodesSpec)

/-- 'antiphonlaw6.PduBack', WHERE WHAT IT READS IS OF BULK AT MOST 1048576: true; the input reads as it did. -/
def pduBackUptoRow : OpenClaim := { program := "ytohegiphdgihpaa", sum := "f48a5610a290027e7bdd003134577dc1a48971c48036d8343e60ad747946b425", func := "antiphon/antiphonlaw6.PduBack", spec := "pduBack", unfollowed := true, recurses := true, apart := false, narrowed := true }
def PduBackUptoSaid : Prop := pduBackUptoRow.holds Try.pinned (OpenSpec.upto pduBackSpec)

/-- 'antiphonlaw6.PduAll', WHERE WHAT IT READS IS OF BULK AT MOST 1048576: true; the input reads as it did. -/
def pduAllUptoRow : OpenClaim := { program := "ytohegiphdgihpaa", sum := "f48a5610a290027e7bdd003134577dc1a48971c48036d8343e60ad747946b425", func := "antiphon/antiphonlaw6.PduAll", spec := "pduAll", unfollowed := true, recurses := true, apart := false, narrowed := true }
def PduAllUptoSaid : Prop := pduAllUptoRow.holds Try.pinned (OpenSpec.upto pduAllSpec)

/-- 'antiphonlaw6.PduKinds', WHERE WHAT IT READS IS OF BULK AT MOST 1048576: true; the input reads as it did. -/
def pduKindsUptoRow : OpenClaim := { program := "ytohegiphdgihpaa", sum := "f48a5610a290027e7bdd003134577dc1a48971c48036d8343e60ad747946b425", func := "antiphon/antiphonlaw6.PduKinds", spec := "pduKinds", unfollowed := true, recurses := true, apart := false, narrowed := true }
def PduKindsUptoSaid : Prop := pduKindsUptoRow.holds Try.pinned (OpenSpec.upto pduKindsSpec)

/-- 'antiphonlaw6.PduCuts', WHERE WHAT IT READS IS OF BULK AT MOST 1048576: true; the input reads as it did. -/
def pduCutsUptoRow : OpenClaim := { program := "ytohegiphdgihpaa", sum := "f48a5610a290027e7bdd003134577dc1a48971c48036d8343e60ad747946b425", func := "antiphon/antiphonlaw6.PduCuts", spec := "pduCuts", unfollowed := true, recurses := true, apart := false, narrowed := true }
def PduCutsUptoSaid : Prop := pduCutsUptoRow.holds Try.pinned (OpenSpec.upto pduCutsSpec)

/-- 'antiphonlaw6.PduSaps', WHERE WHAT IT READS IS OF BULK AT MOST 1048576: true; the input reads as it did. -/
def pduSapsUptoRow : OpenClaim := { program := "ytohegiphdgihpaa", sum := "f48a5610a290027e7bdd003134577dc1a48971c48036d8343e60ad747946b425", func := "antiphon/antiphonlaw6.PduSaps", spec := "pduSaps", unfollowed := true, recurses := true, apart := false, narrowed := true }
def PduSapsUptoSaid : Prop := pduSapsUptoRow.holds Try.pinned (OpenSpec.upto pduSapsSpec)

end Rows
end Go.Proofs.Ytohegiphdgihpaa
