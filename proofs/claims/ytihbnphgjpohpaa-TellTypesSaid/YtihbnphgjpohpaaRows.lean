/-
  No cell of these rows narrows 'for every input' (looked for: loops, veiled, ifaces, maps, wideKeys, modest, calm, conditions, laid).
  DERIVED. THE GIVEN ROWS OF THIS SEAT. 6 by the template 'for every input the law returns true; each argument reads behind the call as it read before'; 0 by the template 'total and deterministic' (their statements: YtihbnphgjpohpaaTotals.lean).
  GIVEN WITH THE SEED: the statements are not yours to turn. If you find one false, say at which input.
  Laid BY PROGRAM, IN A SANDBOX (cutbox-rows.mjs): the forced cells as the released guide's own fill.sh prints them over the translation e88f71d28f554a1d… (all of the seat's roots in one cut). By AI agents, Wed Nov 11 2026. No macro, syntax, notation, axiom, sorry.
-/
import Derived.Test.YtihbnphgjpohpaaChecked
import GoSem.Claim
import GoSem.ClaimJoined
import GoSem.ClaimMapViews
import Derived.JoinedTies
import Derived.KernelRfl
namespace Go.Proofs.Ytihbnphgjpohpaa
/- THE CELL 'sum', in the pinned program and in every row, IS THE sha256 OF THE DUMP (.gsa) THAT YtihbnphgjpohpaaProg.lean LOADS. Nothing in Lean hashes anything: it is a label: what it is worth is what the hold of that sum in a sandbox is worth. -/
noncomputable def Try.pinned : Pinned := { name := "ytihbnphgjpohpaa", sum := "e88f71d28f554a1dda0e50def10b1c34a431593c005eef8f74d8e6ba4f631810", checked := Try.checked }
namespace Rows
def none {H : Type} : Left H := { results := [], args := [] }

/-- 'antiphonlaw8.TellKnown': WHATEVER THE INPUT: true; the input reads as it did. -/
def tellKnownSpec : ChangeSpec := { name := "tellKnown", fn := fun _ => fun
  | [] => { results := [.lit (.bool true)], args := [] }
  | _ => none }
def tellKnownRow : OpenClaim := { program := "ytihbnphgjpohpaa", sum := "e88f71d28f554a1dda0e50def10b1c34a431593c005eef8f74d8e6ba4f631810", func := "antiphon/antiphonlaw8.TellKnown", spec := "tellKnown", apart := false }
def TellKnownSaid : Prop := tellKnownRow.holds Try.pinned (OpenSpec.ofChange tellKnownSpec)

/-- ITS FALSE NEIGHBOUR: 'it returns false'. Refute it at one input. -/
def tellKnownWrong : ChangeSpec := { name := "tellKnown", fn := fun _ => fun
  | [] => { results := [.lit (.bool false)], args := [] }
  | _ => none }
def TellKnownWrongFalsely : Prop := tellKnownRow.holds Try.pinned (OpenSpec.ofChange tellKnownWrong)

/-- 'antiphonlaw8.TellEvents': WHATEVER THE INPUT: true; the input reads as it did. -/
def tellEventsSpec : ChangeSpec := { name := "tellEvents", fn := fun _ => fun
  | [d1, d2, d3] => { results := [.lit (.bool true)], args := [d1, d2, d3] }
  | _ => none }
def tellEventsRow : OpenClaim := { program := "ytihbnphgjpohpaa", sum := "e88f71d28f554a1dda0e50def10b1c34a431593c005eef8f74d8e6ba4f631810", func := "antiphon/antiphonlaw8.TellEvents", spec := "tellEvents", apart := false }
def TellEventsSaid : Prop := tellEventsRow.holds Try.pinned (OpenSpec.ofChange tellEventsSpec)

/-- ITS FALSE NEIGHBOUR: 'it returns false'. Refute it at one input. -/
def tellEventsWrong : ChangeSpec := { name := "tellEvents", fn := fun _ => fun
  | [d1, d2, d3] => { results := [.lit (.bool false)], args := [d1, d2, d3] }
  | _ => none }
def TellEventsWrongFalsely : Prop := tellEventsRow.holds Try.pinned (OpenSpec.ofChange tellEventsWrong)

/-- 'antiphonlaw8.TellParts': WHATEVER THE INPUT: true; the input reads as it did. -/
def tellPartsSpec : ChangeSpec := { name := "tellParts", fn := fun _ => fun
  | [d1, d2, d3] => { results := [.lit (.bool true)], args := [d1, d2, d3] }
  | _ => none }
def tellPartsRow : OpenClaim := { program := "ytihbnphgjpohpaa", sum := "e88f71d28f554a1dda0e50def10b1c34a431593c005eef8f74d8e6ba4f631810", func := "antiphon/antiphonlaw8.TellParts", spec := "tellParts", apart := false }
def TellPartsSaid : Prop := tellPartsRow.holds Try.pinned (OpenSpec.ofChange tellPartsSpec)

/-- ITS FALSE NEIGHBOUR: 'it returns false'. Refute it at one input. -/
def tellPartsWrong : ChangeSpec := { name := "tellParts", fn := fun _ => fun
  | [d1, d2, d3] => { results := [.lit (.bool false)], args := [d1, d2, d3] }
  | _ => none }
def TellPartsWrongFalsely : Prop := tellPartsRow.holds Try.pinned (OpenSpec.ofChange tellPartsWrong)

/-- 'antiphonlaw8.TellRings': WHATEVER THE INPUT: true; the input reads as it did. -/
def tellRingsSpec : ChangeSpec := { name := "tellRings", fn := fun _ => fun
  | [d1, d2, d3] => { results := [.lit (.bool true)], args := [d1, d2, d3] }
  | _ => none }
def tellRingsRow : OpenClaim := { program := "ytihbnphgjpohpaa", sum := "e88f71d28f554a1dda0e50def10b1c34a431593c005eef8f74d8e6ba4f631810", func := "antiphon/antiphonlaw8.TellRings", spec := "tellRings", apart := false }
def TellRingsSaid : Prop := tellRingsRow.holds Try.pinned (OpenSpec.ofChange tellRingsSpec)

/-- ITS FALSE NEIGHBOUR: 'it returns false'. Refute it at one input. -/
def tellRingsWrong : ChangeSpec := { name := "tellRings", fn := fun _ => fun
  | [d1, d2, d3] => { results := [.lit (.bool false)], args := [d1, d2, d3] }
  | _ => none }
def TellRingsWrongFalsely : Prop := tellRingsRow.holds Try.pinned (OpenSpec.ofChange tellRingsWrong)

/-- 'antiphonlaw8.TellTypes': WHATEVER THE INPUT: true; the input reads as it did. -/
def tellTypesSpec : ChangeSpec := { name := "tellTypes", fn := fun _ => fun
  | [d] => { results := [.lit (.bool true)], args := [d] }
  | _ => none }
def tellTypesRow : OpenClaim := { program := "ytihbnphgjpohpaa", sum := "e88f71d28f554a1dda0e50def10b1c34a431593c005eef8f74d8e6ba4f631810", func := "antiphon/antiphonlaw8.TellTypes", spec := "tellTypes", apart := false }
def TellTypesSaid : Prop := tellTypesRow.holds Try.pinned (OpenSpec.ofChange tellTypesSpec)

/-- ITS FALSE NEIGHBOUR: 'it returns false'. Refute it at one input. -/
def tellTypesWrong : ChangeSpec := { name := "tellTypes", fn := fun _ => fun
  | [d] => { results := [.lit (.bool false)], args := [d] }
  | _ => none }
def TellTypesWrongFalsely : Prop := tellTypesRow.holds Try.pinned (OpenSpec.ofChange tellTypesWrong)

/-- 'antiphonlaw8.TellWindow': WHATEVER THE INPUT: true; the input reads as it did. -/
def tellWindowSpec : ChangeSpec := { name := "tellWindow", fn := fun _ => fun
  | [d1, d2, d3] => { results := [.lit (.bool true)], args := [d1, d2, d3] }
  | _ => none }
def tellWindowRow : OpenClaim := { program := "ytihbnphgjpohpaa", sum := "e88f71d28f554a1dda0e50def10b1c34a431593c005eef8f74d8e6ba4f631810", func := "antiphon/antiphonlaw8.TellWindow", spec := "tellWindow", apart := false }
def TellWindowSaid : Prop := tellWindowRow.holds Try.pinned (OpenSpec.ofChange tellWindowSpec)

/-- ITS FALSE NEIGHBOUR: 'it returns false'. Refute it at one input. -/
def tellWindowWrong : ChangeSpec := { name := "tellWindow", fn := fun _ => fun
  | [d1, d2, d3] => { results := [.lit (.bool false)], args := [d1, d2, d3] }
  | _ => none }
def TellWindowWrongFalsely : Prop := tellWindowRow.holds Try.pinned (OpenSpec.ofChange tellWindowWrong)

/- THE SECOND FORM. 'bulk': how many values and letters a reading holds, each counted each time it is reached (what is shared counts as often as it is met; a slice's spare places count too). A statement '..UptoSaid' is the law's where the arguments, and the package variables that the reading takes, are together of bulk at most 1048576: NARROWER than '..Said'. Prove '..Said' where nothing that the law and all that it calls make is longer than what came in: it says more and counts as full. Else prove '..UptoSaid'. A law counts once. -/
mutual
def uptoBulk {H : Type} : DataW H → Nat
  | .lit (.string bytes) => bytes.length + 1
  | .lit _ => 1
  | .nil => 1
  | .ptr d => uptoBulk d + 1
  | .slice elems spare => uptoBulkAll elems + uptoBulkAll spare + 1
  | .agg parts => uptoBulkAll parts + 1
  | .iface _ d => uptoBulk d + 1
  | .map entries => uptoBulkEntries entries + 1
  | .held _ => 1
def uptoBulkAll {H : Type} : List (DataW H) → Nat
  | [] => 0
  | d :: r => uptoBulk d + uptoBulkAll r
def uptoBulkEntries {H : Type} : List (Lit × DataW H) → Nat
  | [] => 0
  | x :: r => uptoBulkEntry x + uptoBulkEntries r
def uptoBulkEntry {H : Type} : Lit × DataW H → Nat
  | (.string bytes, d) => bytes.length + uptoBulk d + 1
  | (_, d) => uptoBulk d + 1
 end
def uptoSmall : (H : Type) → List (DataW H) → Bool := fun _ ds => decide (uptoBulkAll ds ≤ 1048576)
def OpenSpec.upto (s : _root_.Go.ChangeSpec) : _root_.Go.OpenSpec := { _root_.Go.OpenSpec.ofChange s with cond := some uptoSmall }

/-- 'antiphonlaw8.TellKnown', WHERE WHAT IT READS IS OF BULK AT MOST 1048576: true; the input reads as it did. -/
def tellKnownUptoRow : OpenClaim := { program := "ytihbnphgjpohpaa", sum := "e88f71d28f554a1dda0e50def10b1c34a431593c005eef8f74d8e6ba4f631810", func := "antiphon/antiphonlaw8.TellKnown", spec := "tellKnown", apart := false, narrowed := true }
def TellKnownUptoSaid : Prop := tellKnownUptoRow.holds Try.pinned (OpenSpec.upto tellKnownSpec)

/-- 'antiphonlaw8.TellEvents', WHERE WHAT IT READS IS OF BULK AT MOST 1048576: true; the input reads as it did. -/
def tellEventsUptoRow : OpenClaim := { program := "ytihbnphgjpohpaa", sum := "e88f71d28f554a1dda0e50def10b1c34a431593c005eef8f74d8e6ba4f631810", func := "antiphon/antiphonlaw8.TellEvents", spec := "tellEvents", apart := false, narrowed := true }
def TellEventsUptoSaid : Prop := tellEventsUptoRow.holds Try.pinned (OpenSpec.upto tellEventsSpec)

/-- 'antiphonlaw8.TellParts', WHERE WHAT IT READS IS OF BULK AT MOST 1048576: true; the input reads as it did. -/
def tellPartsUptoRow : OpenClaim := { program := "ytihbnphgjpohpaa", sum := "e88f71d28f554a1dda0e50def10b1c34a431593c005eef8f74d8e6ba4f631810", func := "antiphon/antiphonlaw8.TellParts", spec := "tellParts", apart := false, narrowed := true }
def TellPartsUptoSaid : Prop := tellPartsUptoRow.holds Try.pinned (OpenSpec.upto tellPartsSpec)

/-- 'antiphonlaw8.TellRings', WHERE WHAT IT READS IS OF BULK AT MOST 1048576: true; the input reads as it did. -/
def tellRingsUptoRow : OpenClaim := { program := "ytihbnphgjpohpaa", sum := "e88f71d28f554a1dda0e50def10b1c34a431593c005eef8f74d8e6ba4f631810", func := "antiphon/antiphonlaw8.TellRings", spec := "tellRings", apart := false, narrowed := true }
def TellRingsUptoSaid : Prop := tellRingsUptoRow.holds Try.pinned (OpenSpec.upto tellRingsSpec)

/-- 'antiphonlaw8.TellTypes', WHERE WHAT IT READS IS OF BULK AT MOST 1048576: true; the input reads as it did. -/
def tellTypesUptoRow : OpenClaim := { program := "ytihbnphgjpohpaa", sum := "e88f71d28f554a1dda0e50def10b1c34a431593c005eef8f74d8e6ba4f631810", func := "antiphon/antiphonlaw8.TellTypes", spec := "tellTypes", apart := false, narrowed := true }
def TellTypesUptoSaid : Prop := tellTypesUptoRow.holds Try.pinned (OpenSpec.upto tellTypesSpec)

/-- 'antiphonlaw8.TellWindow', WHERE WHAT IT READS IS OF BULK AT MOST 1048576: true; the input reads as it did. -/
def tellWindowUptoRow : OpenClaim := { program := "ytihbnphgjpohpaa", sum := "e88f71d28f554a1dda0e50def10b1c34a431593c005eef8f74d8e6ba4f631810", func := "antiphon/antiphonlaw8.TellWindow", spec := "tellWindow", apart := false, narrowed := true }
def TellWindowUptoSaid : Prop := tellWindowUptoRow.holds Try.pinned (OpenSpec.upto tellWindowSpec)

end Rows
end Go.Proofs.Ytihbnphgjpohpaa
