/- Objects of one block: their cells, what a store makes of them, what a world that was only drawn from is. -/
import Derived.Test.YtefbmhkchlhgnaaQMem
namespace Go.Proofs.Ytefbmhkchlhgnaa
open Go.RowKit
set_option linter.unusedVariables false
set_option linter.unusedSimpArgs false

/-- three numbers -/
abbrev vC (a b c : Int) : Array Value := #[.int .i64 a, .int .i64 b, .int .i64 c]
theorem three_cells {w : World} {g : Nat} {v0 v1 v2 : Value} {T : TypeId} {fr : Nat × Nat} (h : w.heap[g]? = some (.cells #[v0, v1, v2] T fr)) :
    w.cell? ⟨g, 0, none⟩ = some v0 ∧ w.cell? ⟨g, 1, none⟩ = some v1 ∧ w.cell? ⟨g, 2, none⟩ = some v2 := by
  refine ⟨?_, ?_, ?_⟩
  all_goals (rw [cell_of_row w g _ _ _ _ h]; rfl)
theorem vC_one (a b c : Int) : ((vC a b c).all fun x => x.oneCell') = true := by simp [Value.oneCell']
theorem OnlyB.of_draw {g : Nat} {W W' : World} {d : Nat} (h : W' = W.drewN d) : OnlyB g W W' := by rw [h]; exact (OnlyB.refl g W).drewN d
theorem OnlyB.setRow {g : Nat} {a b : World} (h : OnlyB g a b) (cs : Array Value) : OnlyB g a (b.setRow g cs) :=
  ⟨h.os, h.tape, h.output, by simpa [World.setRow] using h.size, fun i hi hne => (setRow_other _ _ _ _ (fun e => hne (by rw [e]))).trans (h.block i hi hne)⟩
theorem below_any {W W1 W2 : World} (h : Below W.heap.size W W1) (k : Below W1.heap.size W1 W2) : Below W.heap.size W W2 := h.trans (k.mono h.size)
theorem below_drew {W W1 W2 : World} (h : Below W.heap.size W W1) (k : Below W1.drew.heap.size W1.drew W2) : Below W.heap.size W W2 := (below_drewN h 1).trans (k.mono h.size)
end Go.Proofs.Ytefbmhkchlhgnaa
