/- Units and rows of the table in memory. -/
import Derived.Great.BuildSlice
import Derived.Laws.CopyOwn
import Derived.Test.YtbhdncbnjlgigaaRows
import Derived.Test.YtbhdncbnjlgigaaOWords
import Derived.Test.YtbhdncbnjlgigaaOMore
import Derived.Test.YtbhdncbnjlgigaaUMath
namespace Go.Proofs.Ytbhdncbnjlgigaa
open Go.RowKit
set_option linter.unusedVariables false

theorem pdu_size : (Try.prog.info? 30).map (fun x => x.size) = some 9 := by kernel_rfl
/-- a unit of noughts -/
abbrev zp : Array Value := #[.int .i64 0, .int .i64 0, .bool false, .int .i64 0, .int .i64 0, .int .i64 0, .int .i64 0, .bool false, .slice none 0 0]
theorem zp_one : (zp.all fun x => x.oneCell') = true := by simp [Value.oneCell']
theorem pdu_one (a b c d e f : Int) (x y : Bool) (A : Option Addr) (n m : Nat) : ((#[.int .i64 a, .int .i64 b, .bool x, .int .i64 c, .int .i64 d, .int .i64 e, .int .i64 f, .bool y, .slice A n m] : Array Value).all fun x => x.oneCell') = true := by simp [Value.oneCell']
/-- the nine cells of a block -/
theorem pdu_cells {w : World} {g : Nat} {v0 v1 v2 v3 v4 v5 v6 v7 v8 : Value} {T : TypeId} {fr : Nat × Nat} (h : w.heap[g]? = some (.cells #[v0, v1, v2, v3, v4, v5, v6, v7, v8] T fr)) :
    w.cell? ⟨g, 0, none⟩ = some v0 ∧ w.cell? ⟨g, 1, none⟩ = some v1 ∧ w.cell? ⟨g, 2, none⟩ = some v2 ∧ w.cell? ⟨g, 3, none⟩ = some v3 ∧ w.cell? ⟨g, 4, none⟩ = some v4 ∧ w.cell? ⟨g, 5, none⟩ = some v5 ∧ w.cell? ⟨g, 6, none⟩ = some v6 ∧ w.cell? ⟨g, 7, none⟩ = some v7 ∧ w.cell? ⟨g, 8, none⟩ = some v8 := by
  refine ⟨?_, ?_, ?_, ?_, ?_, ?_, ?_, ?_, ?_⟩
  all_goals (rw [cell_of_row w g _ _ _ _ h]; rfl)
theorem rule_size : (Try.prog.info? 57).map (fun x => x.size) = some 6 := by kernel_rfl
/-- a row of noughts -/
abbrev zr : Array Value := #[.int .i64 0, .bool false, .bool false, .bool false, .int .i64 0, .int .i64 0]
theorem rule_one (a b c : Int) (x y z : Bool) : ((#[.int .i64 a, .bool x, .bool y, .bool z, .int .i64 b, .int .i64 c] : Array Value).all fun x => x.oneCell') = true := by simp [Value.oneCell']
theorem rule_cells {w : World} {g : Nat} {v0 v1 v2 v3 v4 v5 : Value} {T : TypeId} {fr : Nat × Nat} (h : w.heap[g]? = some (.cells #[v0, v1, v2, v3, v4, v5] T fr)) :
    w.cell? ⟨g, 0, none⟩ = some v0 ∧ w.cell? ⟨g, 1, none⟩ = some v1 ∧ w.cell? ⟨g, 2, none⟩ = some v2 ∧ w.cell? ⟨g, 3, none⟩ = some v3 ∧ w.cell? ⟨g, 4, none⟩ = some v4 ∧ w.cell? ⟨g, 5, none⟩ = some v5 := by
  refine ⟨?_, ?_, ?_, ?_, ?_, ?_⟩
  all_goals (rw [cell_of_row w g _ _ _ _ h]; rfl)
end Go.Proofs.Ytbhdncbnjlgigaa
