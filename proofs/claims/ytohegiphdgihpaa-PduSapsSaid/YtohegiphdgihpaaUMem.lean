/- Units and rows of the table in memory. -/
import Derived.Great.BuildSlice
import Derived.Laws.CopyOwn
import Derived.Test.YtohegiphdgihpaaRows
import Derived.Test.YtohegiphdgihpaaOWords
import Derived.Test.YtohegiphdgihpaaUMath
namespace Go.Proofs.Ytohegiphdgihpaa
open Go.RowKit
set_option linter.unusedVariables false

theorem results_cell_and {P : Program} {fn : Func} {p s : Tmp} {ty : TypeId} (h : fn.results = #[.cell p ty, .tmp s]) (tmps : Array Value) (w : World) (g : Nat) (t : TypeId) (cs : Array Value) (fr : Nat × Nat) (d : TypeDesc) (v : Value)
    (hp : tmps.getD p undef = .pointer (some ⟨g, 0, none⟩)) (hg : w.heap[g]? = some (.cells cs t fr)) (hv : tmps.getD s undef = v)
    (hu : P.underlying ty = some d) (hd : (match d with | .struct _ | .array _ _ => true | _ => false) = true) (hi : (P.info? ty).map (·.size) = some cs.size) :
    (results fn tmps).run P w = .ok (.tuple #[.agg cs, v]) w := by
  have hp' : tmps[p]?.getD undef = .pointer (some ⟨g, 0, none⟩) := by simpa using hp
  have hv' : tmps[s]?.getD undef = v := by simpa using hv
  simp [results, h, hp', hv', asAddr, run_loadVar_row w g t ty cs fr d hg hu hd hi]
theorem pdu_size : (Try.prog.info? 25).map (fun x => x.size) = some 9 := by kernel_rfl
/-- a unit of noughts -/
abbrev zp : Array Value := #[.int .i64 0, .int .i64 0, .bool false, .int .i64 0, .int .i64 0, .int .i64 0, .int .i64 0, .bool false, .slice none 0 0]
theorem zp_one : (zp.all fun x => x.oneCell') = true := by simp [Value.oneCell']
theorem pdu_one (a b c d e f : Int) (x y : Bool) (A : Option Addr) (n m : Nat) : ((#[.int .i64 a, .int .i64 b, .bool x, .int .i64 c, .int .i64 d, .int .i64 e, .int .i64 f, .bool y, .slice A n m] : Array Value).all fun x => x.oneCell') = true := by simp [Value.oneCell']
/-- the nine cells of a block -/
theorem pdu_cells {w : World} {g : Nat} {v0 v1 v2 v3 v4 v5 v6 v7 v8 : Value} {T : TypeId} {fr : Nat × Nat} (h : w.heap[g]? = some (.cells #[v0, v1, v2, v3, v4, v5, v6, v7, v8] T fr)) :
    w.cell? ⟨g, 0, none⟩ = some v0 ∧ w.cell? ⟨g, 1, none⟩ = some v1 ∧ w.cell? ⟨g, 2, none⟩ = some v2 ∧ w.cell? ⟨g, 3, none⟩ = some v3 ∧ w.cell? ⟨g, 4, none⟩ = some v4 ∧ w.cell? ⟨g, 5, none⟩ = some v5 ∧ w.cell? ⟨g, 6, none⟩ = some v6 ∧ w.cell? ⟨g, 7, none⟩ = some v7 ∧ w.cell? ⟨g, 8, none⟩ = some v8 := by
  refine ⟨?_, ?_, ?_, ?_, ?_, ?_, ?_, ?_, ?_⟩
  all_goals (rw [cell_of_row w g _ _ _ _ h]; rfl)
theorem rule_size : (Try.prog.info? 53).map (fun x => x.size) = some 6 := by kernel_rfl
/-- a row of noughts -/
abbrev zr : Array Value := #[.int .i64 0, .bool false, .bool false, .bool false, .int .i64 0, .int .i64 0]
theorem rule_one (a b c : Int) (x y z : Bool) : ((#[.int .i64 a, .bool x, .bool y, .bool z, .int .i64 b, .int .i64 c] : Array Value).all fun x => x.oneCell') = true := by simp [Value.oneCell']
theorem rule_cells {w : World} {g : Nat} {v0 v1 v2 v3 v4 v5 : Value} {T : TypeId} {fr : Nat × Nat} (h : w.heap[g]? = some (.cells #[v0, v1, v2, v3, v4, v5] T fr)) :
    w.cell? ⟨g, 0, none⟩ = some v0 ∧ w.cell? ⟨g, 1, none⟩ = some v1 ∧ w.cell? ⟨g, 2, none⟩ = some v2 ∧ w.cell? ⟨g, 3, none⟩ = some v3 ∧ w.cell? ⟨g, 4, none⟩ = some v4 ∧ w.cell? ⟨g, 5, none⟩ = some v5 := by
  refine ⟨?_, ?_, ?_, ?_, ?_, ?_⟩
  all_goals (rw [cell_of_row w g _ _ _ _ h]; rfl)
end Go.Proofs.Ytohegiphdgihpaa
