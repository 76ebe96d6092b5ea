/- What twin's own functions answer. -/
import Derived.BigQuiet
import Derived.Test.YtbhdncbnjlgigaaUSame
import Derived.Test.YtbhdncbnjlgigaaUMay
import Derived.Test.YtbhdncbnjlgigaaQMem
import Derived.Test.YtbhdncbnjlgigaaBMath
namespace Go.Proofs.Ytbhdncbnjlgigaa
open Go.RowKit
set_option linter.unusedVariables false
set_option linter.unusedSimpArgs false

/-- the five cells of a Twin, the program's or the document's -/
abbrev twC (n w s k u : Int) : Array Value := #[.int .i64 n, .int .i64 w, .int .i64 s, .int .i64 k, .int .i64 u]
/-- a test, asked or answered, with nothing behind it -/
abbrev tstC (b : Bool) (A : Option Addr) (c : Nat) : Array Value := #[.int .i64 0, .int .i64 0, .bool b, .int .i64 2, .int .i64 2, .int .i64 0, .int .i64 0, .bool true, .slice A 0 c]
/-- what a Start or a Tick sends -/
def sentC : Bool → Option Addr → Nat → Array Value
  | true, A, c => tstC false A c
  | false, _, _ => zp
theorem five_cells {w : World} {g : Nat} {v0 v1 v2 v3 v4 : Value} {T : TypeId} {fr : Nat × Nat} (h : w.heap[g]? = some (.cells #[v0, v1, v2, v3, v4] T fr)) :
    w.cell? ⟨g, 0, none⟩ = some v0 ∧ w.cell? ⟨g, 1, none⟩ = some v1 ∧ w.cell? ⟨g, 2, none⟩ = some v2 ∧ w.cell? ⟨g, 3, none⟩ = some v3 ∧ w.cell? ⟨g, 4, none⟩ = some v4 := by
  refine ⟨?_, ?_, ?_, ?_, ?_⟩
  all_goals (rw [cell_of_row w g _ _ _ _ h]; rfl)
theorem not_frozen {w : World} {g : Nat} {cs : Array Value} {T : TypeId} (h : w.heap[g]? = some (.cells cs T (0, 0))) (o : Nat) : w.frozen? ⟨g, o, none⟩ = false := by simp [World.frozen?, h]
theorem tst_one (b : Bool) (A : Option Addr) (c : Nat) : ((tstC b A c).all fun x => x.oneCell') = true := by simp [Value.oneCell']

theorem test_any (b : Bool) (w : World) : Calls Try.prog 27 #[.bool b] w fun e w' => e = .returned (.agg (tstC b none 0)) ∧ Below w.heap.size w w' := by
  go_enter Try.func27, Try.ntmps27
  go_wp2_with (refine wpList_store_row rfl _ _ _ rfl w.heap.size (tstC b none 0) rfl rfl 30 zp (heap_alloc_new _ _) pdu_size rfl (tst_one _ _ _) ?_)
  exact bodyPost_ret (v := .agg (tstC b none 0)) (results_cell_row (by rfl) _ _ w.heap.size _ (tstC b none 0) (0, 0) _ rfl (setRow_heap _ _ _ _ _ _ (heap_alloc_new _ _)) Try.underlying30 rfl pdu_size) rfl ⟨rfl, Go.below_setRow ((Below.refl _ _).alloc (Nat.le_refl _) _) (Nat.le_refl _) _⟩

theorem outside_yes {n m : Int} (h : n < 1 ∨ m < n) (w : World) : Calls Try.prog 19 #[.int .i64 n, .int .i64 m] w fun e w' => e = .returned (.bool true) ∧ w' = w := by
  by_cases h1 : n < 1
  · go_enter Try.func19, Try.ntmps19
    go_wp2
    go_ret
    exact ⟨rfl, rfl⟩
  · have h2 : m < n := by omega
    clear h
    go_enter Try.func19, Try.ntmps19
    go_wp2
    go_ret
    exact ⟨rfl, rfl⟩
theorem outside_no {n m : Int} (h : 1 ≤ n ∧ n ≤ m) (w : World) : Calls Try.prog 19 #[.int .i64 n, .int .i64 m] w fun e w' => e = .returned (.bool false) ∧ w' = w := by
  have h1 : ¬ n < 1 := by omega
  have h2 : ¬ m < n := by omega
  clear h
  go_enter Try.func19, Try.ntmps19
  go_wp2
  go_ret
  exact ⟨ret_bool (by first | (simp only [decide_eq_false_iff_not]; done) | (simp only [decide_eq_false_iff_not]; omega)), rfl⟩

theorem state_any {W : World} {t : Nat} {n w s k u : Int} (h : W.heap[t]? = some (.cells (twC n w s k u) 49 (0, 0))) :
    Calls Try.prog 11 #[ptr t] W fun e W' => e = .returned (.int .i64 s) ∧ W' = W := by
  obtain ⟨c0, c1, c2, c3, c4⟩ := five_cells h
  go_enter Try.func11, Try.ntmps11
  go_wp2
  go_ret
  exact ⟨rfl, rfl⟩

set_option maxHeartbeats 800000 in
theorem ask_any {W : World} {t : Nat} {n w s k u : Int} (h : W.heap[t]? = some (.cells (twC n w s k u) 49 (0, 0))) (hk : 0 ≤ k ∧ k ≤ 1000) :
    Calls Try.prog 30 #[ptr t] W fun e W' => e = .returned (.agg (tstC false none 0)) ∧ Hid (W'.heap[t]? = some (.cells (twC n w s (k + 1) 0) 49 (0, 0)) ∧ OnlyB t W W') := by
  obtain ⟨w1, hw1⟩ : ∃ w1, w1 = W.alloc (.cells zp 30) := ⟨_, rfl⟩
  obtain ⟨g, hg⟩ : ∃ g, g = W.heap.size := ⟨_, rfl⟩
  have hlt := block_lt h
  have hb1 : Below W.heap.size W w1 := by rw [hw1]; exact (Below.refl _ _).alloc (Nat.le_refl _) _
  have T1 := (hb1.block t hlt).trans h
  have G1 : w1.heap[g]? = some (.cells zp 30 (0, 0)) := by rw [hw1, hg]; exact heap_alloc_new _ _
  obtain ⟨w2, hw2⟩ : ∃ w2, Hid (w2 = w1.setCell ⟨t, 3, none⟩ (.int .i64 (k + 1))) := ⟨_, cover rfl⟩
  have T2 : w2.heap[t]? = some (.cells (twC n w s (k + 1) u) 49 (0, 0)) := by rw [hw2.out, set_block T1]; rfl
  obtain ⟨w3, hw3⟩ : ∃ w3, Hid (w3 = w2.setCell ⟨t, 4, none⟩ (.int .i64 0)) := ⟨_, cover rfl⟩
  have T3 : Hid (w3.heap[t]? = some (.cells (twC n w s (k + 1) 0) 49 (0, 0))) := cover (by rw [hw3.out, set_block T2]; rfl)
  have G3 : Hid (w3.heap[g]? = some (.cells zp 30 (0, 0))) := cover (by rw [hw3.out, set_other _ _ (by omega), hw2.out, set_other _ _ (by omega)]; exact G1)
  have O3 : Hid (OnlyB t W w3) := cover (by
    rw [hw3.out, hw2.out]
    exact ((OnlyB.of_below hb1).setCell 3 _).setCell 4 _)
  have HK : Hid (wrap64 (k + 1) = k + 1) := cover (IntWalk.wrap64_in _ ⟨by omega, by omega⟩)
  have HW : wrap64 (k + 1) = k + 1 := HK.out
  have HNE : Hid (t ≠ g) := cover (by omega)
  have HG := cover hg
  obtain ⟨c0, c1, c2, c3, c4⟩ := five_cells T1
  obtain ⟨d0, d1, d2, d3, d4⟩ := five_cells T2
  have F1 := not_frozen T1 3
  have F2 := not_frozen T2 4
  clear hb1 hlt h G1 T1 T2 hk
  go_enter Try.func30, Try.ntmps30
  go_upto_region 1 with fail
  rw [← hw1, ← hg]
  clear hw1 hg
  go_wp2_with (first
    | (rw [← hw2.out])
    | (rw [← hw3.out]))
  refine (test_any false w3).mono ?_
  rintro e w4 ⟨rfl, hb4⟩
  have T4 := cover ((hb4.block t (block_lt T3.out)).trans T3.out)
  have G4 := cover ((hb4.block g (block_lt G3.out)).trans G3.out)
  have O4 := cover (O3.out.trans (OnlyB.of_below hb4))
  clear hb4 c0 c1 c2 c3 c4 d0 d1 d2 d3 d4 F1 F2
  go_wp2_with (refine wpList_store_row rfl _ _ _ rfl g (tstC false none 0) rfl rfl 30 zp G4.out pdu_size rfl (tst_one _ _ _) ?_)
  exact bodyPost_ret (v := .agg (tstC false none 0)) (results_cell_row (by rfl) _ _ g _ (tstC false none 0) (0, 0) _ rfl (setRow_heap _ _ _ _ _ _ G4.out) Try.underlying30 rfl pdu_size) rfl
    ⟨rfl, cover ⟨by rw [setRow_other _ _ _ _ HNE.out]; exact T4.out, ⟨O4.out.os, O4.out.tape, O4.out.output, by simpa [World.setRow] using O4.out.size, fun i hi hne => by
      rw [setRow_other _ _ _ _ (by have := HG.out; omega)]; exact O4.out.block i hi hne⟩⟩⟩
end Go.Proofs.Ytbhdncbnjlgigaa
