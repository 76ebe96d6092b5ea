/- What model hands back; two rows that are the same. -/
import Derived.Deep.RegionHeld3
import Derived.BigQuiet
import Derived.Test.YtlffhnplcgmhlaaJRef
import Derived.Test.YtlffhnplcgmhlaaJVar
namespace Go.Proofs.Ytlffhnplcgmhlaa
open Go.RowKit
set_option linter.unusedVariables false
set_option linter.unusedSimpArgs false

theorem model_any (A : Option Addr) (m : Nat) (n : Int) (b : Bool) (w : World) : Calls Try.prog 15 #[.agg (rowC A m n b)] w fun e w' => e = .returned (.agg (rowC A m n b)) ∧ Below w.heap.size w w' := by
  obtain ⟨g, hg⟩ : ∃ g, w.heap.size = g := ⟨_, rfl⟩
  obtain ⟨w2, hw2⟩ : ∃ w2, Hid (w2 = (w.alloc (.cells (rowC A m n b) 25)).alloc (.cells zr0 30)) := ⟨_, cover rfl⟩
  have hb1 : Below g w (w.alloc (.cells (rowC A m n b) 25)) := (Below.refl _ _).alloc (by omega) _
  have HB : Hid (Below g w w2) := cover (by rw [hw2.out]; exact hb1.alloc (by simp; omega) _)
  have G1 : w2.heap[g]? = some (.cells (rowC A m n b) 25 (0, 0)) := by
    rw [hw2.out, Below.heap_alloc _ _ _ (by simp; omega), ← hg]; exact heap_alloc_new _ _
  have G2 : Hid (w2.heap[g + 1]? = some (.cells zr0 30 (0, 0))) := cover (by
    rw [hw2.out, ← hg]
    have := heap_alloc_new (w.alloc (.cells (rowC A m n b) 25)) (.cells zr0 30)
    rw [World.size_alloc] at this; exact this)
  obtain ⟨c0, c1, c2⟩ := rowC_cells G1
  have HG := cover hg
  clear hb1 G1
  go_enter Try.func15, Try.ntmps15
  go_upto_region 1 with fail
  rw [← hw2.out]
  clear hw2 hg
  go_wp2_with (refine wpList_store_row rfl _ _ _ rfl (g + 1) (rowC A m n b) rfl rfl 30 zr0 G2.out ref_row_size rfl (rowC_one _ _ _ _) ?_)
  exact bodyPost_ret (v := .agg (rowC A m n b)) (results_cell_row (by rfl) _ _ (g + 1) _ (rowC A m n b) (0, 0) _ rfl (setRow_heap _ _ _ _ _ _ G2.out) Try.underlying30 rfl ref_row_size) rfl ⟨rfl, by rw [HG.out]; exact Go.below_setRow HB.out (by omega) _⟩
set_option maxHeartbeats 1600000 in
theorem same_yes (A A' : Option Addr) (m : Nat) (l : List Int) (n : Int) (b : Bool) (w : World) (hr : RowK .i64 w w.heap.size A m l) (hr' : RowK .i64 w w.heap.size A' m l) (hm : m ≤ 1000) :
    Calls Try.prog 14 #[.agg (rowC A m n b), .agg (rowC A' m n b)] w fun e w' => e = .returned (.bool true) ∧ Below w.heap.size w w' := by
  obtain ⟨g, hg⟩ : ∃ g, w.heap.size = g := ⟨_, rfl⟩
  obtain ⟨w2, hw2⟩ : ∃ w2, Hid (w2 = (w.alloc (.cells (rowC A m n b) 30)).alloc (.cells (rowC A' m n b) 30)) := ⟨_, cover rfl⟩
  have hb1 : Below g w (w.alloc (.cells (rowC A m n b) 30)) := (Below.refl _ _).alloc (by omega) _
  have hb2 : Below g w w2 := by rw [hw2.out]; exact hb1.alloc (by simp; omega) _
  have G1 : w2.heap[g]? = some (.cells (rowC A m n b) 30 (0, 0)) := by
    rw [hw2.out, Below.heap_alloc _ _ _ (by simp; omega), ← hg]; exact heap_alloc_new _ _
  have G2 : w2.heap[g + 1]? = some (.cells (rowC A' m n b) 30 (0, 0)) := by
    rw [hw2.out, ← hg]
    have := heap_alloc_new (w.alloc (.cells (rowC A m n b) 30)) (.cells (rowC A' m n b) 30)
    rw [World.size_alloc] at this; exact this
  obtain ⟨c0, c1, c2⟩ := rowC_cells G1
  obtain ⟨d0, d1, d2⟩ := rowC_cells G2
  have HR : Hid (RowK .i64 w2 g A m l) := cover (by rw [← hg] at hb2 ⊢; exact hr.below hb2)
  have HR' : Hid (RowK .i64 w2 g A' m l) := cover (by rw [← hg] at hb2 ⊢; exact hr'.below hb2)
  have HB : Hid (Below w.heap.size w w2) := cover (by rw [hg]; exact hb2)
  clear hb1 hb2 G1 G2 hr hr'
  go_enter Try.func14, Try.ntmps14
  go_upto_region 1 with fail
  rw [← hw2.out]
  clear hw2 hg
  go_wp2
  go_loopw [5] (fun i wr => ∃ k : Nat, k ≤ m ∧ i = .int .i64 k ∧ ∃ d, wr = w2.drewN d) (fun i _ => m - (intOf i).toNat)
  case atStart => exact ⟨0, Nat.zero_le _, rfl, 0, rfl⟩
  case round =>
    obtain ⟨k, hk, rfl, d, rfl⟩ := hrel
    by_cases hlt : k < m
    · obtain ⟨ad, y, rfl, hb, hc, hy⟩ := HR.out.at_ hlt
      obtain ⟨ad', y', rfl, hb', hc', hy'⟩ := HR'.out.at_ hlt
      obtain rfl : y = y' := by have h1 := hy.out; rw [hy'.out] at h1; injection h1 with h1; exact h1.symm
      clear hb hb' hy hy'
      go_wp2_with fail
      go_quiet (fail)
      go_wp2
      go_roundw
      case rel => exact ⟨k + 1, by omega, by go_num, d + nq, rfl⟩
      case measure => simp [intOf]; omega
    · obtain rfl : k = m := by omega
      go_wp2
      go_ret
      exact ⟨rfl, below_drewN HB.out _⟩
end Go.Proofs.Ytlffhnplcgmhlaa
