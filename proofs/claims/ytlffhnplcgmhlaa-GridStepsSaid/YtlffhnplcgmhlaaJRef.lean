/- The document's own Step, and whether two rows are the same. -/
import Derived.Deep.RegionHeld3
import Derived.BigQuiet
import Derived.Test.YtlffhnplcgmhlaaJRefA
import Derived.Test.YtlffhnplcgmhlaaJRefB
import Derived.Test.YtlffhnplcgmhlaaJRefC
import Derived.Test.YtlffhnplcgmhlaaJRefD
namespace Go.Proofs.Ytlffhnplcgmhlaa
open Go.RowKit
set_option linter.unusedVariables false
set_option linter.unusedSimpArgs false

set_option maxHeartbeats 3200000 in
theorem refStep_any (s e : Int) (w : World) : Calls Try.prog 13 #[.int .i64 s, .int .i64 e] w (RowOut w (stepG s e)) := by
  obtain ⟨g, hg⟩ : ∃ g, w.heap.size = g := ⟨_, rfl⟩
  obtain ⟨w1, hw1⟩ : ∃ w1, Hid (w1 = w.alloc (.cells zr0 30)) := ⟨_, cover rfl⟩
  have H1 : Hid (w.heap.size = g ∧ Below g w w1 ∧ w1.heap[g]? = some (.cells zr0 30 (0, 0))) := cover (by rw [hw1.out, ← hg]; exact ⟨rfl, (Below.refl _ _).alloc (Nat.le_refl _) _, heap_alloc_new _ _⟩)
  go_enter Try.func13, Try.ntmps13
  go_upto_region 1 with fail
  rw [← hw1.out]
  clear hg hw1
  go_upto_region 2 with fail
  by_cases h0 : s = 0
  · subst h0
    have c1 := cover (ref_inAdm_any e w1)
    obtain ⟨x, hx⟩ : ∃ x, x = stepG 0 e := ⟨_, rfl⟩
    rw [← hx] at c1
    have HX := cover hx
    clear hx
    go_wp2_with fail
    refine c1.out.mono ?_
    rintro e w2 ⟨A, m, rfl, H⟩
    have F2 := cover (row_pass H1.out H)
    go_wp2_with (refine wpList_store_row rfl _ _ _ rfl g (rowC A m x.2.1 x.2.2) rfl rfl 30 zr0 F2.out.1 ref_row_size rfl (rowC_one _ _ _ _) ?_)
    exact bodyPost_ret (v := .agg (rowC A m x.2.1 x.2.2)) (results_cell_row (by rfl) _ _ g _ (rowC A m x.2.1 x.2.2) (0, 0) _ rfl (setRow_heap _ _ _ _ _ _ F2.out.1) Try.underlying30 rfl ref_row_size) rfl (by rw [← HX.out]; exact F2.out.2)
  go_upto_region 4 with fail
  by_cases h1 : s = 1
  · subst h1
    clear h0
    have c1 := cover (ref_inConn_any e w1)
    obtain ⟨x, hx⟩ : ∃ x, x = stepG 1 e := ⟨_, rfl⟩
    rw [← hx] at c1
    have HX := cover hx
    clear hx
    go_wp2_with fail
    refine c1.out.mono ?_
    rintro e w2 ⟨A, m, rfl, H⟩
    have F2 := cover (row_pass H1.out H)
    go_wp2_with (refine wpList_store_row rfl _ _ _ rfl g (rowC A m x.2.1 x.2.2) rfl rfl 30 zr0 F2.out.1 ref_row_size rfl (rowC_one _ _ _ _) ?_)
    exact bodyPost_ret (v := .agg (rowC A m x.2.1 x.2.2)) (results_cell_row (by rfl) _ _ g _ (rowC A m x.2.1 x.2.2) (0, 0) _ rfl (setRow_heap _ _ _ _ _ _ F2.out.1) Try.underlying30 rfl ref_row_size) rfl (by rw [← HX.out]; exact F2.out.2)
  go_upto_region 6 with fail
  by_cases h2 : s = 2
  · subst h2
    clear h0 h1
    have c1 := cover (ref_inSetup_any e w1)
    obtain ⟨x, hx⟩ : ∃ x, x = stepG 2 e := ⟨_, rfl⟩
    rw [← hx] at c1
    have HX := cover hx
    clear hx
    go_wp2_with fail
    refine c1.out.mono ?_
    rintro e w2 ⟨A, m, rfl, H⟩
    have F2 := cover (row_pass H1.out H)
    go_wp2_with (refine wpList_store_row rfl _ _ _ rfl g (rowC A m x.2.1 x.2.2) rfl rfl 30 zr0 F2.out.1 ref_row_size rfl (rowC_one _ _ _ _) ?_)
    exact bodyPost_ret (v := .agg (rowC A m x.2.1 x.2.2)) (results_cell_row (by rfl) _ _ g _ (rowC A m x.2.1 x.2.2) (0, 0) _ rfl (setRow_heap _ _ _ _ _ _ F2.out.1) Try.underlying30 rfl ref_row_size) rfl (by rw [← HX.out]; exact F2.out.2)
  go_upto_region 8 with fail
  by_cases h3 : s = 3
  · subst h3
    clear h0 h1 h2
    have c1 := cover (ref_inReset_any e w1)
    obtain ⟨x, hx⟩ : ∃ x, x = stepG 3 e := ⟨_, rfl⟩
    rw [← hx] at c1
    have HX := cover hx
    clear hx
    go_wp2_with fail
    refine c1.out.mono ?_
    rintro e w2 ⟨A, m, rfl, H⟩
    have F2 := cover (row_pass H1.out H)
    go_wp2_with (refine wpList_store_row rfl _ _ _ rfl g (rowC A m x.2.1 x.2.2) rfl rfl 30 zr0 F2.out.1 ref_row_size rfl (rowC_one _ _ _ _) ?_)
    exact bodyPost_ret (v := .agg (rowC A m x.2.1 x.2.2)) (results_cell_row (by rfl) _ _ g _ (rowC A m x.2.1 x.2.2) (0, 0) _ rfl (setRow_heap _ _ _ _ _ _ F2.out.1) Try.underlying30 rfl ref_row_size) rfl (by rw [← HX.out]; exact F2.out.2)
  go_upto_region 10 with fail
  by_cases h4 : s = 4
  · subst h4
    clear h0 h1 h2 h3
    have c1 := cover (ref_inResetCheck_any e w1)
    obtain ⟨x, hx⟩ : ∃ x, x = stepG 4 e := ⟨_, rfl⟩
    rw [← hx] at c1
    have HX := cover hx
    clear hx
    go_wp2_with fail
    refine c1.out.mono ?_
    rintro e w2 ⟨A, m, rfl, H⟩
    have F2 := cover (row_pass H1.out H)
    go_wp2_with (refine wpList_store_row rfl _ _ _ rfl g (rowC A m x.2.1 x.2.2) rfl rfl 30 zr0 F2.out.1 ref_row_size rfl (rowC_one _ _ _ _) ?_)
    exact bodyPost_ret (v := .agg (rowC A m x.2.1 x.2.2)) (results_cell_row (by rfl) _ _ g _ (rowC A m x.2.1 x.2.2) (0, 0) _ rfl (setRow_heap _ _ _ _ _ _ F2.out.1) Try.underlying30 rfl ref_row_size) rfl (by rw [← HX.out]; exact F2.out.2)
  go_upto_region 12 with fail
  by_cases h5 : s = 5
  · subst h5
    clear h0 h1 h2 h3 h4
    have c1 := cover (ref_inResetWait_any e w1)
    obtain ⟨x, hx⟩ : ∃ x, x = stepG 5 e := ⟨_, rfl⟩
    rw [← hx] at c1
    have HX := cover hx
    clear hx
    go_wp2_with fail
    refine c1.out.mono ?_
    rintro e w2 ⟨A, m, rfl, H⟩
    have F2 := cover (row_pass H1.out H)
    go_wp2_with (refine wpList_store_row rfl _ _ _ rfl g (rowC A m x.2.1 x.2.2) rfl rfl 30 zr0 F2.out.1 ref_row_size rfl (rowC_one _ _ _ _) ?_)
    exact bodyPost_ret (v := .agg (rowC A m x.2.1 x.2.2)) (results_cell_row (by rfl) _ _ g _ (rowC A m x.2.1 x.2.2) (0, 0) _ rfl (setRow_heap _ _ _ _ _ _ F2.out.1) Try.underlying30 rfl ref_row_size) rfl (by rw [← HX.out]; exact F2.out.2)
  go_upto_region 14 with fail
  by_cases h6 : s = 6
  · subst h6
    clear h0 h1 h2 h3 h4 h5
    have c1 := cover (ref_inDConn_any e w1)
    obtain ⟨x, hx⟩ : ∃ x, x = stepG 6 e := ⟨_, rfl⟩
    rw [← hx] at c1
    have HX := cover hx
    clear hx
    go_wp2_with fail
    refine c1.out.mono ?_
    rintro e w2 ⟨A, m, rfl, H⟩
    have F2 := cover (row_pass H1.out H)
    go_wp2_with (refine wpList_store_row rfl _ _ _ rfl g (rowC A m x.2.1 x.2.2) rfl rfl 30 zr0 F2.out.1 ref_row_size rfl (rowC_one _ _ _ _) ?_)
    exact bodyPost_ret (v := .agg (rowC A m x.2.1 x.2.2)) (results_cell_row (by rfl) _ _ g _ (rowC A m x.2.1 x.2.2) (0, 0) _ rfl (setRow_heap _ _ _ _ _ _ F2.out.1) Try.underlying30 rfl ref_row_size) rfl (by rw [← HX.out]; exact F2.out.2)
  go_upto_region 16 with fail
  by_cases h7 : s = 7
  · subst h7
    clear h0 h1 h2 h3 h4 h5 h6
    have c1 := cover (ref_inError_any e w1)
    obtain ⟨x, hx⟩ : ∃ x, x = stepG 7 e := ⟨_, rfl⟩
    rw [← hx] at c1
    have HX := cover hx
    clear hx
    go_wp2_with fail
    refine c1.out.mono ?_
    rintro e w2 ⟨A, m, rfl, H⟩
    have F2 := cover (row_pass H1.out H)
    go_wp2_with (refine wpList_store_row rfl _ _ _ rfl g (rowC A m x.2.1 x.2.2) rfl rfl 30 zr0 F2.out.1 ref_row_size rfl (rowC_one _ _ _ _) ?_)
    exact bodyPost_ret (v := .agg (rowC A m x.2.1 x.2.2)) (results_cell_row (by rfl) _ _ g _ (rowC A m x.2.1 x.2.2) (0, 0) _ rfl (setRow_heap _ _ _ _ _ _ F2.out.1) Try.underlying30 rfl ref_row_size) rfl (by rw [← HX.out]; exact F2.out.2)
  go_upto_region 18 with fail
  by_cases h8 : s = 8
  · subst h8
    clear h0 h1 h2 h3 h4 h5 h6 h7
    have c1 := cover (ref_inNormal_any e w1)
    obtain ⟨x, hx⟩ : ∃ x, x = stepG 8 e := ⟨_, rfl⟩
    rw [← hx] at c1
    have HX := cover hx
    clear hx
    go_wp2_with fail
    refine c1.out.mono ?_
    rintro e w2 ⟨A, m, rfl, H⟩
    have F2 := cover (row_pass H1.out H)
    go_wp2_with (refine wpList_store_row rfl _ _ _ rfl g (rowC A m x.2.1 x.2.2) rfl rfl 30 zr0 F2.out.1 ref_row_size rfl (rowC_one _ _ _ _) ?_)
    exact bodyPost_ret (v := .agg (rowC A m x.2.1 x.2.2)) (results_cell_row (by rfl) _ _ g _ (rowC A m x.2.1 x.2.2) (0, 0) _ rfl (setRow_heap _ _ _ _ _ _ F2.out.1) Try.underlying30 rfl ref_row_size) rfl (by rw [← HX.out]; exact F2.out.2)
  go_upto_region 20 with fail
  by_cases h9 : s = 9
  · subst h9
    clear h0 h1 h2 h3 h4 h5 h6 h7 h8
    have c1 := cover (ref_inBusy_any e w1)
    obtain ⟨x, hx⟩ : ∃ x, x = stepG 9 e := ⟨_, rfl⟩
    rw [← hx] at c1
    have HX := cover hx
    clear hx
    go_wp2_with fail
    refine c1.out.mono ?_
    rintro e w2 ⟨A, m, rfl, H⟩
    have F2 := cover (row_pass H1.out H)
    go_wp2_with (refine wpList_store_row rfl _ _ _ rfl g (rowC A m x.2.1 x.2.2) rfl rfl 30 zr0 F2.out.1 ref_row_size rfl (rowC_one _ _ _ _) ?_)
    exact bodyPost_ret (v := .agg (rowC A m x.2.1 x.2.2)) (results_cell_row (by rfl) _ _ g _ (rowC A m x.2.1 x.2.2) (0, 0) _ rfl (setRow_heap _ _ _ _ _ _ F2.out.1) Try.underlying30 rfl ref_row_size) rfl (by rw [← HX.out]; exact F2.out.2)
  go_upto_region 22 with fail
  by_cases h10 : s = 10
  · subst h10
    clear h0 h1 h2 h3 h4 h5 h6 h7 h8 h9
    have c1 := cover (ref_inReject_any e w1)
    obtain ⟨x, hx⟩ : ∃ x, x = stepG 10 e := ⟨_, rfl⟩
    rw [← hx] at c1
    have HX := cover hx
    clear hx
    go_wp2_with fail
    refine c1.out.mono ?_
    rintro e w2 ⟨A, m, rfl, H⟩
    have F2 := cover (row_pass H1.out H)
    go_wp2_with (refine wpList_store_row rfl _ _ _ rfl g (rowC A m x.2.1 x.2.2) rfl rfl 30 zr0 F2.out.1 ref_row_size rfl (rowC_one _ _ _ _) ?_)
    exact bodyPost_ret (v := .agg (rowC A m x.2.1 x.2.2)) (results_cell_row (by rfl) _ _ g _ (rowC A m x.2.1 x.2.2) (0, 0) _ rfl (setRow_heap _ _ _ _ _ _ F2.out.1) Try.underlying30 rfl ref_row_size) rfl (by rw [← HX.out]; exact F2.out.2)
  go_upto_region 24 with fail
  by_cases h11 : s = 11
  · subst h11
    clear h0 h1 h2 h3 h4 h5 h6 h7 h8 h9 h10
    have c1 := cover (ref_inAwait_any e w1)
    obtain ⟨x, hx⟩ : ∃ x, x = stepG 11 e := ⟨_, rfl⟩
    rw [← hx] at c1
    have HX := cover hx
    clear hx
    go_wp2_with fail
    refine c1.out.mono ?_
    rintro e w2 ⟨A, m, rfl, H⟩
    have F2 := cover (row_pass H1.out H)
    go_wp2_with (refine wpList_store_row rfl _ _ _ rfl g (rowC A m x.2.1 x.2.2) rfl rfl 30 zr0 F2.out.1 ref_row_size rfl (rowC_one _ _ _ _) ?_)
    exact bodyPost_ret (v := .agg (rowC A m x.2.1 x.2.2)) (results_cell_row (by rfl) _ _ g _ (rowC A m x.2.1 x.2.2) (0, 0) _ rfl (setRow_heap _ _ _ _ _ _ F2.out.1) Try.underlying30 rfl ref_row_size) rfl (by rw [← HX.out]; exact F2.out.2)
  go_upto_region 26 with fail
  by_cases h12 : s = 12
  · subst h12
    clear h0 h1 h2 h3 h4 h5 h6 h7 h8 h9 h10 h11
    have c1 := cover (ref_inAwaitBusy_any e w1)
    obtain ⟨x, hx⟩ : ∃ x, x = stepG 12 e := ⟨_, rfl⟩
    rw [← hx] at c1
    have HX := cover hx
    clear hx
    go_wp2_with fail
    refine c1.out.mono ?_
    rintro e w2 ⟨A, m, rfl, H⟩
    have F2 := cover (row_pass H1.out H)
    go_wp2_with (refine wpList_store_row rfl _ _ _ rfl g (rowC A m x.2.1 x.2.2) rfl rfl 30 zr0 F2.out.1 ref_row_size rfl (rowC_one _ _ _ _) ?_)
    exact bodyPost_ret (v := .agg (rowC A m x.2.1 x.2.2)) (results_cell_row (by rfl) _ _ g _ (rowC A m x.2.1 x.2.2) (0, 0) _ rfl (setRow_heap _ _ _ _ _ _ F2.out.1) Try.underlying30 rfl ref_row_size) rfl (by rw [← HX.out]; exact F2.out.2)
  go_upto_region 28 with fail
  by_cases h13 : s = 13
  · subst h13
    clear h0 h1 h2 h3 h4 h5 h6 h7 h8 h9 h10 h11 h12
    have c1 := cover (ref_inAwaitReject_any e w1)
    obtain ⟨x, hx⟩ : ∃ x, x = stepG 13 e := ⟨_, rfl⟩
    rw [← hx] at c1
    have HX := cover hx
    clear hx
    go_wp2_with fail
    refine c1.out.mono ?_
    rintro e w2 ⟨A, m, rfl, H⟩
    have F2 := cover (row_pass H1.out H)
    go_wp2_with (refine wpList_store_row rfl _ _ _ rfl g (rowC A m x.2.1 x.2.2) rfl rfl 30 zr0 F2.out.1 ref_row_size rfl (rowC_one _ _ _ _) ?_)
    exact bodyPost_ret (v := .agg (rowC A m x.2.1 x.2.2)) (results_cell_row (by rfl) _ _ g _ (rowC A m x.2.1 x.2.2) (0, 0) _ rfl (setRow_heap _ _ _ _ _ _ F2.out.1) Try.underlying30 rfl ref_row_size) rfl (by rw [← HX.out]; exact F2.out.2)
  have hs := stepG_far (s := s) (e := e) (by omega)
  have F := cover (ref_no hs H1.out)
  have G := cover H1.out.2.2
  clear hs H1
  go_wp2_with (refine wpList_store_row rfl _ _ _ rfl g (rowC none 0 s false) rfl rfl 30 zr0 G.out ref_row_size rfl (rowC_one _ _ _ _) ?_)
  exact bodyPost_ret (v := .agg (rowC none 0 s false)) (results_cell_row (by rfl) _ _ g _ (rowC none 0 s false) (0, 0) _ rfl (setRow_heap _ _ _ _ _ _ G.out) Try.underlying30 rfl ref_row_size) rfl F.out
end Go.Proofs.Ytlffhnplcgmhlaa
