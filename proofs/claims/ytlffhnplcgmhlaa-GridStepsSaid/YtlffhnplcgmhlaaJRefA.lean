/- The document's own table, state by state (0,1,2,3,4,5,6,7). Written by gen/genjref.py. -/
import Derived.Great.BuildSlice
import Derived.Test.YtlffhnplcgmhlaaJRow2
namespace Go.Proofs.Ytlffhnplcgmhlaa
open Go.RowKit
set_option linter.unusedVariables false
set_option linter.unusedSimpArgs false

set_option maxHeartbeats 3200000 in
theorem ref_inAdm_any (e : Int) (w : World) : Calls Try.prog 19 #[.int .i64 e] w (RowOut w (stepG 0 e)) := by
  obtain ⟨g, hg⟩ : ∃ g, w.heap.size = g := ⟨_, rfl⟩
  obtain ⟨w1, hw1⟩ : ∃ w1, Hid (w1 = w.alloc (.cells zr0 30)) := ⟨_, cover rfl⟩
  have H1 : Hid (w.heap.size = g ∧ Below g w w1 ∧ w1.heap[g]? = some (.cells zr0 30 (0, 0))) := cover (by rw [hw1.out, ← hg]; exact ⟨rfl, (Below.refl _ _).alloc (Nat.le_refl _) _, heap_alloc_new _ _⟩)
  go_enter Try.func19, Try.ntmps19
  go_upto_region 1 with fail
  rw [← hw1.out]
  clear hg hw1
  go_upto_region 2 with fail
  by_cases h0 : e = 0
  · subst h0
    have F := cover (fun w2 hb => ref_fin [0, 33, 13] 2 H1.out (w2 := w2) hb)
    have E : Hid (stepG 0 0 = ([0, 33, 13], 2, true)) := cover (by decide +kernel)
    rw [E.out]
    go_wp2_with fail
    refine (refrow_any _ _ _ _).mono ?_
    rintro e w2 ⟨rfl, hb2⟩
    have F2 := cover (F.out w2 hb2)
    clear hb2 F
    go_wp2_with (refine wpList_store_row rfl _ _ _ rfl g (rowC (some ⟨w1.heap.size, 0, none⟩) 3 2 true) rfl rfl 30 zr0 F2.out.1 ref_row_size rfl (rowC_one _ _ _ _) ?_)
    exact bodyPost_ret (v := .agg (rowC (some ⟨w1.heap.size, 0, none⟩) 3 2 true)) (results_cell_row (by rfl) _ _ g _ (rowC (some ⟨w1.heap.size, 0, none⟩) 3 2 true) (0, 0) _ rfl (setRow_heap _ _ _ _ _ _ F2.out.1) Try.underlying30 rfl ref_row_size) rfl F2.out.2
  go_upto_region 4 with fail
  by_cases h1 : e = 8
  · subst h1
    clear h0
    have F := cover (fun w2 hb => ref_fin [5] 1 H1.out (w2 := w2) hb)
    have E : Hid (stepG 0 8 = ([5], 1, true)) := cover (by decide +kernel)
    rw [E.out]
    go_wp2_with fail
    refine (refrow_any _ _ _ _).mono ?_
    rintro e w2 ⟨rfl, hb2⟩
    have F2 := cover (F.out w2 hb2)
    clear hb2 F
    go_wp2_with (refine wpList_store_row rfl _ _ _ rfl g (rowC (some ⟨w1.heap.size, 0, none⟩) 1 1 true) rfl rfl 30 zr0 F2.out.1 ref_row_size rfl (rowC_one _ _ _ _) ?_)
    exact bodyPost_ret (v := .agg (rowC (some ⟨w1.heap.size, 0, none⟩) 1 1 true)) (results_cell_row (by rfl) _ _ g _ (rowC (some ⟨w1.heap.size, 0, none⟩) 1 1 true) (0, 0) _ rfl (setRow_heap _ _ _ _ _ _ F2.out.1) Try.underlying30 rfl ref_row_size) rfl F2.out.2
  go_upto_region 6 with fail
  by_cases h2 : e = 9
  · subst h2
    clear h0 h1
    have F := cover (fun w2 hb => ref_fin [3] 0 H1.out (w2 := w2) hb)
    have E : Hid (stepG 0 9 = ([3], 0, true)) := cover (by decide +kernel)
    rw [E.out]
    go_wp2_with fail
    refine (refrow_any _ _ _ _).mono ?_
    rintro e w2 ⟨rfl, hb2⟩
    have F2 := cover (F.out w2 hb2)
    clear hb2 F
    go_wp2_with (refine wpList_store_row rfl _ _ _ rfl g (rowC (some ⟨w1.heap.size, 0, none⟩) 1 0 true) rfl rfl 30 zr0 F2.out.1 ref_row_size rfl (rowC_one _ _ _ _) ?_)
    exact bodyPost_ret (v := .agg (rowC (some ⟨w1.heap.size, 0, none⟩) 1 0 true)) (results_cell_row (by rfl) _ _ g _ (rowC (some ⟨w1.heap.size, 0, none⟩) 1 0 true) (0, 0) _ rfl (setRow_heap _ _ _ _ _ _ F2.out.1) Try.underlying30 rfl ref_row_size) rfl F2.out.2
  go_upto_region 8 with fail
  by_cases h3 : e = 20
  · subst h3
    clear h0 h1 h2
    have F := cover (fun w2 hb => ref_fin [3] 0 H1.out (w2 := w2) hb)
    have E : Hid (stepG 0 20 = ([3], 0, true)) := cover (by decide +kernel)
    rw [E.out]
    go_wp2_with fail
    refine (refrow_any _ _ _ _).mono ?_
    rintro e w2 ⟨rfl, hb2⟩
    have F2 := cover (F.out w2 hb2)
    clear hb2 F
    go_wp2_with (refine wpList_store_row rfl _ _ _ rfl g (rowC (some ⟨w1.heap.size, 0, none⟩) 1 0 true) rfl rfl 30 zr0 F2.out.1 ref_row_size rfl (rowC_one _ _ _ _) ?_)
    exact bodyPost_ret (v := .agg (rowC (some ⟨w1.heap.size, 0, none⟩) 1 0 true)) (results_cell_row (by rfl) _ _ g _ (rowC (some ⟨w1.heap.size, 0, none⟩) 1 0 true) (0, 0) _ rfl (setRow_heap _ _ _ _ _ _ F2.out.1) Try.underlying30 rfl ref_row_size) rfl F2.out.2
  have hs := stepG_none (s := 0) (e := e) (by rw [show evsG 0 = [0, 8, 9, 20] from by decide +kernel]; simp only [List.mem_cons, List.not_mem_nil, or_false]; omega)
  have F := cover (ref_no hs H1.out)
  have G := cover H1.out.2.2
  clear hs H1
  go_wp2_with (refine wpList_store_row rfl _ _ _ rfl g (rowC none 0 0 false) rfl rfl 30 zr0 G.out ref_row_size rfl (rowC_one _ _ _ _) ?_)
  exact bodyPost_ret (v := .agg (rowC none 0 0 false)) (results_cell_row (by rfl) _ _ g _ (rowC none 0 0 false) (0, 0) _ rfl (setRow_heap _ _ _ _ _ _ G.out) Try.underlying30 rfl ref_row_size) rfl F.out
set_option maxHeartbeats 3200000 in
theorem ref_inConn_any (e : Int) (w : World) : Calls Try.prog 20 #[.int .i64 e] w (RowOut w (stepG 1 e)) := by
  obtain ⟨g, hg⟩ : ∃ g, w.heap.size = g := ⟨_, rfl⟩
  obtain ⟨w1, hw1⟩ : ∃ w1, Hid (w1 = w.alloc (.cells zr0 30)) := ⟨_, cover rfl⟩
  have H1 : Hid (w.heap.size = g ∧ Below g w w1 ∧ w1.heap[g]? = some (.cells zr0 30 (0, 0))) := cover (by rw [hw1.out, ← hg]; exact ⟨rfl, (Below.refl _ _).alloc (Nat.le_refl _) _, heap_alloc_new _ _⟩)
  go_enter Try.func20, Try.ntmps20
  go_upto_region 1 with fail
  rw [← hw1.out]
  clear hg hw1
  go_upto_region 2 with fail
  by_cases h0 : e = 1
  · subst h0
    have F := cover (fun w2 hb => ref_fin [2, 10] 8 H1.out (w2 := w2) hb)
    have E : Hid (stepG 1 1 = ([2, 10], 8, true)) := cover (by decide +kernel)
    rw [E.out]
    go_wp2_with fail
    refine (refrow_any _ _ _ _).mono ?_
    rintro e w2 ⟨rfl, hb2⟩
    have F2 := cover (F.out w2 hb2)
    clear hb2 F
    go_wp2_with (refine wpList_store_row rfl _ _ _ rfl g (rowC (some ⟨w1.heap.size, 0, none⟩) 2 8 true) rfl rfl 30 zr0 F2.out.1 ref_row_size rfl (rowC_one _ _ _ _) ?_)
    exact bodyPost_ret (v := .agg (rowC (some ⟨w1.heap.size, 0, none⟩) 2 8 true)) (results_cell_row (by rfl) _ _ g _ (rowC (some ⟨w1.heap.size, 0, none⟩) 2 8 true) (0, 0) _ rfl (setRow_heap _ _ _ _ _ _ F2.out.1) Try.underlying30 rfl ref_row_size) rfl F2.out.2
  go_upto_region 4 with fail
  by_cases h1 : e = 2
  · subst h1
    clear h0
    have F := cover (fun w2 hb => ref_fin [3] 0 H1.out (w2 := w2) hb)
    have E : Hid (stepG 1 2 = ([3], 0, true)) := cover (by decide +kernel)
    rw [E.out]
    go_wp2_with fail
    refine (refrow_any _ _ _ _).mono ?_
    rintro e w2 ⟨rfl, hb2⟩
    have F2 := cover (F.out w2 hb2)
    clear hb2 F
    go_wp2_with (refine wpList_store_row rfl _ _ _ rfl g (rowC (some ⟨w1.heap.size, 0, none⟩) 1 0 true) rfl rfl 30 zr0 F2.out.1 ref_row_size rfl (rowC_one _ _ _ _) ?_)
    exact bodyPost_ret (v := .agg (rowC (some ⟨w1.heap.size, 0, none⟩) 1 0 true)) (results_cell_row (by rfl) _ _ g _ (rowC (some ⟨w1.heap.size, 0, none⟩) 1 0 true) (0, 0) _ rfl (setRow_heap _ _ _ _ _ _ F2.out.1) Try.underlying30 rfl ref_row_size) rfl F2.out.2
  go_upto_region 6 with fail
  by_cases h2 : e = 9
  · subst h2
    clear h0 h1
    have F := cover (fun w2 hb => ref_fin [2, 7] 0 H1.out (w2 := w2) hb)
    have E : Hid (stepG 1 9 = ([2, 7], 0, true)) := cover (by decide +kernel)
    rw [E.out]
    go_wp2_with fail
    refine (refrow_any _ _ _ _).mono ?_
    rintro e w2 ⟨rfl, hb2⟩
    have F2 := cover (F.out w2 hb2)
    clear hb2 F
    go_wp2_with (refine wpList_store_row rfl _ _ _ rfl g (rowC (some ⟨w1.heap.size, 0, none⟩) 2 0 true) rfl rfl 30 zr0 F2.out.1 ref_row_size rfl (rowC_one _ _ _ _) ?_)
    exact bodyPost_ret (v := .agg (rowC (some ⟨w1.heap.size, 0, none⟩) 2 0 true)) (results_cell_row (by rfl) _ _ g _ (rowC (some ⟨w1.heap.size, 0, none⟩) 2 0 true) (0, 0) _ rfl (setRow_heap _ _ _ _ _ _ F2.out.1) Try.underlying30 rfl ref_row_size) rfl F2.out.2
  have hs := stepG_none (s := 1) (e := e) (by rw [show evsG 1 = [1, 2, 9] from by decide +kernel]; simp only [List.mem_cons, List.not_mem_nil, or_false]; omega)
  have F := cover (ref_no hs H1.out)
  have G := cover H1.out.2.2
  clear hs H1
  go_wp2_with (refine wpList_store_row rfl _ _ _ rfl g (rowC none 0 1 false) rfl rfl 30 zr0 G.out ref_row_size rfl (rowC_one _ _ _ _) ?_)
  exact bodyPost_ret (v := .agg (rowC none 0 1 false)) (results_cell_row (by rfl) _ _ g _ (rowC none 0 1 false) (0, 0) _ rfl (setRow_heap _ _ _ _ _ _ G.out) Try.underlying30 rfl ref_row_size) rfl F.out
set_option maxHeartbeats 3200000 in
theorem ref_inSetup_any (e : Int) (w : World) : Calls Try.prog 21 #[.int .i64 e] w (RowOut w (stepG 2 e)) := by
  obtain ⟨g, hg⟩ : ∃ g, w.heap.size = g := ⟨_, rfl⟩
  obtain ⟨w1, hw1⟩ : ∃ w1, Hid (w1 = w.alloc (.cells zr0 30)) := ⟨_, cover rfl⟩
  have H1 : Hid (w.heap.size = g ∧ Below g w w1 ∧ w1.heap[g]? = some (.cells zr0 30 (0, 0))) := cover (by rw [hw1.out, ← hg]; exact ⟨rfl, (Below.refl _ _).alloc (Nat.le_refl _) _, heap_alloc_new _ _⟩)
  go_enter Try.func21, Try.ntmps21
  go_upto_region 1 with fail
  rw [← hw1.out]
  clear hg hw1
  go_upto_region 2 with fail
  by_cases h0 : e = 10
  · subst h0
    have F := cover (fun w2 hb => ref_fin [12, 10, 6] 8 H1.out (w2 := w2) hb)
    have E : Hid (stepG 2 10 = ([12, 10, 6], 8, true)) := cover (by decide +kernel)
    rw [E.out]
    go_wp2_with fail
    refine (refrow_any _ _ _ _).mono ?_
    rintro e w2 ⟨rfl, hb2⟩
    have F2 := cover (F.out w2 hb2)
    clear hb2 F
    go_wp2_with (refine wpList_store_row rfl _ _ _ rfl g (rowC (some ⟨w1.heap.size, 0, none⟩) 3 8 true) rfl rfl 30 zr0 F2.out.1 ref_row_size rfl (rowC_one _ _ _ _) ?_)
    exact bodyPost_ret (v := .agg (rowC (some ⟨w1.heap.size, 0, none⟩) 3 8 true)) (results_cell_row (by rfl) _ _ g _ (rowC (some ⟨w1.heap.size, 0, none⟩) 3 8 true) (0, 0) _ rfl (setRow_heap _ _ _ _ _ _ F2.out.1) Try.underlying30 rfl ref_row_size) rfl F2.out.2
  go_upto_region 4 with fail
  by_cases h1 : e = 11
  · subst h1
    clear h0
    have F := cover (fun w2 hb => ref_fin [12, 7] 0 H1.out (w2 := w2) hb)
    have E : Hid (stepG 2 11 = ([12, 7], 0, true)) := cover (by decide +kernel)
    rw [E.out]
    go_wp2_with fail
    refine (refrow_any _ _ _ _).mono ?_
    rintro e w2 ⟨rfl, hb2⟩
    have F2 := cover (F.out w2 hb2)
    clear hb2 F
    go_wp2_with (refine wpList_store_row rfl _ _ _ rfl g (rowC (some ⟨w1.heap.size, 0, none⟩) 2 0 true) rfl rfl 30 zr0 F2.out.1 ref_row_size rfl (rowC_one _ _ _ _) ?_)
    exact bodyPost_ret (v := .agg (rowC (some ⟨w1.heap.size, 0, none⟩) 2 0 true)) (results_cell_row (by rfl) _ _ g _ (rowC (some ⟨w1.heap.size, 0, none⟩) 2 0 true) (0, 0) _ rfl (setRow_heap _ _ _ _ _ _ F2.out.1) Try.underlying30 rfl ref_row_size) rfl F2.out.2
  go_upto_region 6 with fail
  by_cases h2 : e = 8
  · subst h2
    clear h0 h1
    have F := cover (fun w2 hb => ref_fin [2] 2 H1.out (w2 := w2) hb)
    have E : Hid (stepG 2 8 = ([2], 2, true)) := cover (by decide +kernel)
    rw [E.out]
    go_wp2_with fail
    refine (refrow_any _ _ _ _).mono ?_
    rintro e w2 ⟨rfl, hb2⟩
    have F2 := cover (F.out w2 hb2)
    clear hb2 F
    go_wp2_with (refine wpList_store_row rfl _ _ _ rfl g (rowC (some ⟨w1.heap.size, 0, none⟩) 1 2 true) rfl rfl 30 zr0 F2.out.1 ref_row_size rfl (rowC_one _ _ _ _) ?_)
    exact bodyPost_ret (v := .agg (rowC (some ⟨w1.heap.size, 0, none⟩) 1 2 true)) (results_cell_row (by rfl) _ _ g _ (rowC (some ⟨w1.heap.size, 0, none⟩) 1 2 true) (0, 0) _ rfl (setRow_heap _ _ _ _ _ _ F2.out.1) Try.underlying30 rfl ref_row_size) rfl F2.out.2
  go_upto_region 8 with fail
  by_cases h3 : e = 9
  · subst h3
    clear h0 h1 h2
    have F := cover (fun w2 hb => ref_fin [3, 12, 7] 0 H1.out (w2 := w2) hb)
    have E : Hid (stepG 2 9 = ([3, 12, 7], 0, true)) := cover (by decide +kernel)
    rw [E.out]
    go_wp2_with fail
    refine (refrow_any _ _ _ _).mono ?_
    rintro e w2 ⟨rfl, hb2⟩
    have F2 := cover (F.out w2 hb2)
    clear hb2 F
    go_wp2_with (refine wpList_store_row rfl _ _ _ rfl g (rowC (some ⟨w1.heap.size, 0, none⟩) 3 0 true) rfl rfl 30 zr0 F2.out.1 ref_row_size rfl (rowC_one _ _ _ _) ?_)
    exact bodyPost_ret (v := .agg (rowC (some ⟨w1.heap.size, 0, none⟩) 3 0 true)) (results_cell_row (by rfl) _ _ g _ (rowC (some ⟨w1.heap.size, 0, none⟩) 3 0 true) (0, 0) _ rfl (setRow_heap _ _ _ _ _ _ F2.out.1) Try.underlying30 rfl ref_row_size) rfl F2.out.2
  go_upto_region 10 with fail
  by_cases h4 : e = 2
  · subst h4
    clear h0 h1 h2 h3
    have F := cover (fun w2 hb => ref_fin [1, 33, 13] 6 H1.out (w2 := w2) hb)
    have E : Hid (stepG 2 2 = ([1, 33, 13], 6, true)) := cover (by decide +kernel)
    rw [E.out]
    go_wp2_with fail
    refine (refrow_any _ _ _ _).mono ?_
    rintro e w2 ⟨rfl, hb2⟩
    have F2 := cover (F.out w2 hb2)
    clear hb2 F
    go_wp2_with (refine wpList_store_row rfl _ _ _ rfl g (rowC (some ⟨w1.heap.size, 0, none⟩) 3 6 true) rfl rfl 30 zr0 F2.out.1 ref_row_size rfl (rowC_one _ _ _ _) ?_)
    exact bodyPost_ret (v := .agg (rowC (some ⟨w1.heap.size, 0, none⟩) 3 6 true)) (results_cell_row (by rfl) _ _ g _ (rowC (some ⟨w1.heap.size, 0, none⟩) 3 6 true) (0, 0) _ rfl (setRow_heap _ _ _ _ _ _ F2.out.1) Try.underlying30 rfl ref_row_size) rfl F2.out.2
  go_upto_region 12 with fail
  by_cases h5 : e = 29
  · subst h5
    clear h0 h1 h2 h3 h4
    have F := cover (fun w2 hb => ref_fin [0, 32, 13] 2 H1.out (w2 := w2) hb)
    have E : Hid (stepG 2 29 = ([0, 32, 13], 2, true)) := cover (by decide +kernel)
    rw [E.out]
    go_wp2_with fail
    refine (refrow_any _ _ _ _).mono ?_
    rintro e w2 ⟨rfl, hb2⟩
    have F2 := cover (F.out w2 hb2)
    clear hb2 F
    go_wp2_with (refine wpList_store_row rfl _ _ _ rfl g (rowC (some ⟨w1.heap.size, 0, none⟩) 3 2 true) rfl rfl 30 zr0 F2.out.1 ref_row_size rfl (rowC_one _ _ _ _) ?_)
    exact bodyPost_ret (v := .agg (rowC (some ⟨w1.heap.size, 0, none⟩) 3 2 true)) (results_cell_row (by rfl) _ _ g _ (rowC (some ⟨w1.heap.size, 0, none⟩) 3 2 true) (0, 0) _ rfl (setRow_heap _ _ _ _ _ _ F2.out.1) Try.underlying30 rfl ref_row_size) rfl F2.out.2
  go_upto_region 14 with fail
  by_cases h6 : e = 33
  · subst h6
    clear h0 h1 h2 h3 h4 h5
    have F := cover (fun w2 hb => ref_fin [12, 7] 0 H1.out (w2 := w2) hb)
    have E : Hid (stepG 2 33 = ([12, 7], 0, true)) := cover (by decide +kernel)
    rw [E.out]
    go_wp2_with fail
    refine (refrow_any _ _ _ _).mono ?_
    rintro e w2 ⟨rfl, hb2⟩
    have F2 := cover (F.out w2 hb2)
    clear hb2 F
    go_wp2_with (refine wpList_store_row rfl _ _ _ rfl g (rowC (some ⟨w1.heap.size, 0, none⟩) 2 0 true) rfl rfl 30 zr0 F2.out.1 ref_row_size rfl (rowC_one _ _ _ _) ?_)
    exact bodyPost_ret (v := .agg (rowC (some ⟨w1.heap.size, 0, none⟩) 2 0 true)) (results_cell_row (by rfl) _ _ g _ (rowC (some ⟨w1.heap.size, 0, none⟩) 2 0 true) (0, 0) _ rfl (setRow_heap _ _ _ _ _ _ F2.out.1) Try.underlying30 rfl ref_row_size) rfl F2.out.2
  have hs := stepG_none (s := 2) (e := e) (by rw [show evsG 2 = [10, 11, 8, 9, 2, 29, 33] from by decide +kernel]; simp only [List.mem_cons, List.not_mem_nil, or_false]; omega)
  have F := cover (ref_no hs H1.out)
  have G := cover H1.out.2.2
  clear hs H1
  go_wp2_with (refine wpList_store_row rfl _ _ _ rfl g (rowC none 0 2 false) rfl rfl 30 zr0 G.out ref_row_size rfl (rowC_one _ _ _ _) ?_)
  exact bodyPost_ret (v := .agg (rowC none 0 2 false)) (results_cell_row (by rfl) _ _ g _ (rowC none 0 2 false) (0, 0) _ rfl (setRow_heap _ _ _ _ _ _ G.out) Try.underlying30 rfl ref_row_size) rfl F.out
set_option maxHeartbeats 3200000 in
theorem ref_inReset_any (e : Int) (w : World) : Calls Try.prog 22 #[.int .i64 e] w (RowOut w (stepG 3 e)) := by
  obtain ⟨g, hg⟩ : ∃ g, w.heap.size = g := ⟨_, rfl⟩
  obtain ⟨w1, hw1⟩ : ∃ w1, Hid (w1 = w.alloc (.cells zr0 30)) := ⟨_, cover rfl⟩
  have H1 : Hid (w.heap.size = g ∧ Below g w w1 ∧ w1.heap[g]? = some (.cells zr0 30 (0, 0))) := cover (by rw [hw1.out, ← hg]; exact ⟨rfl, (Below.refl _ _).alloc (Nat.le_refl _) _, heap_alloc_new _ _⟩)
  go_enter Try.func22, Try.ntmps22
  go_upto_region 1 with fail
  rw [← hw1.out]
  clear hg hw1
  go_upto_region 2 with fail
  by_cases h0 : e = 10
  · subst h0
    have F := cover (fun w2 hb => ref_fin [12, 10, 9] 8 H1.out (w2 := w2) hb)
    have E : Hid (stepG 3 10 = ([12, 10, 9], 8, true)) := cover (by decide +kernel)
    rw [E.out]
    go_wp2_with fail
    refine (refrow_any _ _ _ _).mono ?_
    rintro e w2 ⟨rfl, hb2⟩
    have F2 := cover (F.out w2 hb2)
    clear hb2 F
    go_wp2_with (refine wpList_store_row rfl _ _ _ rfl g (rowC (some ⟨w1.heap.size, 0, none⟩) 3 8 true) rfl rfl 30 zr0 F2.out.1 ref_row_size rfl (rowC_one _ _ _ _) ?_)
    exact bodyPost_ret (v := .agg (rowC (some ⟨w1.heap.size, 0, none⟩) 3 8 true)) (results_cell_row (by rfl) _ _ g _ (rowC (some ⟨w1.heap.size, 0, none⟩) 3 8 true) (0, 0) _ rfl (setRow_heap _ _ _ _ _ _ F2.out.1) Try.underlying30 rfl ref_row_size) rfl F2.out.2
  go_upto_region 4 with fail
  by_cases h1 : e = 11
  · subst h1
    clear h0
    have F := cover (fun w2 hb => ref_fin [12, 7] 0 H1.out (w2 := w2) hb)
    have E : Hid (stepG 3 11 = ([12, 7], 0, true)) := cover (by decide +kernel)
    rw [E.out]
    go_wp2_with fail
    refine (refrow_any _ _ _ _).mono ?_
    rintro e w2 ⟨rfl, hb2⟩
    have F2 := cover (F.out w2 hb2)
    clear hb2 F
    go_wp2_with (refine wpList_store_row rfl _ _ _ rfl g (rowC (some ⟨w1.heap.size, 0, none⟩) 2 0 true) rfl rfl 30 zr0 F2.out.1 ref_row_size rfl (rowC_one _ _ _ _) ?_)
    exact bodyPost_ret (v := .agg (rowC (some ⟨w1.heap.size, 0, none⟩) 2 0 true)) (results_cell_row (by rfl) _ _ g _ (rowC (some ⟨w1.heap.size, 0, none⟩) 2 0 true) (0, 0) _ rfl (setRow_heap _ _ _ _ _ _ F2.out.1) Try.underlying30 rfl ref_row_size) rfl F2.out.2
  go_upto_region 6 with fail
  by_cases h2 : e = 8
  · subst h2
    clear h0 h1
    have F := cover (fun w2 hb => ref_fin [2] 3 H1.out (w2 := w2) hb)
    have E : Hid (stepG 3 8 = ([2], 3, true)) := cover (by decide +kernel)
    rw [E.out]
    go_wp2_with fail
    refine (refrow_any _ _ _ _).mono ?_
    rintro e w2 ⟨rfl, hb2⟩
    have F2 := cover (F.out w2 hb2)
    clear hb2 F
    go_wp2_with (refine wpList_store_row rfl _ _ _ rfl g (rowC (some ⟨w1.heap.size, 0, none⟩) 1 3 true) rfl rfl 30 zr0 F2.out.1 ref_row_size rfl (rowC_one _ _ _ _) ?_)
    exact bodyPost_ret (v := .agg (rowC (some ⟨w1.heap.size, 0, none⟩) 1 3 true)) (results_cell_row (by rfl) _ _ g _ (rowC (some ⟨w1.heap.size, 0, none⟩) 1 3 true) (0, 0) _ rfl (setRow_heap _ _ _ _ _ _ F2.out.1) Try.underlying30 rfl ref_row_size) rfl F2.out.2
  go_upto_region 8 with fail
  by_cases h3 : e = 9
  · subst h3
    clear h0 h1 h2
    have F := cover (fun w2 hb => ref_fin [3, 12, 7] 0 H1.out (w2 := w2) hb)
    have E : Hid (stepG 3 9 = ([3, 12, 7], 0, true)) := cover (by decide +kernel)
    rw [E.out]
    go_wp2_with fail
    refine (refrow_any _ _ _ _).mono ?_
    rintro e w2 ⟨rfl, hb2⟩
    have F2 := cover (F.out w2 hb2)
    clear hb2 F
    go_wp2_with (refine wpList_store_row rfl _ _ _ rfl g (rowC (some ⟨w1.heap.size, 0, none⟩) 3 0 true) rfl rfl 30 zr0 F2.out.1 ref_row_size rfl (rowC_one _ _ _ _) ?_)
    exact bodyPost_ret (v := .agg (rowC (some ⟨w1.heap.size, 0, none⟩) 3 0 true)) (results_cell_row (by rfl) _ _ g _ (rowC (some ⟨w1.heap.size, 0, none⟩) 3 0 true) (0, 0) _ rfl (setRow_heap _ _ _ _ _ _ F2.out.1) Try.underlying30 rfl ref_row_size) rfl F2.out.2
  go_upto_region 10 with fail
  by_cases h4 : e = 2
  · subst h4
    clear h0 h1 h2 h3
    have F := cover (fun w2 hb => ref_fin [1, 33, 13] 6 H1.out (w2 := w2) hb)
    have E : Hid (stepG 3 2 = ([1, 33, 13], 6, true)) := cover (by decide +kernel)
    rw [E.out]
    go_wp2_with fail
    refine (refrow_any _ _ _ _).mono ?_
    rintro e w2 ⟨rfl, hb2⟩
    have F2 := cover (F.out w2 hb2)
    clear hb2 F
    go_wp2_with (refine wpList_store_row rfl _ _ _ rfl g (rowC (some ⟨w1.heap.size, 0, none⟩) 3 6 true) rfl rfl 30 zr0 F2.out.1 ref_row_size rfl (rowC_one _ _ _ _) ?_)
    exact bodyPost_ret (v := .agg (rowC (some ⟨w1.heap.size, 0, none⟩) 3 6 true)) (results_cell_row (by rfl) _ _ g _ (rowC (some ⟨w1.heap.size, 0, none⟩) 3 6 true) (0, 0) _ rfl (setRow_heap _ _ _ _ _ _ F2.out.1) Try.underlying30 rfl ref_row_size) rfl F2.out.2
  go_upto_region 12 with fail
  by_cases h5 : e = 29
  · subst h5
    clear h0 h1 h2 h3 h4
    have F := cover (fun w2 hb => ref_fin [0, 32, 13] 3 H1.out (w2 := w2) hb)
    have E : Hid (stepG 3 29 = ([0, 32, 13], 3, true)) := cover (by decide +kernel)
    rw [E.out]
    go_wp2_with fail
    refine (refrow_any _ _ _ _).mono ?_
    rintro e w2 ⟨rfl, hb2⟩
    have F2 := cover (F.out w2 hb2)
    clear hb2 F
    go_wp2_with (refine wpList_store_row rfl _ _ _ rfl g (rowC (some ⟨w1.heap.size, 0, none⟩) 3 3 true) rfl rfl 30 zr0 F2.out.1 ref_row_size rfl (rowC_one _ _ _ _) ?_)
    exact bodyPost_ret (v := .agg (rowC (some ⟨w1.heap.size, 0, none⟩) 3 3 true)) (results_cell_row (by rfl) _ _ g _ (rowC (some ⟨w1.heap.size, 0, none⟩) 3 3 true) (0, 0) _ rfl (setRow_heap _ _ _ _ _ _ F2.out.1) Try.underlying30 rfl ref_row_size) rfl F2.out.2
  go_upto_region 14 with fail
  by_cases h6 : e = 33
  · subst h6
    clear h0 h1 h2 h3 h4 h5
    have F := cover (fun w2 hb => ref_fin [12, 7] 0 H1.out (w2 := w2) hb)
    have E : Hid (stepG 3 33 = ([12, 7], 0, true)) := cover (by decide +kernel)
    rw [E.out]
    go_wp2_with fail
    refine (refrow_any _ _ _ _).mono ?_
    rintro e w2 ⟨rfl, hb2⟩
    have F2 := cover (F.out w2 hb2)
    clear hb2 F
    go_wp2_with (refine wpList_store_row rfl _ _ _ rfl g (rowC (some ⟨w1.heap.size, 0, none⟩) 2 0 true) rfl rfl 30 zr0 F2.out.1 ref_row_size rfl (rowC_one _ _ _ _) ?_)
    exact bodyPost_ret (v := .agg (rowC (some ⟨w1.heap.size, 0, none⟩) 2 0 true)) (results_cell_row (by rfl) _ _ g _ (rowC (some ⟨w1.heap.size, 0, none⟩) 2 0 true) (0, 0) _ rfl (setRow_heap _ _ _ _ _ _ F2.out.1) Try.underlying30 rfl ref_row_size) rfl F2.out.2
  have hs := stepG_none (s := 3) (e := e) (by rw [show evsG 3 = [10, 11, 8, 9, 2, 29, 33] from by decide +kernel]; simp only [List.mem_cons, List.not_mem_nil, or_false]; omega)
  have F := cover (ref_no hs H1.out)
  have G := cover H1.out.2.2
  clear hs H1
  go_wp2_with (refine wpList_store_row rfl _ _ _ rfl g (rowC none 0 3 false) rfl rfl 30 zr0 G.out ref_row_size rfl (rowC_one _ _ _ _) ?_)
  exact bodyPost_ret (v := .agg (rowC none 0 3 false)) (results_cell_row (by rfl) _ _ g _ (rowC none 0 3 false) (0, 0) _ rfl (setRow_heap _ _ _ _ _ _ G.out) Try.underlying30 rfl ref_row_size) rfl F.out
set_option maxHeartbeats 3200000 in
theorem ref_inResetCheck_any (e : Int) (w : World) : Calls Try.prog 23 #[.int .i64 e] w (RowOut w (stepG 4 e)) := by
  obtain ⟨g, hg⟩ : ∃ g, w.heap.size = g := ⟨_, rfl⟩
  obtain ⟨w1, hw1⟩ : ∃ w1, Hid (w1 = w.alloc (.cells zr0 30)) := ⟨_, cover rfl⟩
  have H1 : Hid (w.heap.size = g ∧ Below g w w1 ∧ w1.heap[g]? = some (.cells zr0 30 (0, 0))) := cover (by rw [hw1.out, ← hg]; exact ⟨rfl, (Below.refl _ _).alloc (Nat.le_refl _) _, heap_alloc_new _ _⟩)
  go_enter Try.func23, Try.ntmps23
  go_upto_region 1 with fail
  rw [← hw1.out]
  clear hg hw1
  go_upto_region 2 with fail
  by_cases h0 : e = 4
  · subst h0
    have F := cover (fun w2 hb => ref_fin [2, 10] 8 H1.out (w2 := w2) hb)
    have E : Hid (stepG 4 4 = ([2, 10], 8, true)) := cover (by decide +kernel)
    rw [E.out]
    go_wp2_with fail
    refine (refrow_any _ _ _ _).mono ?_
    rintro e w2 ⟨rfl, hb2⟩
    have F2 := cover (F.out w2 hb2)
    clear hb2 F
    go_wp2_with (refine wpList_store_row rfl _ _ _ rfl g (rowC (some ⟨w1.heap.size, 0, none⟩) 2 8 true) rfl rfl 30 zr0 F2.out.1 ref_row_size rfl (rowC_one _ _ _ _) ?_)
    exact bodyPost_ret (v := .agg (rowC (some ⟨w1.heap.size, 0, none⟩) 2 8 true)) (results_cell_row (by rfl) _ _ g _ (rowC (some ⟨w1.heap.size, 0, none⟩) 2 8 true) (0, 0) _ rfl (setRow_heap _ _ _ _ _ _ F2.out.1) Try.underlying30 rfl ref_row_size) rfl F2.out.2
  go_upto_region 4 with fail
  by_cases h1 : e = 2
  · subst h1
    clear h0
    have F := cover (fun w2 hb => ref_fin [3] 0 H1.out (w2 := w2) hb)
    have E : Hid (stepG 4 2 = ([3], 0, true)) := cover (by decide +kernel)
    rw [E.out]
    go_wp2_with fail
    refine (refrow_any _ _ _ _).mono ?_
    rintro e w2 ⟨rfl, hb2⟩
    have F2 := cover (F.out w2 hb2)
    clear hb2 F
    go_wp2_with (refine wpList_store_row rfl _ _ _ rfl g (rowC (some ⟨w1.heap.size, 0, none⟩) 1 0 true) rfl rfl 30 zr0 F2.out.1 ref_row_size rfl (rowC_one _ _ _ _) ?_)
    exact bodyPost_ret (v := .agg (rowC (some ⟨w1.heap.size, 0, none⟩) 1 0 true)) (results_cell_row (by rfl) _ _ g _ (rowC (some ⟨w1.heap.size, 0, none⟩) 1 0 true) (0, 0) _ rfl (setRow_heap _ _ _ _ _ _ F2.out.1) Try.underlying30 rfl ref_row_size) rfl F2.out.2
  go_upto_region 6 with fail
  by_cases h2 : e = 9
  · subst h2
    clear h0 h1
    have F := cover (fun w2 hb => ref_fin [2, 7] 0 H1.out (w2 := w2) hb)
    have E : Hid (stepG 4 9 = ([2, 7], 0, true)) := cover (by decide +kernel)
    rw [E.out]
    go_wp2_with fail
    refine (refrow_any _ _ _ _).mono ?_
    rintro e w2 ⟨rfl, hb2⟩
    have F2 := cover (F.out w2 hb2)
    clear hb2 F
    go_wp2_with (refine wpList_store_row rfl _ _ _ rfl g (rowC (some ⟨w1.heap.size, 0, none⟩) 2 0 true) rfl rfl 30 zr0 F2.out.1 ref_row_size rfl (rowC_one _ _ _ _) ?_)
    exact bodyPost_ret (v := .agg (rowC (some ⟨w1.heap.size, 0, none⟩) 2 0 true)) (results_cell_row (by rfl) _ _ g _ (rowC (some ⟨w1.heap.size, 0, none⟩) 2 0 true) (0, 0) _ rfl (setRow_heap _ _ _ _ _ _ F2.out.1) Try.underlying30 rfl ref_row_size) rfl F2.out.2
  go_upto_region 8 with fail
  by_cases h3 : e = 11
  · subst h3
    clear h0 h1 h2
    have F := cover (fun w2 hb => ref_fin [7] 0 H1.out (w2 := w2) hb)
    have E : Hid (stepG 4 11 = ([7], 0, true)) := cover (by decide +kernel)
    rw [E.out]
    go_wp2_with fail
    refine (refrow_any _ _ _ _).mono ?_
    rintro e w2 ⟨rfl, hb2⟩
    have F2 := cover (F.out w2 hb2)
    clear hb2 F
    go_wp2_with (refine wpList_store_row rfl _ _ _ rfl g (rowC (some ⟨w1.heap.size, 0, none⟩) 1 0 true) rfl rfl 30 zr0 F2.out.1 ref_row_size rfl (rowC_one _ _ _ _) ?_)
    exact bodyPost_ret (v := .agg (rowC (some ⟨w1.heap.size, 0, none⟩) 1 0 true)) (results_cell_row (by rfl) _ _ g _ (rowC (some ⟨w1.heap.size, 0, none⟩) 1 0 true) (0, 0) _ rfl (setRow_heap _ _ _ _ _ _ F2.out.1) Try.underlying30 rfl ref_row_size) rfl F2.out.2
  have hs := stepG_none (s := 4) (e := e) (by rw [show evsG 4 = [4, 2, 9, 11] from by decide +kernel]; simp only [List.mem_cons, List.not_mem_nil, or_false]; omega)
  have F := cover (ref_no hs H1.out)
  have G := cover H1.out.2.2
  clear hs H1
  go_wp2_with (refine wpList_store_row rfl _ _ _ rfl g (rowC none 0 4 false) rfl rfl 30 zr0 G.out ref_row_size rfl (rowC_one _ _ _ _) ?_)
  exact bodyPost_ret (v := .agg (rowC none 0 4 false)) (results_cell_row (by rfl) _ _ g _ (rowC none 0 4 false) (0, 0) _ rfl (setRow_heap _ _ _ _ _ _ G.out) Try.underlying30 rfl ref_row_size) rfl F.out
set_option maxHeartbeats 3200000 in
theorem ref_inResetWait_any (e : Int) (w : World) : Calls Try.prog 24 #[.int .i64 e] w (RowOut w (stepG 5 e)) := by
  obtain ⟨g, hg⟩ : ∃ g, w.heap.size = g := ⟨_, rfl⟩
  obtain ⟨w1, hw1⟩ : ∃ w1, Hid (w1 = w.alloc (.cells zr0 30)) := ⟨_, cover rfl⟩
  have H1 : Hid (w.heap.size = g ∧ Below g w w1 ∧ w1.heap[g]? = some (.cells zr0 30 (0, 0))) := cover (by rw [hw1.out, ← hg]; exact ⟨rfl, (Below.refl _ _).alloc (Nat.le_refl _) _, heap_alloc_new _ _⟩)
  go_enter Try.func24, Try.ntmps24
  go_upto_region 1 with fail
  rw [← hw1.out]
  clear hg hw1
  go_upto_region 2 with fail
  by_cases h0 : e = 3
  · subst h0
    have F := cover (fun w2 hb => ref_fin [0, 33, 13] 3 H1.out (w2 := w2) hb)
    have E : Hid (stepG 5 3 = ([0, 33, 13], 3, true)) := cover (by decide +kernel)
    rw [E.out]
    go_wp2_with fail
    refine (refrow_any _ _ _ _).mono ?_
    rintro e w2 ⟨rfl, hb2⟩
    have F2 := cover (F.out w2 hb2)
    clear hb2 F
    go_wp2_with (refine wpList_store_row rfl _ _ _ rfl g (rowC (some ⟨w1.heap.size, 0, none⟩) 3 3 true) rfl rfl 30 zr0 F2.out.1 ref_row_size rfl (rowC_one _ _ _ _) ?_)
    exact bodyPost_ret (v := .agg (rowC (some ⟨w1.heap.size, 0, none⟩) 3 3 true)) (results_cell_row (by rfl) _ _ g _ (rowC (some ⟨w1.heap.size, 0, none⟩) 3 3 true) (0, 0) _ rfl (setRow_heap _ _ _ _ _ _ F2.out.1) Try.underlying30 rfl ref_row_size) rfl F2.out.2
  go_upto_region 4 with fail
  by_cases h1 : e = 2
  · subst h1
    clear h0
    have F := cover (fun w2 hb => ref_fin [1, 33, 13] 6 H1.out (w2 := w2) hb)
    have E : Hid (stepG 5 2 = ([1, 33, 13], 6, true)) := cover (by decide +kernel)
    rw [E.out]
    go_wp2_with fail
    refine (refrow_any _ _ _ _).mono ?_
    rintro e w2 ⟨rfl, hb2⟩
    have F2 := cover (F.out w2 hb2)
    clear hb2 F
    go_wp2_with (refine wpList_store_row rfl _ _ _ rfl g (rowC (some ⟨w1.heap.size, 0, none⟩) 3 6 true) rfl rfl 30 zr0 F2.out.1 ref_row_size rfl (rowC_one _ _ _ _) ?_)
    exact bodyPost_ret (v := .agg (rowC (some ⟨w1.heap.size, 0, none⟩) 3 6 true)) (results_cell_row (by rfl) _ _ g _ (rowC (some ⟨w1.heap.size, 0, none⟩) 3 6 true) (0, 0) _ rfl (setRow_heap _ _ _ _ _ _ F2.out.1) Try.underlying30 rfl ref_row_size) rfl F2.out.2
  go_upto_region 6 with fail
  by_cases h2 : e = 8
  · subst h2
    clear h0 h1
    have F := cover (fun w2 hb => ref_fin [8] 4 H1.out (w2 := w2) hb)
    have E : Hid (stepG 5 8 = ([8], 4, true)) := cover (by decide +kernel)
    rw [E.out]
    go_wp2_with fail
    refine (refrow_any _ _ _ _).mono ?_
    rintro e w2 ⟨rfl, hb2⟩
    have F2 := cover (F.out w2 hb2)
    clear hb2 F
    go_wp2_with (refine wpList_store_row rfl _ _ _ rfl g (rowC (some ⟨w1.heap.size, 0, none⟩) 1 4 true) rfl rfl 30 zr0 F2.out.1 ref_row_size rfl (rowC_one _ _ _ _) ?_)
    exact bodyPost_ret (v := .agg (rowC (some ⟨w1.heap.size, 0, none⟩) 1 4 true)) (results_cell_row (by rfl) _ _ g _ (rowC (some ⟨w1.heap.size, 0, none⟩) 1 4 true) (0, 0) _ rfl (setRow_heap _ _ _ _ _ _ F2.out.1) Try.underlying30 rfl ref_row_size) rfl F2.out.2
  go_upto_region 8 with fail
  by_cases h3 : e = 9
  · subst h3
    clear h0 h1 h2
    have F := cover (fun w2 hb => ref_fin [2, 7] 0 H1.out (w2 := w2) hb)
    have E : Hid (stepG 5 9 = ([2, 7], 0, true)) := cover (by decide +kernel)
    rw [E.out]
    go_wp2_with fail
    refine (refrow_any _ _ _ _).mono ?_
    rintro e w2 ⟨rfl, hb2⟩
    have F2 := cover (F.out w2 hb2)
    clear hb2 F
    go_wp2_with (refine wpList_store_row rfl _ _ _ rfl g (rowC (some ⟨w1.heap.size, 0, none⟩) 2 0 true) rfl rfl 30 zr0 F2.out.1 ref_row_size rfl (rowC_one _ _ _ _) ?_)
    exact bodyPost_ret (v := .agg (rowC (some ⟨w1.heap.size, 0, none⟩) 2 0 true)) (results_cell_row (by rfl) _ _ g _ (rowC (some ⟨w1.heap.size, 0, none⟩) 2 0 true) (0, 0) _ rfl (setRow_heap _ _ _ _ _ _ F2.out.1) Try.underlying30 rfl ref_row_size) rfl F2.out.2
  go_upto_region 10 with fail
  by_cases h4 : e = 11
  · subst h4
    clear h0 h1 h2 h3
    have F := cover (fun w2 hb => ref_fin [7] 0 H1.out (w2 := w2) hb)
    have E : Hid (stepG 5 11 = ([7], 0, true)) := cover (by decide +kernel)
    rw [E.out]
    go_wp2_with fail
    refine (refrow_any _ _ _ _).mono ?_
    rintro e w2 ⟨rfl, hb2⟩
    have F2 := cover (F.out w2 hb2)
    clear hb2 F
    go_wp2_with (refine wpList_store_row rfl _ _ _ rfl g (rowC (some ⟨w1.heap.size, 0, none⟩) 1 0 true) rfl rfl 30 zr0 F2.out.1 ref_row_size rfl (rowC_one _ _ _ _) ?_)
    exact bodyPost_ret (v := .agg (rowC (some ⟨w1.heap.size, 0, none⟩) 1 0 true)) (results_cell_row (by rfl) _ _ g _ (rowC (some ⟨w1.heap.size, 0, none⟩) 1 0 true) (0, 0) _ rfl (setRow_heap _ _ _ _ _ _ F2.out.1) Try.underlying30 rfl ref_row_size) rfl F2.out.2
  have hs := stepG_none (s := 5) (e := e) (by rw [show evsG 5 = [3, 2, 8, 9, 11] from by decide +kernel]; simp only [List.mem_cons, List.not_mem_nil, or_false]; omega)
  have F := cover (ref_no hs H1.out)
  have G := cover H1.out.2.2
  clear hs H1
  go_wp2_with (refine wpList_store_row rfl _ _ _ rfl g (rowC none 0 5 false) rfl rfl 30 zr0 G.out ref_row_size rfl (rowC_one _ _ _ _) ?_)
  exact bodyPost_ret (v := .agg (rowC none 0 5 false)) (results_cell_row (by rfl) _ _ g _ (rowC none 0 5 false) (0, 0) _ rfl (setRow_heap _ _ _ _ _ _ G.out) Try.underlying30 rfl ref_row_size) rfl F.out
set_option maxHeartbeats 3200000 in
theorem ref_inDConn_any (e : Int) (w : World) : Calls Try.prog 25 #[.int .i64 e] w (RowOut w (stepG 6 e)) := by
  obtain ⟨g, hg⟩ : ∃ g, w.heap.size = g := ⟨_, rfl⟩
  obtain ⟨w1, hw1⟩ : ∃ w1, Hid (w1 = w.alloc (.cells zr0 30)) := ⟨_, cover rfl⟩
  have H1 : Hid (w.heap.size = g ∧ Below g w w1 ∧ w1.heap[g]? = some (.cells zr0 30 (0, 0))) := cover (by rw [hw1.out, ← hg]; exact ⟨rfl, (Below.refl _ _).alloc (Nat.le_refl _) _, heap_alloc_new _ _⟩)
  go_enter Try.func25, Try.ntmps25
  go_upto_region 1 with fail
  rw [← hw1.out]
  clear hg hw1
  go_upto_region 2 with fail
  by_cases h0 : e = 10
  · subst h0
    have F := cover (fun w2 hb => ref_fin [12] 0 H1.out (w2 := w2) hb)
    have E : Hid (stepG 6 10 = ([12], 0, true)) := cover (by decide +kernel)
    rw [E.out]
    go_wp2_with fail
    refine (refrow_any _ _ _ _).mono ?_
    rintro e w2 ⟨rfl, hb2⟩
    have F2 := cover (F.out w2 hb2)
    clear hb2 F
    go_wp2_with (refine wpList_store_row rfl _ _ _ rfl g (rowC (some ⟨w1.heap.size, 0, none⟩) 1 0 true) rfl rfl 30 zr0 F2.out.1 ref_row_size rfl (rowC_one _ _ _ _) ?_)
    exact bodyPost_ret (v := .agg (rowC (some ⟨w1.heap.size, 0, none⟩) 1 0 true)) (results_cell_row (by rfl) _ _ g _ (rowC (some ⟨w1.heap.size, 0, none⟩) 1 0 true) (0, 0) _ rfl (setRow_heap _ _ _ _ _ _ F2.out.1) Try.underlying30 rfl ref_row_size) rfl F2.out.2
  go_upto_region 4 with fail
  by_cases h1 : e = 11
  · subst h1
    clear h0
    have F := cover (fun w2 hb => ref_fin [12] 0 H1.out (w2 := w2) hb)
    have E : Hid (stepG 6 11 = ([12], 0, true)) := cover (by decide +kernel)
    rw [E.out]
    go_wp2_with fail
    refine (refrow_any _ _ _ _).mono ?_
    rintro e w2 ⟨rfl, hb2⟩
    have F2 := cover (F.out w2 hb2)
    clear hb2 F
    go_wp2_with (refine wpList_store_row rfl _ _ _ rfl g (rowC (some ⟨w1.heap.size, 0, none⟩) 1 0 true) rfl rfl 30 zr0 F2.out.1 ref_row_size rfl (rowC_one _ _ _ _) ?_)
    exact bodyPost_ret (v := .agg (rowC (some ⟨w1.heap.size, 0, none⟩) 1 0 true)) (results_cell_row (by rfl) _ _ g _ (rowC (some ⟨w1.heap.size, 0, none⟩) 1 0 true) (0, 0) _ rfl (setRow_heap _ _ _ _ _ _ F2.out.1) Try.underlying30 rfl ref_row_size) rfl F2.out.2
  go_upto_region 6 with fail
  by_cases h2 : e = 8
  · subst h2
    clear h0 h1
    have F := cover (fun w2 hb => ref_fin [3, 12] 0 H1.out (w2 := w2) hb)
    have E : Hid (stepG 6 8 = ([3, 12], 0, true)) := cover (by decide +kernel)
    rw [E.out]
    go_wp2_with fail
    refine (refrow_any _ _ _ _).mono ?_
    rintro e w2 ⟨rfl, hb2⟩
    have F2 := cover (F.out w2 hb2)
    clear hb2 F
    go_wp2_with (refine wpList_store_row rfl _ _ _ rfl g (rowC (some ⟨w1.heap.size, 0, none⟩) 2 0 true) rfl rfl 30 zr0 F2.out.1 ref_row_size rfl (rowC_one _ _ _ _) ?_)
    exact bodyPost_ret (v := .agg (rowC (some ⟨w1.heap.size, 0, none⟩) 2 0 true)) (results_cell_row (by rfl) _ _ g _ (rowC (some ⟨w1.heap.size, 0, none⟩) 2 0 true) (0, 0) _ rfl (setRow_heap _ _ _ _ _ _ F2.out.1) Try.underlying30 rfl ref_row_size) rfl F2.out.2
  go_upto_region 8 with fail
  by_cases h3 : e = 9
  · subst h3
    clear h0 h1 h2
    have F := cover (fun w2 hb => ref_fin [2] 6 H1.out (w2 := w2) hb)
    have E : Hid (stepG 6 9 = ([2], 6, true)) := cover (by decide +kernel)
    rw [E.out]
    go_wp2_with fail
    refine (refrow_any _ _ _ _).mono ?_
    rintro e w2 ⟨rfl, hb2⟩
    have F2 := cover (F.out w2 hb2)
    clear hb2 F
    go_wp2_with (refine wpList_store_row rfl _ _ _ rfl g (rowC (some ⟨w1.heap.size, 0, none⟩) 1 6 true) rfl rfl 30 zr0 F2.out.1 ref_row_size rfl (rowC_one _ _ _ _) ?_)
    exact bodyPost_ret (v := .agg (rowC (some ⟨w1.heap.size, 0, none⟩) 1 6 true)) (results_cell_row (by rfl) _ _ g _ (rowC (some ⟨w1.heap.size, 0, none⟩) 1 6 true) (0, 0) _ rfl (setRow_heap _ _ _ _ _ _ F2.out.1) Try.underlying30 rfl ref_row_size) rfl F2.out.2
  go_upto_region 10 with fail
  by_cases h4 : e = 29
  · subst h4
    clear h0 h1 h2 h3
    have F := cover (fun w2 hb => ref_fin [1, 32, 13] 6 H1.out (w2 := w2) hb)
    have E : Hid (stepG 6 29 = ([1, 32, 13], 6, true)) := cover (by decide +kernel)
    rw [E.out]
    go_wp2_with fail
    refine (refrow_any _ _ _ _).mono ?_
    rintro e w2 ⟨rfl, hb2⟩
    have F2 := cover (F.out w2 hb2)
    clear hb2 F
    go_wp2_with (refine wpList_store_row rfl _ _ _ rfl g (rowC (some ⟨w1.heap.size, 0, none⟩) 3 6 true) rfl rfl 30 zr0 F2.out.1 ref_row_size rfl (rowC_one _ _ _ _) ?_)
    exact bodyPost_ret (v := .agg (rowC (some ⟨w1.heap.size, 0, none⟩) 3 6 true)) (results_cell_row (by rfl) _ _ g _ (rowC (some ⟨w1.heap.size, 0, none⟩) 3 6 true) (0, 0) _ rfl (setRow_heap _ _ _ _ _ _ F2.out.1) Try.underlying30 rfl ref_row_size) rfl F2.out.2
  go_upto_region 12 with fail
  by_cases h5 : e = 33
  · subst h5
    clear h0 h1 h2 h3 h4
    have F := cover (fun w2 hb => ref_fin [12] 0 H1.out (w2 := w2) hb)
    have E : Hid (stepG 6 33 = ([12], 0, true)) := cover (by decide +kernel)
    rw [E.out]
    go_wp2_with fail
    refine (refrow_any _ _ _ _).mono ?_
    rintro e w2 ⟨rfl, hb2⟩
    have F2 := cover (F.out w2 hb2)
    clear hb2 F
    go_wp2_with (refine wpList_store_row rfl _ _ _ rfl g (rowC (some ⟨w1.heap.size, 0, none⟩) 1 0 true) rfl rfl 30 zr0 F2.out.1 ref_row_size rfl (rowC_one _ _ _ _) ?_)
    exact bodyPost_ret (v := .agg (rowC (some ⟨w1.heap.size, 0, none⟩) 1 0 true)) (results_cell_row (by rfl) _ _ g _ (rowC (some ⟨w1.heap.size, 0, none⟩) 1 0 true) (0, 0) _ rfl (setRow_heap _ _ _ _ _ _ F2.out.1) Try.underlying30 rfl ref_row_size) rfl F2.out.2
  have hs := stepG_none (s := 6) (e := e) (by rw [show evsG 6 = [10, 11, 8, 9, 29, 33] from by decide +kernel]; simp only [List.mem_cons, List.not_mem_nil, or_false]; omega)
  have F := cover (ref_no hs H1.out)
  have G := cover H1.out.2.2
  clear hs H1
  go_wp2_with (refine wpList_store_row rfl _ _ _ rfl g (rowC none 0 6 false) rfl rfl 30 zr0 G.out ref_row_size rfl (rowC_one _ _ _ _) ?_)
  exact bodyPost_ret (v := .agg (rowC none 0 6 false)) (results_cell_row (by rfl) _ _ g _ (rowC none 0 6 false) (0, 0) _ rfl (setRow_heap _ _ _ _ _ _ G.out) Try.underlying30 rfl ref_row_size) rfl F.out
set_option maxHeartbeats 3200000 in
theorem ref_inError_any (e : Int) (w : World) : Calls Try.prog 26 #[.int .i64 e] w (RowOut w (stepG 7 e)) := by
  obtain ⟨g, hg⟩ : ∃ g, w.heap.size = g := ⟨_, rfl⟩
  obtain ⟨w1, hw1⟩ : ∃ w1, Hid (w1 = w.alloc (.cells zr0 30)) := ⟨_, cover rfl⟩
  have H1 : Hid (w.heap.size = g ∧ Below g w w1 ∧ w1.heap[g]? = some (.cells zr0 30 (0, 0))) := cover (by rw [hw1.out, ← hg]; exact ⟨rfl, (Below.refl _ _).alloc (Nat.le_refl _) _, heap_alloc_new _ _⟩)
  go_enter Try.func26, Try.ntmps26
  go_upto_region 1 with fail
  rw [← hw1.out]
  clear hg hw1
  go_upto_region 2 with fail
  by_cases h0 : e = 8
  · subst h0
    have F := cover (fun w2 hb => ref_fin [12, 8] 4 H1.out (w2 := w2) hb)
    have E : Hid (stepG 7 8 = ([12, 8], 4, true)) := cover (by decide +kernel)
    rw [E.out]
    go_wp2_with fail
    refine (refrow_any _ _ _ _).mono ?_
    rintro e w2 ⟨rfl, hb2⟩
    have F2 := cover (F.out w2 hb2)
    clear hb2 F
    go_wp2_with (refine wpList_store_row rfl _ _ _ rfl g (rowC (some ⟨w1.heap.size, 0, none⟩) 2 4 true) rfl rfl 30 zr0 F2.out.1 ref_row_size rfl (rowC_one _ _ _ _) ?_)
    exact bodyPost_ret (v := .agg (rowC (some ⟨w1.heap.size, 0, none⟩) 2 4 true)) (results_cell_row (by rfl) _ _ g _ (rowC (some ⟨w1.heap.size, 0, none⟩) 2 4 true) (0, 0) _ rfl (setRow_heap _ _ _ _ _ _ F2.out.1) Try.underlying30 rfl ref_row_size) rfl F2.out.2
  go_upto_region 4 with fail
  by_cases h1 : e = 9
  · subst h1
    clear h0
    have F := cover (fun w2 hb => ref_fin [2, 12, 7] 0 H1.out (w2 := w2) hb)
    have E : Hid (stepG 7 9 = ([2, 12, 7], 0, true)) := cover (by decide +kernel)
    rw [E.out]
    go_wp2_with fail
    refine (refrow_any _ _ _ _).mono ?_
    rintro e w2 ⟨rfl, hb2⟩
    have F2 := cover (F.out w2 hb2)
    clear hb2 F
    go_wp2_with (refine wpList_store_row rfl _ _ _ rfl g (rowC (some ⟨w1.heap.size, 0, none⟩) 3 0 true) rfl rfl 30 zr0 F2.out.1 ref_row_size rfl (rowC_one _ _ _ _) ?_)
    exact bodyPost_ret (v := .agg (rowC (some ⟨w1.heap.size, 0, none⟩) 3 0 true)) (results_cell_row (by rfl) _ _ g _ (rowC (some ⟨w1.heap.size, 0, none⟩) 3 0 true) (0, 0) _ rfl (setRow_heap _ _ _ _ _ _ F2.out.1) Try.underlying30 rfl ref_row_size) rfl F2.out.2
  go_upto_region 6 with fail
  by_cases h2 : e = 11
  · subst h2
    clear h0 h1
    have F := cover (fun w2 hb => ref_fin [12, 7] 0 H1.out (w2 := w2) hb)
    have E : Hid (stepG 7 11 = ([12, 7], 0, true)) := cover (by decide +kernel)
    rw [E.out]
    go_wp2_with fail
    refine (refrow_any _ _ _ _).mono ?_
    rintro e w2 ⟨rfl, hb2⟩
    have F2 := cover (F.out w2 hb2)
    clear hb2 F
    go_wp2_with (refine wpList_store_row rfl _ _ _ rfl g (rowC (some ⟨w1.heap.size, 0, none⟩) 2 0 true) rfl rfl 30 zr0 F2.out.1 ref_row_size rfl (rowC_one _ _ _ _) ?_)
    exact bodyPost_ret (v := .agg (rowC (some ⟨w1.heap.size, 0, none⟩) 2 0 true)) (results_cell_row (by rfl) _ _ g _ (rowC (some ⟨w1.heap.size, 0, none⟩) 2 0 true) (0, 0) _ rfl (setRow_heap _ _ _ _ _ _ F2.out.1) Try.underlying30 rfl ref_row_size) rfl F2.out.2
  go_upto_region 8 with fail
  by_cases h3 : e = 12
  · subst h3
    clear h0 h1 h2
    have F := cover (fun w2 hb => ref_fin [12, 8] 5 H1.out (w2 := w2) hb)
    have E : Hid (stepG 7 12 = ([12, 8], 5, true)) := cover (by decide +kernel)
    rw [E.out]
    go_wp2_with fail
    refine (refrow_any _ _ _ _).mono ?_
    rintro e w2 ⟨rfl, hb2⟩
    have F2 := cover (F.out w2 hb2)
    clear hb2 F
    go_wp2_with (refine wpList_store_row rfl _ _ _ rfl g (rowC (some ⟨w1.heap.size, 0, none⟩) 2 5 true) rfl rfl 30 zr0 F2.out.1 ref_row_size rfl (rowC_one _ _ _ _) ?_)
    exact bodyPost_ret (v := .agg (rowC (some ⟨w1.heap.size, 0, none⟩) 2 5 true)) (results_cell_row (by rfl) _ _ g _ (rowC (some ⟨w1.heap.size, 0, none⟩) 2 5 true) (0, 0) _ rfl (setRow_heap _ _ _ _ _ _ F2.out.1) Try.underlying30 rfl ref_row_size) rfl F2.out.2
  go_upto_region 10 with fail
  by_cases h4 : e = 20
  · subst h4
    clear h0 h1 h2 h3
    have F := cover (fun w2 hb => ref_fin [4] 7 H1.out (w2 := w2) hb)
    have E : Hid (stepG 7 20 = ([4], 7, true)) := cover (by decide +kernel)
    rw [E.out]
    go_wp2_with fail
    refine (refrow_any _ _ _ _).mono ?_
    rintro e w2 ⟨rfl, hb2⟩
    have F2 := cover (F.out w2 hb2)
    clear hb2 F
    go_wp2_with (refine wpList_store_row rfl _ _ _ rfl g (rowC (some ⟨w1.heap.size, 0, none⟩) 1 7 true) rfl rfl 30 zr0 F2.out.1 ref_row_size rfl (rowC_one _ _ _ _) ?_)
    exact bodyPost_ret (v := .agg (rowC (some ⟨w1.heap.size, 0, none⟩) 1 7 true)) (results_cell_row (by rfl) _ _ g _ (rowC (some ⟨w1.heap.size, 0, none⟩) 1 7 true) (0, 0) _ rfl (setRow_heap _ _ _ _ _ _ F2.out.1) Try.underlying30 rfl ref_row_size) rfl F2.out.2
  go_upto_region 12 with fail
  by_cases h5 : e = 29
  · subst h5
    clear h0 h1 h2 h3 h4
    have F := cover (fun w2 hb => ref_fin [4, 32, 13] 7 H1.out (w2 := w2) hb)
    have E : Hid (stepG 7 29 = ([4, 32, 13], 7, true)) := cover (by decide +kernel)
    rw [E.out]
    go_wp2_with fail
    refine (refrow_any _ _ _ _).mono ?_
    rintro e w2 ⟨rfl, hb2⟩
    have F2 := cover (F.out w2 hb2)
    clear hb2 F
    go_wp2_with (refine wpList_store_row rfl _ _ _ rfl g (rowC (some ⟨w1.heap.size, 0, none⟩) 3 7 true) rfl rfl 30 zr0 F2.out.1 ref_row_size rfl (rowC_one _ _ _ _) ?_)
    exact bodyPost_ret (v := .agg (rowC (some ⟨w1.heap.size, 0, none⟩) 3 7 true)) (results_cell_row (by rfl) _ _ g _ (rowC (some ⟨w1.heap.size, 0, none⟩) 3 7 true) (0, 0) _ rfl (setRow_heap _ _ _ _ _ _ F2.out.1) Try.underlying30 rfl ref_row_size) rfl F2.out.2
  go_upto_region 14 with fail
  by_cases h6 : e = 33
  · subst h6
    clear h0 h1 h2 h3 h4 h5
    have F := cover (fun w2 hb => ref_fin [12, 8] 5 H1.out (w2 := w2) hb)
    have E : Hid (stepG 7 33 = ([12, 8], 5, true)) := cover (by decide +kernel)
    rw [E.out]
    go_wp2_with fail
    refine (refrow_any _ _ _ _).mono ?_
    rintro e w2 ⟨rfl, hb2⟩
    have F2 := cover (F.out w2 hb2)
    clear hb2 F
    go_wp2_with (refine wpList_store_row rfl _ _ _ rfl g (rowC (some ⟨w1.heap.size, 0, none⟩) 2 5 true) rfl rfl 30 zr0 F2.out.1 ref_row_size rfl (rowC_one _ _ _ _) ?_)
    exact bodyPost_ret (v := .agg (rowC (some ⟨w1.heap.size, 0, none⟩) 2 5 true)) (results_cell_row (by rfl) _ _ g _ (rowC (some ⟨w1.heap.size, 0, none⟩) 2 5 true) (0, 0) _ rfl (setRow_heap _ _ _ _ _ _ F2.out.1) Try.underlying30 rfl ref_row_size) rfl F2.out.2
  go_upto_region 16 with fail
  by_cases h7 : e = 3
  · subst h7
    clear h0 h1 h2 h3 h4 h5 h6
    have F := cover (fun w2 hb => ref_fin [12, 0, 33, 13] 3 H1.out (w2 := w2) hb)
    have E : Hid (stepG 7 3 = ([12, 0, 33, 13], 3, true)) := cover (by decide +kernel)
    rw [E.out]
    go_wp2_with fail
    refine (refrow_any _ _ _ _).mono ?_
    rintro e w2 ⟨rfl, hb2⟩
    have F2 := cover (F.out w2 hb2)
    clear hb2 F
    go_wp2_with (refine wpList_store_row rfl _ _ _ rfl g (rowC (some ⟨w1.heap.size, 0, none⟩) 4 3 true) rfl rfl 30 zr0 F2.out.1 ref_row_size rfl (rowC_one _ _ _ _) ?_)
    exact bodyPost_ret (v := .agg (rowC (some ⟨w1.heap.size, 0, none⟩) 4 3 true)) (results_cell_row (by rfl) _ _ g _ (rowC (some ⟨w1.heap.size, 0, none⟩) 4 3 true) (0, 0) _ rfl (setRow_heap _ _ _ _ _ _ F2.out.1) Try.underlying30 rfl ref_row_size) rfl F2.out.2
  go_upto_region 18 with fail
  by_cases h8 : e = 2
  · subst h8
    clear h0 h1 h2 h3 h4 h5 h6 h7
    have F := cover (fun w2 hb => ref_fin [12, 1, 33, 13] 6 H1.out (w2 := w2) hb)
    have E : Hid (stepG 7 2 = ([12, 1, 33, 13], 6, true)) := cover (by decide +kernel)
    rw [E.out]
    go_wp2_with fail
    refine (refrow_any _ _ _ _).mono ?_
    rintro e w2 ⟨rfl, hb2⟩
    have F2 := cover (F.out w2 hb2)
    clear hb2 F
    go_wp2_with (refine wpList_store_row rfl _ _ _ rfl g (rowC (some ⟨w1.heap.size, 0, none⟩) 4 6 true) rfl rfl 30 zr0 F2.out.1 ref_row_size rfl (rowC_one _ _ _ _) ?_)
    exact bodyPost_ret (v := .agg (rowC (some ⟨w1.heap.size, 0, none⟩) 4 6 true)) (results_cell_row (by rfl) _ _ g _ (rowC (some ⟨w1.heap.size, 0, none⟩) 4 6 true) (0, 0) _ rfl (setRow_heap _ _ _ _ _ _ F2.out.1) Try.underlying30 rfl ref_row_size) rfl F2.out.2
  have hs := stepG_none (s := 7) (e := e) (by rw [show evsG 7 = [8, 9, 11, 12, 20, 29, 33, 3, 2] from by decide +kernel]; simp only [List.mem_cons, List.not_mem_nil, or_false]; omega)
  have F := cover (ref_no hs H1.out)
  have G := cover H1.out.2.2
  clear hs H1
  go_wp2_with (refine wpList_store_row rfl _ _ _ rfl g (rowC none 0 7 false) rfl rfl 30 zr0 G.out ref_row_size rfl (rowC_one _ _ _ _) ?_)
  exact bodyPost_ret (v := .agg (rowC none 0 7 false)) (results_cell_row (by rfl) _ _ g _ (rowC none 0 7 false) (0, 0) _ rfl (setRow_heap _ _ _ _ _ _ G.out) Try.underlying30 rfl ref_row_size) rfl F.out
end Go.Proofs.Ytlffhnplcgmhlaa
