/- The document's own table, state by state (12,13). Written by gen/genjref.py. -/
import Derived.Great.BuildSlice
import Derived.Test.YtlffhnplcgmhlaaJRow2
namespace Go.Proofs.Ytlffhnplcgmhlaa
open Go.RowKit
set_option linter.unusedVariables false
set_option linter.unusedSimpArgs false

set_option maxHeartbeats 3200000 in
theorem ref_inAwaitBusy_any (e : Int) (w : World) : Calls Try.prog 31 #[.int .i64 e] w (RowOut w (stepG 12 e)) := by
  obtain ⟨g, hg⟩ : ∃ g, w.heap.size = g := ⟨_, rfl⟩
  obtain ⟨w1, hw1⟩ : ∃ w1, Hid (w1 = w.alloc (.cells zr0 30)) := ⟨_, cover rfl⟩
  have H1 : Hid (w.heap.size = g ∧ Below g w w1 ∧ w1.heap[g]? = some (.cells zr0 30 (0, 0))) := cover (by rw [hw1.out, ← hg]; exact ⟨rfl, (Below.refl _ _).alloc (Nat.le_refl _) _, heap_alloc_new _ _⟩)
  go_enter Try.func31, Try.ntmps31
  go_upto_region 1 with fail
  rw [← hw1.out]
  clear hg hw1
  go_upto_region 2 with fail
  by_cases h0 : e = 3
  · subst h0
    have F := cover (fun w2 hb => ref_fin [12, 0, 33, 13] 3 H1.out (w2 := w2) hb)
    have E : Hid (stepG 12 3 = ([12, 0, 33, 13], 3, true)) := cover (by decide +kernel)
    rw [E.out]
    go_wp2_with fail
    refine (refrow_any _ _ _ _).mono ?_
    rintro e w2 ⟨rfl, hb2⟩
    have F2 := cover (F.out w2 hb2)
    clear hb2 F
    go_wp2_with (refine wpList_store_row rfl _ _ _ rfl g (rowC (some ⟨w1.heap.size, 0, none⟩) 4 3 true) rfl rfl 30 zr0 F2.out.1 ref_row_size rfl (rowC_one _ _ _ _) ?_)
    exact bodyPost_ret (v := .agg (rowC (some ⟨w1.heap.size, 0, none⟩) 4 3 true)) (results_cell_row (by rfl) _ _ g _ (rowC (some ⟨w1.heap.size, 0, none⟩) 4 3 true) (0, 0) _ rfl (setRow_heap _ _ _ _ _ _ F2.out.1) Try.underlying30 rfl ref_row_size) rfl F2.out.2
  go_upto_region 4 with fail
  by_cases h1 : e = 2
  · subst h1
    clear h0
    have F := cover (fun w2 hb => ref_fin [12, 1, 33, 13] 6 H1.out (w2 := w2) hb)
    have E : Hid (stepG 12 2 = ([12, 1, 33, 13], 6, true)) := cover (by decide +kernel)
    rw [E.out]
    go_wp2_with fail
    refine (refrow_any _ _ _ _).mono ?_
    rintro e w2 ⟨rfl, hb2⟩
    have F2 := cover (F.out w2 hb2)
    clear hb2 F
    go_wp2_with (refine wpList_store_row rfl _ _ _ rfl g (rowC (some ⟨w1.heap.size, 0, none⟩) 4 6 true) rfl rfl 30 zr0 F2.out.1 ref_row_size rfl (rowC_one _ _ _ _) ?_)
    exact bodyPost_ret (v := .agg (rowC (some ⟨w1.heap.size, 0, none⟩) 4 6 true)) (results_cell_row (by rfl) _ _ g _ (rowC (some ⟨w1.heap.size, 0, none⟩) 4 6 true) (0, 0) _ rfl (setRow_heap _ _ _ _ _ _ F2.out.1) Try.underlying30 rfl ref_row_size) rfl F2.out.2
  go_upto_region 6 with fail
  by_cases h2 : e = 8
  · subst h2
    clear h0 h1
    have F := cover (fun w2 hb => ref_fin [12, 8] 4 H1.out (w2 := w2) hb)
    have E : Hid (stepG 12 8 = ([12, 8], 4, true)) := cover (by decide +kernel)
    rw [E.out]
    go_wp2_with fail
    refine (refrow_any _ _ _ _).mono ?_
    rintro e w2 ⟨rfl, hb2⟩
    have F2 := cover (F.out w2 hb2)
    clear hb2 F
    go_wp2_with (refine wpList_store_row rfl _ _ _ rfl g (rowC (some ⟨w1.heap.size, 0, none⟩) 2 4 true) rfl rfl 30 zr0 F2.out.1 ref_row_size rfl (rowC_one _ _ _ _) ?_)
    exact bodyPost_ret (v := .agg (rowC (some ⟨w1.heap.size, 0, none⟩) 2 4 true)) (results_cell_row (by rfl) _ _ g _ (rowC (some ⟨w1.heap.size, 0, none⟩) 2 4 true) (0, 0) _ rfl (setRow_heap _ _ _ _ _ _ F2.out.1) Try.underlying30 rfl ref_row_size) rfl F2.out.2
  go_upto_region 8 with fail
  by_cases h3 : e = 9
  · subst h3
    clear h0 h1 h2
    have F := cover (fun w2 hb => ref_fin [12, 2, 7] 0 H1.out (w2 := w2) hb)
    have E : Hid (stepG 12 9 = ([12, 2, 7], 0, true)) := cover (by decide +kernel)
    rw [E.out]
    go_wp2_with fail
    refine (refrow_any _ _ _ _).mono ?_
    rintro e w2 ⟨rfl, hb2⟩
    have F2 := cover (F.out w2 hb2)
    clear hb2 F
    go_wp2_with (refine wpList_store_row rfl _ _ _ rfl g (rowC (some ⟨w1.heap.size, 0, none⟩) 3 0 true) rfl rfl 30 zr0 F2.out.1 ref_row_size rfl (rowC_one _ _ _ _) ?_)
    exact bodyPost_ret (v := .agg (rowC (some ⟨w1.heap.size, 0, none⟩) 3 0 true)) (results_cell_row (by rfl) _ _ g _ (rowC (some ⟨w1.heap.size, 0, none⟩) 3 0 true) (0, 0) _ rfl (setRow_heap _ _ _ _ _ _ F2.out.1) Try.underlying30 rfl ref_row_size) rfl F2.out.2
  go_upto_region 10 with fail
  by_cases h4 : e = 11
  · subst h4
    clear h0 h1 h2 h3
    have F := cover (fun w2 hb => ref_fin [12, 7] 0 H1.out (w2 := w2) hb)
    have E : Hid (stepG 12 11 = ([12, 7], 0, true)) := cover (by decide +kernel)
    rw [E.out]
    go_wp2_with fail
    refine (refrow_any _ _ _ _).mono ?_
    rintro e w2 ⟨rfl, hb2⟩
    have F2 := cover (F.out w2 hb2)
    clear hb2 F
    go_wp2_with (refine wpList_store_row rfl _ _ _ rfl g (rowC (some ⟨w1.heap.size, 0, none⟩) 2 0 true) rfl rfl 30 zr0 F2.out.1 ref_row_size rfl (rowC_one _ _ _ _) ?_)
    exact bodyPost_ret (v := .agg (rowC (some ⟨w1.heap.size, 0, none⟩) 2 0 true)) (results_cell_row (by rfl) _ _ g _ (rowC (some ⟨w1.heap.size, 0, none⟩) 2 0 true) (0, 0) _ rfl (setRow_heap _ _ _ _ _ _ F2.out.1) Try.underlying30 rfl ref_row_size) rfl F2.out.2
  go_upto_region 12 with fail
  by_cases h5 : e = 12
  · subst h5
    clear h0 h1 h2 h3 h4
    have F := cover (fun w2 hb => ref_fin [12, 8] 5 H1.out (w2 := w2) hb)
    have E : Hid (stepG 12 12 = ([12, 8], 5, true)) := cover (by decide +kernel)
    rw [E.out]
    go_wp2_with fail
    refine (refrow_any _ _ _ _).mono ?_
    rintro e w2 ⟨rfl, hb2⟩
    have F2 := cover (F.out w2 hb2)
    clear hb2 F
    go_wp2_with (refine wpList_store_row rfl _ _ _ rfl g (rowC (some ⟨w1.heap.size, 0, none⟩) 2 5 true) rfl rfl 30 zr0 F2.out.1 ref_row_size rfl (rowC_one _ _ _ _) ?_)
    exact bodyPost_ret (v := .agg (rowC (some ⟨w1.heap.size, 0, none⟩) 2 5 true)) (results_cell_row (by rfl) _ _ g _ (rowC (some ⟨w1.heap.size, 0, none⟩) 2 5 true) (0, 0) _ rfl (setRow_heap _ _ _ _ _ _ F2.out.1) Try.underlying30 rfl ref_row_size) rfl F2.out.2
  go_upto_region 14 with fail
  by_cases h6 : e = 28
  · subst h6
    clear h0 h1 h2 h3 h4 h5
    have F := cover (fun w2 hb => ref_fin [12, 4, 33, 13] 7 H1.out (w2 := w2) hb)
    have E : Hid (stepG 12 28 = ([12, 4, 33, 13], 7, true)) := cover (by decide +kernel)
    rw [E.out]
    go_wp2_with fail
    refine (refrow_any _ _ _ _).mono ?_
    rintro e w2 ⟨rfl, hb2⟩
    have F2 := cover (F.out w2 hb2)
    clear hb2 F
    go_wp2_with (refine wpList_store_row rfl _ _ _ rfl g (rowC (some ⟨w1.heap.size, 0, none⟩) 4 7 true) rfl rfl 30 zr0 F2.out.1 ref_row_size rfl (rowC_one _ _ _ _) ?_)
    exact bodyPost_ret (v := .agg (rowC (some ⟨w1.heap.size, 0, none⟩) 4 7 true)) (results_cell_row (by rfl) _ _ g _ (rowC (some ⟨w1.heap.size, 0, none⟩) 4 7 true) (0, 0) _ rfl (setRow_heap _ _ _ _ _ _ F2.out.1) Try.underlying30 rfl ref_row_size) rfl F2.out.2
  go_upto_region 16 with fail
  by_cases h7 : e = 33
  · subst h7
    clear h0 h1 h2 h3 h4 h5 h6
    have F := cover (fun w2 hb => ref_fin [12, 8] 5 H1.out (w2 := w2) hb)
    have E : Hid (stepG 12 33 = ([12, 8], 5, true)) := cover (by decide +kernel)
    rw [E.out]
    go_wp2_with fail
    refine (refrow_any _ _ _ _).mono ?_
    rintro e w2 ⟨rfl, hb2⟩
    have F2 := cover (F.out w2 hb2)
    clear hb2 F
    go_wp2_with (refine wpList_store_row rfl _ _ _ rfl g (rowC (some ⟨w1.heap.size, 0, none⟩) 2 5 true) rfl rfl 30 zr0 F2.out.1 ref_row_size rfl (rowC_one _ _ _ _) ?_)
    exact bodyPost_ret (v := .agg (rowC (some ⟨w1.heap.size, 0, none⟩) 2 5 true)) (results_cell_row (by rfl) _ _ g _ (rowC (some ⟨w1.heap.size, 0, none⟩) 2 5 true) (0, 0) _ rfl (setRow_heap _ _ _ _ _ _ F2.out.1) Try.underlying30 rfl ref_row_size) rfl F2.out.2
  go_upto_region 18 with fail
  by_cases h8 : e = 7
  · subst h8
    clear h0 h1 h2 h3 h4 h5 h6 h7
    have F := cover (fun w2 hb => ref_fin [23] 11 H1.out (w2 := w2) hb)
    have E : Hid (stepG 12 7 = ([23], 11, true)) := cover (by decide +kernel)
    rw [E.out]
    go_wp2_with fail
    refine (refrow_any _ _ _ _).mono ?_
    rintro e w2 ⟨rfl, hb2⟩
    have F2 := cover (F.out w2 hb2)
    clear hb2 F
    go_wp2_with (refine wpList_store_row rfl _ _ _ rfl g (rowC (some ⟨w1.heap.size, 0, none⟩) 1 11 true) rfl rfl 30 zr0 F2.out.1 ref_row_size rfl (rowC_one _ _ _ _) ?_)
    exact bodyPost_ret (v := .agg (rowC (some ⟨w1.heap.size, 0, none⟩) 1 11 true)) (results_cell_row (by rfl) _ _ g _ (rowC (some ⟨w1.heap.size, 0, none⟩) 1 11 true) (0, 0) _ rfl (setRow_heap _ _ _ _ _ _ F2.out.1) Try.underlying30 rfl ref_row_size) rfl F2.out.2
  go_upto_region 20 with fail
  by_cases h9 : e = 13
  · subst h9
    clear h0 h1 h2 h3 h4 h5 h6 h7 h8
    have F := cover (fun w2 hb => ref_fin [19, 25] 12 H1.out (w2 := w2) hb)
    have E : Hid (stepG 12 13 = ([19, 25], 12, true)) := cover (by decide +kernel)
    rw [E.out]
    go_wp2_with fail
    refine (refrow_any _ _ _ _).mono ?_
    rintro e w2 ⟨rfl, hb2⟩
    have F2 := cover (F.out w2 hb2)
    clear hb2 F
    go_wp2_with (refine wpList_store_row rfl _ _ _ rfl g (rowC (some ⟨w1.heap.size, 0, none⟩) 2 12 true) rfl rfl 30 zr0 F2.out.1 ref_row_size rfl (rowC_one _ _ _ _) ?_)
    exact bodyPost_ret (v := .agg (rowC (some ⟨w1.heap.size, 0, none⟩) 2 12 true)) (results_cell_row (by rfl) _ _ g _ (rowC (some ⟨w1.heap.size, 0, none⟩) 2 12 true) (0, 0) _ rfl (setRow_heap _ _ _ _ _ _ F2.out.1) Try.underlying30 rfl ref_row_size) rfl F2.out.2
  go_upto_region 22 with fail
  by_cases h10 : e = 16
  · subst h10
    clear h0 h1 h2 h3 h4 h5 h6 h7 h8 h9
    have F := cover (fun w2 hb => ref_fin [19, 25] 12 H1.out (w2 := w2) hb)
    have E : Hid (stepG 12 16 = ([19, 25], 12, true)) := cover (by decide +kernel)
    rw [E.out]
    go_wp2_with fail
    refine (refrow_any _ _ _ _).mono ?_
    rintro e w2 ⟨rfl, hb2⟩
    have F2 := cover (F.out w2 hb2)
    clear hb2 F
    go_wp2_with (refine wpList_store_row rfl _ _ _ rfl g (rowC (some ⟨w1.heap.size, 0, none⟩) 2 12 true) rfl rfl 30 zr0 F2.out.1 ref_row_size rfl (rowC_one _ _ _ _) ?_)
    exact bodyPost_ret (v := .agg (rowC (some ⟨w1.heap.size, 0, none⟩) 2 12 true)) (results_cell_row (by rfl) _ _ g _ (rowC (some ⟨w1.heap.size, 0, none⟩) 2 12 true) (0, 0) _ rfl (setRow_heap _ _ _ _ _ _ F2.out.1) Try.underlying30 rfl ref_row_size) rfl F2.out.2
  go_upto_region 24 with fail
  by_cases h11 : e = 19
  · subst h11
    clear h0 h1 h2 h3 h4 h5 h6 h7 h8 h9 h10
    have F := cover (fun w2 hb => ref_fin [20, 19] 12 H1.out (w2 := w2) hb)
    have E : Hid (stepG 12 19 = ([20, 19], 12, true)) := cover (by decide +kernel)
    rw [E.out]
    go_wp2_with fail
    refine (refrow_any _ _ _ _).mono ?_
    rintro e w2 ⟨rfl, hb2⟩
    have F2 := cover (F.out w2 hb2)
    clear hb2 F
    go_wp2_with (refine wpList_store_row rfl _ _ _ rfl g (rowC (some ⟨w1.heap.size, 0, none⟩) 2 12 true) rfl rfl 30 zr0 F2.out.1 ref_row_size rfl (rowC_one _ _ _ _) ?_)
    exact bodyPost_ret (v := .agg (rowC (some ⟨w1.heap.size, 0, none⟩) 2 12 true)) (results_cell_row (by rfl) _ _ g _ (rowC (some ⟨w1.heap.size, 0, none⟩) 2 12 true) (0, 0) _ rfl (setRow_heap _ _ _ _ _ _ F2.out.1) Try.underlying30 rfl ref_row_size) rfl F2.out.2
  go_upto_region 26 with fail
  by_cases h12 : e = 22
  · subst h12
    clear h0 h1 h2 h3 h4 h5 h6 h7 h8 h9 h10 h11
    have F := cover (fun w2 hb => ref_fin [19, 21] 12 H1.out (w2 := w2) hb)
    have E : Hid (stepG 12 22 = ([19, 21], 12, true)) := cover (by decide +kernel)
    rw [E.out]
    go_wp2_with fail
    refine (refrow_any _ _ _ _).mono ?_
    rintro e w2 ⟨rfl, hb2⟩
    have F2 := cover (F.out w2 hb2)
    clear hb2 F
    go_wp2_with (refine wpList_store_row rfl _ _ _ rfl g (rowC (some ⟨w1.heap.size, 0, none⟩) 2 12 true) rfl rfl 30 zr0 F2.out.1 ref_row_size rfl (rowC_one _ _ _ _) ?_)
    exact bodyPost_ret (v := .agg (rowC (some ⟨w1.heap.size, 0, none⟩) 2 12 true)) (results_cell_row (by rfl) _ _ g _ (rowC (some ⟨w1.heap.size, 0, none⟩) 2 12 true) (0, 0) _ rfl (setRow_heap _ _ _ _ _ _ F2.out.1) Try.underlying30 rfl ref_row_size) rfl F2.out.2
  go_upto_region 28 with fail
  by_cases h13 : e = 25
  · subst h13
    clear h0 h1 h2 h3 h4 h5 h6 h7 h8 h9 h10 h11 h12
    have F := cover (fun w2 hb => ref_fin [20, 19] 12 H1.out (w2 := w2) hb)
    have E : Hid (stepG 12 25 = ([20, 19], 12, true)) := cover (by decide +kernel)
    rw [E.out]
    go_wp2_with fail
    refine (refrow_any _ _ _ _).mono ?_
    rintro e w2 ⟨rfl, hb2⟩
    have F2 := cover (F.out w2 hb2)
    clear hb2 F
    go_wp2_with (refine wpList_store_row rfl _ _ _ rfl g (rowC (some ⟨w1.heap.size, 0, none⟩) 2 12 true) rfl rfl 30 zr0 F2.out.1 ref_row_size rfl (rowC_one _ _ _ _) ?_)
    exact bodyPost_ret (v := .agg (rowC (some ⟨w1.heap.size, 0, none⟩) 2 12 true)) (results_cell_row (by rfl) _ _ g _ (rowC (some ⟨w1.heap.size, 0, none⟩) 2 12 true) (0, 0) _ rfl (setRow_heap _ _ _ _ _ _ F2.out.1) Try.underlying30 rfl ref_row_size) rfl F2.out.2
  go_upto_region 30 with fail
  by_cases h14 : e = 14
  · subst h14
    clear h0 h1 h2 h3 h4 h5 h6 h7 h8 h9 h10 h11 h12 h13
    have F := cover (fun w2 hb => ref_fin [19, 26] 12 H1.out (w2 := w2) hb)
    have E : Hid (stepG 12 14 = ([19, 26], 12, true)) := cover (by decide +kernel)
    rw [E.out]
    go_wp2_with fail
    refine (refrow_any _ _ _ _).mono ?_
    rintro e w2 ⟨rfl, hb2⟩
    have F2 := cover (F.out w2 hb2)
    clear hb2 F
    go_wp2_with (refine wpList_store_row rfl _ _ _ rfl g (rowC (some ⟨w1.heap.size, 0, none⟩) 2 12 true) rfl rfl 30 zr0 F2.out.1 ref_row_size rfl (rowC_one _ _ _ _) ?_)
    exact bodyPost_ret (v := .agg (rowC (some ⟨w1.heap.size, 0, none⟩) 2 12 true)) (results_cell_row (by rfl) _ _ g _ (rowC (some ⟨w1.heap.size, 0, none⟩) 2 12 true) (0, 0) _ rfl (setRow_heap _ _ _ _ _ _ F2.out.1) Try.underlying30 rfl ref_row_size) rfl F2.out.2
  go_upto_region 32 with fail
  by_cases h15 : e = 17
  · subst h15
    clear h0 h1 h2 h3 h4 h5 h6 h7 h8 h9 h10 h11 h12 h13 h14
    have F := cover (fun w2 hb => ref_fin [19, 26] 12 H1.out (w2 := w2) hb)
    have E : Hid (stepG 12 17 = ([19, 26], 12, true)) := cover (by decide +kernel)
    rw [E.out]
    go_wp2_with fail
    refine (refrow_any _ _ _ _).mono ?_
    rintro e w2 ⟨rfl, hb2⟩
    have F2 := cover (F.out w2 hb2)
    clear hb2 F
    go_wp2_with (refine wpList_store_row rfl _ _ _ rfl g (rowC (some ⟨w1.heap.size, 0, none⟩) 2 12 true) rfl rfl 30 zr0 F2.out.1 ref_row_size rfl (rowC_one _ _ _ _) ?_)
    exact bodyPost_ret (v := .agg (rowC (some ⟨w1.heap.size, 0, none⟩) 2 12 true)) (results_cell_row (by rfl) _ _ g _ (rowC (some ⟨w1.heap.size, 0, none⟩) 2 12 true) (0, 0) _ rfl (setRow_heap _ _ _ _ _ _ F2.out.1) Try.underlying30 rfl ref_row_size) rfl F2.out.2
  go_upto_region 34 with fail
  by_cases h16 : e = 20
  · subst h16
    clear h0 h1 h2 h3 h4 h5 h6 h7 h8 h9 h10 h11 h12 h13 h14 h15
    have F := cover (fun w2 hb => ref_fin [20, 19, 26] 12 H1.out (w2 := w2) hb)
    have E : Hid (stepG 12 20 = ([20, 19, 26], 12, true)) := cover (by decide +kernel)
    rw [E.out]
    go_wp2_with fail
    refine (refrow_any _ _ _ _).mono ?_
    rintro e w2 ⟨rfl, hb2⟩
    have F2 := cover (F.out w2 hb2)
    clear hb2 F
    go_wp2_with (refine wpList_store_row rfl _ _ _ rfl g (rowC (some ⟨w1.heap.size, 0, none⟩) 3 12 true) rfl rfl 30 zr0 F2.out.1 ref_row_size rfl (rowC_one _ _ _ _) ?_)
    exact bodyPost_ret (v := .agg (rowC (some ⟨w1.heap.size, 0, none⟩) 3 12 true)) (results_cell_row (by rfl) _ _ g _ (rowC (some ⟨w1.heap.size, 0, none⟩) 3 12 true) (0, 0) _ rfl (setRow_heap _ _ _ _ _ _ F2.out.1) Try.underlying30 rfl ref_row_size) rfl F2.out.2
  go_upto_region 36 with fail
  by_cases h17 : e = 23
  · subst h17
    clear h0 h1 h2 h3 h4 h5 h6 h7 h8 h9 h10 h11 h12 h13 h14 h15 h16
    have F := cover (fun w2 hb => ref_fin [19, 21, 26] 12 H1.out (w2 := w2) hb)
    have E : Hid (stepG 12 23 = ([19, 21, 26], 12, true)) := cover (by decide +kernel)
    rw [E.out]
    go_wp2_with fail
    refine (refrow_any _ _ _ _).mono ?_
    rintro e w2 ⟨rfl, hb2⟩
    have F2 := cover (F.out w2 hb2)
    clear hb2 F
    go_wp2_with (refine wpList_store_row rfl _ _ _ rfl g (rowC (some ⟨w1.heap.size, 0, none⟩) 3 12 true) rfl rfl 30 zr0 F2.out.1 ref_row_size rfl (rowC_one _ _ _ _) ?_)
    exact bodyPost_ret (v := .agg (rowC (some ⟨w1.heap.size, 0, none⟩) 3 12 true)) (results_cell_row (by rfl) _ _ g _ (rowC (some ⟨w1.heap.size, 0, none⟩) 3 12 true) (0, 0) _ rfl (setRow_heap _ _ _ _ _ _ F2.out.1) Try.underlying30 rfl ref_row_size) rfl F2.out.2
  go_upto_region 38 with fail
  by_cases h18 : e = 26
  · subst h18
    clear h0 h1 h2 h3 h4 h5 h6 h7 h8 h9 h10 h11 h12 h13 h14 h15 h16 h17
    have F := cover (fun w2 hb => ref_fin [20, 19, 26] 12 H1.out (w2 := w2) hb)
    have E : Hid (stepG 12 26 = ([20, 19, 26], 12, true)) := cover (by decide +kernel)
    rw [E.out]
    go_wp2_with fail
    refine (refrow_any _ _ _ _).mono ?_
    rintro e w2 ⟨rfl, hb2⟩
    have F2 := cover (F.out w2 hb2)
    clear hb2 F
    go_wp2_with (refine wpList_store_row rfl _ _ _ rfl g (rowC (some ⟨w1.heap.size, 0, none⟩) 3 12 true) rfl rfl 30 zr0 F2.out.1 ref_row_size rfl (rowC_one _ _ _ _) ?_)
    exact bodyPost_ret (v := .agg (rowC (some ⟨w1.heap.size, 0, none⟩) 3 12 true)) (results_cell_row (by rfl) _ _ g _ (rowC (some ⟨w1.heap.size, 0, none⟩) 3 12 true) (0, 0) _ rfl (setRow_heap _ _ _ _ _ _ F2.out.1) Try.underlying30 rfl ref_row_size) rfl F2.out.2
  go_upto_region 40 with fail
  by_cases h19 : e = 15
  · subst h19
    clear h0 h1 h2 h3 h4 h5 h6 h7 h8 h9 h10 h11 h12 h13 h14 h15 h16 h17 h18
    have F := cover (fun w2 hb => ref_fin [20, 19, 22, 33, 25, 31] 9 H1.out (w2 := w2) hb)
    have E : Hid (stepG 12 15 = ([20, 19, 22, 33, 25, 31], 9, true)) := cover (by decide +kernel)
    rw [E.out]
    go_wp2_with fail
    refine (refrow_any _ _ _ _).mono ?_
    rintro e w2 ⟨rfl, hb2⟩
    have F2 := cover (F.out w2 hb2)
    clear hb2 F
    go_wp2_with (refine wpList_store_row rfl _ _ _ rfl g (rowC (some ⟨w1.heap.size, 0, none⟩) 6 9 true) rfl rfl 30 zr0 F2.out.1 ref_row_size rfl (rowC_one _ _ _ _) ?_)
    exact bodyPost_ret (v := .agg (rowC (some ⟨w1.heap.size, 0, none⟩) 6 9 true)) (results_cell_row (by rfl) _ _ g _ (rowC (some ⟨w1.heap.size, 0, none⟩) 6 9 true) (0, 0) _ rfl (setRow_heap _ _ _ _ _ _ F2.out.1) Try.underlying30 rfl ref_row_size) rfl F2.out.2
  go_upto_region 42 with fail
  by_cases h20 : e = 18
  · subst h20
    clear h0 h1 h2 h3 h4 h5 h6 h7 h8 h9 h10 h11 h12 h13 h14 h15 h16 h17 h18 h19
    have F := cover (fun w2 hb => ref_fin [20, 19, 22, 33, 25, 31] 9 H1.out (w2 := w2) hb)
    have E : Hid (stepG 12 18 = ([20, 19, 22, 33, 25, 31], 9, true)) := cover (by decide +kernel)
    rw [E.out]
    go_wp2_with fail
    refine (refrow_any _ _ _ _).mono ?_
    rintro e w2 ⟨rfl, hb2⟩
    have F2 := cover (F.out w2 hb2)
    clear hb2 F
    go_wp2_with (refine wpList_store_row rfl _ _ _ rfl g (rowC (some ⟨w1.heap.size, 0, none⟩) 6 9 true) rfl rfl 30 zr0 F2.out.1 ref_row_size rfl (rowC_one _ _ _ _) ?_)
    exact bodyPost_ret (v := .agg (rowC (some ⟨w1.heap.size, 0, none⟩) 6 9 true)) (results_cell_row (by rfl) _ _ g _ (rowC (some ⟨w1.heap.size, 0, none⟩) 6 9 true) (0, 0) _ rfl (setRow_heap _ _ _ _ _ _ F2.out.1) Try.underlying30 rfl ref_row_size) rfl F2.out.2
  go_upto_region 44 with fail
  by_cases h21 : e = 21
  · subst h21
    clear h0 h1 h2 h3 h4 h5 h6 h7 h8 h9 h10 h11 h12 h13 h14 h15 h16 h17 h18 h19 h20
    have F := cover (fun w2 hb => ref_fin [20, 19, 22, 33, 31] 9 H1.out (w2 := w2) hb)
    have E : Hid (stepG 12 21 = ([20, 19, 22, 33, 31], 9, true)) := cover (by decide +kernel)
    rw [E.out]
    go_wp2_with fail
    refine (refrow_any _ _ _ _).mono ?_
    rintro e w2 ⟨rfl, hb2⟩
    have F2 := cover (F.out w2 hb2)
    clear hb2 F
    go_wp2_with (refine wpList_store_row rfl _ _ _ rfl g (rowC (some ⟨w1.heap.size, 0, none⟩) 5 9 true) rfl rfl 30 zr0 F2.out.1 ref_row_size rfl (rowC_one _ _ _ _) ?_)
    exact bodyPost_ret (v := .agg (rowC (some ⟨w1.heap.size, 0, none⟩) 5 9 true)) (results_cell_row (by rfl) _ _ g _ (rowC (some ⟨w1.heap.size, 0, none⟩) 5 9 true) (0, 0) _ rfl (setRow_heap _ _ _ _ _ _ F2.out.1) Try.underlying30 rfl ref_row_size) rfl F2.out.2
  go_upto_region 46 with fail
  by_cases h22 : e = 24
  · subst h22
    clear h0 h1 h2 h3 h4 h5 h6 h7 h8 h9 h10 h11 h12 h13 h14 h15 h16 h17 h18 h19 h20 h21
    have F := cover (fun w2 hb => ref_fin [19, 21, 17, 22, 33] 9 H1.out (w2 := w2) hb)
    have E : Hid (stepG 12 24 = ([19, 21, 17, 22, 33], 9, true)) := cover (by decide +kernel)
    rw [E.out]
    go_wp2_with fail
    refine (refrow_any _ _ _ _).mono ?_
    rintro e w2 ⟨rfl, hb2⟩
    have F2 := cover (F.out w2 hb2)
    clear hb2 F
    go_wp2_with (refine wpList_store_row rfl _ _ _ rfl g (rowC (some ⟨w1.heap.size, 0, none⟩) 5 9 true) rfl rfl 30 zr0 F2.out.1 ref_row_size rfl (rowC_one _ _ _ _) ?_)
    exact bodyPost_ret (v := .agg (rowC (some ⟨w1.heap.size, 0, none⟩) 5 9 true)) (results_cell_row (by rfl) _ _ g _ (rowC (some ⟨w1.heap.size, 0, none⟩) 5 9 true) (0, 0) _ rfl (setRow_heap _ _ _ _ _ _ F2.out.1) Try.underlying30 rfl ref_row_size) rfl F2.out.2
  go_upto_region 48 with fail
  by_cases h23 : e = 27
  · subst h23
    clear h0 h1 h2 h3 h4 h5 h6 h7 h8 h9 h10 h11 h12 h13 h14 h15 h16 h17 h18 h19 h20 h21 h22
    have F := cover (fun w2 hb => ref_fin [20, 19, 22, 34, 33, 31] 9 H1.out (w2 := w2) hb)
    have E : Hid (stepG 12 27 = ([20, 19, 22, 34, 33, 31], 9, true)) := cover (by decide +kernel)
    rw [E.out]
    go_wp2_with fail
    refine (refrow_any _ _ _ _).mono ?_
    rintro e w2 ⟨rfl, hb2⟩
    have F2 := cover (F.out w2 hb2)
    clear hb2 F
    go_wp2_with (refine wpList_store_row rfl _ _ _ rfl g (rowC (some ⟨w1.heap.size, 0, none⟩) 6 9 true) rfl rfl 30 zr0 F2.out.1 ref_row_size rfl (rowC_one _ _ _ _) ?_)
    exact bodyPost_ret (v := .agg (rowC (some ⟨w1.heap.size, 0, none⟩) 6 9 true)) (results_cell_row (by rfl) _ _ g _ (rowC (some ⟨w1.heap.size, 0, none⟩) 6 9 true) (0, 0) _ rfl (setRow_heap _ _ _ _ _ _ F2.out.1) Try.underlying30 rfl ref_row_size) rfl F2.out.2
  go_upto_region 50 with fail
  by_cases h24 : e = 30
  · subst h24
    clear h0 h1 h2 h3 h4 h5 h6 h7 h8 h9 h10 h11 h12 h13 h14 h15 h16 h17 h18 h19 h20 h21 h22 h23
    have F := cover (fun w2 hb => ref_fin [30, 14, 32] 12 H1.out (w2 := w2) hb)
    have E : Hid (stepG 12 30 = ([30, 14, 32], 12, true)) := cover (by decide +kernel)
    rw [E.out]
    go_wp2_with fail
    refine (refrow_any _ _ _ _).mono ?_
    rintro e w2 ⟨rfl, hb2⟩
    have F2 := cover (F.out w2 hb2)
    clear hb2 F
    go_wp2_with (refine wpList_store_row rfl _ _ _ rfl g (rowC (some ⟨w1.heap.size, 0, none⟩) 3 12 true) rfl rfl 30 zr0 F2.out.1 ref_row_size rfl (rowC_one _ _ _ _) ?_)
    exact bodyPost_ret (v := .agg (rowC (some ⟨w1.heap.size, 0, none⟩) 3 12 true)) (results_cell_row (by rfl) _ _ g _ (rowC (some ⟨w1.heap.size, 0, none⟩) 3 12 true) (0, 0) _ rfl (setRow_heap _ _ _ _ _ _ F2.out.1) Try.underlying30 rfl ref_row_size) rfl F2.out.2
  have hs := stepG_none (s := 12) (e := e) (by rw [show evsG 12 = [3, 2, 8, 9, 11, 12, 28, 33, 7, 13, 16, 19, 22, 25, 14, 17, 20, 23, 26, 15, 18, 21, 24, 27, 30] from by decide +kernel]; simp only [List.mem_cons, List.not_mem_nil, or_false]; omega)
  have F := cover (ref_no hs H1.out)
  have G := cover H1.out.2.2
  clear hs H1
  go_wp2_with (refine wpList_store_row rfl _ _ _ rfl g (rowC none 0 12 false) rfl rfl 30 zr0 G.out ref_row_size rfl (rowC_one _ _ _ _) ?_)
  exact bodyPost_ret (v := .agg (rowC none 0 12 false)) (results_cell_row (by rfl) _ _ g _ (rowC none 0 12 false) (0, 0) _ rfl (setRow_heap _ _ _ _ _ _ G.out) Try.underlying30 rfl ref_row_size) rfl F.out
set_option maxHeartbeats 3200000 in
theorem ref_inAwaitReject_any (e : Int) (w : World) : Calls Try.prog 32 #[.int .i64 e] w (RowOut w (stepG 13 e)) := by
  obtain ⟨g, hg⟩ : ∃ g, w.heap.size = g := ⟨_, rfl⟩
  obtain ⟨w1, hw1⟩ : ∃ w1, Hid (w1 = w.alloc (.cells zr0 30)) := ⟨_, cover rfl⟩
  have H1 : Hid (w.heap.size = g ∧ Below g w w1 ∧ w1.heap[g]? = some (.cells zr0 30 (0, 0))) := cover (by rw [hw1.out, ← hg]; exact ⟨rfl, (Below.refl _ _).alloc (Nat.le_refl _) _, heap_alloc_new _ _⟩)
  go_enter Try.func32, Try.ntmps32
  go_upto_region 1 with fail
  rw [← hw1.out]
  clear hg hw1
  go_upto_region 2 with fail
  by_cases h0 : e = 3
  · subst h0
    have F := cover (fun w2 hb => ref_fin [12, 0, 33, 13] 3 H1.out (w2 := w2) hb)
    have E : Hid (stepG 13 3 = ([12, 0, 33, 13], 3, true)) := cover (by decide +kernel)
    rw [E.out]
    go_wp2_with fail
    refine (refrow_any _ _ _ _).mono ?_
    rintro e w2 ⟨rfl, hb2⟩
    have F2 := cover (F.out w2 hb2)
    clear hb2 F
    go_wp2_with (refine wpList_store_row rfl _ _ _ rfl g (rowC (some ⟨w1.heap.size, 0, none⟩) 4 3 true) rfl rfl 30 zr0 F2.out.1 ref_row_size rfl (rowC_one _ _ _ _) ?_)
    exact bodyPost_ret (v := .agg (rowC (some ⟨w1.heap.size, 0, none⟩) 4 3 true)) (results_cell_row (by rfl) _ _ g _ (rowC (some ⟨w1.heap.size, 0, none⟩) 4 3 true) (0, 0) _ rfl (setRow_heap _ _ _ _ _ _ F2.out.1) Try.underlying30 rfl ref_row_size) rfl F2.out.2
  go_upto_region 4 with fail
  by_cases h1 : e = 2
  · subst h1
    clear h0
    have F := cover (fun w2 hb => ref_fin [12, 1, 33, 13] 6 H1.out (w2 := w2) hb)
    have E : Hid (stepG 13 2 = ([12, 1, 33, 13], 6, true)) := cover (by decide +kernel)
    rw [E.out]
    go_wp2_with fail
    refine (refrow_any _ _ _ _).mono ?_
    rintro e w2 ⟨rfl, hb2⟩
    have F2 := cover (F.out w2 hb2)
    clear hb2 F
    go_wp2_with (refine wpList_store_row rfl _ _ _ rfl g (rowC (some ⟨w1.heap.size, 0, none⟩) 4 6 true) rfl rfl 30 zr0 F2.out.1 ref_row_size rfl (rowC_one _ _ _ _) ?_)
    exact bodyPost_ret (v := .agg (rowC (some ⟨w1.heap.size, 0, none⟩) 4 6 true)) (results_cell_row (by rfl) _ _ g _ (rowC (some ⟨w1.heap.size, 0, none⟩) 4 6 true) (0, 0) _ rfl (setRow_heap _ _ _ _ _ _ F2.out.1) Try.underlying30 rfl ref_row_size) rfl F2.out.2
  go_upto_region 6 with fail
  by_cases h2 : e = 8
  · subst h2
    clear h0 h1
    have F := cover (fun w2 hb => ref_fin [12, 8] 4 H1.out (w2 := w2) hb)
    have E : Hid (stepG 13 8 = ([12, 8], 4, true)) := cover (by decide +kernel)
    rw [E.out]
    go_wp2_with fail
    refine (refrow_any _ _ _ _).mono ?_
    rintro e w2 ⟨rfl, hb2⟩
    have F2 := cover (F.out w2 hb2)
    clear hb2 F
    go_wp2_with (refine wpList_store_row rfl _ _ _ rfl g (rowC (some ⟨w1.heap.size, 0, none⟩) 2 4 true) rfl rfl 30 zr0 F2.out.1 ref_row_size rfl (rowC_one _ _ _ _) ?_)
    exact bodyPost_ret (v := .agg (rowC (some ⟨w1.heap.size, 0, none⟩) 2 4 true)) (results_cell_row (by rfl) _ _ g _ (rowC (some ⟨w1.heap.size, 0, none⟩) 2 4 true) (0, 0) _ rfl (setRow_heap _ _ _ _ _ _ F2.out.1) Try.underlying30 rfl ref_row_size) rfl F2.out.2
  go_upto_region 8 with fail
  by_cases h3 : e = 9
  · subst h3
    clear h0 h1 h2
    have F := cover (fun w2 hb => ref_fin [12, 2, 7] 0 H1.out (w2 := w2) hb)
    have E : Hid (stepG 13 9 = ([12, 2, 7], 0, true)) := cover (by decide +kernel)
    rw [E.out]
    go_wp2_with fail
    refine (refrow_any _ _ _ _).mono ?_
    rintro e w2 ⟨rfl, hb2⟩
    have F2 := cover (F.out w2 hb2)
    clear hb2 F
    go_wp2_with (refine wpList_store_row rfl _ _ _ rfl g (rowC (some ⟨w1.heap.size, 0, none⟩) 3 0 true) rfl rfl 30 zr0 F2.out.1 ref_row_size rfl (rowC_one _ _ _ _) ?_)
    exact bodyPost_ret (v := .agg (rowC (some ⟨w1.heap.size, 0, none⟩) 3 0 true)) (results_cell_row (by rfl) _ _ g _ (rowC (some ⟨w1.heap.size, 0, none⟩) 3 0 true) (0, 0) _ rfl (setRow_heap _ _ _ _ _ _ F2.out.1) Try.underlying30 rfl ref_row_size) rfl F2.out.2
  go_upto_region 10 with fail
  by_cases h4 : e = 11
  · subst h4
    clear h0 h1 h2 h3
    have F := cover (fun w2 hb => ref_fin [12, 7] 0 H1.out (w2 := w2) hb)
    have E : Hid (stepG 13 11 = ([12, 7], 0, true)) := cover (by decide +kernel)
    rw [E.out]
    go_wp2_with fail
    refine (refrow_any _ _ _ _).mono ?_
    rintro e w2 ⟨rfl, hb2⟩
    have F2 := cover (F.out w2 hb2)
    clear hb2 F
    go_wp2_with (refine wpList_store_row rfl _ _ _ rfl g (rowC (some ⟨w1.heap.size, 0, none⟩) 2 0 true) rfl rfl 30 zr0 F2.out.1 ref_row_size rfl (rowC_one _ _ _ _) ?_)
    exact bodyPost_ret (v := .agg (rowC (some ⟨w1.heap.size, 0, none⟩) 2 0 true)) (results_cell_row (by rfl) _ _ g _ (rowC (some ⟨w1.heap.size, 0, none⟩) 2 0 true) (0, 0) _ rfl (setRow_heap _ _ _ _ _ _ F2.out.1) Try.underlying30 rfl ref_row_size) rfl F2.out.2
  go_upto_region 12 with fail
  by_cases h5 : e = 12
  · subst h5
    clear h0 h1 h2 h3 h4
    have F := cover (fun w2 hb => ref_fin [12, 8] 5 H1.out (w2 := w2) hb)
    have E : Hid (stepG 13 12 = ([12, 8], 5, true)) := cover (by decide +kernel)
    rw [E.out]
    go_wp2_with fail
    refine (refrow_any _ _ _ _).mono ?_
    rintro e w2 ⟨rfl, hb2⟩
    have F2 := cover (F.out w2 hb2)
    clear hb2 F
    go_wp2_with (refine wpList_store_row rfl _ _ _ rfl g (rowC (some ⟨w1.heap.size, 0, none⟩) 2 5 true) rfl rfl 30 zr0 F2.out.1 ref_row_size rfl (rowC_one _ _ _ _) ?_)
    exact bodyPost_ret (v := .agg (rowC (some ⟨w1.heap.size, 0, none⟩) 2 5 true)) (results_cell_row (by rfl) _ _ g _ (rowC (some ⟨w1.heap.size, 0, none⟩) 2 5 true) (0, 0) _ rfl (setRow_heap _ _ _ _ _ _ F2.out.1) Try.underlying30 rfl ref_row_size) rfl F2.out.2
  go_upto_region 14 with fail
  by_cases h6 : e = 28
  · subst h6
    clear h0 h1 h2 h3 h4 h5
    have F := cover (fun w2 hb => ref_fin [12, 4, 33, 13] 7 H1.out (w2 := w2) hb)
    have E : Hid (stepG 13 28 = ([12, 4, 33, 13], 7, true)) := cover (by decide +kernel)
    rw [E.out]
    go_wp2_with fail
    refine (refrow_any _ _ _ _).mono ?_
    rintro e w2 ⟨rfl, hb2⟩
    have F2 := cover (F.out w2 hb2)
    clear hb2 F
    go_wp2_with (refine wpList_store_row rfl _ _ _ rfl g (rowC (some ⟨w1.heap.size, 0, none⟩) 4 7 true) rfl rfl 30 zr0 F2.out.1 ref_row_size rfl (rowC_one _ _ _ _) ?_)
    exact bodyPost_ret (v := .agg (rowC (some ⟨w1.heap.size, 0, none⟩) 4 7 true)) (results_cell_row (by rfl) _ _ g _ (rowC (some ⟨w1.heap.size, 0, none⟩) 4 7 true) (0, 0) _ rfl (setRow_heap _ _ _ _ _ _ F2.out.1) Try.underlying30 rfl ref_row_size) rfl F2.out.2
  go_upto_region 16 with fail
  by_cases h7 : e = 33
  · subst h7
    clear h0 h1 h2 h3 h4 h5 h6
    have F := cover (fun w2 hb => ref_fin [12, 8] 5 H1.out (w2 := w2) hb)
    have E : Hid (stepG 13 33 = ([12, 8], 5, true)) := cover (by decide +kernel)
    rw [E.out]
    go_wp2_with fail
    refine (refrow_any _ _ _ _).mono ?_
    rintro e w2 ⟨rfl, hb2⟩
    have F2 := cover (F.out w2 hb2)
    clear hb2 F
    go_wp2_with (refine wpList_store_row rfl _ _ _ rfl g (rowC (some ⟨w1.heap.size, 0, none⟩) 2 5 true) rfl rfl 30 zr0 F2.out.1 ref_row_size rfl (rowC_one _ _ _ _) ?_)
    exact bodyPost_ret (v := .agg (rowC (some ⟨w1.heap.size, 0, none⟩) 2 5 true)) (results_cell_row (by rfl) _ _ g _ (rowC (some ⟨w1.heap.size, 0, none⟩) 2 5 true) (0, 0) _ rfl (setRow_heap _ _ _ _ _ _ F2.out.1) Try.underlying30 rfl ref_row_size) rfl F2.out.2
  go_upto_region 18 with fail
  by_cases h8 : e = 6
  · subst h8
    clear h0 h1 h2 h3 h4 h5 h6 h7
    have F := cover (fun w2 hb => ref_fin [16, 25] 12 H1.out (w2 := w2) hb)
    have E : Hid (stepG 13 6 = ([16, 25], 12, true)) := cover (by decide +kernel)
    rw [E.out]
    go_wp2_with fail
    refine (refrow_any _ _ _ _).mono ?_
    rintro e w2 ⟨rfl, hb2⟩
    have F2 := cover (F.out w2 hb2)
    clear hb2 F
    go_wp2_with (refine wpList_store_row rfl _ _ _ rfl g (rowC (some ⟨w1.heap.size, 0, none⟩) 2 12 true) rfl rfl 30 zr0 F2.out.1 ref_row_size rfl (rowC_one _ _ _ _) ?_)
    exact bodyPost_ret (v := .agg (rowC (some ⟨w1.heap.size, 0, none⟩) 2 12 true)) (results_cell_row (by rfl) _ _ g _ (rowC (some ⟨w1.heap.size, 0, none⟩) 2 12 true) (0, 0) _ rfl (setRow_heap _ _ _ _ _ _ F2.out.1) Try.underlying30 rfl ref_row_size) rfl F2.out.2
  go_upto_region 20 with fail
  by_cases h9 : e = 13
  · subst h9
    clear h0 h1 h2 h3 h4 h5 h6 h7 h8
    have F := cover (fun w2 hb => ref_fin [19, 18, 16, 23] 11 H1.out (w2 := w2) hb)
    have E : Hid (stepG 13 13 = ([19, 18, 16, 23], 11, true)) := cover (by decide +kernel)
    rw [E.out]
    go_wp2_with fail
    refine (refrow_any _ _ _ _).mono ?_
    rintro e w2 ⟨rfl, hb2⟩
    have F2 := cover (F.out w2 hb2)
    clear hb2 F
    go_wp2_with (refine wpList_store_row rfl _ _ _ rfl g (rowC (some ⟨w1.heap.size, 0, none⟩) 4 11 true) rfl rfl 30 zr0 F2.out.1 ref_row_size rfl (rowC_one _ _ _ _) ?_)
    exact bodyPost_ret (v := .agg (rowC (some ⟨w1.heap.size, 0, none⟩) 4 11 true)) (results_cell_row (by rfl) _ _ g _ (rowC (some ⟨w1.heap.size, 0, none⟩) 4 11 true) (0, 0) _ rfl (setRow_heap _ _ _ _ _ _ F2.out.1) Try.underlying30 rfl ref_row_size) rfl F2.out.2
  go_upto_region 22 with fail
  by_cases h10 : e = 16
  · subst h10
    clear h0 h1 h2 h3 h4 h5 h6 h7 h8 h9
    have F := cover (fun w2 hb => ref_fin [19] 13 H1.out (w2 := w2) hb)
    have E : Hid (stepG 13 16 = ([19], 13, true)) := cover (by decide +kernel)
    rw [E.out]
    go_wp2_with fail
    refine (refrow_any _ _ _ _).mono ?_
    rintro e w2 ⟨rfl, hb2⟩
    have F2 := cover (F.out w2 hb2)
    clear hb2 F
    go_wp2_with (refine wpList_store_row rfl _ _ _ rfl g (rowC (some ⟨w1.heap.size, 0, none⟩) 1 13 true) rfl rfl 30 zr0 F2.out.1 ref_row_size rfl (rowC_one _ _ _ _) ?_)
    exact bodyPost_ret (v := .agg (rowC (some ⟨w1.heap.size, 0, none⟩) 1 13 true)) (results_cell_row (by rfl) _ _ g _ (rowC (some ⟨w1.heap.size, 0, none⟩) 1 13 true) (0, 0) _ rfl (setRow_heap _ _ _ _ _ _ F2.out.1) Try.underlying30 rfl ref_row_size) rfl F2.out.2
  go_upto_region 24 with fail
  by_cases h11 : e = 19
  · subst h11
    clear h0 h1 h2 h3 h4 h5 h6 h7 h8 h9 h10
    have F := cover (fun w2 hb => ref_fin [20, 19] 13 H1.out (w2 := w2) hb)
    have E : Hid (stepG 13 19 = ([20, 19], 13, true)) := cover (by decide +kernel)
    rw [E.out]
    go_wp2_with fail
    refine (refrow_any _ _ _ _).mono ?_
    rintro e w2 ⟨rfl, hb2⟩
    have F2 := cover (F.out w2 hb2)
    clear hb2 F
    go_wp2_with (refine wpList_store_row rfl _ _ _ rfl g (rowC (some ⟨w1.heap.size, 0, none⟩) 2 13 true) rfl rfl 30 zr0 F2.out.1 ref_row_size rfl (rowC_one _ _ _ _) ?_)
    exact bodyPost_ret (v := .agg (rowC (some ⟨w1.heap.size, 0, none⟩) 2 13 true)) (results_cell_row (by rfl) _ _ g _ (rowC (some ⟨w1.heap.size, 0, none⟩) 2 13 true) (0, 0) _ rfl (setRow_heap _ _ _ _ _ _ F2.out.1) Try.underlying30 rfl ref_row_size) rfl F2.out.2
  go_upto_region 26 with fail
  by_cases h12 : e = 22
  · subst h12
    clear h0 h1 h2 h3 h4 h5 h6 h7 h8 h9 h10 h11
    have F := cover (fun w2 hb => ref_fin [19, 21] 13 H1.out (w2 := w2) hb)
    have E : Hid (stepG 13 22 = ([19, 21], 13, true)) := cover (by decide +kernel)
    rw [E.out]
    go_wp2_with fail
    refine (refrow_any _ _ _ _).mono ?_
    rintro e w2 ⟨rfl, hb2⟩
    have F2 := cover (F.out w2 hb2)
    clear hb2 F
    go_wp2_with (refine wpList_store_row rfl _ _ _ rfl g (rowC (some ⟨w1.heap.size, 0, none⟩) 2 13 true) rfl rfl 30 zr0 F2.out.1 ref_row_size rfl (rowC_one _ _ _ _) ?_)
    exact bodyPost_ret (v := .agg (rowC (some ⟨w1.heap.size, 0, none⟩) 2 13 true)) (results_cell_row (by rfl) _ _ g _ (rowC (some ⟨w1.heap.size, 0, none⟩) 2 13 true) (0, 0) _ rfl (setRow_heap _ _ _ _ _ _ F2.out.1) Try.underlying30 rfl ref_row_size) rfl F2.out.2
  go_upto_region 28 with fail
  by_cases h13 : e = 25
  · subst h13
    clear h0 h1 h2 h3 h4 h5 h6 h7 h8 h9 h10 h11 h12
    have F := cover (fun w2 hb => ref_fin [20, 19] 13 H1.out (w2 := w2) hb)
    have E : Hid (stepG 13 25 = ([20, 19], 13, true)) := cover (by decide +kernel)
    rw [E.out]
    go_wp2_with fail
    refine (refrow_any _ _ _ _).mono ?_
    rintro e w2 ⟨rfl, hb2⟩
    have F2 := cover (F.out w2 hb2)
    clear hb2 F
    go_wp2_with (refine wpList_store_row rfl _ _ _ rfl g (rowC (some ⟨w1.heap.size, 0, none⟩) 2 13 true) rfl rfl 30 zr0 F2.out.1 ref_row_size rfl (rowC_one _ _ _ _) ?_)
    exact bodyPost_ret (v := .agg (rowC (some ⟨w1.heap.size, 0, none⟩) 2 13 true)) (results_cell_row (by rfl) _ _ g _ (rowC (some ⟨w1.heap.size, 0, none⟩) 2 13 true) (0, 0) _ rfl (setRow_heap _ _ _ _ _ _ F2.out.1) Try.underlying30 rfl ref_row_size) rfl F2.out.2
  go_upto_region 30 with fail
  by_cases h14 : e = 14
  · subst h14
    clear h0 h1 h2 h3 h4 h5 h6 h7 h8 h9 h10 h11 h12 h13
    have F := cover (fun w2 hb => ref_fin [19, 18, 16, 24] 11 H1.out (w2 := w2) hb)
    have E : Hid (stepG 13 14 = ([19, 18, 16, 24], 11, true)) := cover (by decide +kernel)
    rw [E.out]
    go_wp2_with fail
    refine (refrow_any _ _ _ _).mono ?_
    rintro e w2 ⟨rfl, hb2⟩
    have F2 := cover (F.out w2 hb2)
    clear hb2 F
    go_wp2_with (refine wpList_store_row rfl _ _ _ rfl g (rowC (some ⟨w1.heap.size, 0, none⟩) 4 11 true) rfl rfl 30 zr0 F2.out.1 ref_row_size rfl (rowC_one _ _ _ _) ?_)
    exact bodyPost_ret (v := .agg (rowC (some ⟨w1.heap.size, 0, none⟩) 4 11 true)) (results_cell_row (by rfl) _ _ g _ (rowC (some ⟨w1.heap.size, 0, none⟩) 4 11 true) (0, 0) _ rfl (setRow_heap _ _ _ _ _ _ F2.out.1) Try.underlying30 rfl ref_row_size) rfl F2.out.2
  go_upto_region 32 with fail
  by_cases h15 : e = 17
  · subst h15
    clear h0 h1 h2 h3 h4 h5 h6 h7 h8 h9 h10 h11 h12 h13 h14
    have F := cover (fun w2 hb => ref_fin [19, 24] 13 H1.out (w2 := w2) hb)
    have E : Hid (stepG 13 17 = ([19, 24], 13, true)) := cover (by decide +kernel)
    rw [E.out]
    go_wp2_with fail
    refine (refrow_any _ _ _ _).mono ?_
    rintro e w2 ⟨rfl, hb2⟩
    have F2 := cover (F.out w2 hb2)
    clear hb2 F
    go_wp2_with (refine wpList_store_row rfl _ _ _ rfl g (rowC (some ⟨w1.heap.size, 0, none⟩) 2 13 true) rfl rfl 30 zr0 F2.out.1 ref_row_size rfl (rowC_one _ _ _ _) ?_)
    exact bodyPost_ret (v := .agg (rowC (some ⟨w1.heap.size, 0, none⟩) 2 13 true)) (results_cell_row (by rfl) _ _ g _ (rowC (some ⟨w1.heap.size, 0, none⟩) 2 13 true) (0, 0) _ rfl (setRow_heap _ _ _ _ _ _ F2.out.1) Try.underlying30 rfl ref_row_size) rfl F2.out.2
  go_upto_region 34 with fail
  by_cases h16 : e = 20
  · subst h16
    clear h0 h1 h2 h3 h4 h5 h6 h7 h8 h9 h10 h11 h12 h13 h14 h15
    have F := cover (fun w2 hb => ref_fin [20, 19, 24] 13 H1.out (w2 := w2) hb)
    have E : Hid (stepG 13 20 = ([20, 19, 24], 13, true)) := cover (by decide +kernel)
    rw [E.out]
    go_wp2_with fail
    refine (refrow_any _ _ _ _).mono ?_
    rintro e w2 ⟨rfl, hb2⟩
    have F2 := cover (F.out w2 hb2)
    clear hb2 F
    go_wp2_with (refine wpList_store_row rfl _ _ _ rfl g (rowC (some ⟨w1.heap.size, 0, none⟩) 3 13 true) rfl rfl 30 zr0 F2.out.1 ref_row_size rfl (rowC_one _ _ _ _) ?_)
    exact bodyPost_ret (v := .agg (rowC (some ⟨w1.heap.size, 0, none⟩) 3 13 true)) (results_cell_row (by rfl) _ _ g _ (rowC (some ⟨w1.heap.size, 0, none⟩) 3 13 true) (0, 0) _ rfl (setRow_heap _ _ _ _ _ _ F2.out.1) Try.underlying30 rfl ref_row_size) rfl F2.out.2
  go_upto_region 36 with fail
  by_cases h17 : e = 23
  · subst h17
    clear h0 h1 h2 h3 h4 h5 h6 h7 h8 h9 h10 h11 h12 h13 h14 h15 h16
    have F := cover (fun w2 hb => ref_fin [19, 21, 24] 13 H1.out (w2 := w2) hb)
    have E : Hid (stepG 13 23 = ([19, 21, 24], 13, true)) := cover (by decide +kernel)
    rw [E.out]
    go_wp2_with fail
    refine (refrow_any _ _ _ _).mono ?_
    rintro e w2 ⟨rfl, hb2⟩
    have F2 := cover (F.out w2 hb2)
    clear hb2 F
    go_wp2_with (refine wpList_store_row rfl _ _ _ rfl g (rowC (some ⟨w1.heap.size, 0, none⟩) 3 13 true) rfl rfl 30 zr0 F2.out.1 ref_row_size rfl (rowC_one _ _ _ _) ?_)
    exact bodyPost_ret (v := .agg (rowC (some ⟨w1.heap.size, 0, none⟩) 3 13 true)) (results_cell_row (by rfl) _ _ g _ (rowC (some ⟨w1.heap.size, 0, none⟩) 3 13 true) (0, 0) _ rfl (setRow_heap _ _ _ _ _ _ F2.out.1) Try.underlying30 rfl ref_row_size) rfl F2.out.2
  go_upto_region 38 with fail
  by_cases h18 : e = 26
  · subst h18
    clear h0 h1 h2 h3 h4 h5 h6 h7 h8 h9 h10 h11 h12 h13 h14 h15 h16 h17
    have F := cover (fun w2 hb => ref_fin [20, 19, 24] 13 H1.out (w2 := w2) hb)
    have E : Hid (stepG 13 26 = ([20, 19, 24], 13, true)) := cover (by decide +kernel)
    rw [E.out]
    go_wp2_with fail
    refine (refrow_any _ _ _ _).mono ?_
    rintro e w2 ⟨rfl, hb2⟩
    have F2 := cover (F.out w2 hb2)
    clear hb2 F
    go_wp2_with (refine wpList_store_row rfl _ _ _ rfl g (rowC (some ⟨w1.heap.size, 0, none⟩) 3 13 true) rfl rfl 30 zr0 F2.out.1 ref_row_size rfl (rowC_one _ _ _ _) ?_)
    exact bodyPost_ret (v := .agg (rowC (some ⟨w1.heap.size, 0, none⟩) 3 13 true)) (results_cell_row (by rfl) _ _ g _ (rowC (some ⟨w1.heap.size, 0, none⟩) 3 13 true) (0, 0) _ rfl (setRow_heap _ _ _ _ _ _ F2.out.1) Try.underlying30 rfl ref_row_size) rfl F2.out.2
  go_upto_region 40 with fail
  by_cases h19 : e = 15
  · subst h19
    clear h0 h1 h2 h3 h4 h5 h6 h7 h8 h9 h10 h11 h12 h13 h14 h15 h16 h17 h18
    have F := cover (fun w2 hb => ref_fin [20, 19, 18, 16, 22, 33, 23, 31] 8 H1.out (w2 := w2) hb)
    have E : Hid (stepG 13 15 = ([20, 19, 18, 16, 22, 33, 23, 31], 8, true)) := cover (by decide +kernel)
    rw [E.out]
    go_wp2_with fail
    refine (refrow_any _ _ _ _).mono ?_
    rintro e w2 ⟨rfl, hb2⟩
    have F2 := cover (F.out w2 hb2)
    clear hb2 F
    go_wp2_with (refine wpList_store_row rfl _ _ _ rfl g (rowC (some ⟨w1.heap.size, 0, none⟩) 8 8 true) rfl rfl 30 zr0 F2.out.1 ref_row_size rfl (rowC_one _ _ _ _) ?_)
    exact bodyPost_ret (v := .agg (rowC (some ⟨w1.heap.size, 0, none⟩) 8 8 true)) (results_cell_row (by rfl) _ _ g _ (rowC (some ⟨w1.heap.size, 0, none⟩) 8 8 true) (0, 0) _ rfl (setRow_heap _ _ _ _ _ _ F2.out.1) Try.underlying30 rfl ref_row_size) rfl F2.out.2
  go_upto_region 42 with fail
  by_cases h20 : e = 18
  · subst h20
    clear h0 h1 h2 h3 h4 h5 h6 h7 h8 h9 h10 h11 h12 h13 h14 h15 h16 h17 h18 h19
    have F := cover (fun w2 hb => ref_fin [20, 19, 22, 33, 31] 10 H1.out (w2 := w2) hb)
    have E : Hid (stepG 13 18 = ([20, 19, 22, 33, 31], 10, true)) := cover (by decide +kernel)
    rw [E.out]
    go_wp2_with fail
    refine (refrow_any _ _ _ _).mono ?_
    rintro e w2 ⟨rfl, hb2⟩
    have F2 := cover (F.out w2 hb2)
    clear hb2 F
    go_wp2_with (refine wpList_store_row rfl _ _ _ rfl g (rowC (some ⟨w1.heap.size, 0, none⟩) 5 10 true) rfl rfl 30 zr0 F2.out.1 ref_row_size rfl (rowC_one _ _ _ _) ?_)
    exact bodyPost_ret (v := .agg (rowC (some ⟨w1.heap.size, 0, none⟩) 5 10 true)) (results_cell_row (by rfl) _ _ g _ (rowC (some ⟨w1.heap.size, 0, none⟩) 5 10 true) (0, 0) _ rfl (setRow_heap _ _ _ _ _ _ F2.out.1) Try.underlying30 rfl ref_row_size) rfl F2.out.2
  go_upto_region 44 with fail
  by_cases h21 : e = 21
  · subst h21
    clear h0 h1 h2 h3 h4 h5 h6 h7 h8 h9 h10 h11 h12 h13 h14 h15 h16 h17 h18 h19 h20
    have F := cover (fun w2 hb => ref_fin [20, 19, 22, 33, 31] 10 H1.out (w2 := w2) hb)
    have E : Hid (stepG 13 21 = ([20, 19, 22, 33, 31], 10, true)) := cover (by decide +kernel)
    rw [E.out]
    go_wp2_with fail
    refine (refrow_any _ _ _ _).mono ?_
    rintro e w2 ⟨rfl, hb2⟩
    have F2 := cover (F.out w2 hb2)
    clear hb2 F
    go_wp2_with (refine wpList_store_row rfl _ _ _ rfl g (rowC (some ⟨w1.heap.size, 0, none⟩) 5 10 true) rfl rfl 30 zr0 F2.out.1 ref_row_size rfl (rowC_one _ _ _ _) ?_)
    exact bodyPost_ret (v := .agg (rowC (some ⟨w1.heap.size, 0, none⟩) 5 10 true)) (results_cell_row (by rfl) _ _ g _ (rowC (some ⟨w1.heap.size, 0, none⟩) 5 10 true) (0, 0) _ rfl (setRow_heap _ _ _ _ _ _ F2.out.1) Try.underlying30 rfl ref_row_size) rfl F2.out.2
  go_upto_region 46 with fail
  by_cases h22 : e = 24
  · subst h22
    clear h0 h1 h2 h3 h4 h5 h6 h7 h8 h9 h10 h11 h12 h13 h14 h15 h16 h17 h18 h19 h20 h21
    have F := cover (fun w2 hb => ref_fin [19, 21, 17, 22, 33] 10 H1.out (w2 := w2) hb)
    have E : Hid (stepG 13 24 = ([19, 21, 17, 22, 33], 10, true)) := cover (by decide +kernel)
    rw [E.out]
    go_wp2_with fail
    refine (refrow_any _ _ _ _).mono ?_
    rintro e w2 ⟨rfl, hb2⟩
    have F2 := cover (F.out w2 hb2)
    clear hb2 F
    go_wp2_with (refine wpList_store_row rfl _ _ _ rfl g (rowC (some ⟨w1.heap.size, 0, none⟩) 5 10 true) rfl rfl 30 zr0 F2.out.1 ref_row_size rfl (rowC_one _ _ _ _) ?_)
    exact bodyPost_ret (v := .agg (rowC (some ⟨w1.heap.size, 0, none⟩) 5 10 true)) (results_cell_row (by rfl) _ _ g _ (rowC (some ⟨w1.heap.size, 0, none⟩) 5 10 true) (0, 0) _ rfl (setRow_heap _ _ _ _ _ _ F2.out.1) Try.underlying30 rfl ref_row_size) rfl F2.out.2
  go_upto_region 48 with fail
  by_cases h23 : e = 27
  · subst h23
    clear h0 h1 h2 h3 h4 h5 h6 h7 h8 h9 h10 h11 h12 h13 h14 h15 h16 h17 h18 h19 h20 h21 h22
    have F := cover (fun w2 hb => ref_fin [20, 19, 22, 34, 33, 31] 10 H1.out (w2 := w2) hb)
    have E : Hid (stepG 13 27 = ([20, 19, 22, 34, 33, 31], 10, true)) := cover (by decide +kernel)
    rw [E.out]
    go_wp2_with fail
    refine (refrow_any _ _ _ _).mono ?_
    rintro e w2 ⟨rfl, hb2⟩
    have F2 := cover (F.out w2 hb2)
    clear hb2 F
    go_wp2_with (refine wpList_store_row rfl _ _ _ rfl g (rowC (some ⟨w1.heap.size, 0, none⟩) 6 10 true) rfl rfl 30 zr0 F2.out.1 ref_row_size rfl (rowC_one _ _ _ _) ?_)
    exact bodyPost_ret (v := .agg (rowC (some ⟨w1.heap.size, 0, none⟩) 6 10 true)) (results_cell_row (by rfl) _ _ g _ (rowC (some ⟨w1.heap.size, 0, none⟩) 6 10 true) (0, 0) _ rfl (setRow_heap _ _ _ _ _ _ F2.out.1) Try.underlying30 rfl ref_row_size) rfl F2.out.2
  go_upto_region 50 with fail
  by_cases h24 : e = 30
  · subst h24
    clear h0 h1 h2 h3 h4 h5 h6 h7 h8 h9 h10 h11 h12 h13 h14 h15 h16 h17 h18 h19 h20 h21 h22 h23
    have F := cover (fun w2 hb => ref_fin [29, 14, 32] 13 H1.out (w2 := w2) hb)
    have E : Hid (stepG 13 30 = ([29, 14, 32], 13, true)) := cover (by decide +kernel)
    rw [E.out]
    go_wp2_with fail
    refine (refrow_any _ _ _ _).mono ?_
    rintro e w2 ⟨rfl, hb2⟩
    have F2 := cover (F.out w2 hb2)
    clear hb2 F
    go_wp2_with (refine wpList_store_row rfl _ _ _ rfl g (rowC (some ⟨w1.heap.size, 0, none⟩) 3 13 true) rfl rfl 30 zr0 F2.out.1 ref_row_size rfl (rowC_one _ _ _ _) ?_)
    exact bodyPost_ret (v := .agg (rowC (some ⟨w1.heap.size, 0, none⟩) 3 13 true)) (results_cell_row (by rfl) _ _ g _ (rowC (some ⟨w1.heap.size, 0, none⟩) 3 13 true) (0, 0) _ rfl (setRow_heap _ _ _ _ _ _ F2.out.1) Try.underlying30 rfl ref_row_size) rfl F2.out.2
  have hs := stepG_none (s := 13) (e := e) (by rw [show evsG 13 = [3, 2, 8, 9, 11, 12, 28, 33, 6, 13, 16, 19, 22, 25, 14, 17, 20, 23, 26, 15, 18, 21, 24, 27, 30] from by decide +kernel]; simp only [List.mem_cons, List.not_mem_nil, or_false]; omega)
  have F := cover (ref_no hs H1.out)
  have G := cover H1.out.2.2
  clear hs H1
  go_wp2_with (refine wpList_store_row rfl _ _ _ rfl g (rowC none 0 13 false) rfl rfl 30 zr0 G.out ref_row_size rfl (rowC_one _ _ _ _) ?_)
  exact bodyPost_ret (v := .agg (rowC none 0 13 false)) (results_cell_row (by rfl) _ _ g _ (rowC none 0 13 false) (0, 0) _ rfl (setRow_heap _ _ _ _ _ _ G.out) Try.underlying30 rfl ref_row_size) rfl F.out
end Go.Proofs.Ytlffhnplcgmhlaa
