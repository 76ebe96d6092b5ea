/- What the document's own GetReason hands back. -/
import Derived.Test.YtkidacfodpoapaaGReas
namespace Go.Proofs.Ytkidacfodpoapaa
open Go.RowKit
set_option linter.unusedVariables false
set_option linter.unusedSimpArgs false

set_option maxHeartbeats 3200000 in
theorem ref_getReason_any (A : Option Addr) (n c B : Nat) (l : List Int) (w : World) (hr : Row w B A n l) (hB : B ≤ w.heap.size) (hb : Bts l) (hc : n ≤ c) (hmax : n ≤ 100000) :
    Calls Try.prog 17 #[.slice A n c] w (ReaE (getRs l) w) := by
  obtain ⟨w1, hw1⟩ : ∃ w1, Hid (w1 = w.alloc (.cells zrs 39)) := ⟨_, cover rfl⟩
  have hs1 : w1.heap.size = w.heap.size + 1 := by rw [hw1.out]; simp
  have H1 : Hid (Below w.heap.size w w1) := cover (by rw [hw1.out]; exact (Below.refl _ _).alloc (Nat.le_refl _) _)
  have G1 : Hid (w1.heap[w.heap.size]? = some (.cells zrs 39 (0, 0))) := cover (by rw [hw1.out]; exact heap_alloc_new _ _)
  have R1 := cover (hr.below (H1.out.mono hB))
  have hl := hr.len
  have HB := cover hb
  clear hr hb
  by_cases hs : n < 5
  · have HE : Hid (getRs l = (zRs, 2)) := cover (by rw [getRs_no (by omega), if_pos (by omega)])
    clear hl
    go_enter Try.func17, Try.ntmps17
    go_upto_region 1 with fail
    rw [← hw1.out]
    go_wp2_with (refine wpList_store_row rfl _ _ _ rfl w.heap.size zrs rfl rfl 39 zrs G1.out ref_reason_size rfl (reason_one _ _ _ _ _ _ _ _ _) ?_)
    exact bodyPost_ret (v := .tuple #[.agg zrs, .int .i64 2]) (results_cell_and (by rfl) _ _ w.heap.size _ zrs (0, 0) _ (.int .i64 2) rfl (setRow_heap _ _ _ _ _ _ G1.out) rfl Try.underlying39 rfl ref_reason_size) rfl ⟨by rw [HE.out]; rfl, Go.below_setRow H1.out (Nat.le_refl _) _⟩
  by_cases hg : 5 < n
  · have HE : Hid (getRs l = (zRs, 3)) := cover (by rw [getRs_no (by omega), if_neg (by omega)])
    clear hl
    go_enter Try.func17, Try.ntmps17
    go_upto_region 1 with fail
    rw [← hw1.out]
    go_wp2_with (refine wpList_store_row rfl _ _ _ rfl w.heap.size zrs rfl rfl 39 zrs G1.out ref_reason_size rfl (reason_one _ _ _ _ _ _ _ _ _) ?_)
    exact bodyPost_ret (v := .tuple #[.agg zrs, .int .i64 3]) (results_cell_and (by rfl) _ _ w.heap.size _ zrs (0, 0) _ (.int .i64 3) rfl (setRow_heap _ _ _ _ _ _ G1.out) rfl Try.underlying39 rfl ref_reason_size) rfl ⟨by rw [HE.out]; rfl, Go.below_setRow H1.out (Nat.le_refl _) _⟩
  obtain rfl : n = 5 := by omega
  clear hs hg
  obtain ⟨x0, x1, x2, x3, x4, rfl⟩ : ∃ x0 x1 x2 x3 x4, l = [x0, x1, x2, x3, x4] := by
    match l, hl with
    | [x0, x1, x2, x3, x4], _ => exact ⟨x0, x1, x2, x3, x4, rfl⟩
  have h0 := HB.out x0 (by simp)
  have h1 := HB.out x1 (by simp)
  have h2 := HB.out x2 (by simp)
  have h3 := HB.out x3 (by simp)
  have h4 := HB.out x4 (by simp)
  obtain ⟨ad, _, hA, had, k2, e2⟩ := R1.out.at_ (show 2 < 5 by decide)
  subst hA
  obtain ⟨_, _, hA, _, k3, e3⟩ := R1.out.at_ (show 3 < 5 by decide)
  injection hA with hA; subst hA
  obtain ⟨_, _, hA, _, k4, e4⟩ := R1.out.at_ (show 4 < 5 by decide)
  injection hA with hA; subst hA
  have e2 := e2.out; have e3 := e3.out; have e4 := e4.out
  simp at e2 e3 e4
  subst e2; subst e3; subst e4
  have hb1 := and_one8 h2.1 h2.2
  have hb3 := and_one8 h3.1 h3.2
  have a1 := at_1 h4.1 h4.2
  have a2 := at_2 h4.1 h4.2
  have a3 := at_4 h4.1 h4.2
  have a4 := at_8 h4.1 h4.2
  have a5 := at_16 h4.1 h4.2
  have v2 := w64 h2
  have v3 := w64 h3
  have v4 := w64 h4
  have v5 : IntKind.i64.wrap (x2 / 2) = x2 / 2 := w64 ⟨by omega, by omega⟩
  have v6 : IntKind.i64.wrap (x3 / 2) = x3 / 2 := w64 ⟨by omega, by omega⟩
  have q2 : x2.tdiv 2 = x2 / 2 := Int.tdiv_eq_ediv_of_nonneg h2.1
  have q3 : x3.tdiv 2 = x3 / 2 := Int.tdiv_eq_ediv_of_nonneg h3.1
  have k2' : w1.cell? ⟨ad.block, ad.off + 2, none⟩ = some (.int .u8 x2) := by simpa [Addr.add] using k2
  have k3' : w1.cell? ⟨ad.block, ad.off + 3, none⟩ = some (.int .u8 x3) := by simpa [Addr.add] using k3
  have k4' : w1.cell? ⟨ad.block, ad.off + 4, none⟩ = some (.int .u8 x4) := by simpa [Addr.add] using k4
  have c5 : (5 : Int) ≤ c := by omega
  have c2 : 2 ≤ c := by omega
  have c2' : (2 : Int) ≤ c := by omega
  clear hl k2 k3 k4
  go_enter Try.func17, Try.ntmps17
  go_upto_region 1 with fail
  rw [← hw1.out]
  by_cases p2 : x2 % 2 = 1
  · have HE : Hid (getRs [x0, x1, x2, x3, x4] = (zRs, 4)) := cover (by rw [getRs_5, if_pos (.inl p2)])
    rw [decide_eq_true p2] at hb1
    clear p2
    go_wp2_with (refine wpList_store_row rfl _ _ _ rfl w.heap.size zrs rfl rfl 39 zrs G1.out ref_reason_size rfl (reason_one _ _ _ _ _ _ _ _ _) ?_)
    exact bodyPost_ret (v := .tuple #[.agg zrs, .int .i64 4]) (results_cell_and (by rfl) _ _ w.heap.size _ zrs (0, 0) _ (.int .i64 4) rfl (setRow_heap _ _ _ _ _ _ G1.out) rfl Try.underlying39 rfl ref_reason_size) rfl ⟨by rw [HE.out]; rfl, Go.below_setRow H1.out (Nat.le_refl _) _⟩
  rw [decide_eq_false p2] at hb1
  by_cases p4 : 31 < x4
  · have HE : Hid (getRs [x0, x1, x2, x3, x4] = (zRs, 4)) := cover (by rw [getRs_5, if_pos (.inr p4)])
    clear p2
    go_wp2_with (refine wpList_store_row rfl _ _ _ rfl w.heap.size zrs rfl rfl 39 zrs G1.out ref_reason_size rfl (reason_one _ _ _ _ _ _ _ _ _) ?_)
    exact bodyPost_ret (v := .tuple #[.agg zrs, .int .i64 4]) (results_cell_and (by rfl) _ _ w.heap.size _ zrs (0, 0) _ (.int .i64 4) rfl (setRow_heap _ _ _ _ _ _ G1.out) rfl Try.underlying39 rfl ref_reason_size) rfl ⟨by rw [HE.out]; rfl, Go.below_setRow H1.out (Nat.le_refl _) _⟩
  have HE : Hid (getRs [x0, x1, x2, x3, x4] = (⟨x0 * 256 + x1, x2 / 2, x3 / 2, decide (x3 % 2 = 1), bitAt x4 1, bitAt x4 2, bitAt x4 4, bitAt x4 8, bitAt x4 16⟩, 0)) := cover (by rw [getRs_5, if_neg (fun h => h.elim p2 p4)])
  clear p2
  go_upto_region 8 with fail
  have mixed : Try.prog.follows .mixedOrders = true := by kernel_rfl
  refine (wpIn_wide (n := 0)).1 ?_
  refine held_begin (fun W' : World => W'.cell? ⟨ad.block, ad.off + 2, none⟩ = some (.int .u8 x2) ∧ W'.cell? ⟨ad.block, ad.off + 3, none⟩ = some (.int .u8 x3) ∧ Row W' B (some ad) 5 [x0, x1, x2, x3, x4]) 34 mixed ?_
  have HS : (fun W' : World => W'.cell? ⟨ad.block, ad.off + 2, none⟩ = some (.int .u8 x2) ∧ W'.cell? ⟨ad.block, ad.off + 3, none⟩ = some (.int .u8 x3) ∧ Row W' B (some ad) 5 [x0, x1, x2, x3, x4]) w1.drew := ⟨k2', k3', R1.out.drewN 1⟩
  refine hold_take 0 _ rfl (by kernel_rfl) (by kernel_rfl) (by kernel_rfl) (by kernel_rfl) (by kernel_rfl) (fun _ _ _ h => h) (by rfl) (fun _ => rfl) HS (fun w' hS => by obtain ⟨q0, q1, q2⟩ := hS; go_simp; rfl) ?_
  simp only [Act.put, List.setIfInBounds_toArray, List.set_cons_zero, List.set_cons_succ]
  refine hold_take 1 _ rfl (by kernel_rfl) (by kernel_rfl) (by kernel_rfl) (by kernel_rfl) (by kernel_rfl) (fun _ _ _ h => h) (by rfl) (fun _ => rfl) HS (fun w' hS => by obtain ⟨q0, q1, q2⟩ := hS; go_simp; rfl) ?_
  simp only [Act.put, List.setIfInBounds_toArray, List.set_cons_zero, List.set_cons_succ]
  refine hold_take 3 _ rfl (by kernel_rfl) (by kernel_rfl) (by kernel_rfl) (by kernel_rfl) (by kernel_rfl) (fun _ _ _ h => h) (by rfl) (fun _ => rfl) HS (fun w' hS => by obtain ⟨q0, q1, q2⟩ := hS; go_simp; rfl) ?_
  simp only [Act.put, List.setIfInBounds_toArray, List.set_cons_zero, List.set_cons_succ]
  refine hold_take 4 _ rfl (by kernel_rfl) (by kernel_rfl) (by kernel_rfl) (by kernel_rfl) (by kernel_rfl) (fun _ _ _ h => h) (by rfl) (fun _ => rfl) HS (fun w' hS => by obtain ⟨q0, q1, q2⟩ := hS; go_simp; rfl) ?_
  simp only [Act.put, List.setIfInBounds_toArray, List.set_cons_zero, List.set_cons_succ]
  refine hold_take 5 _ rfl (by kernel_rfl) (by kernel_rfl) (by kernel_rfl) (by kernel_rfl) (by kernel_rfl) (fun _ _ _ h => h) (by rfl) (fun _ => rfl) HS (fun w' hS => by obtain ⟨q0, q1, q2⟩ := hS; go_simp; rfl) ?_
  simp only [Act.put, List.setIfInBounds_toArray, List.set_cons_zero, List.set_cons_succ]
  refine hold_take 6 _ rfl (by kernel_rfl) (by kernel_rfl) (by kernel_rfl) (by kernel_rfl) (by kernel_rfl) (fun _ _ _ h => h) (by rfl) (fun _ => rfl) HS (fun w' hS => by obtain ⟨q0, q1, q2⟩ := hS; go_simp; rfl) ?_
  simp only [Act.put, List.setIfInBounds_toArray, List.set_cons_zero, List.set_cons_succ]
  refine hold_take 7 _ rfl (by kernel_rfl) (by kernel_rfl) (by kernel_rfl) (by kernel_rfl) (by kernel_rfl) (fun _ _ _ h => h) (by rfl) (fun _ => rfl) HS (fun w' hS => by obtain ⟨q0, q1, q2⟩ := hS; go_simp; rfl) ?_
  simp only [Act.put, List.setIfInBounds_toArray, List.set_cons_zero, List.set_cons_succ]
  refine hold_take 8 _ rfl (by kernel_rfl) (by kernel_rfl) (by kernel_rfl) (by kernel_rfl) (by kernel_rfl) (fun _ _ _ h => h) (by rfl) (fun _ => rfl) HS (fun w' hS => by obtain ⟨q0, q1, q2⟩ := hS; go_simp; rfl) ?_
  simp only [Act.put, List.setIfInBounds_toArray, List.set_cons_zero, List.set_cons_succ]
  refine hold_take 9 _ rfl (by kernel_rfl) (by kernel_rfl) (by kernel_rfl) (by kernel_rfl) (by kernel_rfl) (fun _ _ _ h => h) (by rfl) (fun _ => rfl) HS (fun w' hS => by obtain ⟨q0, q1, q2⟩ := hS; go_simp; rfl) ?_
  simp only [Act.put, List.setIfInBounds_toArray, List.set_cons_zero, List.set_cons_succ]
  refine hold_take 10 _ rfl (by kernel_rfl) (by kernel_rfl) (by kernel_rfl) (by kernel_rfl) (by kernel_rfl) (fun _ _ _ h => h) (by rfl) (fun _ => rfl) HS (fun w' hS => by obtain ⟨q0, q1, q2⟩ := hS; go_simp; rfl) ?_
  simp only [Act.put, List.setIfInBounds_toArray, List.set_cons_zero, List.set_cons_succ]
  refine hold_take 11 _ rfl (by kernel_rfl) (by kernel_rfl) (by kernel_rfl) (by kernel_rfl) (by kernel_rfl) (fun _ _ _ h => h) (by rfl) (fun _ => rfl) HS (fun w' hS => by obtain ⟨q0, q1, q2⟩ := hS; go_simp; rfl) ?_
  simp only [Act.put, List.setIfInBounds_toArray, List.set_cons_zero, List.set_cons_succ]
  refine hold_take 12 _ rfl (by kernel_rfl) (by kernel_rfl) (by kernel_rfl) (by kernel_rfl) (by kernel_rfl) (fun _ _ _ h => h) (by rfl) (fun _ => rfl) HS (fun w' hS => by obtain ⟨q0, q1, q2⟩ := hS; go_simp; rfl) ?_
  simp only [Act.put, List.setIfInBounds_toArray, List.set_cons_zero, List.set_cons_succ]
  refine hold_take 13 _ rfl (by kernel_rfl) (by kernel_rfl) (by kernel_rfl) (by kernel_rfl) (by kernel_rfl) (fun _ _ _ h => h) (by rfl) (fun _ => rfl) HS (fun w' hS => by obtain ⟨q0, q1, q2⟩ := hS; go_simp; rfl) ?_
  simp only [Act.put, List.setIfInBounds_toArray, List.set_cons_zero, List.set_cons_succ]
  refine hold_take 14 _ rfl (by kernel_rfl) (by kernel_rfl) (by kernel_rfl) (by kernel_rfl) (by kernel_rfl) (fun _ _ _ h => h) (by rfl) (fun _ => rfl) HS (fun w' hS => by obtain ⟨q0, q1, q2⟩ := hS; go_simp; rfl) ?_
  simp only [Act.put, List.setIfInBounds_toArray, List.set_cons_zero, List.set_cons_succ]
  refine hold_take 15 _ rfl (by kernel_rfl) (by kernel_rfl) (by kernel_rfl) (by kernel_rfl) (by kernel_rfl) (fun _ _ _ h => h) (by rfl) (fun _ => rfl) HS (fun w' hS => by obtain ⟨q0, q1, q2⟩ := hS; go_simp; rfl) ?_
  simp only [Act.put, List.setIfInBounds_toArray, List.set_cons_zero, List.set_cons_succ]
  refine hold_take 16 _ rfl (by kernel_rfl) (by kernel_rfl) (by kernel_rfl) (by kernel_rfl) (by kernel_rfl) (fun _ _ _ h => h) (by rfl) (fun _ => rfl) HS (fun w' hS => by obtain ⟨q0, q1, q2⟩ := hS; go_simp; rfl) ?_
  simp only [Act.put, List.setIfInBounds_toArray, List.set_cons_zero, List.set_cons_succ]
  refine hold_take 17 _ rfl (by kernel_rfl) (by kernel_rfl) (by kernel_rfl) (by kernel_rfl) (by kernel_rfl) (fun _ _ _ h => h) (by rfl) (fun _ => rfl) HS (fun w' hS => by obtain ⟨q0, q1, q2⟩ := hS; go_simp; rfl) ?_
  simp only [Act.put, List.setIfInBounds_toArray, List.set_cons_zero, List.set_cons_succ]
  refine hold_take 18 _ rfl (by kernel_rfl) (by kernel_rfl) (by kernel_rfl) (by kernel_rfl) (by kernel_rfl) (fun _ _ _ h => h) (by rfl) (fun _ => rfl) HS (fun w' hS => by obtain ⟨q0, q1, q2⟩ := hS; go_simp; rfl) ?_
  simp only [Act.put, List.setIfInBounds_toArray, List.set_cons_zero, List.set_cons_succ]
  refine hold_take 19 _ rfl (by kernel_rfl) (by kernel_rfl) (by kernel_rfl) (by kernel_rfl) (by kernel_rfl) (fun _ _ _ h => h) (by rfl) (fun _ => rfl) HS (fun w' hS => by obtain ⟨q0, q1, q2⟩ := hS; go_simp; rfl) ?_
  simp only [Act.put, List.setIfInBounds_toArray, List.set_cons_zero, List.set_cons_succ]
  refine hold_take 20 _ rfl (by kernel_rfl) (by kernel_rfl) (by kernel_rfl) (by kernel_rfl) (by kernel_rfl) (fun _ _ _ h => h) (by rfl) (fun _ => rfl) HS (fun w' hS => by obtain ⟨q0, q1, q2⟩ := hS; go_simp; rfl) ?_
  simp only [Act.put, List.setIfInBounds_toArray, List.set_cons_zero, List.set_cons_succ]
  refine hold_take 21 _ rfl (by kernel_rfl) (by kernel_rfl) (by kernel_rfl) (by kernel_rfl) (by kernel_rfl) (fun _ _ _ h => h) (by rfl) (fun _ => rfl) HS (fun w' hS => by obtain ⟨q0, q1, q2⟩ := hS; go_simp; rfl) ?_
  simp only [Act.put, List.setIfInBounds_toArray, List.set_cons_zero, List.set_cons_succ]
  refine hold_take 22 _ rfl (by kernel_rfl) (by kernel_rfl) (by kernel_rfl) (by kernel_rfl) (by kernel_rfl) (fun _ _ _ h => h) (by rfl) (fun _ => rfl) HS (fun w' hS => by obtain ⟨q0, q1, q2⟩ := hS; go_simp; rfl) ?_
  simp only [Act.put, List.setIfInBounds_toArray, List.set_cons_zero, List.set_cons_succ]
  refine hold_take 23 _ rfl (by kernel_rfl) (by kernel_rfl) (by kernel_rfl) (by kernel_rfl) (by kernel_rfl) (fun _ _ _ h => h) (by rfl) (fun _ => rfl) HS (fun w' hS => by obtain ⟨q0, q1, q2⟩ := hS; go_simp; rfl) ?_
  simp only [Act.put, List.setIfInBounds_toArray, List.set_cons_zero, List.set_cons_succ]
  refine hold_take 24 _ rfl (by kernel_rfl) (by kernel_rfl) (by kernel_rfl) (by kernel_rfl) (by kernel_rfl) (fun _ _ _ h => h) (by rfl) (fun _ => rfl) HS (fun w' hS => by obtain ⟨q0, q1, q2⟩ := hS; go_simp; rfl) ?_
  simp only [Act.put, List.setIfInBounds_toArray, List.set_cons_zero, List.set_cons_succ]
  refine hold_take 25 _ rfl (by kernel_rfl) (by kernel_rfl) (by kernel_rfl) (by kernel_rfl) (by kernel_rfl) (fun _ _ _ h => h) (by rfl) (fun _ => rfl) HS (fun w' hS => by obtain ⟨q0, q1, q2⟩ := hS; go_simp; rfl) ?_
  simp only [Act.put, List.setIfInBounds_toArray, List.set_cons_zero, List.set_cons_succ]
  refine hold_take 26 _ rfl (by kernel_rfl) (by kernel_rfl) (by kernel_rfl) (by kernel_rfl) (by kernel_rfl) (fun _ _ _ h => h) (by rfl) (fun _ => rfl) HS (fun w' hS => by obtain ⟨q0, q1, q2⟩ := hS; go_simp; rfl) ?_
  simp only [Act.put, List.setIfInBounds_toArray, List.set_cons_zero, List.set_cons_succ]
  refine hold_take 27 _ rfl (by kernel_rfl) (by kernel_rfl) (by kernel_rfl) (by kernel_rfl) (by kernel_rfl) (fun _ _ _ h => h) (by rfl) (fun _ => rfl) HS (fun w' hS => by obtain ⟨q0, q1, q2⟩ := hS; go_simp; rfl) ?_
  simp only [Act.put, List.setIfInBounds_toArray, List.set_cons_zero, List.set_cons_succ]
  refine hold_take 28 _ rfl (by kernel_rfl) (by kernel_rfl) (by kernel_rfl) (by kernel_rfl) (by kernel_rfl) (fun _ _ _ h => h) (by rfl) (fun _ => rfl) HS (fun w' hS => by obtain ⟨q0, q1, q2⟩ := hS; go_simp; rfl) ?_
  simp only [Act.put, List.setIfInBounds_toArray, List.set_cons_zero, List.set_cons_succ]
  refine hold_take 29 _ rfl (by kernel_rfl) (by kernel_rfl) (by kernel_rfl) (by kernel_rfl) (by kernel_rfl) (fun _ _ _ h => h) (by rfl) (fun _ => rfl) HS (fun w' hS => by obtain ⟨q0, q1, q2⟩ := hS; go_simp; rfl) ?_
  simp only [Act.put, List.setIfInBounds_toArray, List.set_cons_zero, List.set_cons_succ]
  refine hold_take 30 _ rfl (by kernel_rfl) (by kernel_rfl) (by kernel_rfl) (by kernel_rfl) (by kernel_rfl) (fun _ _ _ h => h) (by rfl) (fun _ => rfl) HS (fun w' hS => by obtain ⟨q0, q1, q2⟩ := hS; go_simp; rfl) ?_
  simp only [Act.put, List.setIfInBounds_toArray, List.set_cons_zero, List.set_cons_succ]
  refine hold_take 31 _ rfl (by kernel_rfl) (by kernel_rfl) (by kernel_rfl) (by kernel_rfl) (by kernel_rfl) (fun _ _ _ h => h) (by rfl) (fun _ => rfl) HS (fun w' hS => by obtain ⟨q0, q1, q2⟩ := hS; go_simp; rfl) ?_
  simp only [Act.put, List.setIfInBounds_toArray, List.set_cons_zero, List.set_cons_succ]
  refine hold_take 32 _ rfl (by kernel_rfl) (by kernel_rfl) (by kernel_rfl) (by kernel_rfl) (by kernel_rfl) (fun _ _ _ h => h) (by rfl) (fun _ => rfl) HS (fun w' hS => by obtain ⟨q0, q1, q2⟩ := hS; go_simp; rfl) ?_
  simp only [Act.put, List.setIfInBounds_toArray, List.set_cons_zero, List.set_cons_succ]
  refine hold_one 2 (by kernel_rfl) rfl (by rfl) fun K2 hK2 => ?_
  go_simp
  refine ⟨trivial, rfl, (callsIn_wide.2 (ref_get_any (some ad) 2 c B [x0, x1] w1.drew (HS.2.2.take (k := 2) (by decide)) (HB.out.take 2) (by decide))).mono ?_⟩
  rintro e w' ⟨rfl, hw'⟩
  subst hw'
  have hg : getB [x0, x1] = x0 * 256 + x1 := getv_two x0 x1
  rw [hg]
  refine hK2 _ _ (.inr HS) ?_
  clear hK2 K2
  try simp only [Act.put, List.setIfInBounds_toArray, List.set_cons_zero, List.set_cons_succ]
  refine hold_take 33 _ rfl (by kernel_rfl) (by kernel_rfl) (by kernel_rfl) (by kernel_rfl) (by kernel_rfl) (fun _ _ _ h => h) (by rfl) (fun _ => rfl) HS (fun w' hS => by obtain ⟨q0, q1, q2⟩ := hS; go_simp; rfl) ?_
  simp only [Act.put, List.setIfInBounds_toArray, List.set_cons_zero, List.set_cons_succ]
  refine hold_one 34 (by kernel_rfl) rfl (by rfl) fun K hK => ?_
  refine run_skip_u (fun c h => by cases h) (fun _ _ => trivial) (w' := w1.drew.setRow w.heap.size #[.int .i64 (x0 * 256 + x1), .int .i64 (x2 / 2), .int .i64 (x3 / 2), .bool (decide (x3 % 2 = 1)), .bool (bitAt x4 1), .bool (bitAt x4 2), .bool (bitAt x4 4), .bool (bitAt x4 8), .bool (bitAt x4 16)]) (exec_store_row _ _ _ rfl w.heap.size #[.int .i64 (x0 * 256 + x1), .int .i64 (x2 / 2), .int .i64 (x3 / 2), .bool (decide (x3 % 2 = 1)), .bool (bitAt x4 1), .bool (bitAt x4 2), .bool (bitAt x4 4), .bool (bitAt x4 8), .bool (bitAt x4 16)] rfl rfl 39 zrs G1.out ref_reason_size rfl (reason_one _ _ _ _ _ _ _ _ _)) ?_
  refine hK _ _ (.inl rfl) ?_
  clear hK K
  have HS2 : (fun W' : World => W'.cell? ⟨ad.block, ad.off + 2, none⟩ = some (.int .u8 x2) ∧ W'.cell? ⟨ad.block, ad.off + 3, none⟩ = some (.int .u8 x3) ∧ Row W' B (some ad) 5 [x0, x1, x2, x3, x4]) (w1.drew.setRow w.heap.size #[.int .i64 (x0 * 256 + x1), .int .i64 (x2 / 2), .int .i64 (x3 / 2), .bool (decide (x3 % 2 = 1)), .bool (bitAt x4 1), .bool (bitAt x4 2), .bool (bitAt x4 4), .bool (bitAt x4 8), .bool (bitAt x4 16)]) := by
    have hne : ad.block ≠ w.heap.size := by omega
    have hh : ∀ i, i ≠ w.heap.size → (w1.drew.setRow w.heap.size #[.int .i64 (x0 * 256 + x1), .int .i64 (x2 / 2), .int .i64 (x3 / 2), .bool (decide (x3 % 2 = 1)), .bool (bitAt x4 1), .bool (bitAt x4 2), .bool (bitAt x4 4), .bool (bitAt x4 8), .bool (bitAt x4 16)]).heap[i]? = w1.drew.heap[i]? := fun i hi => setRow_other _ _ _ _ hi
    exact ⟨(World.cell?_of_block (a := ⟨ad.block, ad.off + 2, none⟩) (hh _ hne)).trans HS.1, (World.cell?_of_block (a := ⟨ad.block, ad.off + 3, none⟩) (hh _ hne)).trans HS.2.1, HS.2.2.keep (fun p hp => World.cell?_of_block (hh _ (by omega)))⟩
  simp only [Act.put]
  refine hold_one 35 (by kernel_rfl) rfl (by rfl) fun K hK => ?_
  go_simp
  refine hK _ _ (.inr HS2) (held_done (by kernel_rfl) ?_ _)
  clear hK K
  go_wp2
  exact bodyPost_ret (v := .tuple #[.agg #[.int .i64 (x0 * 256 + x1), .int .i64 (x2 / 2), .int .i64 (x3 / 2), .bool (decide (x3 % 2 = 1)), .bool (bitAt x4 1), .bool (bitAt x4 2), .bool (bitAt x4 4), .bool (bitAt x4 8), .bool (bitAt x4 16)], .int .i64 0]) (results_cell_and (by rfl) _ _ w.heap.size _ #[.int .i64 (x0 * 256 + x1), .int .i64 (x2 / 2), .int .i64 (x3 / 2), .bool (decide (x3 % 2 = 1)), .bool (bitAt x4 1), .bool (bitAt x4 2), .bool (bitAt x4 4), .bool (bitAt x4 8), .bool (bitAt x4 16)] (0, 0) _ (.int .i64 0) rfl (setRow_heap _ _ _ _ _ _ G1.out) rfl Try.underlying39 rfl ref_reason_size) rfl ⟨by rw [HE.out], Go.below_setRow (below_drewN H1.out 1) (Nat.le_refl _) _⟩
end Go.Proofs.Ytkidacfodpoapaa
