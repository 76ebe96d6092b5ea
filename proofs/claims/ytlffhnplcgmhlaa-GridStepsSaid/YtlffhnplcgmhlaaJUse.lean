/- What the laws ask of a row: the same, has, known, awake. -/
import Derived.Deep.RegionHeld3
import Derived.BigQuiet
import Derived.Test.YtlffhnplcgmhlaaJStep
namespace Go.Proofs.Ytlffhnplcgmhlaa
open Go.RowKit
set_option linter.unusedVariables false
set_option linter.unusedSimpArgs false

theorem rowC_cells {w : World} {g : Nat} {A : Option Addr} {m : Nat} {n : Int} {b : Bool} {T : TypeId} (h : w.heap[g]? = some (.cells (rowC A m n b) T (0, 0))) : w.cell? ⟨g, 0, none⟩ = some (.slice A m m) ∧ w.cell? ⟨g, 1, none⟩ = some (.int .i64 n) ∧ w.cell? ⟨g, 2, none⟩ = some (.bool b) := by
  refine ⟨?_, ?_, ?_⟩
  · rw [cell_of_row w g 0 _ _ _ h]; rfl
  · rw [cell_of_row w g 1 _ _ _ h]; rfl
  · rw [cell_of_row w g 2 _ _ _ h]; rfl
/-- a row kept in a variable -/
theorem row_var (w : World) (A : Option Addr) (m : Nat) (n : Int) (b : Bool) : ∃ w2, Hid (w2 = w.alloc (.cells (rowC A m n b) 25)) ∧ Hid (w2.heap[w.heap.size]? = some (.cells (rowC A m n b) 25 (0, 0))) ∧ Hid (Below w.heap.size w w2) :=
  ⟨_, cover rfl, cover (heap_alloc_new _ _), cover ((Below.refl _ _).alloc (Nat.le_refl _) _)⟩
theorem has_any (A : Option Addr) (m : Nat) (l : List Int) (n : Int) (b : Bool) (a : Int) (w : World) (hr : RowK .i64 w w.heap.size A m l) (hm : m ≤ 1000) :
    Calls Try.prog 16 #[.agg (rowC A m n b), .int .i64 a] w fun e w' => e = .returned (.bool (l.contains a)) ∧ Below w.heap.size w w' := by
  obtain ⟨g, hg⟩ : ∃ g, w.heap.size = g := ⟨_, rfl⟩
  obtain ⟨w1, hw1⟩ : ∃ w1, Hid (w1 = w.alloc (.cells (rowC A m n b) 25)) := ⟨_, cover rfl⟩
  have hb1 : Below w.heap.size w w1 := by rw [hw1.out]; exact (Below.refl _ _).alloc (Nat.le_refl _) _
  have HR : Hid (RowK .i64 w1 w.heap.size A m l) := cover (hr.below hb1)
  have G1 : w1.heap[g]? = some (.cells (rowC A m n b) 25 (0, 0)) := by rw [hw1.out, ← hg]; exact heap_alloc_new _ _
  obtain ⟨c0, c1, c2⟩ := rowC_cells G1
  have HB : Hid (Below w.heap.size w w1) := cover hb1
  clear hr hb1 G1
  go_enter Try.func16, Try.ntmps16
  go_upto_region 1 with fail
  rw [← hw1.out]
  clear hw1 hg
  go_wp2
  go_loopw [5] (fun i wr => ∃ k : Nat, k ≤ m ∧ i = .int .i64 k ∧ Hid ((l.take k).contains a = false) ∧ wr = w1) (fun i _ => m - (intOf i).toNat)
  case atStart => exact ⟨0, Nat.zero_le _, rfl, cover rfl, rfl⟩
  case round =>
    obtain ⟨k, hk, rfl, hno, rfl⟩ := hrel
    by_cases hlt : k < m
    · obtain ⟨ad, y, rfl, hb, hc, hy⟩ := HR.out.at_ hlt
      have HT : Hid ((l.take (k + 1)).contains a = ((l.take k).contains a || a == y)) := cover (by
        obtain ⟨hlt', e⟩ := List.getElem?_eq_some_iff.1 hy.out
        rw [List.take_succ_eq_append_getElem hlt', e]
        by_cases h : a = y <;> simp [h])
      clear hb
      by_cases hxy : y = a
      · subst hxy
        go_wp2
        go_ret
        refine ⟨?_, HB.out⟩
        have h1 := HT.out
        rw [hno.out] at h1
        have h2 : l.contains y = true := by
          rw [List.contains_iff_mem]
          rw [show ((false || y == y) = true) by simp, List.contains_iff_mem] at h1
          exact List.mem_of_mem_take h1
        exact ret_bool h2.symm
      · have hf : (a == y) = false := by simp; exact fun e => hxy e.symm
        go_wp2
        go_roundw
        case rel => exact ⟨k + 1, by omega, by go_num, cover (by rw [HT.out, hno.out, hf]; rfl), trivial⟩
        case measure => simp [intOf]; omega
    · obtain rfl : k = m := by omega
      go_wp2
      go_ret
      refine ⟨?_, HB.out⟩
      have h1 := hno.out
      rw [List.take_of_length_le (by rw [HR.out.len]; omega)] at h1
      exact ret_bool h1.symm
theorem known_any (s e : Int) (w : World) : Calls Try.prog 17 #[.int .i64 s, .int .i64 e] w fun en w' => en = .returned (.bool (knownG s e)) ∧ Below w.heap.size w w' := by
  have s1 := cover (step_any s e w)
  have HK : Hid (knownG s e = (stepG s e).2.2) := cover rfl
  obtain ⟨x, hx⟩ : ∃ x, x = stepG s e := ⟨_, rfl⟩
  rw [← hx] at s1 HK
  rw [HK.out]
  clear hx HK
  obtain ⟨l, n, b⟩ := x
  have hfd : ∀ A m w, (Instr.field 25 (.agg (rowC A m n b)) 2).run Try.prog w = .ok (.bool b) w := fun _ _ _ => by kernel_rfl
  go_enter Try.func17, Try.ntmps17
  go_wp2_with fail
  refine s1.out.mono ?_
  rintro e w1 ⟨A, m, rfl, H1⟩
  go_wp2
  go_ret
  exact ⟨rfl, H1.out.2⟩
set_option maxHeartbeats 1600000 in
theorem awake_any (w : World) : Calls Try.prog 10 #[] w fun e w' => e = .returned (.bool true) ∧ Below w.heap.size w w' := by
  have s1 := cover (step_any 0 0 w)
  rw [show stepG 0 0 = ([0, 33, 13], 2, true) from by decide +kernel] at s1
  go_enter Try.func10, Try.ntmps10
  go_wp2_with fail
  refine s1.out.mono ?_
  rintro e w1 ⟨A, m, rfl, H1⟩
  obtain ⟨hm, hr⟩ := H1.out.1.out
  have hm : m = 3 := hm
  subst hm
  obtain ⟨ad, y, rfl, hb, hc, hy⟩ := hr.at_ (k := 0) (by decide)
  have hy : y = 0 := by have := hy.out; simpa using this.symm
  subst hy
  obtain ⟨g, hg⟩ : ∃ g, w1.heap.size = g := ⟨_, rfl⟩
  obtain ⟨w2, hw2⟩ : ∃ w2, Hid (w2 = w1.alloc (.cells (rowC (some ad) 3 2 true) 25)) := ⟨_, cover rfl⟩
  have G2 : w2.heap[g]? = some (.cells (rowC (some ad) 3 2 true) 25 (0, 0)) := by rw [hw2.out, ← hg]; exact heap_alloc_new _ _
  have hb2 : Below w1.heap.size w1 w2 := by rw [hw2.out]; exact (Below.refl _ _).alloc (Nat.le_refl _) _
  obtain ⟨c0, c1, c2⟩ := rowC_cells G2
  have hc2 := (hb2.cell (by rw [addr_add_block]; exact hb)).trans hc
  rw [show ad.add 0 = ad from by simp [Addr.add]] at hc2
  have HB : Hid (Below w.heap.size w w2) := cover (H1.out.2.trans (hb2.mono H1.out.2.size))
  clear G2 hb2 hc hb hr s1 H1
  go_upto_region 2 with fail
  rw [← hw2.out]
  clear hw2 hg
  go_wp2
  go_ret
  exact ⟨rfl, HB.out⟩
end Go.Proofs.Ytlffhnplcgmhlaa
