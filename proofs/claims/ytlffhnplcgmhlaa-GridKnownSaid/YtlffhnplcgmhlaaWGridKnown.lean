/- The walk of GridKnown. -/
import Derived.Laws.Bits128
import Derived.Test.YtlffhnplcgmhlaaJUse
import Derived.Test.YtlffhnplcgmhlaaOFrame
namespace Go.Proofs.Ytlffhnplcgmhlaa
open Go.RowKit
set_option linter.unusedVariables false
set_option linter.unusedSimpArgs false

set_option maxHeartbeats 1600000 in
theorem walk_GridKnown (w : World) : Calls Try.prog 3 #[] w fun e w' => e = .returned (.bool true) ∧ Below w.heap.size w w' := by
  have s0 := awake_any w
  go_enter Try.func3, Try.ntmps3
  go_wp2_with fail
  refine s0.mono ?_
  rintro e w1 ⟨rfl, hb1⟩
  have HB1 := cover hb1
  have s1 := cover (step_any 10 17 w1)
  rw [show stepG 10 17 = ([19, 24, 31], 10, true) from by decide +kernel] at s1
  clear hb1 s0
  go_wp2_with fail
  refine s1.out.mono ?_
  rintro e w2 ⟨A, m, rfl, H2⟩
  obtain ⟨hm, hr⟩ := H2.out.1.out
  have hm : m = 3 := hm
  subst hm
  obtain ⟨ad, y, rfl, hb, hc, hy⟩ := hr.at_ (k := 1) (by decide)
  have hy : y = 24 := by have := hy.out; simpa using this.symm
  subst hy
  obtain ⟨w3, hw3, G3, hb3⟩ := row_var w2 (some ad) 3 10 true
  obtain ⟨g3, hg3⟩ : ∃ g, Hid (w2.heap.size = g) := ⟨_, cover rfl⟩
  rw [hg3.out] at G3
  have HC : Hid (w3.cell? (ad.add 1) = some (.int .i64 24)) := cover ((hb3.out.cell (by rw [addr_add_block]; exact hb)).trans hc)
  have HB3 : Hid (Below w.heap.size w w3 ∧ w.heap.size ≤ w3.heap.size) := cover (by
    have h1 := HB1.out.trans (H2.out.2.mono HB1.out.size)
    have h2 := h1.trans (hb3.out.mono h1.size)
    exact ⟨h2, h2.size⟩)
  clear hm hr hb hc s1 hb3 H2 HB1
  go_upto_region 4 with fail
  rw [← hw3.out, hg3.out]
  clear hw3 hg3
  have s2 := cover (step_any 0 1 w3)
  rw [show stepG 0 1 = ([], 0, false) from by decide +kernel] at s2
  go_wp2_with fail
  refine s2.out.mono ?_
  rintro e w4 ⟨A4, m, rfl, H4⟩
  obtain ⟨hm, _⟩ := H4.out.1.out
  have hm : m = 0 := hm
  subst hm
  obtain ⟨w5, hw5, G5, hb5⟩ := row_var w4 A4 0 0 false
  obtain ⟨g5, hg5⟩ : ∃ g, Hid (w4.heap.size = g) := ⟨_, cover rfl⟩
  rw [hg5.out] at G5
  have hb35 : Below w3.heap.size w3 w5 := H4.out.2.trans (hb5.out.mono H4.out.2.size)
  have HC5 : Hid (w5.cell? (ad.add 1) = some (.int .i64 24)) := cover ((hb35.cell (cell_in HC.out)).trans HC.out)
  have G35 : Hid (w5.heap[g3]? = some (.cells (rowC (some ad) 3 10 true) 25 (0, 0))) := cover ((hb35.block g3 (block_lt G3.out)).trans G3.out)
  have HB5 : Hid (Below w.heap.size w w5 ∧ w.heap.size ≤ w5.heap.size) := cover (by
    have h2 := HB3.out.1.trans (hb35.mono HB3.out.2)
    exact ⟨h2, h2.size⟩)
  clear hm s2 hb5 H4 HB3 hb35 G3 HC
  go_upto_region 5 with fail
  rw [← hw5.out, hg5.out]
  clear hw5 hg5
  have s3 := cover (step_any (-5) 99 w5)
  rw [stepG_far (by omega)] at s3
  go_wp2_with fail
  refine s3.out.mono ?_
  rintro e w6 ⟨A6, m, rfl, H6⟩
  obtain ⟨hm, _⟩ := H6.out.1.out
  have hm : m = 0 := hm
  subst hm
  obtain ⟨w7, hw7, G7, hb7⟩ := row_var w6 A6 0 (-5) false
  obtain ⟨g7, hg7⟩ : ∃ g, Hid (w6.heap.size = g) := ⟨_, cover rfl⟩
  rw [hg7.out] at G7
  have hb57 : Below w5.heap.size w5 w7 := H6.out.2.trans (hb7.out.mono H6.out.2.size)
  have hc7 := (hb57.cell (cell_in HC5.out)).trans HC5.out
  rw [show ad.add 1 = ⟨ad.block, ad.off + 1, none⟩ from by simp [Addr.add]] at hc7
  obtain ⟨a0, a1, a2⟩ := rowC_cells ((hb57.block g3 (block_lt G35.out)).trans G35.out)
  obtain ⟨b0, b1, b2⟩ := rowC_cells ((hb57.block g5 (block_lt G5.out)).trans G5.out)
  obtain ⟨c0, c1, c2⟩ := rowC_cells G7.out
  have HB7 : Hid (Below w.heap.size w w7) := cover (HB5.out.1.trans (hb57.mono HB5.out.2))
  clear hm s3 hb7 H6 HB5 hb57 G35 G5 HC5 G7
  go_upto_region 6 with fail
  rw [← hw7.out, hg7.out]
  clear hw7 hg7
  go_wp2
  go_ret
  exact ⟨rfl, HB7.out⟩
end Go.Proofs.Ytlffhnplcgmhlaa
