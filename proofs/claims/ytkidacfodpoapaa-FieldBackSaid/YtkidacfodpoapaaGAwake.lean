/- The first sentence of each statement of layer 7 is true. -/
import Derived.Test.YtkidacfodpoapaaGPClass
import Derived.Test.YtkidacfodpoapaaOSame
namespace Go.Proofs.Ytkidacfodpoapaa
open Go.RowKit
set_option linter.unusedVariables false
set_option linter.unusedSimpArgs false

set_option maxHeartbeats 800000 in
theorem awake_any (w : World) : Calls Try.prog 7 #[] w fun e w' => e = .returned (.bool true) ∧ Below w.heap.size w w' := by
  go_enter Try.func7, Try.ntmps7
  go_wp2_with fail
  refine (putClass_any ⟨129, 7, 16⟩ w).mono ?_
  rw [show putC ⟨129, 7, 16⟩ = ([129, 7, 32], 0) by decide]
  rintro e w1 ⟨A1, c1, rfl, ho1, hb1⟩
  have HO1 := cover ho1
  have H1 := cover hb1
  have hs1 := hb1.size
  clear ho1 hb1
  go_wp2_with fail
  refine (number_any 258 w1 (by decide)).mono ?_
  rintro e w2 ⟨A2, c2, rfl, ho2, hb2⟩
  have HO1' := cover (ownB_below HO1.out hb2)
  have HO2 := cover ho2
  have H2 := cover (H1.out.trans (hb2.mono hs1))
  have hs2 := hb2.size
  clear ho2 hb2
  go_wp2_with fail
  refine (readNumber_any A2 (numB 258).length c2 w2.heap.size (numB 258) w2 HO2.out.row (numB_bts 258)).mono ?_
  rw [readN_num (by decide) (by decide)]
  rintro e w' ⟨rfl, rfl⟩
  go_wp2_with fail
  have hr := RowK.made (κ := .u8) w2 [129, 7, 32] #[.int .u8 129, .int .u8 7, .int .u8 32] 5 rfl
  have hb3 := (Below.refl w2.heap.size w2).alloc (Nat.le_refl _) (.cells #[.int .u8 129, .int .u8 7, .int .u8 32] 5)
  refine (same_any A1 (some ⟨w2.heap.size, 0, none⟩) 3 c1 3 w2.heap.size (w2.heap.size + 1) [129, 7, 32] [129, 7, 32] _ (HO1'.out.row.below hb3) hr (by decide)).mono ?_
  rintro e w4 ⟨rfl, d, rfl⟩
  rw [decide_eq_true rfl]
  have H4 := cover (below_drewN (H2.out.trans (hb3.mono (show w.heap.size ≤ w2.heap.size by omega))) d)
  clear hr hb3
  go_wp2
  go_ret
  exact ⟨rfl, H4.out⟩
end Go.Proofs.Ytkidacfodpoapaa
