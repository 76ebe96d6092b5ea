/- The walk of LanKnown. -/
import Derived.Test.YtjidhpmjdhjciaaFOne
namespace Go.Proofs.Ytjidhpmjdhjciaa
open Go.RowKit
set_option linter.unusedVariables false

set_option maxRecDepth 100000 in
set_option maxHeartbeats 1600000 in
theorem walk_LanKnown (w : World) : Calls Try.prog 3 #[] w fun e w' => e = .returned (.bool true) ∧ Below w.heap.size w w' := by
  go_enter Try.func3, Try.ntmps3
  go_wp2_with fail
  refine (awake_any w).mono ?_
  rintro e w0 ⟨rfl, hb0⟩
  have H0 := cover hb0
  clear hb0
  go_wp2_with fail
  refine (new_one (W := w) 3 2 9 H0.out (by decide) (by decide) (by decide)).mono ?_
  rintro e w1 ⟨l, rfl, H1⟩
  go_wp2_with fail
  refine (new_no 0 2 9 w1 (by unfold newOk; omega)).mono ?_
  rintro e w' ⟨rfl, rfl⟩
  have a2 := cover (RowK.madeF (κ := .u8) w1 [1] #[.int .u8 1] 5 (0, 0) rfl)
  have l2 := cover (H1.out.below ((Below.refl _ _).alloc (Nat.le_refl _) (.cells #[.int .u8 1] 5)))
  go_wp2_with fail
  refine (send_one l2.out (by decide) (some ⟨w1.heap.size, 0, none⟩) 1 1 _ [1] a2.out (by simp) (by decide)).mono ?_
  rintro e w2 ⟨rfl, H2⟩
  clear a2 l2
  go_wp2_with fail
  refine (twice_one (x := ([1], 0)) (r := []) H2.out (by decide) (by decide)).mono ?_
  rintro e w3 ⟨rfl, H3⟩
  have a4 := cover (RowK.madeF (κ := .u8) w3 [2] #[.int .u8 2] 5 (0, 0) rfl)
  have l4 := cover (H3.out.below ((Below.refl _ _).alloc (Nat.le_refl _) (.cells #[.int .u8 2] 5)))
  go_wp2_with fail
  refine (send_full l4.out (by decide) (by decide) (some ⟨w3.heap.size, 0, none⟩) 1 1 _ [2] a4.out (by simp) (by decide)).mono ?_
  rintro e w4 ⟨rfl, H4⟩
  clear a4 l4
  go_wp2_with fail
  refine (pass_one H4.out).mono ?_
  rintro e w5 ⟨A5, c5, x5, rfl, _, k5, h5⟩
  have K5 := cover k5
  have H5 := cover h5
  clear k5 h5
  go_wp2_with fail
  refine (pass_one H5.out).mono ?_
  rintro e w6 ⟨A6, c6, x6, rfl, i6, k6, h6⟩
  have K6 := cover (And.intro (K5.out.more i6) k6)
  have H6 := cover h6
  clear i6 k6 h6 K5
  go_wp2_with fail
  refine (pass_no H6.out).mono ?_
  rintro e w7 ⟨A7, c7, x7, rfl, i7, H7⟩
  have K7 := cover (And.intro (K6.out.1.more i7) (K6.out.2.more i7))
  clear i7 K6
  have a8 := cover (RowK.madeF (κ := .u8) w7 [1] #[.int .u8 1] 5 (0, 0) rfl)
  have H8 := cover (H7.out.below ((Below.refl _ _).alloc (Nat.le_refl _) (.cells #[.int .u8 1] 5)))
  go_wp2_with fail
  refine (same_yes (H8.out.kept K7.out.1) a8.out (by decide) rfl).mono ?_
  rintro e w8 ⟨rfl, d8, hw8⟩
  have H9 : Hid (LRow w x7 l 3 2 9 [] 1 w8) := cover (by rw [hw8]; exact H8.out.drewN _)
  clear hw8 a8 H8 H7
  have a9 := cover (RowK.madeF (κ := .u8) w8 [1] #[.int .u8 1] 5 (0, 0) rfl)
  have H10 := cover (H9.out.below ((Below.refl _ _).alloc (Nat.le_refl _) (.cells #[.int .u8 1] 5)))
  go_wp2_with fail
  refine (same_yes (H10.out.kept K7.out.2) a9.out (by decide) rfl).mono ?_
  rintro e w9 ⟨rfl, d9, hw9⟩
  have H11 : Hid (LRow w x7 l 3 2 9 [] 1 w9) := cover (by rw [hw9]; exact H10.out.drewN _)
  clear hw9 a9 H10 H9
  go_wp2_with fail
  refine (lost_one H11.out).mono ?_
  rintro e w' ⟨rfl, rfl⟩
  go_wp2_with fail
  refine (send_self H11.out 1 none 0 0 0 [] RowK.none_ (Nat.zero_le _) (by decide)).mono ?_
  rintro e w10 ⟨rfl, H12⟩
  go_wp2_with fail
  refine (lost_one H12.out).mono ?_
  rintro e w' ⟨rfl, rfl⟩
  have HB := cover H12.out.bel
  clear H12 H11
  go_wp2
  go_ret
  exact ⟨rfl, HB.out⟩
end Go.Proofs.Ytjidhpmjdhjciaa
