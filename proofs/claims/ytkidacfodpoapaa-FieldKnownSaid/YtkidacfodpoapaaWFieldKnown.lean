/- Chapter 7's example, and what is refused: the walk. -/
import Derived.Test.YtkidacfodpoapaaGAwake
import Derived.Test.YtkidacfodpoapaaGReas
namespace Go.Proofs.Ytkidacfodpoapaa
open Go.RowKit
set_option linter.unusedVariables false
set_option linter.unusedSimpArgs false

set_option maxHeartbeats 1600000 in
theorem walk_FieldKnown (w : World) : Calls Try.prog 3 #[] w fun e w' => e = .returned (.bool true) ∧ Below w.heap.size w w' := by
  go_enter Try.func3, Try.ntmps3
  go_wp2_with fail
  refine (awake_any w).mono ?_
  rintro e w1 ⟨rfl, hb1⟩
  have H1 := cover hb1
  have hs1 := hb1.size
  clear hb1
  go_wp2_with fail
  refine (putClass_any ⟨0, 32, 0⟩ w1).mono ?_
  rw [show putC ⟨0, 32, 0⟩ = ([], 1) by decide]
  rintro e w2 ⟨A2, c2, rfl, ho2, hb2⟩
  have H2 := cover (H1.out.trans (hb2.mono hs1))
  have hs2 := hb2.size
  clear ho2 hb2
  go_wp2_with fail
  have hr := RowK.made (κ := .u8) w2 [0, 0, 1, 0, 0] #[.int .u8 0, .int .u8 0, .int .u8 1, .int .u8 0, .int .u8 0] 5 rfl
  refine (getReason_any (some ⟨w2.heap.size, 0, none⟩) 5 5 (w2.heap.size + 1) [0, 0, 1, 0, 0] _ hr (by simp) (by intro x hx; simp at hx; omega) (by decide)).mono ?_
  rw [show getRs [0, 0, 1, 0, 0] = (zRs, 4) from rfl]
  rintro e w3 ⟨rfl, hb3⟩
  have H3 := cover ((H2.out.alloc H2.out.size (.cells #[.int .u8 0, .int .u8 0, .int .u8 1, .int .u8 0, .int .u8 0] 5)).trans (hb3.mono (show w.heap.size ≤ _ by simp; omega)))
  have hs3 := hb3.size
  clear hr hb3
  obtain ⟨w4, hw4⟩ : ∃ w4, Hid (w4 = (w3.alloc (.cells zrs 30)).setRow w3.heap.size zrs) := ⟨_, cover rfl⟩
  have H4 : Hid (Below w.heap.size w w4) := cover (by rw [hw4.out]; exact Go.below_setRow (H3.out.alloc H3.out.size _) H3.out.size _)
  go_wp2_with (refine wpList_store_row rfl _ _ _ rfl w3.heap.size zrs rfl rfl 30 zrs (heap_alloc_new _ _) reason_size rfl (reason_one _ _ _ _ _ _ _ _ _) ?_; rw [← hw4.out])
  have hs4 := H4.out.size
  refine (getStatus_any none 0 0 [] w4 RowK.none_ (Nat.zero_le _) Bts.nil (by decide)).mono ?_
  rintro e w5 ⟨A5, c5, rfl, ho5, hb5⟩
  have H5 := cover (H4.out.trans (hb5.mono hs4))
  have hs5 := H5.out.size
  clear ho5 hb5
  go_wp2_with fail
  have hr := RowK.made (κ := .u8) w5 [1] #[.int .u8 1] 5 rfl
  refine (readNumber_any (some ⟨w5.heap.size, 0, none⟩) 1 1 (w5.heap.size + 1) [1] _ hr (by intro x hx; simp at hx; omega)).mono ?_
  obtain ⟨w6, hw6⟩ : ∃ w6, w5.alloc (.cells #[.int .u8 1] 5) = w6 := ⟨_, rfl⟩
  have H6 : Hid (Below w.heap.size w w6) := cover (by rw [← hw6]; exact H5.out.alloc hs5 _)
  rw [hw6] at hr ⊢
  clear hw6 hr
  rintro e w' ⟨rfl, rfl⟩
  have hs6 := H6.out.size
  go_wp2_with fail
  refine (number_any (-1) w6 (by decide)).mono ?_
  rw [show numB (-1) = [0, 0, 0, 0] by decide]
  rintro e w7 ⟨A7, c7, rfl, ho7, hb7⟩
  have H7 := cover (H6.out.trans (hb7.mono hs6))
  have HO7 := cover ho7
  have hs7 := H7.out.size
  clear ho7 hb7
  go_wp2_with fail
  have hr := RowK.made (κ := .u8) w7 [0, 0, 0, 0] #[.int .u8 0, .int .u8 0, .int .u8 0, .int .u8 0] 5 rfl
  have hb8 := (Below.refl w7.heap.size w7).alloc (Nat.le_refl _) (.cells #[.int .u8 0, .int .u8 0, .int .u8 0, .int .u8 0] 5)
  refine (same_any A7 (some ⟨w7.heap.size, 0, none⟩) 4 c7 4 w7.heap.size (w7.heap.size + 1) [0, 0, 0, 0] [0, 0, 0, 0] _ (HO7.out.row.below hb8) hr (by decide)).mono ?_
  rintro e w9 ⟨rfl, d, rfl⟩
  rw [decide_eq_true rfl]
  have H9 := cover (below_drewN (H7.out.trans (hb8.mono hs7)) d)
  clear hr hb8
  go_wp2
  go_ret
  exact ⟨rfl, H9.out⟩
end Go.Proofs.Ytkidacfodpoapaa
