/- The law's own first question: the program is awake. -/
import Derived.Test.YtfegneljedkmhaaONum
import Derived.Test.YtfegneljedkmhaaOSame
namespace Go.Proofs.Ytfegneljedkmhaa
open Go.RowKit

theorem put_258 (w : World) : Calls Try.prog 16 #[.int .i64 258, .int .i64 2] w (GivesB w [1, 2]) := by
  have h := put_any 258 2 w (by decide)
  rw [show putv 258 2 = [1, 2] by decide] at h
  exact h
theorem num_258 (g : Nat) (w : World) (hr : Rd 52 w g g [1, 2, 3] false) :
    Calls Try.prog 12 #[.pointer (some ⟨g, 0, none⟩), .int .i64 2] w fun e w' => e = .returned (.int .i64 258) ∧ Rd 52 w' g g [3] false ∧ OnlyB g w w' :=
  (num_yes g g 2 [1, 2, 3] w hr (by unfold Bts; decide) (by decide) (by decide) (by decide) (by decide)).mono fun _ _ h => h

set_option maxHeartbeats 400000 in
theorem awake_any (w : World) : Calls Try.prog 10 #[] w fun e w' => e = .returned (.bool true) ∧ Below w.heap.size w w' := by
  go_enter Try.func10, Try.ntmps10
  go_wp2_with fail
  refine (new_any _ 3 3 (w.heap.size + 1) [1, 2, 3] (w.alloc (.cells #[.int .u8 1, .int .u8 2, .int .u8 3] 5)) (RowK.made w [1, 2, 3] #[.int .u8 1, .int .u8 2, .int .u8 3] 5 rfl) (by simp) (by decide)).mono ?_
  rintro e w1 ⟨g, rfl, hr1, hg1, hb1⟩
  go_wp2_with fail
  refine (num_258 g w1 hr1).mono ?_
  rintro e w2 ⟨rfl, hr2, ho2⟩
  go_wp2_with fail
  refine (left_any g g [3] false w2 hr2).mono ?_
  rintro e w3 ⟨rfl, rfl⟩
  go_wp2_with fail
  refine (put_258 w2).mono ?_
  rintro e w4 ⟨A4, c4, rfl, hown4, hb4⟩
  go_wp2_with fail
  refine (same_any A4 _ 2 c4 2 _ _ [1, 2] [1, 2] (w4.alloc (.cells #[.int .u8 1, .int .u8 2] 5)) (hown4.row.alloc (Nat.le_refl _) _) (RowK.made w4 [1, 2] #[.int .u8 1, .int .u8 2] 5 rfl) (by decide)).mono ?_
  rintro e w5 ⟨rfl, d5, rfl⟩
  go_wp2_with fail
  refine (get_any _ 2 2 (w4.heap.size + 1 + 1) [1, 2] _ (RowK.made_at _ (w4.heap.size + 1) [1, 2] #[.int .u8 1, .int .u8 2] 5 rfl (by simp)) (by unfold Bts; decide)).mono ?_
  rintro e w6 ⟨he6, rfl⟩
  obtain rfl : e = .returned (.int .i64 258) := he6
  go_wp2
  go_ret
  refine ⟨rfl, ?_⟩
  have b1 : Below w.heap.size w w1 := ((Below.refl _ _).alloc (Nat.le_refl _) _).trans (hb1.mono (by simp))
  have b2 := below_only b1 ho2 (by simp at hg1; omega) b1.size
  have b4 := b2.trans (hb4.mono b2.size)
  exact (below_drewN (b4.alloc b4.size _) _).alloc (by have := b4.size; simp; omega) _
end Go.Proofs.Ytfegneljedkmhaa
