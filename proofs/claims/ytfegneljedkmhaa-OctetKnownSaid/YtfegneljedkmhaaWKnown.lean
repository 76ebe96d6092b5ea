/- The walk of OctetKnown. -/
import Derived.Test.YtfegneljedkmhaaOAwake
namespace Go.Proofs.Ytfegneljedkmhaa
open Go.RowKit

set_option maxHeartbeats 400000 in
theorem walk_OctetKnown (w : World) : Calls Try.prog 3 #[] w fun e w' => e = .returned (.bool true) ∧ Below w.heap.size w w' := by
  go_enter Try.func3, Try.ntmps3
  go_wp2_with fail
  refine (awake_any w).mono ?_
  rintro e w0 ⟨rfl, hb0⟩
  go_wp2_with fail
  refine (new_any _ 3 3 (w0.heap.size + 1) [1, 2, 3] (w0.alloc (.cells #[.int .u8 1, .int .u8 2, .int .u8 3] 5)) (RowK.made w0 [1, 2, 3] #[.int .u8 1, .int .u8 2, .int .u8 3] 5 rfl) (by simp) (by decide)).mono ?_
  rintro e w1 ⟨g, rfl, hr1, hg1, hb1⟩
  go_wp2_with fail
  refine (num_258 g w1 hr1).mono ?_
  rintro e w2 ⟨rfl, hr2, ho2⟩
  go_wp2_with fail
  refine (raw_no g g [3] false 2 w2 hr2 (by decide)).mono ?_
  rintro e w3 ⟨rfl, hr3, ho3⟩
  go_wp2_with fail
  refine (failed_any g g [3] true w3 hr3).mono ?_
  rintro e w4 ⟨rfl, rfl⟩
  go_wp2_with fail
  refine (left_any g g [3] true w3 hr3).mono ?_
  rintro e w4 ⟨rfl, rfl⟩
  go_wp2_with fail
  refine (put_no 256 1 w3 (by decide) (by decide)).mono ?_
  rintro e w4 ⟨rfl, rfl⟩
  go_wp2_with fail
  refine (get_any none 0 0 0 [] w3 RowK.none_ Bts.nil).mono ?_
  rintro e w4 ⟨rfl, rfl⟩
  go_wp2
  go_ret
  refine ⟨rfl, ?_⟩
  have b1 : Below w0.heap.size w0 w1 := ((Below.refl _ _).alloc (Nat.le_refl _) _).trans (hb1.mono (by simp))
  have b2 := hb0.trans (b1.mono hb0.size)
  exact below_only b2 (ho2.trans ho3) (by have := hb0.size; simp at hg1; omega) b2.size
end Go.Proofs.Ytfegneljedkmhaa
