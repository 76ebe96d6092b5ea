/- The law's own first question: the program is awake. -/
import Derived.Test.YthfmkhjafkhpdaaQIHas
namespace Go.Proofs.Ythfmkhjafkhpdaa
open Go.RowKit
set_option linter.unusedVariables false

set_option maxHeartbeats 1600000 in
theorem awake_any (w : World) : Calls Try.prog 9 #[] w fun e w' => e = .returned (.bool true) ∧ Below w.heap.size w w' := by
  go_enter Try.func9, Try.ntmps9
  go_wp2_with fail
  refine (newI_has 2 w.heap.size w (Nat.le_refl _) 2 (by decide)).mono ?_
  rintro e w1 ⟨q, rfl, H1⟩
  have hs1 := H1.out.2.1.size
  go_wp2_with fail
  refine (putI_has H1.out.1 hs1 5 (by decide) (by decide)).mono ?_
  rintro e w2 ⟨rfl, H2⟩
  have hs2 := Nat.le_trans hs1 H2.out.2.size
  go_wp2_with fail
  refine (takeI_has H2.out.1).mono ?_
  rintro e w3 ⟨rfl, H3⟩
  have HB := cover (H1.out.2.1.trans ((H2.out.2.below hs1).trans (H3.out.2.below hs2)))
  go_wp2_with (first | (go_at_call 24; refine (lenI_has H3.out.1).mono ?_; rintro e w' ⟨rfl, rfl⟩) | (go_at_call 18; refine (mostI_has H3.out.1).mono ?_; rintro e w' ⟨rfl, rfl⟩))
  go_ret
  exact ⟨rfl, HB.out⟩
end Go.Proofs.Ythfmkhjafkhpdaa
