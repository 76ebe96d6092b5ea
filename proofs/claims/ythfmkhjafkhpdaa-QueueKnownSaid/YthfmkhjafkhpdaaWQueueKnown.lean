/- The walk of QueueKnown. -/
import Derived.Test.YthfmkhjafkhpdaaQAwake
import Derived.Test.YthfmkhjafkhpdaaQSHas
namespace Go.Proofs.Ythfmkhjafkhpdaa
open Go.RowKit
set_option linter.unusedVariables false

set_option maxRecDepth 100000 in
set_option maxHeartbeats 1600000 in
theorem walk_QueueKnown (w : World) : Calls Try.prog 3 #[] w fun e w' => e = .returned (.bool true) ∧ Below w.heap.size w w' := by
  go_enter Try.func3, Try.ntmps3
  go_wp2_with fail
  refine (awake_any w).mono ?_
  rintro e w0 ⟨rfl, hb0⟩
  have H0 := cover hb0
  have hs0 := hb0.size
  clear hb0
  go_wp2_with fail
  refine (newS_has 2 w.heap.size w0 hs0 2 (by decide)).mono ?_
  rintro e w1 ⟨q, rfl, H1⟩
  have hs1 := Nat.le_trans hs0 H1.out.2.1.size
  go_wp2_with fail
  refine (putS_has H1.out.1 hs1 ⟨#[97]⟩ (by decide) (by decide)).mono ?_
  rintro e w2 ⟨rfl, H2⟩
  have hs2 := Nat.le_trans hs1 H2.out.2.size
  go_wp2_with fail
  refine (putS_has H2.out.1 hs2 ⟨#[98]⟩ (by decide) (by decide)).mono ?_
  rintro e w3 ⟨rfl, H3⟩
  have hs3 := Nat.le_trans hs2 H3.out.2.size
  go_wp2_with fail
  refine (putS_hasnt H3.out.1 ⟨#[99]⟩ (by decide)).mono ?_
  rintro e w' ⟨rfl, rfl⟩
  go_wp2_with fail
  refine (insertS_hasnt H3.out.1 0 ⟨#[100]⟩ (by decide)).mono ?_
  rintro e w' ⟨rfl, rfl⟩
  go_wp2_with fail
  refine (takeS_has H3.out.1).mono ?_
  rintro e w4 ⟨rfl, H4⟩
  have hs4 := Nat.le_trans hs3 H4.out.2.size
  go_wp2_with fail
  refine (peekS_has H4.out.1 0 _ rfl).mono ?_
  rintro e w' ⟨rfl, rfl⟩
  go_wp2_with fail
  refine (peekS_hasnt H4.out.1 1 (by decide)).mono ?_
  rintro e w' ⟨rfl, rfl⟩
  go_wp2_with fail
  refine (newI_has (-3) w.heap.size w4 hs4 0 (by decide)).mono ?_
  rintro e w5 ⟨q2, rfl, H5⟩
  have H6 := cover (H4.out.1.below H5.out.2.1)
  have HB := cover (H0.out.trans ((H1.out.2.1.mono hs0).trans ((H2.out.2.below hs1).trans ((H3.out.2.below hs2).trans ((H4.out.2.below hs3).trans (H5.out.2.1.mono hs4))))))
  go_wp2_with (first | (go_at_call 16; refine (lenS_has H6.out).mono ?_; rintro e w' ⟨rfl, rfl⟩) | (go_at_call 18; refine (mostI_has H5.out.1).mono ?_; rintro e w' ⟨rfl, rfl⟩) | (go_at_call 17; refine (putI_hasnt H5.out.1 1 (by decide)).mono ?_; rintro e w' ⟨rfl, rfl⟩))
  go_ret
  exact ⟨rfl, HB.out⟩
end Go.Proofs.Ythfmkhjafkhpdaa
