/- The walk of SeqKnown. -/
import Derived.Test.YtegcaobaogmodaaNFun
namespace Go.Proofs.Ytegcaobaogmodaa
open Go.RowKit
set_option linter.unusedVariables false
set_option linter.unusedSimpArgs false

theorem walk_SeqKnown (w : World) : Calls Try.prog 3 #[] w fun e w' => e = .returned (.bool true) ∧ Below w.heap.size w w' := by
  go_enter Try.func3, Try.ntmps3
  go_wp2_with fail
  refine (awake_any w).mono ?_
  rintro e w' ⟨rfl, rfl⟩
  go_wp2_with fail
  refine (sLess_any 1 127 w').mono ?_
  rw [show lessI 1 127 = 1 from rfl]
  rintro e w' ⟨rfl, rfl⟩
  go_wp2_with fail
  refine (sLess_any 127 1 w').mono ?_
  rw [show lessI 127 1 = -1 from rfl]
  rintro e w' ⟨rfl, rfl⟩
  go_wp2_with fail
  refine (sLess_any 5 133 w').mono ?_
  rw [show lessI 5 133 = 0 from rfl]
  rintro e w' ⟨rfl, rfl⟩
  go_wp2_with fail
  refine (sIn_any 0 126 1 w').mono ?_
  rw [show inR 0 126 1 = true from rfl]
  rintro e w' ⟨rfl, rfl⟩
  go_wp2_with fail
  refine (sIn_any 2 126 1 w').mono ?_
  rw [show inR 2 126 1 = false from rfl]
  rintro e w' ⟨rfl, rfl⟩
  go_wp2
  go_ret
  exact ⟨rfl, Below.refl _ _⟩
end Go.Proofs.Ytegcaobaogmodaa
