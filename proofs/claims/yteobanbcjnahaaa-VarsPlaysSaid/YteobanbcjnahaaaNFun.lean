/- What seq's functions answer, and the document's own of that name. -/
import Derived.Laws.Bits128
import Derived.Test.YteobanbcjnahaaaRows
import Derived.Test.YteobanbcjnahaaaOWords
import Derived.Test.YteobanbcjnahaaaNMath
namespace Go.Proofs.Yteobanbcjnahaaa
open Go.RowKit
set_option linter.unusedVariables false
set_option linter.unusedSimpArgs false

theorem fold_any (n : Int) (w : World) : Calls Try.prog 31 #[.int .i64 n] w fun e w' => e = .returned (.int .i64 (n % 128)) ∧ w' = w := by
  have H := cover (Go.i64_and127 n)
  go_enter Try.func31, Try.ntmps31
  go_wp2
  go_ret
  exact ⟨ret_int H.out, rfl⟩
theorem wrap_128 (x : Int) : wrap64 x % 128 = x % 128 := by unfold wrap64; omega
theorem sAdd_any (a n : Int) (w : World) : Calls Try.prog 30 #[.int .i64 a, .int .i64 n] w fun e w' => e = .returned (.int .i64 (addI a n)) ∧ w' = w := by
  have H : Hid (wrap64 (a + n) % 128 = addI a n) := cover (wrap_128 _)
  go_enter Try.func30, Try.ntmps30
  go_wp2_with fail
  refine (fold_any _ w).mono ?_
  rintro e w' ⟨rfl, rfl⟩
  go_wp2
  go_ret
  exact ⟨ret_int H.out, rfl⟩
theorem sDist_any (a b : Int) (w : World) : Calls Try.prog 25 #[.int .i64 a, .int .i64 b] w fun e w' => e = .returned (.int .i64 (dist a b)) ∧ w' = w := by
  have H : Hid (wrap64 (b - a) % 128 = dist a b) := cover (wrap_128 _)
  go_enter Try.func25, Try.ntmps25
  go_wp2_with fail
  refine (fold_any _ w).mono ?_
  rintro e w' ⟨rfl, rfl⟩
  go_wp2
  go_ret
  exact ⟨ret_int H.out, rfl⟩
theorem sIn_any (x a b : Int) (w : World) : Calls Try.prog 24 #[.int .i64 x, .int .i64 a, .int .i64 b] w fun e w' => e = .returned (.bool (inR x a b)) ∧ w' = w := by
  go_enter Try.func24, Try.ntmps24
  go_wp2_with fail
  refine (sDist_any a x w).mono ?_
  rintro e w' ⟨rfl, rfl⟩
  go_wp2_with fail
  refine (sDist_any a b w').mono ?_
  rintro e w' ⟨rfl, rfl⟩
  go_wp2
  go_ret
  exact ⟨rfl, rfl⟩
end Go.Proofs.Yteobanbcjnahaaa
