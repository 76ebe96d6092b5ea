/- The document's own Dist, Add, Less, In. -/
import Derived.Test.YteobanbcjnahaaaNFun
namespace Go.Proofs.Yteobanbcjnahaaa
open Go.RowKit
set_option linter.unusedVariables false
set_option linter.unusedSimpArgs false

theorem dist_any (a b : Int) (w : World) : Calls Try.prog 29 #[.int .i64 a, .int .i64 b] w fun e w' => e = .returned (.int .i64 (dist a b)) ∧ w' = w := by
  obtain ⟨_, -, l1, u1⟩ := tmod_128 a
  obtain ⟨_, -, l2, u2⟩ := tmod_128 b
  obtain ⟨_, -, l3, u3⟩ := tmod_128 (b.tmod 128 - a.tmod 128)
  have H : Hid (((b.tmod 128 - a.tmod 128).tmod 128 + 128) % 128 = dist a b) := cover (by rw [← dist_go a b]; exact (Int.tmod_eq_emod_of_nonneg (by omega)).symm)
  go_enter Try.func29, Try.ntmps29
  go_wp2
  go_ret
  exact ⟨ret_int H.out, rfl⟩
theorem add_any (a n : Int) (w : World) : Calls Try.prog 27 #[.int .i64 a, .int .i64 n] w fun e w' => e = .returned (.int .i64 (addI a n)) ∧ w' = w := by
  obtain ⟨_, -, l1, u1⟩ := tmod_128 a
  obtain ⟨_, -, l2, u2⟩ := tmod_128 n
  obtain ⟨_, -, l3, u3⟩ := tmod_128 (a.tmod 128 + n.tmod 128)
  have H : Hid (((a.tmod 128 + n.tmod 128).tmod 128 + 128) % 128 = addI a n) := cover (by show _ = (a + n) % 128; rw [← add_go a n]; exact (Int.tmod_eq_emod_of_nonneg (by omega)).symm)
  go_enter Try.func27, Try.ntmps27
  go_wp2
  go_ret
  exact ⟨ret_int H.out, rfl⟩
theorem in_any (x a b : Int) (w : World) : Calls Try.prog 28 #[.int .i64 x, .int .i64 a, .int .i64 b] w fun e w' => e = .returned (.bool (inR x a b)) ∧ w' = w := by
  go_enter Try.func28, Try.ntmps28
  go_wp2_with fail
  refine (dist_any a x w).mono ?_
  rintro e w' ⟨rfl, rfl⟩
  go_wp2_with fail
  refine (dist_any a b w').mono ?_
  rintro e w' ⟨rfl, rfl⟩
  go_wp2
  go_ret
  exact ⟨rfl, rfl⟩
end Go.Proofs.Yteobanbcjnahaaa
