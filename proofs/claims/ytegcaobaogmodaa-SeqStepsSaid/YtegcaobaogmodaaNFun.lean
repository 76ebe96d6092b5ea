/- What seq's functions answer, and the document's own of that name. -/
import Derived.Laws.Bits128
import Derived.Test.YtegcaobaogmodaaRows
import Derived.Test.YtegcaobaogmodaaOWords
import Derived.Test.YtegcaobaogmodaaNMath
namespace Go.Proofs.Ytegcaobaogmodaa
open Go.RowKit
set_option linter.unusedVariables false
set_option linter.unusedSimpArgs false

theorem fold_any (n : Int) (w : World) : Calls Try.prog 17 #[.int .i64 n] w fun e w' => e = .returned (.int .i64 (n % 128)) ∧ w' = w := by
  have H := cover (Go.i64_and127 n)
  go_enter Try.func17, Try.ntmps17
  go_wp2
  go_ret
  exact ⟨ret_int H.out, rfl⟩
theorem wrap_128 (x : Int) : wrap64 x % 128 = x % 128 := by unfold wrap64; omega
theorem sAdd_any (a n : Int) (w : World) : Calls Try.prog 11 #[.int .i64 a, .int .i64 n] w fun e w' => e = .returned (.int .i64 (addI a n)) ∧ w' = w := by
  have H : Hid (wrap64 (a + n) % 128 = addI a n) := cover (wrap_128 _)
  go_enter Try.func11, Try.ntmps11
  go_wp2_with fail
  refine (fold_any _ w).mono ?_
  rintro e w' ⟨rfl, rfl⟩
  go_wp2
  go_ret
  exact ⟨ret_int H.out, rfl⟩
theorem sDist_any (a b : Int) (w : World) : Calls Try.prog 13 #[.int .i64 a, .int .i64 b] w fun e w' => e = .returned (.int .i64 (dist a b)) ∧ w' = w := by
  have H : Hid (wrap64 (b - a) % 128 = dist a b) := cover (wrap_128 _)
  go_enter Try.func13, Try.ntmps13
  go_wp2_with fail
  refine (fold_any _ w).mono ?_
  rintro e w' ⟨rfl, rfl⟩
  go_wp2
  go_ret
  exact ⟨ret_int H.out, rfl⟩
theorem sLess_any (a b : Int) (w : World) : Calls Try.prog 9 #[.int .i64 a, .int .i64 b] w fun e w' => e = .returned (.int .i64 (lessI a b)) ∧ w' = w := by
  have HL : Hid (lessI a b = if dist a b = 0 then 0 else if dist a b < 64 then -1 else 1) := cover rfl
  go_enter Try.func9, Try.ntmps9
  go_wp2_with fail
  refine (sDist_any a b w).mono ?_
  rintro e w' ⟨rfl, rfl⟩
  by_cases h0 : dist a b = 0
  · rw [h0] at HL ⊢
    clear h0
    go_wp2
    go_ret
    exact ⟨ret_int HL.out.symm, rfl⟩
  · by_cases h1 : dist a b < 64
    · rw [if_neg h0, if_pos h1] at HL
      go_wp2
      go_ret
      exact ⟨ret_int HL.out.symm, rfl⟩
    · rw [if_neg h0, if_neg h1] at HL
      go_wp2
      go_ret
      exact ⟨ret_int HL.out.symm, rfl⟩
theorem sIn_any (x a b : Int) (w : World) : Calls Try.prog 10 #[.int .i64 x, .int .i64 a, .int .i64 b] w fun e w' => e = .returned (.bool (inR x a b)) ∧ w' = w := by
  go_enter Try.func10, Try.ntmps10
  go_wp2_with fail
  refine (sDist_any a x w).mono ?_
  rintro e w' ⟨rfl, rfl⟩
  go_wp2_with fail
  refine (sDist_any a b w').mono ?_
  rintro e w' ⟨rfl, rfl⟩
  go_wp2
  go_ret
  exact ⟨rfl, rfl⟩
theorem awake_any (w : World) : Calls Try.prog 8 #[] w fun e w' => e = .returned (.bool true) ∧ w' = w := by
  go_enter Try.func8, Try.ntmps8
  go_wp2_with fail
  refine (sAdd_any 127 2 w).mono ?_
  rw [show addI 127 2 = 1 from rfl]
  rintro e w' ⟨rfl, rfl⟩
  go_wp2_with fail
  refine (sDist_any 127 1 w').mono ?_
  rw [show dist 127 1 = 2 from rfl]
  rintro e w' ⟨rfl, rfl⟩
  go_wp2
  go_ret
  exact ⟨rfl, rfl⟩
end Go.Proofs.Ytegcaobaogmodaa
