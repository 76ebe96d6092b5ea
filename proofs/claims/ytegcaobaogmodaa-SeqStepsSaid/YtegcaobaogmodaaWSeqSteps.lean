/- The walk of SeqSteps. -/
import Derived.Test.YtegcaobaogmodaaNFun
namespace Go.Proofs.Ytegcaobaogmodaa
open Go.RowKit
set_option linter.unusedVariables false
set_option linter.unusedSimpArgs false

theorem i16_wf {x : Int} (h : (Lit.int .i16 x).wf = true) : -32768 ≤ x ∧ x ≤ 32767 := by
  simp only [Lit.wf, Bool.and_eq_true, decide_eq_true_eq] at h
  exact h

theorem walk_SeqSteps (a m n : Int) (w : World) (ha : (Lit.int .i16 a).wf = true) (hm : (Lit.int .i16 m).wf = true) (hn : (Lit.int .i16 n).wf = true) : Calls Try.prog 6 #[.int .i16 a, .int .i16 m, .int .i16 n] w fun e w' => e = .returned (.bool true) ∧ Below w.heap.size w w' := by
  have ha' := i16_wf ha
  have hm' := i16_wf hm
  have hn' := i16_wf hn
  clear ha hm hn
  have E1 : Hid (addI (addI a m) n = addI a (m + n)) := cover (add_add a m n)
  have E2 : Hid (dist a (addI (addI a m) n) = addI 0 (m + n)) := cover (by rw [add_add]; exact dist_add a (m + n))
  have E3 : Hid (addI (addI (addI a m) n) (-n) = addI a m) := cover (add_back a m n)
  have E4 := cover (less_self (addI (addI a m) n))
  have E5 := cover (in_first (addI (addI a m) n) (addI (addI a m) n))
  go_enter Try.func6, Try.ntmps6
  go_wp2_with fail
  refine (awake_any w).mono ?_
  rintro e w' ⟨rfl, rfl⟩
  go_wp2_with fail
  refine (sAdd_any a m w').mono ?_
  rintro e w' ⟨rfl, rfl⟩
  go_wp2_with fail
  refine (sAdd_any (addI a m) n w').mono ?_
  rintro e w' ⟨rfl, rfl⟩
  obtain ⟨x, hx⟩ : ∃ x, addI (addI a m) n = x := ⟨_, rfl⟩
  rw [hx] at E1 E2 E3 E4 E5 ⊢
  clear hx
  go_wp2_with fail
  refine (sAdd_any a (m + n) w').mono ?_
  rw [← E1.out]
  rintro e w' ⟨rfl, rfl⟩
  go_wp2_with fail
  refine (sDist_any a x w').mono ?_
  rw [E2.out]
  rintro e w' ⟨rfl, rfl⟩
  go_wp2_with fail
  refine (sAdd_any 0 (m + n) w').mono ?_
  rintro e w' ⟨rfl, rfl⟩
  go_wp2_with fail
  refine (sAdd_any x (-n) w').mono ?_
  rw [E3.out]
  rintro e w' ⟨rfl, rfl⟩
  go_wp2_with fail
  refine (sAdd_any a m w').mono ?_
  rintro e w' ⟨rfl, rfl⟩
  go_wp2_with fail
  refine (sLess_any x x w').mono ?_
  rw [E4.out]
  rintro e w' ⟨rfl, rfl⟩
  go_wp2_with fail
  refine (sIn_any x x x w').mono ?_
  rw [E5.out]
  rintro e w' ⟨rfl, rfl⟩
  go_wp2
  go_ret
  exact ⟨rfl, Below.refl _ _⟩
end Go.Proofs.Ytegcaobaogmodaa
