/- The walk of SeqOrder. -/
import Derived.Test.YtegcaobaogmodaaNFun
namespace Go.Proofs.Ytegcaobaogmodaa
open Go.RowKit
set_option linter.unusedVariables false
set_option linter.unusedSimpArgs false

theorem u8_wf {x : Int} (h : (Lit.int .u8 x).wf = true) : 0 ≤ x ∧ x ≤ 255 := by
  simp only [Lit.wf, Bool.and_eq_true, decide_eq_true_eq] at h
  exact h

theorem walk_SeqOrder (a m n : Int) (w : World) (ha : (Lit.int .u8 a).wf = true) (hm : (Lit.int .u8 m).wf = true) (hn : (Lit.int .u8 n).wf = true) : Calls Try.prog 7 #[.int .u8 a, .int .u8 m, .int .u8 n] w fun e w' => e = .returned (.bool true) ∧ Below w.heap.size w w' := by
  have ha' := u8_wf ha
  have hm' := u8_wf hm
  have hn' := u8_wf hn
  clear ha hm hn
  have E1 : bits BinOp.and IntKind.i64 a 127 = a % 128 := Go.i64_and127 a
  obtain ⟨x, hX⟩ : ∃ x, Hid (a % 128 = x) := ⟨_, cover rfl⟩
  obtain ⟨p, hP⟩ : ∃ p, Hid (m % 32 = p) := ⟨_, cover rfl⟩
  obtain ⟨q, hQ⟩ : ∃ q, Hid (n % 32 = q) := ⟨_, cover rfl⟩
  have hx : 0 ≤ x ∧ x ≤ 127 := by have := hX.out; omega
  have hp : 0 ≤ p ∧ p ≤ 31 := by have := hP.out; omega
  have hq : 0 ≤ q ∧ q ≤ 31 := by have := hQ.out; omega
  obtain ⟨o1, o2⟩ := order_1 hx.1 hx.2 hp.1 hp.2 hq.1 hq.2
  obtain ⟨o3, o4⟩ := order_2 hx.1 hx.2 hp.1 hp.2 hq.1 hq.2
  have O1 := cover o1
  have O2 := cover o2
  have O3 := cover o3
  have O4 := cover o4
  clear o1 o2 o3 o4
  go_enter Try.func7, Try.ntmps7
  go_wp2_with fail
  refine (awake_any w).mono ?_
  rintro e w' ⟨rfl, rfl⟩
  go_wp2_with fail
  simp only [hX.out, hP.out]
  refine (sAdd_any x p w').mono ?_
  rintro e w' ⟨rfl, rfl⟩
  obtain ⟨y, hY⟩ : ∃ y, Hid (addI x p = y) := ⟨_, cover rfl⟩
  rw [hY.out] at O1 O2 O3 O4 ⊢
  go_wp2_with fail
  simp only [hQ.out]
  refine (sAdd_any y q w').mono ?_
  rintro e w' ⟨rfl, rfl⟩
  obtain ⟨z, hZ⟩ : ∃ z, Hid (addI y q = z) := ⟨_, cover rfl⟩
  rw [hZ.out] at O1 O2 O3 ⊢
  by_cases h0 : 0 < p + q
  · rw [if_pos h0] at O1 O2
    have h0' : 0 < m % 32 + n % 32 := by rw [hP.out, hQ.out]; exact h0
    go_wp2_with fail
    refine (sLess_any x z w').mono ?_
    rw [O1.out]
    rintro e w' ⟨rfl, rfl⟩
    go_wp2_with fail
    refine (sLess_any z x w').mono ?_
    rw [O2.out]
    rintro e w' ⟨rfl, rfl⟩
    go_wp2_with fail
    refine (sIn_any y x z w').mono ?_
    rw [O3.out]
    rintro e w' ⟨rfl, rfl⟩
    by_cases hxy : x = y
    · go_wp2
      go_ret
      exact ⟨rfl, Below.refl _ _⟩
    · go_wp2_with fail
      refine (sAdd_any y 64 w').mono ?_
      rintro e w' ⟨rfl, rfl⟩
      go_wp2_with fail
      refine (sIn_any x y (addI y 64) w').mono ?_
      rw [O4.out.resolve_left hxy]
      rintro e w' ⟨rfl, rfl⟩
      go_wp2
      go_ret
      exact ⟨rfl, Below.refl _ _⟩
  · rw [if_neg h0] at O1 O2
    have h0' : ¬ 0 < m % 32 + n % 32 := by rw [hP.out, hQ.out]; exact h0
    go_wp2_with fail
    refine (sLess_any x z w').mono ?_
    rw [O1.out]
    rintro e w' ⟨rfl, rfl⟩
    go_wp2_with fail
    refine (sLess_any z x w').mono ?_
    rw [O2.out]
    rintro e w' ⟨rfl, rfl⟩
    go_wp2_with fail
    refine (sIn_any y x z w').mono ?_
    rw [O3.out]
    rintro e w' ⟨rfl, rfl⟩
    by_cases hxy : x = y
    · go_wp2
      go_ret
      exact ⟨rfl, Below.refl _ _⟩
    · go_wp2_with fail
      refine (sAdd_any y 64 w').mono ?_
      rintro e w' ⟨rfl, rfl⟩
      go_wp2_with fail
      refine (sIn_any x y (addI y 64) w').mono ?_
      rw [O4.out.resolve_left hxy]
      rintro e w' ⟨rfl, rfl⟩
      go_wp2
      go_ret
      exact ⟨rfl, Below.refl _ _⟩
end Go.Proofs.Ytegcaobaogmodaa
