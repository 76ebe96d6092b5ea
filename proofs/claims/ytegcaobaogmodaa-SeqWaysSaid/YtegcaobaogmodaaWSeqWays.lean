/- The walk of SeqWays. -/
import Derived.Test.YtegcaobaogmodaaNFun
namespace Go.Proofs.Ytegcaobaogmodaa
open Go.RowKit
set_option linter.unusedVariables false
set_option linter.unusedSimpArgs false

theorem u8_ok {x : Int} (h : (Lit.int .u8 x).wf = true) : 0 ≤ x ∧ x ≤ 255 := by
  simp only [Lit.wf, Bool.and_eq_true, decide_eq_true_eq] at h
  exact h

theorem less_bd (a b : Int) : -1 ≤ lessI a b ∧ lessI a b ≤ 1 := by
  unfold lessI
  by_cases h0 : dist a b = 0
  · rw [if_pos h0]; decide
  · rw [if_neg h0]
    by_cases h1 : dist a b < 64
    · rw [if_pos h1]; decide
    · rw [if_neg h1]; decide

set_option maxRecDepth 100000 in
set_option maxHeartbeats 1600000 in
theorem walk_SeqWays (a b c : Int) (w : World) (ha : (Lit.int .u8 a).wf = true) (hb : (Lit.int .u8 b).wf = true) (hc : (Lit.int .u8 c).wf = true) : Calls Try.prog 5 #[.int .u8 a, .int .u8 b, .int .u8 c] w fun e w' => e = .returned (.bool true) ∧ Below w.heap.size w w' := by
  have ha' := u8_ok ha
  have hb' := u8_ok hb
  have hc' := u8_ok hc
  clear ha hb hc
  have B1 : bits BinOp.and IntKind.i64 a 127 = a % 128 := Go.i64_and127 a
  have B2 : bits BinOp.and IntKind.i64 b 127 = b % 128 := Go.i64_and127 b
  have B3 : bits BinOp.and IntKind.i64 c 127 = c % 128 := Go.i64_and127 c
  obtain ⟨x, hX⟩ : ∃ x, Hid (a % 128 = x) := ⟨_, cover rfl⟩
  obtain ⟨y, hY⟩ : ∃ y, Hid (b % 128 = y) := ⟨_, cover rfl⟩
  obtain ⟨z, hZ⟩ : ∃ z, Hid (c % 128 = z) := ⟨_, cover rfl⟩
  have hx : 0 ≤ x ∧ x ≤ 127 := by have := hX.out; omega
  have hy : 0 ≤ y ∧ y ≤ 127 := by have := hY.out; omega
  have hz : 0 ≤ z ∧ z ≤ 127 := by have := hZ.out; omega
  have E1 : Hid (addI x (dist x y) = y) := cover (add_dist hy.1 hy.2)
  have E2 : Hid ((dist x y + dist y x = 0 ∧ x = y) ∨ (dist x y + dist y x = 128 ∧ x ≠ y)) := cover (round_is hx.1 hx.2 hy.1 hy.2)
  have E3 : Hid (byB x z (dist x y + 1) = inR z x y) := cover (byB_in x y z)
  have E4 : Hid (inR x x y = true) := cover (in_first x y)
  have E5 : Hid (inR y x y = true) := cover (in_last x y)
  have E6 : Hid (dist x y = 64 ∨ lessI x y = -lessI y x) := cover (less_back x y)
  have E0 := cover (byB_zero x z)
  have hd := dist_bd x y
  have hd2 := dist_bd y x
  go_enter Try.func5, Try.ntmps5
  go_wp2_with fail
  refine (awake_any w).mono ?_
  rintro e w' ⟨rfl, rfl⟩
  go_wp2_with fail
  simp only [hX.out, hY.out, hZ.out]
  refine (sDist_any x y w').mono ?_
  rintro e w' ⟨rfl, rfl⟩
  obtain ⟨d, hD⟩ : ∃ d, Hid (dist x y = d) := ⟨_, cover rfl⟩
  rw [hD.out] at E1 E2 E3 E6 hd ⊢
  go_wp2_with fail
  refine (sDist_any x y w').mono ?_
  rw [hD.out]
  rintro e w' ⟨rfl, rfl⟩
  go_wp2_with fail
  refine (sDist_any y x w').mono ?_
  rintro e w' ⟨rfl, rfl⟩
  obtain ⟨f, hF⟩ : ∃ f, Hid (dist y x = f) := ⟨_, cover rfl⟩
  rw [hF.out] at E2 hd2 ⊢
  obtain ⟨r, hR⟩ : ∃ r, Hid (d + f = r) := ⟨_, cover rfl⟩
  rw [hR.out] at E2
  have H0 : Hid (r = 0 → d ≠ 64) := cover (by have := hR.out; omega)
  obtain ⟨l, hL⟩ : ∃ l, Hid (lessI y x = l) := ⟨_, cover rfl⟩
  have hl : -1 ≤ l ∧ l ≤ 1 := by rw [← hL.out]; exact less_bd y x
  rw [hL.out] at E6
  go_wp2_with fail
  simp only [hR.out]
  go_loop [12, 13] (fun r i => ∃ k : Nat, (k : Int) ≤ d + 1 ∧ r = .bool (byB x z (k : Int)) ∧ i = .int .i64 k) (fun _ i => 128 - (intOf i).toNat)
  case atStart => exact ⟨0, by omega, by rw [show ((0 : Nat) : Int) = 0 from rfl, E0.out], rfl⟩
  case round =>
    obtain ⟨k, hk, rfl, rfl⟩ := hrel
    by_cases hlk : (k : Int) ≤ d
    · have hn := byB_next hx.1 hx.2 hz.1 hz.2 (k := (k : Int)) (by omega) (by omega)
      rcases hby : byB x z (k : Int) with _ | _
      · rw [hby, Bool.false_or] at hn
        clear hby
        go_wp2_with fail
        refine (sAdd_any x (k : Int) w').mono ?_
        rintro e w' ⟨rfl, rfl⟩
        have HN := cover hn
        clear hn
        go_wp2
        go_round
        case rel => exact ⟨k + 1, by omega, by rw [show ((k + 1 : Nat) : Int) = (k : Int) + 1 from rfl, ← HN.out], by go_num⟩
        case measure => simp [intOf]; omega
      · rw [hby, Bool.true_or] at hn
        clear hby
        have HN := cover hn
        clear hn
        go_wp2
        go_round
        case rel => exact ⟨k + 1, by omega, by rw [show ((k + 1 : Nat) : Int) = (k : Int) + 1 from rfl, ← HN.out], by go_num⟩
        case measure => simp [intOf]; omega
    · have hk1 : (k : Int) = d + 1 := by omega
      have E3' : byB x z (k : Int) = inR z x y := by rw [hk1]; exact E3.out
      rw [E3']
      clear E3'
      go_wp2_with fail
      refine (sAdd_any x d w').mono ?_
      rw [E1.out]
      rintro e w' ⟨rfl, rfl⟩
      rcases E2.out with ⟨rfl, rfl⟩ | ⟨rfl, hxy⟩
      · go_wp2_with fail
        refine (sIn_any z x x w').mono ?_
        rintro e w' ⟨rfl, rfl⟩
        go_wp2_with fail
        refine (sIn_any x x x w').mono ?_
        rw [E4.out]
        rintro e w' ⟨rfl, rfl⟩
        go_wp2_with fail
        refine (sIn_any x x x w').mono ?_
        rw [E5.out]
        rintro e w' ⟨rfl, rfl⟩
        have hd1 := H0.out trivial
        go_wp2_with fail
        refine (sLess_any x x w').mono ?_
        rw [E6.out.resolve_left hd1]
        rintro e w' ⟨rfl, rfl⟩
        go_wp2_with fail
        refine (sLess_any x x w').mono ?_
        rw [hL.out]
        rintro e w' ⟨rfl, rfl⟩
        go_wp2
        go_ret
        exact ⟨rfl, Below.refl _ _⟩
      · go_wp2_with fail
        refine (sIn_any z x y w').mono ?_
        rintro e w' ⟨rfl, rfl⟩
        go_wp2_with fail
        refine (sIn_any x x y w').mono ?_
        rw [E4.out]
        rintro e w' ⟨rfl, rfl⟩
        go_wp2_with fail
        refine (sIn_any y x y w').mono ?_
        rw [E5.out]
        rintro e w' ⟨rfl, rfl⟩
        have hxyB : (x != y) = true := by simpa using hxy
        by_cases hd1 : d = 64
        · go_wp2
          go_ret
          exact ⟨rfl, Below.refl _ _⟩
        · go_wp2_with fail
          refine (sLess_any x y w').mono ?_
          rw [E6.out.resolve_left hd1]
          rintro e w' ⟨rfl, rfl⟩
          go_wp2_with fail
          refine (sLess_any y x w').mono ?_
          rw [hL.out]
          rintro e w' ⟨rfl, rfl⟩
          go_wp2
          go_ret
          exact ⟨rfl, Below.refl _ _⟩
end Go.Proofs.Ytegcaobaogmodaa
