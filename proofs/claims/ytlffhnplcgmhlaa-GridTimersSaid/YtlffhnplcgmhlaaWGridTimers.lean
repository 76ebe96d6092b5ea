/- The walk of GridTimers. Written by gen/gengtimers.py. -/
import Derived.Laws.Bits128
import Derived.BigQuiet
import Derived.Deep.CutBlock
import Derived.Deep.DeepCutAuto
import Derived.Test.YtlffhnplcgmhlaaFHeld
import Derived.Test.YtlffhnplcgmhlaaJVar
namespace Go.Proofs.Ytlffhnplcgmhlaa
open Go.RowKit
set_option linter.unusedVariables false
set_option linter.unusedSimpArgs false

/-- what the table is known to be, in the row's own words -/
theorem timers_in {s e : Int} (hs : 0 ≤ s ∧ s ≤ 13) (he : 0 ≤ e ∧ e ≤ 33) {l : List Int} {n : Int} {k : Bool} (hx : stepG s e = (l, n, k)) (c : Int → Bool) (hc : ∀ a, l.contains a = c a) (P : Bool) (hP : (c 29 || c 30) = P) :
    ((c 14 != P) || P && (!c 32 || decide (n < 11))) = false ∧ (c 21 && (c 17 != decide (n < 11))) = false ∧ ((n == 0) && (c 13 || c 14 || c 15 || c 17)) = false ∧
    (c 32 != (decide (29 ≤ e) && decide (e ≤ 32) && k)) = false ∧ ((!c 0 || c 13) && (!c 1 || c 13) && (!c 34 || (e == 29) || (decide (25 ≤ e) && decide (e ≤ 27)))) = true := by
  have h := timers_all hs he
  have hh : ∀ a, hasG s e a = c a := fun a => by unfold hasG; rw [hx]; exact hc a
  have hk : knownG s e = k := by unfold knownG; rw [hx]
  have hn : nextG s e = n := by unfold nextG; rw [hx]
  unfold timersG at h
  simp only [hh, hk, hn, hP] at h
  simp only [Bool.and_eq_true, Bool.not_eq_true'] at h
  obtain ⟨⟨⟨⟨h1, h2⟩, h3⟩, h4⟩, h5⟩ := h
  refine ⟨by rw [show (c 14 != P) = (P != c 14) from by cases P <;> cases c 14 <;> rfl]; exact h1, h2, h3, h4, ?_⟩
  simp only [Bool.and_eq_true]
  exact ⟨h5.1, h5.2⟩
set_option maxRecDepth 100000 in
set_option maxHeartbeats 6400000 in
theorem go_GridTimers (a b : Int) (w : World) (ha : 0 ≤ a ∧ a ≤ 255) (hb : 0 ≤ b ∧ b ≤ 255) : Calls Try.prog 9 #[.int .u8 a, .int .u8 b] w fun e w' => e = .returned (.bool true) ∧ Below w.heap.size w w' := by
  have mixed : Try.prog.follows .mixedOrders = true := by kernel_rfl
  have s0 := awake_any w
  obtain ⟨s, hs⟩ : ∃ s, a % 14 = s := ⟨_, rfl⟩
  obtain ⟨e, he⟩ : ∃ e, b % 34 = e := ⟨_, rfl⟩
  have HS : Hid (0 ≤ s ∧ s ≤ 13) := cover (by omega)
  have HE : Hid (0 ≤ e ∧ e ≤ 33) := cover (by omega)
  obtain ⟨l, n, k, hx⟩ : ∃ l n k, stepG s e = (l, n, k) := ⟨_, _, _, rfl⟩
  have hL : Hid (l.length ≤ 20) := cover (by have := stepG_short s e; rw [hx] at this; exact this)
  have HN : Hid (0 ≤ n ∧ n ≤ 13) := cover (by have := nextG_bd (e := e) HS.out; unfold nextG at this; rw [hx] at this; exact this)
  obtain ⟨c, hc⟩ : ∃ c : Int → Bool, ∀ a, l.contains a = c a := ⟨_, fun _ => rfl⟩
  obtain ⟨P, hP⟩ : ∃ P, (c 29 || c 30) = P := ⟨_, rfl⟩
  have F := cover (timers_in HS.out HE.out hx c hc P hP)
  have F6 := cover F.out.1
  have F8 := cover F.out.2.1
  have F10 := cover F.out.2.2.1
  have F12 := cover F.out.2.2.2.1
  have F14 := cover F.out.2.2.2.2
  have HP := cover hP
  have HC := cover hc
  have s1 := cover (fun W => step_at hx W)
  clear hx hP hc F
  go_enter Try.func9, Try.ntmps9
  go_wp2_with fail
  refine s0.mono ?_
  rintro en w1 ⟨rfl, hb1⟩
  have HB1 := cover hb1
  clear hb1 s0
  go_wp2_with fail
  refine (s1.out _).mono ?_
  rintro en w2 ⟨A, m, rfl, H2⟩
  obtain ⟨w3, hw3⟩ : ∃ w3, Hid (w3 = w2.alloc (.cells (rowC A m n k) 25)) := ⟨_, cover rfl⟩
  obtain ⟨g, hg⟩ : ∃ g, Hid (w2.heap.size = g) := ⟨_, cover rfl⟩
  have H3 : Hid (RowVar w.heap.size w w3 g A m n k l) := cover (by rw [hw3.out, ← hg.out]; exact RowVar.made HB1.out HB1.out.size hL.out H2)
  clear s1 HB1 H2
  go_upto_region 5 with fail
  rw [← hw3.out, hg.out]
  clear hw3 hg hs he
  have hc := HC.out
  go_cut [8] (fun v wx => v = .bool P ∧ Hid (RowVar w.heap.size w wx g A m n k l))
  case first =>
    obtain ⟨c0, c1, c2⟩ := H3.out.cells
    have sh := cover (has_at H3 29)
    rw [hc] at sh
    go_wp2_with fail
    refine sh.out.mono ?_
    rintro e w4 ⟨rfl, H4⟩
    clear sh c0 c1 c2 H3
    obtain ⟨c0, c1, c2⟩ := H4.out.cells
    obtain ⟨b29, k29⟩ : ∃ x, Hid (c 29 = x) := ⟨_, cover rfl⟩
    rw [k29.out]
    rcases b29 with _ | _
    · have sh := cover (has_at H4 30)
      rw [hc] at sh
      go_wp2_with fail
      refine sh.out.mono ?_
      rintro e w5 ⟨rfl, H5⟩
      clear sh c0 c1 c2 H4
      obtain ⟨c0, c1, c2⟩ := H5.out.cells
      obtain ⟨b30, k30⟩ : ∃ x, Hid (c 30 = x) := ⟨_, cover rfl⟩
      rw [k30.out]
      rcases b30 with _ | _
      · have hp : P = false := by rw [← HP.out]; simp only [k29.out, k30.out, Bool.and_true, Bool.true_and, Bool.and_false, Bool.false_and, Bool.or_true, Bool.true_or, Bool.or_false, Bool.false_or, Bool.not_true, Bool.not_false, Bool.bne_true, Bool.true_bne, Bool.bne_false, Bool.false_bne, decide_true, decide_false, Bool.true_eq_false, Bool.false_eq_true, reduceCtorEq, bne_self_eq_false]
        go_wp2
        go_meet
        exact ⟨by rw [hp], H5⟩
      · have hp : P = true := by rw [← HP.out]; simp only [k29.out, k30.out, Bool.and_true, Bool.true_and, Bool.and_false, Bool.false_and, Bool.or_true, Bool.true_or, Bool.or_false, Bool.false_or, Bool.not_true, Bool.not_false, Bool.bne_true, Bool.true_bne, Bool.bne_false, Bool.false_bne, decide_true, decide_false, Bool.true_eq_false, Bool.false_eq_true, reduceCtorEq, bne_self_eq_false]
        go_wp2
        go_meet
        exact ⟨by rw [hp], H5⟩
    · have hp : P = true := by rw [← HP.out]; simp only [k29.out, Bool.and_true, Bool.true_and, Bool.and_false, Bool.false_and, Bool.or_true, Bool.true_or, Bool.or_false, Bool.false_or, Bool.not_true, Bool.not_false, Bool.bne_true, Bool.true_bne, Bool.bne_false, Bool.false_bne, decide_true, decide_false, Bool.true_eq_false, Bool.false_eq_true, reduceCtorEq, bne_self_eq_false]
      go_wp2
      go_meet
      exact ⟨by rw [hp], H4⟩
  case rest =>
    obtain ⟨rfl, H4⟩ := hcut
    obtain ⟨w4, hw4⟩ : ∃ w4, w4 = wc := ⟨_, rfl⟩
    subst hw4
    clear H3
    go_upto_region 6 with fail
    go_cut [42] (fun v wx => v = .bool false ∧ Hid (RowVar w.heap.size w wx g A m n k l))
    case first =>
      obtain ⟨c0, c1, c2⟩ := H4.out.cells
      have sh := cover (has_at H4 14)
      rw [hc] at sh
      go_wp2_with fail
      refine sh.out.mono ?_
      rintro e w5 ⟨rfl, H5⟩
      clear sh c0 c1 c2 H4
      obtain ⟨c0, c1, c2⟩ := H5.out.cells
      obtain ⟨b14, k14⟩ : ∃ x, Hid (c 14 = x) := ⟨_, cover rfl⟩
      rw [k14.out]
      rcases b14 with _ | _
      · rcases P with _ | _
        · go_wp2
          go_meet
          exact ⟨by first | rfl | (simp; omega), H5⟩
        · exfalso
          have hf := F6.out
          simp only [k14.out, HP.out, Bool.and_true, Bool.true_and, Bool.and_false, Bool.false_and, Bool.or_true, Bool.true_or, Bool.or_false, Bool.false_or, Bool.not_true, Bool.not_false, Bool.bne_true, Bool.true_bne, Bool.bne_false, Bool.false_bne, decide_true, decide_false, Bool.true_eq_false, Bool.false_eq_true, reduceCtorEq, bne_self_eq_false] at hf
      · rcases P with _ | _
        · exfalso
          have hf := F6.out
          simp only [k14.out, HP.out, Bool.and_true, Bool.true_and, Bool.and_false, Bool.false_and, Bool.or_true, Bool.true_or, Bool.or_false, Bool.false_or, Bool.not_true, Bool.not_false, Bool.bne_true, Bool.true_bne, Bool.bne_false, Bool.false_bne, decide_true, decide_false, Bool.true_eq_false, Bool.false_eq_true, reduceCtorEq, bne_self_eq_false] at hf
        · have sh := cover (has_at H5 32)
          rw [hc] at sh
          go_wp2_with fail
          refine sh.out.mono ?_
          rintro e w6 ⟨rfl, H6⟩
          clear sh c0 c1 c2 H5
          obtain ⟨c0, c1, c2⟩ := H6.out.cells
          obtain ⟨b32, k32⟩ : ∃ x, Hid (c 32 = x) := ⟨_, cover rfl⟩
          rw [k32.out]
          rcases b32 with _ | _
          · exfalso
            have hf := F6.out
            simp only [k14.out, HP.out, k32.out, Bool.and_true, Bool.true_and, Bool.and_false, Bool.false_and, Bool.or_true, Bool.true_or, Bool.or_false, Bool.false_or, Bool.not_true, Bool.not_false, Bool.bne_true, Bool.true_bne, Bool.bne_false, Bool.false_bne, decide_true, decide_false, Bool.true_eq_false, Bool.false_eq_true, reduceCtorEq, bne_self_eq_false] at hf
          · rcases Decidable.em (n < 11) with n11 | n11
            · have n11' : ¬ (11 ≤ n) := by omega
              exfalso
              have hf := F6.out
              simp only [k14.out, HP.out, k32.out, n11, n11', Bool.and_true, Bool.true_and, Bool.and_false, Bool.false_and, Bool.or_true, Bool.true_or, Bool.or_false, Bool.false_or, Bool.not_true, Bool.not_false, Bool.bne_true, Bool.true_bne, Bool.bne_false, Bool.false_bne, decide_true, decide_false, Bool.true_eq_false, Bool.false_eq_true, reduceCtorEq, bne_self_eq_false] at hf
            · have n11' : 11 ≤ n := by omega
              go_wp2
              go_meet
              exact ⟨by first | rfl | (simp; omega), H6⟩
    case rest =>
      obtain ⟨rfl, H5⟩ := hcut
      obtain ⟨w5, hw5⟩ : ∃ w5, w5 = wc := ⟨_, rfl⟩
      subst hw5
      clear H4
      go_upto_region 8 with fail
      go_cut [52] (fun v wx => v = .bool false ∧ Hid (RowVar w.heap.size w wx g A m n k l))
      case first =>
        clear F6 F10 F12 F14
        obtain ⟨y, hy⟩ : ∃ y, Hid (c 21 = y) := ⟨_, cover rfl⟩
        refine (wpIn_wide (n := 0)).1 ?_
        refine held_begin (fun W' : World => (W'.cell? ⟨g, 0, none⟩ = some (.slice A m m) ∧ W'.cell? ⟨g, 1, none⟩ = some (.int .i64 n) ∧ W'.cell? ⟨g, 2, none⟩ = some (.bool k)) ∧ Hid (RowVar w.heap.size w W' g A m n k l)) 99 mixed ?_
        have HA := cover (H5.out.below (below_drewN (Below.refl _ _) 1))
        have HS1 : (fun W' : World => (W'.cell? ⟨g, 0, none⟩ = some (.slice A m m) ∧ W'.cell? ⟨g, 1, none⟩ = some (.int .i64 n) ∧ W'.cell? ⟨g, 2, none⟩ = some (.bool k)) ∧ Hid (RowVar w.heap.size w W' g A m n k l)) (w5.drewN 1) := ⟨HA.out.cells, HA⟩
        refine hold_take 0 _ rfl (by kernel_rfl) (by kernel_rfl) (by kernel_rfl) (by kernel_rfl) (by kernel_rfl) (fun _ _ _ h => h) (by rfl) (fun _ => rfl) HS1 (fun w' hS => by obtain ⟨⟨q0, q1, q2⟩, _⟩ := hS; go_simp; rfl) ?_
        simp only [Act.put, List.setIfInBounds_toArray, List.set_cons_zero, List.set_cons_succ]
        have sh := has_at HA 21
        rw [hc] at sh
        refine hold_one 1 (by kernel_rfl) rfl (by rfl) fun K hK => ?_
        go_simp
        refine ⟨trivial, rfl, (callsIn_wide.2 sh).mono ?_⟩
        rintro en w6 ⟨rfl, H6⟩
        refine hK _ _ (.inr ⟨H6.out.cells, H6⟩) ?_
        clear hK K sh HS1
        have HS1 := cover (And.intro H6.out.cells H6)
        replace HS1 := HS1.out
        rw [hy.out]
        rcases y with _ | _
        · refine hold_take 2 (.bool false) rfl (by kernel_rfl) (by kernel_rfl) (by kernel_rfl) (by kernel_rfl) (by kernel_rfl) (fun _ _ _ h => h) (by rfl) (fun _ => rfl) HS1 (fun w' hS => by obtain ⟨⟨q0, q1, q2⟩, _⟩ := hS; go_simp; skip) ?_
          simp only [Act.put, List.setIfInBounds_toArray, List.set_cons_zero, List.set_cons_succ]
          refine hold_skip 3 rfl (by kernel_rfl) (by kernel_rfl) (by kernel_rfl) (by kernel_rfl) (by kernel_rfl) (fun _ _ _ h => h) (by rfl) (fun _ => rfl) HS1 ?_
          simp only [Act.put, List.setIfInBounds_toArray, List.set_cons_zero, List.set_cons_succ]
          refine hold_skip 5 rfl (by kernel_rfl) (by kernel_rfl) (by kernel_rfl) (by kernel_rfl) (by kernel_rfl) (fun _ _ _ h => h) (by rfl) (fun _ => rfl) HS1 ?_
          simp only [Act.put, List.setIfInBounds_toArray, List.set_cons_zero, List.set_cons_succ]
          refine hold_skip 6 rfl (by kernel_rfl) (by kernel_rfl) (by kernel_rfl) (by kernel_rfl) (by kernel_rfl) (fun _ _ _ h => h) (by rfl) (fun _ => rfl) HS1 ?_
          simp only [Act.put, List.setIfInBounds_toArray, List.set_cons_zero, List.set_cons_succ]
          refine hold_skip 7 rfl (by kernel_rfl) (by kernel_rfl) (by kernel_rfl) (by kernel_rfl) (by kernel_rfl) (fun _ _ _ h => h) (by rfl) (fun _ => rfl) HS1 ?_
          simp only [Act.put, List.setIfInBounds_toArray, List.set_cons_zero, List.set_cons_succ]
          refine hold_pass 4 (by kernel_rfl) rfl (by rfl) (fun _ _ => trivial) HS1 ?_
          simp only [Act.put, List.setIfInBounds_toArray, List.set_cons_zero, List.set_cons_succ]
          refine hold_skip 8 rfl (by kernel_rfl) (by kernel_rfl) (by kernel_rfl) (by kernel_rfl) (by kernel_rfl) (fun _ _ _ h => h) (by rfl) (fun _ => rfl) HS1 ?_
          simp only [Act.put, List.setIfInBounds_toArray, List.set_cons_zero, List.set_cons_succ]
          refine hold_take 9 (.bool false) rfl (by kernel_rfl) (by kernel_rfl) (by kernel_rfl) (by kernel_rfl) (by kernel_rfl) (fun _ _ _ h => h) (by rfl) (fun _ => rfl) HS1 (fun w' hS => by obtain ⟨⟨q0, q1, q2⟩, _⟩ := hS; go_simp; skip) ?_
          simp only [Act.put, List.setIfInBounds_toArray, List.set_cons_zero, List.set_cons_succ]
          refine held_done (by kernel_rfl) ?_ _
          clear HS1 mixed
          go_wp2
          go_meet
          exact ⟨rfl, H6⟩
        · refine hold_take 2 (.bool true) rfl (by kernel_rfl) (by kernel_rfl) (by kernel_rfl) (by kernel_rfl) (by kernel_rfl) (fun _ _ _ h => h) (by rfl) (fun _ => rfl) HS1 (fun w' hS => by obtain ⟨⟨q0, q1, q2⟩, _⟩ := hS; go_simp; skip) ?_
          simp only [Act.put, List.setIfInBounds_toArray, List.set_cons_zero, List.set_cons_succ]
          refine hold_take 3 _ rfl (by kernel_rfl) (by kernel_rfl) (by kernel_rfl) (by kernel_rfl) (by kernel_rfl) (fun _ _ _ h => h) (by rfl) (fun _ => rfl) HS1 (fun w' hS => by obtain ⟨⟨q0, q1, q2⟩, _⟩ := hS; go_simp; rfl) ?_
          simp only [Act.put, List.setIfInBounds_toArray, List.set_cons_zero, List.set_cons_succ]
          refine hold_take 5 _ rfl (by kernel_rfl) (by kernel_rfl) (by kernel_rfl) (by kernel_rfl) (by kernel_rfl) (fun _ _ _ h => h) (by rfl) (fun _ => rfl) HS1 (fun w' hS => by obtain ⟨⟨q0, q1, q2⟩, _⟩ := hS; go_simp; rfl) ?_
          simp only [Act.put, List.setIfInBounds_toArray, List.set_cons_zero, List.set_cons_succ]
          refine hold_take 6 _ rfl (by kernel_rfl) (by kernel_rfl) (by kernel_rfl) (by kernel_rfl) (by kernel_rfl) (fun _ _ _ h => h) (by rfl) (fun _ => rfl) HS1 (fun w' hS => by obtain ⟨⟨q0, q1, q2⟩, _⟩ := hS; go_simp; rfl) ?_
          simp only [Act.put, List.setIfInBounds_toArray, List.set_cons_zero, List.set_cons_succ]
          refine hold_take 7 (.bool (decide (n < 11))) rfl (by kernel_rfl) (by kernel_rfl) (by kernel_rfl) (by kernel_rfl) (by kernel_rfl) (fun _ _ _ h => h) (by rfl) (fun _ => rfl) HS1 (fun w' hS => by obtain ⟨⟨q0, q1, q2⟩, _⟩ := hS; go_simp; skip) ?_
          simp only [Act.put, List.setIfInBounds_toArray, List.set_cons_zero, List.set_cons_succ]
          have sh := has_at H6 17
          rw [hc] at sh
          refine hold_one 4 (by kernel_rfl) rfl (by rfl) fun K hK => ?_
          go_simp
          refine ⟨trivial, rfl, (callsIn_wide.2 sh).mono ?_⟩
          rintro en w7 ⟨rfl, H7⟩
          refine hK _ _ (.inr ⟨H7.out.cells, H7⟩) ?_
          clear hK K sh HS1
          have HS1 := cover (And.intro H7.out.cells H7)
          replace HS1 := HS1.out
          have hq : (c 17 != decide (n < 11)) = false := by have := F8.out; rw [hy.out] at this; simpa only [Bool.true_and] using this
          obtain ⟨z, hz⟩ : ∃ z, Hid (decide (n < 11) = z) := ⟨_, cover rfl⟩
          rw [hz.out] at hq ⊢
          obtain ⟨x, hx⟩ : ∃ x, Hid (c 17 = x) := ⟨_, cover rfl⟩
          rw [hx.out] at hq ⊢
          rcases x with _ | _
          all_goals
            rcases z with _ | _
            all_goals first
              | (cases hq; done)
              | skip
            clear hq
            refine hold_take 8 (.bool false) rfl (by kernel_rfl) (by kernel_rfl) (by kernel_rfl) (by kernel_rfl) (by kernel_rfl) (fun _ _ _ h => h) (by rfl) (fun _ => rfl) HS1 (fun w' hS => by obtain ⟨⟨q0, q1, q2⟩, _⟩ := hS; go_simp; skip) ?_
            simp only [Act.put, List.setIfInBounds_toArray, List.set_cons_zero, List.set_cons_succ]
            refine hold_take 9 (.bool false) rfl (by kernel_rfl) (by kernel_rfl) (by kernel_rfl) (by kernel_rfl) (by kernel_rfl) (fun _ _ _ h => h) (by rfl) (fun _ => rfl) HS1 (fun w' hS => by obtain ⟨⟨q0, q1, q2⟩, _⟩ := hS; go_simp; skip) ?_
            simp only [Act.put, List.setIfInBounds_toArray, List.set_cons_zero, List.set_cons_succ]
            refine held_done (by kernel_rfl) ?_ _
            clear HS1 mixed
            go_wp2
            go_meet
            exact ⟨rfl, H7⟩
      case rest =>
        obtain ⟨rfl, H6⟩ := hcut
        obtain ⟨w6, hw6⟩ : ∃ w6, w6 = wc := ⟨_, rfl⟩
        subst hw6
        clear H5
        go_upto_region 10 with fail
        go_cut [71] (fun v wx => v = .bool false ∧ Hid (RowVar w.heap.size w wx g A m n k l))
        case first =>
          obtain ⟨c0, c1, c2⟩ := H6.out.cells
          rcases Bool.eq_false_or_eq_true (n == 0) with n0 | n0
          · have sh := cover (has_at H6 13)
            rw [hc] at sh
            go_wp2_with fail
            refine sh.out.mono ?_
            rintro e w7 ⟨rfl, H7⟩
            clear sh c0 c1 c2 H6
            obtain ⟨c0, c1, c2⟩ := H7.out.cells
            obtain ⟨b13, k13⟩ : ∃ x, Hid (c 13 = x) := ⟨_, cover rfl⟩
            rw [k13.out]
            rcases b13 with _ | _
            · have sh := cover (has_at H7 14)
              rw [hc] at sh
              go_wp2_with fail
              refine sh.out.mono ?_
              rintro e w8 ⟨rfl, H8⟩
              clear sh c0 c1 c2 H7
              obtain ⟨c0, c1, c2⟩ := H8.out.cells
              obtain ⟨b14, k14⟩ : ∃ x, Hid (c 14 = x) := ⟨_, cover rfl⟩
              rw [k14.out]
              rcases b14 with _ | _
              · have sh := cover (has_at H8 15)
                rw [hc] at sh
                go_wp2_with fail
                refine sh.out.mono ?_
                rintro e w9 ⟨rfl, H9⟩
                clear sh c0 c1 c2 H8
                obtain ⟨c0, c1, c2⟩ := H9.out.cells
                obtain ⟨b15, k15⟩ : ∃ x, Hid (c 15 = x) := ⟨_, cover rfl⟩
                rw [k15.out]
                rcases b15 with _ | _
                · have sh := cover (has_at H9 17)
                  rw [hc] at sh
                  go_wp2_with fail
                  refine sh.out.mono ?_
                  rintro e w10 ⟨rfl, H10⟩
                  clear sh c0 c1 c2 H9
                  obtain ⟨c0, c1, c2⟩ := H10.out.cells
                  obtain ⟨b17, k17⟩ : ∃ x, Hid (c 17 = x) := ⟨_, cover rfl⟩
                  rw [k17.out]
                  rcases b17 with _ | _
                  · go_wp2
                    go_meet
                    exact ⟨by first | rfl | (simp; omega), H10⟩
                  · exfalso
                    have hf := F10.out
                    simp only [n0, k13.out, k14.out, k15.out, k17.out, Bool.and_true, Bool.true_and, Bool.and_false, Bool.false_and, Bool.or_true, Bool.true_or, Bool.or_false, Bool.false_or, Bool.not_true, Bool.not_false, Bool.bne_true, Bool.true_bne, Bool.bne_false, Bool.false_bne, decide_true, decide_false, Bool.true_eq_false, Bool.false_eq_true, reduceCtorEq, bne_self_eq_false] at hf
                · exfalso
                  have hf := F10.out
                  simp only [n0, k13.out, k14.out, k15.out, Bool.and_true, Bool.true_and, Bool.and_false, Bool.false_and, Bool.or_true, Bool.true_or, Bool.or_false, Bool.false_or, Bool.not_true, Bool.not_false, Bool.bne_true, Bool.true_bne, Bool.bne_false, Bool.false_bne, decide_true, decide_false, Bool.true_eq_false, Bool.false_eq_true, reduceCtorEq, bne_self_eq_false] at hf
              · exfalso
                have hf := F10.out
                simp only [n0, k13.out, k14.out, Bool.and_true, Bool.true_and, Bool.and_false, Bool.false_and, Bool.or_true, Bool.true_or, Bool.or_false, Bool.false_or, Bool.not_true, Bool.not_false, Bool.bne_true, Bool.true_bne, Bool.bne_false, Bool.false_bne, decide_true, decide_false, Bool.true_eq_false, Bool.false_eq_true, reduceCtorEq, bne_self_eq_false] at hf
            · exfalso
              have hf := F10.out
              simp only [n0, k13.out, Bool.and_true, Bool.true_and, Bool.and_false, Bool.false_and, Bool.or_true, Bool.true_or, Bool.or_false, Bool.false_or, Bool.not_true, Bool.not_false, Bool.bne_true, Bool.true_bne, Bool.bne_false, Bool.false_bne, decide_true, decide_false, Bool.true_eq_false, Bool.false_eq_true, reduceCtorEq, bne_self_eq_false] at hf
          · go_wp2
            go_meet
            exact ⟨by first | rfl | (simp; omega), H6⟩
        case rest =>
          obtain ⟨rfl, H7⟩ := hcut
          obtain ⟨w7, hw7⟩ : ∃ w7, w7 = wc := ⟨_, rfl⟩
          subst hw7
          clear H6
          go_upto_region 12 with fail
          go_cut [84] (fun v wx => v = .bool false ∧ Hid (RowVar w.heap.size w wx g A m n k l))
          case first =>
            obtain ⟨c0, c1, c2⟩ := H7.out.cells
            have sh := cover (has_at H7 32)
            rw [hc] at sh
            go_wp2_with fail
            refine sh.out.mono ?_
            rintro e w8 ⟨rfl, H8⟩
            clear sh c0 c1 c2 H7
            obtain ⟨c0, c1, c2⟩ := H8.out.cells
            obtain ⟨b32, k32⟩ : ∃ x, Hid (c 32 = x) := ⟨_, cover rfl⟩
            rw [k32.out]
            rcases b32 with _ | _
            · rcases Decidable.em (29 ≤ e) with e29 | e29
              · have e29' : ¬ (e < 29) := by omega
                rcases Decidable.em (e ≤ 32) with e32 | e32
                · have e32' : ¬ (32 < e) := by omega
                  rcases k with _ | _
                  · go_wp2
                    go_meet
                    exact ⟨by first | rfl | (simp; omega), H8⟩
                  · exfalso
                    have hf := F12.out
                    simp only [k32.out, e29, e29', e32, e32', Bool.and_true, Bool.true_and, Bool.and_false, Bool.false_and, Bool.or_true, Bool.true_or, Bool.or_false, Bool.false_or, Bool.not_true, Bool.not_false, Bool.bne_true, Bool.true_bne, Bool.bne_false, Bool.false_bne, decide_true, decide_false, Bool.true_eq_false, Bool.false_eq_true, reduceCtorEq, bne_self_eq_false] at hf
                · have e32' : 32 < e := by omega
                  go_wp2
                  go_meet
                  exact ⟨by first | rfl | (simp; omega), H8⟩
              · have e29' : e < 29 := by omega
                go_wp2
                go_meet
                exact ⟨by first | rfl | (simp; omega), H8⟩
            · rcases Decidable.em (29 ≤ e) with e29 | e29
              · have e29' : ¬ (e < 29) := by omega
                rcases Decidable.em (e ≤ 32) with e32 | e32
                · have e32' : ¬ (32 < e) := by omega
                  rcases k with _ | _
                  · exfalso
                    have hf := F12.out
                    simp only [k32.out, e29, e29', e32, e32', Bool.and_true, Bool.true_and, Bool.and_false, Bool.false_and, Bool.or_true, Bool.true_or, Bool.or_false, Bool.false_or, Bool.not_true, Bool.not_false, Bool.bne_true, Bool.true_bne, Bool.bne_false, Bool.false_bne, decide_true, decide_false, Bool.true_eq_false, Bool.false_eq_true, reduceCtorEq, bne_self_eq_false] at hf
                  · go_wp2
                    go_meet
                    exact ⟨by first | rfl | (simp; omega), H8⟩
                · have e32' : 32 < e := by omega
                  exfalso
                  have hf := F12.out
                  simp only [k32.out, e29, e29', e32, e32', Bool.and_true, Bool.true_and, Bool.and_false, Bool.false_and, Bool.or_true, Bool.true_or, Bool.or_false, Bool.false_or, Bool.not_true, Bool.not_false, Bool.bne_true, Bool.true_bne, Bool.bne_false, Bool.false_bne, decide_true, decide_false, Bool.true_eq_false, Bool.false_eq_true, reduceCtorEq, bne_self_eq_false] at hf
              · have e29' : e < 29 := by omega
                exfalso
                have hf := F12.out
                simp only [k32.out, e29, e29', Bool.and_true, Bool.true_and, Bool.and_false, Bool.false_and, Bool.or_true, Bool.true_or, Bool.or_false, Bool.false_or, Bool.not_true, Bool.not_false, Bool.bne_true, Bool.true_bne, Bool.bne_false, Bool.false_bne, decide_true, decide_false, Bool.true_eq_false, Bool.false_eq_true, reduceCtorEq, bne_self_eq_false] at hf
          case rest =>
            obtain ⟨rfl, H8⟩ := hcut
            obtain ⟨w8, hw8⟩ : ∃ w8, w8 = wc := ⟨_, rfl⟩
            subst hw8
            clear H7
            obtain ⟨c0, c1, c2⟩ := H8.out.cells
            have sh := cover (has_at H8 0)
            rw [hc] at sh
            go_wp2_with fail
            refine sh.out.mono ?_
            rintro e w9 ⟨rfl, H9⟩
            clear sh c0 c1 c2 H8
            obtain ⟨c0, c1, c2⟩ := H9.out.cells
            obtain ⟨b0, k0⟩ : ∃ x, Hid (c 0 = x) := ⟨_, cover rfl⟩
            rw [k0.out]
            rcases b0 with _ | _
            · have sh := cover (has_at H9 1)
              rw [hc] at sh
              go_wp2_with fail
              refine sh.out.mono ?_
              rintro e w10 ⟨rfl, H10⟩
              clear sh c0 c1 c2 H9
              obtain ⟨c0, c1, c2⟩ := H10.out.cells
              obtain ⟨b1, k1⟩ : ∃ x, Hid (c 1 = x) := ⟨_, cover rfl⟩
              rw [k1.out]
              rcases b1 with _ | _
              · have sh := cover (has_at H10 34)
                rw [hc] at sh
                go_wp2_with fail
                refine sh.out.mono ?_
                rintro e w11 ⟨rfl, H11⟩
                clear sh c0 c1 c2 H10
                obtain ⟨c0, c1, c2⟩ := H11.out.cells
                obtain ⟨b34, k34⟩ : ∃ x, Hid (c 34 = x) := ⟨_, cover rfl⟩
                rw [k34.out]
                rcases b34 with _ | _
                · go_wp2
                  go_ret
                  exact ⟨ret_bool (by first | rfl | (simp; omega)), H11.out.bel⟩
                · rcases Bool.eq_false_or_eq_true (e == 29) with ee | ee
                  · go_wp2
                    go_ret
                    exact ⟨ret_bool (by first | rfl | (simp; omega)), H11.out.bel⟩
                  · rcases Decidable.em (25 ≤ e) with e25 | e25
                    · have e25' : ¬ (e < 25) := by omega
                      rcases Decidable.em (e ≤ 27) with e27 | e27
                      · have e27' : ¬ (27 < e) := by omega
                        go_wp2
                        go_ret
                        exact ⟨ret_bool (by first | rfl | (simp; omega)), H11.out.bel⟩
                      · have e27' : 27 < e := by omega
                        exfalso
                        have hf := F14.out
                        simp only [k0.out, k1.out, k34.out, ee, e25, e25', e27, e27', Bool.and_true, Bool.true_and, Bool.and_false, Bool.false_and, Bool.or_true, Bool.true_or, Bool.or_false, Bool.false_or, Bool.not_true, Bool.not_false, Bool.bne_true, Bool.true_bne, Bool.bne_false, Bool.false_bne, decide_true, decide_false, Bool.true_eq_false, Bool.false_eq_true, reduceCtorEq, bne_self_eq_false] at hf
                    · have e25' : e < 25 := by omega
                      exfalso
                      have hf := F14.out
                      simp only [k0.out, k1.out, k34.out, ee, e25, e25', Bool.and_true, Bool.true_and, Bool.and_false, Bool.false_and, Bool.or_true, Bool.true_or, Bool.or_false, Bool.false_or, Bool.not_true, Bool.not_false, Bool.bne_true, Bool.true_bne, Bool.bne_false, Bool.false_bne, decide_true, decide_false, Bool.true_eq_false, Bool.false_eq_true, reduceCtorEq, bne_self_eq_false] at hf
              · have sh := cover (has_at H10 13)
                rw [hc] at sh
                go_wp2_with fail
                refine sh.out.mono ?_
                rintro e w11 ⟨rfl, H11⟩
                clear sh c0 c1 c2 H10
                obtain ⟨c0, c1, c2⟩ := H11.out.cells
                obtain ⟨b13, k13⟩ : ∃ x, Hid (c 13 = x) := ⟨_, cover rfl⟩
                rw [k13.out]
                rcases b13 with _ | _
                · exfalso
                  have hf := F14.out
                  simp only [k0.out, k1.out, k13.out, Bool.and_true, Bool.true_and, Bool.and_false, Bool.false_and, Bool.or_true, Bool.true_or, Bool.or_false, Bool.false_or, Bool.not_true, Bool.not_false, Bool.bne_true, Bool.true_bne, Bool.bne_false, Bool.false_bne, decide_true, decide_false, Bool.true_eq_false, Bool.false_eq_true, reduceCtorEq, bne_self_eq_false] at hf
                · have sh := cover (has_at H11 34)
                  rw [hc] at sh
                  go_wp2_with fail
                  refine sh.out.mono ?_
                  rintro e w12 ⟨rfl, H12⟩
                  clear sh c0 c1 c2 H11
                  obtain ⟨c0, c1, c2⟩ := H12.out.cells
                  obtain ⟨b34, k34⟩ : ∃ x, Hid (c 34 = x) := ⟨_, cover rfl⟩
                  rw [k34.out]
                  rcases b34 with _ | _
                  · go_wp2
                    go_ret
                    exact ⟨ret_bool (by first | rfl | (simp; omega)), H12.out.bel⟩
                  · rcases Bool.eq_false_or_eq_true (e == 29) with ee | ee
                    · go_wp2
                      go_ret
                      exact ⟨ret_bool (by first | rfl | (simp; omega)), H12.out.bel⟩
                    · rcases Decidable.em (25 ≤ e) with e25 | e25
                      · have e25' : ¬ (e < 25) := by omega
                        rcases Decidable.em (e ≤ 27) with e27 | e27
                        · have e27' : ¬ (27 < e) := by omega
                          go_wp2
                          go_ret
                          exact ⟨ret_bool (by first | rfl | (simp; omega)), H12.out.bel⟩
                        · have e27' : 27 < e := by omega
                          exfalso
                          have hf := F14.out
                          simp only [k0.out, k1.out, k13.out, k34.out, ee, e25, e25', e27, e27', Bool.and_true, Bool.true_and, Bool.and_false, Bool.false_and, Bool.or_true, Bool.true_or, Bool.or_false, Bool.false_or, Bool.not_true, Bool.not_false, Bool.bne_true, Bool.true_bne, Bool.bne_false, Bool.false_bne, decide_true, decide_false, Bool.true_eq_false, Bool.false_eq_true, reduceCtorEq, bne_self_eq_false] at hf
                      · have e25' : e < 25 := by omega
                        exfalso
                        have hf := F14.out
                        simp only [k0.out, k1.out, k13.out, k34.out, ee, e25, e25', Bool.and_true, Bool.true_and, Bool.and_false, Bool.false_and, Bool.or_true, Bool.true_or, Bool.or_false, Bool.false_or, Bool.not_true, Bool.not_false, Bool.bne_true, Bool.true_bne, Bool.bne_false, Bool.false_bne, decide_true, decide_false, Bool.true_eq_false, Bool.false_eq_true, reduceCtorEq, bne_self_eq_false] at hf
            · have sh := cover (has_at H9 13)
              rw [hc] at sh
              go_wp2_with fail
              refine sh.out.mono ?_
              rintro e w10 ⟨rfl, H10⟩
              clear sh c0 c1 c2 H9
              obtain ⟨c0, c1, c2⟩ := H10.out.cells
              obtain ⟨b13, k13⟩ : ∃ x, Hid (c 13 = x) := ⟨_, cover rfl⟩
              rw [k13.out]
              rcases b13 with _ | _
              · exfalso
                have hf := F14.out
                simp only [k0.out, k13.out, Bool.and_true, Bool.true_and, Bool.and_false, Bool.false_and, Bool.or_true, Bool.true_or, Bool.or_false, Bool.false_or, Bool.not_true, Bool.not_false, Bool.bne_true, Bool.true_bne, Bool.bne_false, Bool.false_bne, decide_true, decide_false, Bool.true_eq_false, Bool.false_eq_true, reduceCtorEq, bne_self_eq_false] at hf
              · have sh := cover (has_at H10 1)
                rw [hc] at sh
                go_wp2_with fail
                refine sh.out.mono ?_
                rintro e w11 ⟨rfl, H11⟩
                clear sh c0 c1 c2 H10
                obtain ⟨c0, c1, c2⟩ := H11.out.cells
                obtain ⟨b1, k1⟩ : ∃ x, Hid (c 1 = x) := ⟨_, cover rfl⟩
                rw [k1.out]
                rcases b1 with _ | _
                · have sh := cover (has_at H11 34)
                  rw [hc] at sh
                  go_wp2_with fail
                  refine sh.out.mono ?_
                  rintro e w12 ⟨rfl, H12⟩
                  clear sh c0 c1 c2 H11
                  obtain ⟨c0, c1, c2⟩ := H12.out.cells
                  obtain ⟨b34, k34⟩ : ∃ x, Hid (c 34 = x) := ⟨_, cover rfl⟩
                  rw [k34.out]
                  rcases b34 with _ | _
                  · go_wp2
                    go_ret
                    exact ⟨ret_bool (by first | rfl | (simp; omega)), H12.out.bel⟩
                  · rcases Bool.eq_false_or_eq_true (e == 29) with ee | ee
                    · go_wp2
                      go_ret
                      exact ⟨ret_bool (by first | rfl | (simp; omega)), H12.out.bel⟩
                    · rcases Decidable.em (25 ≤ e) with e25 | e25
                      · have e25' : ¬ (e < 25) := by omega
                        rcases Decidable.em (e ≤ 27) with e27 | e27
                        · have e27' : ¬ (27 < e) := by omega
                          go_wp2
                          go_ret
                          exact ⟨ret_bool (by first | rfl | (simp; omega)), H12.out.bel⟩
                        · have e27' : 27 < e := by omega
                          exfalso
                          have hf := F14.out
                          simp only [k0.out, k13.out, k1.out, k34.out, ee, e25, e25', e27, e27', Bool.and_true, Bool.true_and, Bool.and_false, Bool.false_and, Bool.or_true, Bool.true_or, Bool.or_false, Bool.false_or, Bool.not_true, Bool.not_false, Bool.bne_true, Bool.true_bne, Bool.bne_false, Bool.false_bne, decide_true, decide_false, Bool.true_eq_false, Bool.false_eq_true, reduceCtorEq, bne_self_eq_false] at hf
                      · have e25' : e < 25 := by omega
                        exfalso
                        have hf := F14.out
                        simp only [k0.out, k13.out, k1.out, k34.out, ee, e25, e25', Bool.and_true, Bool.true_and, Bool.and_false, Bool.false_and, Bool.or_true, Bool.true_or, Bool.or_false, Bool.false_or, Bool.not_true, Bool.not_false, Bool.bne_true, Bool.true_bne, Bool.bne_false, Bool.false_bne, decide_true, decide_false, Bool.true_eq_false, Bool.false_eq_true, reduceCtorEq, bne_self_eq_false] at hf
                · have sh := cover (has_at H11 13)
                  rw [hc] at sh
                  go_wp2_with fail
                  refine sh.out.mono ?_
                  rintro e w12 ⟨rfl, H12⟩
                  clear sh c0 c1 c2 H11
                  obtain ⟨c0, c1, c2⟩ := H12.out.cells
                  rw [k13.out]
                  have sh := cover (has_at H12 34)
                  rw [hc] at sh
                  go_wp2_with fail
                  refine sh.out.mono ?_
                  rintro e w13 ⟨rfl, H13⟩
                  clear sh c0 c1 c2 H12
                  obtain ⟨c0, c1, c2⟩ := H13.out.cells
                  obtain ⟨b34, k34⟩ : ∃ x, Hid (c 34 = x) := ⟨_, cover rfl⟩
                  rw [k34.out]
                  rcases b34 with _ | _
                  · go_wp2
                    go_ret
                    exact ⟨ret_bool (by first | rfl | (simp; omega)), H13.out.bel⟩
                  · rcases Bool.eq_false_or_eq_true (e == 29) with ee | ee
                    · go_wp2
                      go_ret
                      exact ⟨ret_bool (by first | rfl | (simp; omega)), H13.out.bel⟩
                    · rcases Decidable.em (25 ≤ e) with e25 | e25
                      · have e25' : ¬ (e < 25) := by omega
                        rcases Decidable.em (e ≤ 27) with e27 | e27
                        · have e27' : ¬ (27 < e) := by omega
                          go_wp2
                          go_ret
                          exact ⟨ret_bool (by first | rfl | (simp; omega)), H13.out.bel⟩
                        · have e27' : 27 < e := by omega
                          exfalso
                          have hf := F14.out
                          simp only [k0.out, k13.out, k1.out, k34.out, ee, e25, e25', e27, e27', Bool.and_true, Bool.true_and, Bool.and_false, Bool.false_and, Bool.or_true, Bool.true_or, Bool.or_false, Bool.false_or, Bool.not_true, Bool.not_false, Bool.bne_true, Bool.true_bne, Bool.bne_false, Bool.false_bne, decide_true, decide_false, Bool.true_eq_false, Bool.false_eq_true, reduceCtorEq, bne_self_eq_false] at hf
                      · have e25' : e < 25 := by omega
                        exfalso
                        have hf := F14.out
                        simp only [k0.out, k13.out, k1.out, k34.out, ee, e25, e25', Bool.and_true, Bool.true_and, Bool.and_false, Bool.false_and, Bool.or_true, Bool.true_or, Bool.or_false, Bool.false_or, Bool.not_true, Bool.not_false, Bool.bne_true, Bool.true_bne, Bool.bne_false, Bool.false_bne, decide_true, decide_false, Bool.true_eq_false, Bool.false_eq_true, reduceCtorEq, bne_self_eq_false] at hf
theorem walk_GridTimers (a b : Int) (w : World) (ha : (Lit.int .u8 a).wf = true) (hb : (Lit.int .u8 b).wf = true) : Calls Try.prog 9 #[.int .u8 a, .int .u8 b] w fun e w' => e = .returned (.bool true) ∧ Below w.heap.size w w' := by
  simp only [Lit.wf, Bool.and_eq_true, decide_eq_true_eq] at ha hb
  exact go_GridTimers a b w ha hb
end Go.Proofs.Ytlffhnplcgmhlaa
