/- The walk of GridEnds. Written by gen/gengends.py. -/
import Derived.Laws.Bits128
import Derived.BigQuiet
import Derived.Deep.CutBlock
import Derived.Deep.DeepCutAuto
import Derived.Test.YtlffhnplcgmhlaaJVar
namespace Go.Proofs.Ytlffhnplcgmhlaa
open Go.RowKit
set_option linter.unusedVariables false
set_option linter.unusedSimpArgs false

/-- what the table is known to be, in the row's own words -/
theorem ends_in {s e : Int} (hs : 0 ≤ s ∧ s ≤ 13) (he : 0 ≤ e ∧ e ≤ 33) {l : List Int} {n : Int} {k : Bool} (hx : stepG s e = (l, n, k)) (c : Int → Bool) (hc : ∀ a, l.contains a = c a) (D T U : Bool) (hD : decide (8 ≤ s) = D) (hT : decide (8 ≤ n) = T) (hU : (e == 2 || e == 3) = U) :
    (k = false → l.length = 0 ∧ n = s) ∧ (k = true →
      ((c 10 != (!D && T)) || (c 18 || c 31 || c 19) && !D) = false ∧
      (D && !T && !U && !c 7 && !c 8 && !c 4) = false ∧
      ((decide (11 ≤ n) && decide (s < 11) && !c 14) || (decide (11 ≤ s) && decide (8 ≤ n) && decide (n < 11) && !c 33)) = false ∧
      (!D || T || c 12) = true) := by
  have h := ends_all hs he
  have hh : ∀ a, hasG s e a = c a := fun a => by unfold hasG; rw [hx]; exact hc a
  have hk : knownG s e = k := by unfold knownG; rw [hx]
  have hn : nextG s e = n := by unfold nextG; rw [hx]
  unfold endsG at h
  simp only [hh, hk, hn, hx, hD, hU] at h
  rw [← hT]
  refine ⟨fun e1 => ?_, fun e1 => ?_⟩
  · rw [e1] at h
    simp only [Bool.false_eq_true, if_false, Bool.and_eq_true, beq_iff_eq, List.isEmpty_iff] at h
    exact ⟨by rw [h.1]; rfl, h.2⟩
  · rw [e1] at h
    simp only [if_true, Bool.and_eq_true, Bool.not_eq_true', Bool.or_eq_false_iff] at h
    obtain ⟨⟨⟨⟨⟨⟨_, _⟩, h1⟩, h1'⟩, h2⟩, h3⟩, h4⟩ := h
    exact ⟨by rw [Bool.or_eq_false_iff]; exact ⟨h1, h1'⟩, h2, by rw [Bool.or_eq_false_iff]; exact h3, h4⟩
set_option maxRecDepth 100000 in
set_option maxHeartbeats 6400000 in
theorem go_GridEnds (a b : Int) (w : World) (ha : 0 ≤ a ∧ a ≤ 255) (hb : 0 ≤ b ∧ b ≤ 255) : Calls Try.prog 5 #[.int .u8 a, .int .u8 b] w fun e w' => e = .returned (.bool true) ∧ Below w.heap.size w w' := by
  have s0 := awake_any w
  obtain ⟨s, hs⟩ : ∃ s, a % 14 = s := ⟨_, rfl⟩
  obtain ⟨e, he⟩ : ∃ e, b % 34 = e := ⟨_, rfl⟩
  have HS : Hid (0 ≤ s ∧ s ≤ 13) := cover (by omega)
  have HE : Hid (0 ≤ e ∧ e ≤ 33) := cover (by omega)
  obtain ⟨l, n, k, hx⟩ : ∃ l n k, stepG s e = (l, n, k) := ⟨_, _, _, rfl⟩
  have HX := cover hx
  have hL : Hid (l.length ≤ 20) := cover (by have := stepG_short s e; rw [hx] at this; exact this)
  have HN : Hid (0 ≤ n ∧ n ≤ 13) := cover (by have := nextG_bd (e := e) HS.out; unfold nextG at this; rw [hx] at this; exact this)
  obtain ⟨c, hc⟩ : ∃ c : Int → Bool, ∀ a, l.contains a = c a := ⟨_, fun _ => rfl⟩
  obtain ⟨D, hD⟩ : ∃ D, decide (8 ≤ s) = D := ⟨_, rfl⟩
  obtain ⟨T, hT⟩ : ∃ T, decide (8 ≤ n) = T := ⟨_, rfl⟩
  obtain ⟨U, hU⟩ : ∃ U, (e == 2 || e == 3) = U := ⟨_, rfl⟩
  have F := cover (ends_in HS.out HE.out hx c hc D T U hD hT hU)
  have HU := cover hU
  have HD := cover hD
  have HT := cover hT
  have HC := cover hc
  have s1 := cover (fun W => step_at hx W)
  clear hx hD hT hU hc
  go_enter Try.func5, Try.ntmps5
  go_wp2_with fail
  refine s0.mono ?_
  rintro en w1 ⟨rfl, hb1⟩
  have HB1 := cover hb1
  clear hb1 s0
  go_wp2_with fail
  refine (s1.out _).mono ?_
  rintro en w2 ⟨A, m, rfl, H2⟩
  obtain ⟨w3, hw3⟩ : ∃ w3, Hid (w3 = w2.alloc (.cells (rowC A m n k) 25)) := ⟨_, cover rfl⟩
  obtain ⟨g, hg⟩ : ∃ g, Hid (w2.heap.size = g) := ⟨_, cover rfl⟩
  have H3 : Hid (RowVar w.heap.size w w3 g A m n k l) := cover (by rw [hw3.out, ← hg.out]; exact RowVar.made HB1.out HB1.out.size hL.out H2)
  have HM : Hid (m = l.length) := cover H2.out.1.out.1
  clear s1 HB1 H2
  go_upto_region 5 with fail
  rw [← hw3.out, hg.out]
  clear hw3 hg
  obtain ⟨c0, c1, c2⟩ := H3.out.cells
  clear hs he
  rcases k with _ | _
  · have F0 := F.out.1 rfl
    obtain rfl : m = 0 := by rw [HM.out]; exact F0.1
    have hns : n = s := F0.2
    have hns' : (n == s) = true := by simpa using hns
    clear hns F0
    go_wp2
    go_ret
    exact ⟨rfl, H3.out.bel⟩
  have F8 := cover (F.out.2 rfl).1
  have F11 := cover (F.out.2 rfl).2.1
  have F13 := cover (F.out.2 rfl).2.2.1
  have F15 := cover (F.out.2 rfl).2.2.2
  clear F
  have hc := HC.out
  go_upto_region 7 with fail
  go_quiet (fail)
  rw [HD.out, HT.out]
  have hn1 : ¬ n < 0 := by have := HN.out; omega
  have hn2 : ¬ 13 < n := by have := HN.out; omega
  generalize hw4 : w3.drewN nq = w4
  have H4 : Hid (RowVar w.heap.size w w4 g A m n true l) := cover (by rw [← hw4]; exact H3.out.below (below_drewN (Below.refl _ _) _))
  clear hw4 H3 c0 c1 c2
  go_upto_region 8 with fail
  go_cut [73] (fun v wx => v = .bool false ∧ Hid (RowVar w.heap.size w wx g A m n true l))
  case first =>
    obtain ⟨c0, c1, c2⟩ := H4.out.cells
    have sh := cover (has_at H4 10)
    rw [hc] at sh
    go_wp2_with fail
    refine sh.out.mono ?_
    rintro e w5 ⟨rfl, H5⟩
    clear sh c0 c1 c2 H4
    obtain ⟨c0, c1, c2⟩ := H5.out.cells
    obtain ⟨b10, k10⟩ : ∃ x, Hid (c 10 = x) := ⟨_, cover rfl⟩
    rw [k10.out]
    rcases b10 with _ | _
    · rcases D with _ | _
      · rcases T with _ | _
        · have sh := cover (has_at H5 18)
          rw [hc] at sh
          go_wp2_with fail
          refine sh.out.mono ?_
          rintro e w6 ⟨rfl, H6⟩
          clear sh c0 c1 c2 H5
          obtain ⟨c0, c1, c2⟩ := H6.out.cells
          obtain ⟨b18, k18⟩ : ∃ x, Hid (c 18 = x) := ⟨_, cover rfl⟩
          rw [k18.out]
          rcases b18 with _ | _
          · have sh := cover (has_at H6 31)
            rw [hc] at sh
            go_wp2_with fail
            refine sh.out.mono ?_
            rintro e w7 ⟨rfl, H7⟩
            clear sh c0 c1 c2 H6
            obtain ⟨c0, c1, c2⟩ := H7.out.cells
            obtain ⟨b31, k31⟩ : ∃ x, Hid (c 31 = x) := ⟨_, cover rfl⟩
            rw [k31.out]
            rcases b31 with _ | _
            · have sh := cover (has_at H7 19)
              rw [hc] at sh
              go_wp2_with fail
              refine sh.out.mono ?_
              rintro e w8 ⟨rfl, H8⟩
              clear sh c0 c1 c2 H7
              obtain ⟨c0, c1, c2⟩ := H8.out.cells
              obtain ⟨b19, k19⟩ : ∃ x, Hid (c 19 = x) := ⟨_, cover rfl⟩
              rw [k19.out]
              rcases b19 with _ | _
              · go_wp2
                go_meet
                exact ⟨rfl, H8⟩
              · exfalso
                have hf := F8.out
                simp [k10.out, HD.out, HT.out, k18.out, k31.out, k19.out] at hf
            · exfalso
              have hf := F8.out
              simp [k10.out, HD.out, HT.out, k18.out, k31.out] at hf
          · exfalso
            have hf := F8.out
            simp [k10.out, HD.out, HT.out, k18.out] at hf
        · exfalso
          have hf := F8.out
          simp [k10.out, HD.out, HT.out] at hf
      · have sh := cover (has_at H5 18)
        rw [hc] at sh
        go_wp2_with fail
        refine sh.out.mono ?_
        rintro e w6 ⟨rfl, H6⟩
        clear sh c0 c1 c2 H5
        obtain ⟨c0, c1, c2⟩ := H6.out.cells
        obtain ⟨b18, k18⟩ : ∃ x, Hid (c 18 = x) := ⟨_, cover rfl⟩
        rw [k18.out]
        rcases b18 with _ | _
        · have sh := cover (has_at H6 31)
          rw [hc] at sh
          go_wp2_with fail
          refine sh.out.mono ?_
          rintro e w7 ⟨rfl, H7⟩
          clear sh c0 c1 c2 H6
          obtain ⟨c0, c1, c2⟩ := H7.out.cells
          obtain ⟨b31, k31⟩ : ∃ x, Hid (c 31 = x) := ⟨_, cover rfl⟩
          rw [k31.out]
          rcases b31 with _ | _
          · have sh := cover (has_at H7 19)
            rw [hc] at sh
            go_wp2_with fail
            refine sh.out.mono ?_
            rintro e w8 ⟨rfl, H8⟩
            clear sh c0 c1 c2 H7
            obtain ⟨c0, c1, c2⟩ := H8.out.cells
            obtain ⟨b19, k19⟩ : ∃ x, Hid (c 19 = x) := ⟨_, cover rfl⟩
            rw [k19.out]
            rcases b19 with _ | _
            · go_wp2
              go_meet
              exact ⟨rfl, H8⟩
            · go_wp2
              go_meet
              exact ⟨rfl, H8⟩
          · go_wp2
            go_meet
            exact ⟨rfl, H7⟩
        · go_wp2
          go_meet
          exact ⟨rfl, H6⟩
    · rcases D with _ | _
      · rcases T with _ | _
        · exfalso
          have hf := F8.out
          simp [k10.out, HD.out, HT.out] at hf
        · have sh := cover (has_at H5 18)
          rw [hc] at sh
          go_wp2_with fail
          refine sh.out.mono ?_
          rintro e w6 ⟨rfl, H6⟩
          clear sh c0 c1 c2 H5
          obtain ⟨c0, c1, c2⟩ := H6.out.cells
          obtain ⟨b18, k18⟩ : ∃ x, Hid (c 18 = x) := ⟨_, cover rfl⟩
          rw [k18.out]
          rcases b18 with _ | _
          · have sh := cover (has_at H6 31)
            rw [hc] at sh
            go_wp2_with fail
            refine sh.out.mono ?_
            rintro e w7 ⟨rfl, H7⟩
            clear sh c0 c1 c2 H6
            obtain ⟨c0, c1, c2⟩ := H7.out.cells
            obtain ⟨b31, k31⟩ : ∃ x, Hid (c 31 = x) := ⟨_, cover rfl⟩
            rw [k31.out]
            rcases b31 with _ | _
            · have sh := cover (has_at H7 19)
              rw [hc] at sh
              go_wp2_with fail
              refine sh.out.mono ?_
              rintro e w8 ⟨rfl, H8⟩
              clear sh c0 c1 c2 H7
              obtain ⟨c0, c1, c2⟩ := H8.out.cells
              obtain ⟨b19, k19⟩ : ∃ x, Hid (c 19 = x) := ⟨_, cover rfl⟩
              rw [k19.out]
              rcases b19 with _ | _
              · go_wp2
                go_meet
                exact ⟨rfl, H8⟩
              · exfalso
                have hf := F8.out
                simp [k10.out, HD.out, HT.out, k18.out, k31.out, k19.out] at hf
            · exfalso
              have hf := F8.out
              simp [k10.out, HD.out, HT.out, k18.out, k31.out] at hf
          · exfalso
            have hf := F8.out
            simp [k10.out, HD.out, HT.out, k18.out] at hf
      · exfalso
        have hf := F8.out
        simp [k10.out, HD.out] at hf
  case rest =>
    obtain ⟨rfl, H5⟩ := hcut
    obtain ⟨w5, hw5⟩ : ∃ w5, w5 = wc := ⟨_, rfl⟩
    subst hw5
    clear H4
    go_upto_region 10 with fail
    go_cut [10] (fun v wx => v = .bool U ∧ Hid (RowVar w.heap.size w wx g A m n true l))
    case first =>
      rcases Bool.eq_false_or_eq_true (e == 2) with h | h
      · have hu : U = true := by rw [← HU.out, h]; rfl
        subst hu
        go_wp2
        go_meet
        exact ⟨rfl, H5⟩
      · rcases Bool.eq_false_or_eq_true (e == 3) with h3 | h3
        · have hu : U = true := by rw [← HU.out, h, h3]; rfl
          subst hu
          go_wp2
          go_meet
          exact ⟨rfl, H5⟩
        · have hu : U = false := by rw [← HU.out, h, h3]; rfl
          subst hu
          go_wp2
          go_meet
          exact ⟨rfl, H5⟩
    case rest =>
      obtain ⟨rfl, H6⟩ := hcut
      obtain ⟨w6, hw6⟩ : ∃ w6, w6 = wc := ⟨_, rfl⟩
      subst hw6
      clear H5
      go_upto_region 11 with fail
      go_cut [103] (fun v wx => v = .bool false ∧ Hid (RowVar w.heap.size w wx g A m n true l))
      case first =>
        obtain ⟨c0, c1, c2⟩ := H6.out.cells
        rcases D with _ | _
        · go_wp2
          go_meet
          exact ⟨rfl, H6⟩
        · rcases T with _ | _
          · rcases U with _ | _
            · have sh := cover (has_at H6 7)
              rw [hc] at sh
              go_wp2_with fail
              refine sh.out.mono ?_
              rintro e w7 ⟨rfl, H7⟩
              clear sh c0 c1 c2 H6
              obtain ⟨c0, c1, c2⟩ := H7.out.cells
              obtain ⟨b7, k7⟩ : ∃ x, Hid (c 7 = x) := ⟨_, cover rfl⟩
              rw [k7.out]
              rcases b7 with _ | _
              · have sh := cover (has_at H7 8)
                rw [hc] at sh
                go_wp2_with fail
                refine sh.out.mono ?_
                rintro e w8 ⟨rfl, H8⟩
                clear sh c0 c1 c2 H7
                obtain ⟨c0, c1, c2⟩ := H8.out.cells
                obtain ⟨b8, k8⟩ : ∃ x, Hid (c 8 = x) := ⟨_, cover rfl⟩
                rw [k8.out]
                rcases b8 with _ | _
                · have sh := cover (has_at H8 4)
                  rw [hc] at sh
                  go_wp2_with fail
                  refine sh.out.mono ?_
                  rintro e w9 ⟨rfl, H9⟩
                  clear sh c0 c1 c2 H8
                  obtain ⟨c0, c1, c2⟩ := H9.out.cells
                  obtain ⟨b4, k4⟩ : ∃ x, Hid (c 4 = x) := ⟨_, cover rfl⟩
                  rw [k4.out]
                  rcases b4 with _ | _
                  · exfalso
                    have hf := F11.out
                    simp [HD.out, HT.out, HU.out, k7.out, k8.out, k4.out] at hf
                  · go_wp2
                    go_meet
                    exact ⟨rfl, H9⟩
                · go_wp2
                  go_meet
                  exact ⟨rfl, H8⟩
              · go_wp2
                go_meet
                exact ⟨rfl, H7⟩
            · go_wp2
              go_meet
              exact ⟨rfl, H6⟩
          · go_wp2
            go_meet
            exact ⟨rfl, H6⟩
      case rest =>
        obtain ⟨rfl, H7⟩ := hcut
        obtain ⟨w7, hw7⟩ : ∃ w7, w7 = wc := ⟨_, rfl⟩
        subst hw7
        clear H6
        go_upto_region 13 with fail
        go_cut [134] (fun v wx => v = .bool false ∧ Hid (RowVar w.heap.size w wx g A m n true l))
        case first =>
          obtain ⟨c0, c1, c2⟩ := H7.out.cells
          rcases Decidable.em (11 ≤ n) with n11 | n11
          · have n11' : ¬ (n < 11) := by omega
            rcases Decidable.em (11 ≤ s) with s11 | s11
            · have s11' : ¬ (s < 11) := by omega
              have n8 : 8 ≤ n := by omega
              have n8' : ¬ (n < 8) := by omega
              go_wp2
              go_meet
              exact ⟨rfl, H7⟩
            · have s11' : s < 11 := by omega
              have sh := cover (has_at H7 14)
              rw [hc] at sh
              go_wp2_with fail
              refine sh.out.mono ?_
              rintro e w8 ⟨rfl, H8⟩
              clear sh c0 c1 c2 H7
              obtain ⟨c0, c1, c2⟩ := H8.out.cells
              obtain ⟨b14, k14⟩ : ∃ x, Hid (c 14 = x) := ⟨_, cover rfl⟩
              rw [k14.out]
              rcases b14 with _ | _
              · exfalso
                have hf := F13.out
                simp [n11, n11', s11, s11', k14.out] at hf
              · go_wp2
                go_meet
                exact ⟨rfl, H8⟩
          · have n11' : n < 11 := by omega
            rcases Decidable.em (11 ≤ s) with s11 | s11
            · have s11' : ¬ (s < 11) := by omega
              rcases Decidable.em (8 ≤ n) with n8 | n8
              · have n8' : ¬ (n < 8) := by omega
                have sh := cover (has_at H7 33)
                rw [hc] at sh
                go_wp2_with fail
                refine sh.out.mono ?_
                rintro e w8 ⟨rfl, H8⟩
                clear sh c0 c1 c2 H7
                obtain ⟨c0, c1, c2⟩ := H8.out.cells
                obtain ⟨b33, k33⟩ : ∃ x, Hid (c 33 = x) := ⟨_, cover rfl⟩
                rw [k33.out]
                rcases b33 with _ | _
                · exfalso
                  have hf := F13.out
                  simp [n11, n11', s11, s11', n8, n8', k33.out] at hf
                · go_wp2
                  go_meet
                  exact ⟨rfl, H8⟩
              · have n8' : n < 8 := by omega
                go_wp2
                go_meet
                exact ⟨rfl, H7⟩
            · have s11' : s < 11 := by omega
              go_wp2
              go_meet
              exact ⟨rfl, H7⟩
        case rest =>
          obtain ⟨rfl, H8⟩ := hcut
          obtain ⟨w8, hw8⟩ : ∃ w8, w8 = wc := ⟨_, rfl⟩
          subst hw8
          clear H7
          obtain ⟨c0, c1, c2⟩ := H8.out.cells
          rcases D with _ | _
          · go_wp2
            go_ret
            exact ⟨rfl, H8.out.bel⟩
          · rcases T with _ | _
            · have sh := cover (has_at H8 12)
              rw [hc] at sh
              go_wp2_with fail
              refine sh.out.mono ?_
              rintro e w9 ⟨rfl, H9⟩
              clear sh c0 c1 c2 H8
              obtain ⟨c0, c1, c2⟩ := H9.out.cells
              obtain ⟨b12, k12⟩ : ∃ x, Hid (c 12 = x) := ⟨_, cover rfl⟩
              rw [k12.out]
              rcases b12 with _ | _
              · exfalso
                have hf := F15.out
                simp [HD.out, HT.out, k12.out] at hf
              · go_wp2
                go_ret
                exact ⟨rfl, H9.out.bel⟩
            · go_wp2
              go_ret
              exact ⟨rfl, H8.out.bel⟩
theorem walk_GridEnds (a b : Int) (w : World) (ha : (Lit.int .u8 a).wf = true) (hb : (Lit.int .u8 b).wf = true) : Calls Try.prog 5 #[.int .u8 a, .int .u8 b] w fun e w' => e = .returned (.bool true) ∧ Below w.heap.size w w' := by
  simp only [Lit.wf, Bool.and_eq_true, decide_eq_true_eq] at ha hb
  exact go_GridEnds a b w ha hb
end Go.Proofs.Ytlffhnplcgmhlaa
