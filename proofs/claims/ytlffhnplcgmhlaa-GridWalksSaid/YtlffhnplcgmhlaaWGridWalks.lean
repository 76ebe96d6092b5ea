/- The walk of GridWalks. Written by gen/gengwalks.py. -/
import Derived.Laws.Bits128
import Derived.BigQuiet
import Derived.Deep.CutBlock
import Derived.Deep.DeepCutAuto
import Derived.Test.YtlffhnplcgmhlaaJVar
import Derived.Test.YtlffhnplcgmhlaaOFrame
namespace Go.Proofs.Ytlffhnplcgmhlaa
open Go.RowKit
set_option linter.unusedVariables false
set_option linter.unusedSimpArgs false

set_option maxRecDepth 100000 in
set_option maxHeartbeats 6400000 in
theorem go_GridWalks (A0 : Option Addr) (len cap : Nat) (ls : List Int) (w : World) (hr : Row w w.heap.size A0 len ls) (hbt : Bts ls) : Calls Try.prog 7 #[.slice A0 len cap] w fun e w' => e = .returned (.bool true) ∧ Below w.heap.size w w' := by
  have s0 := awake_any w
  have HR0 : Hid (∀ W, Below w.heap.size w W → Row W w.heap.size A0 len ls) := cover (fun W hW => hr.below hW)
  have HBT := cover hbt
  have HL := cover hr.len
  clear hr hbt
  go_enter Try.func7, Try.ntmps7
  go_wp2_with fail
  refine s0.mono ?_
  rintro en w1 ⟨rfl, hb1⟩
  have HB1 : Hid (Below w.heap.size w w1 ∧ w.heap.size ≤ w1.heap.size) := cover ⟨hb1, hb1.size⟩
  clear hb1 s0
  by_cases hbig : 300 < len
  · go_wp2
    go_ret
    exact ⟨rfl, HB1.out.1⟩
  go_wp2
  go_loopw [3, 4, 5] (fun sv tv iv wr => ∃ j : Nat, j ≤ len ∧ iv = .int .i64 j ∧ ∃ s told, sv = .int .i64 s ∧ tv = .bool told ∧ Hid (walkG s told) ∧ Hid (Below w.heap.size w wr ∧ w.heap.size ≤ wr.heap.size)) (fun _ _ i _ => len - (intOf i).toNat)
  case atStart => exact ⟨0, Nat.zero_le _, rfl, 0, true, rfl, rfl, cover ⟨by omega, .inl rfl⟩, HB1⟩
  case round =>
    obtain ⟨j, hj, rfl, s, told, rfl, rfl, HW, HB⟩ := hrel
    by_cases hlt : j < len
    · obtain ⟨ad, y, rfl, hbb, hcc, hy⟩ := (HR0.out wr HB.out.1).at_ hlt
      have hyb := HBT.out y (List.mem_of_getElem? hy.out)
      obtain ⟨e, he⟩ : ∃ e, y % 34 = e := ⟨_, rfl⟩
      have HE : Hid (0 ≤ e ∧ e ≤ 33) := cover (by omega)
      obtain ⟨l, n, k, hx⟩ : ∃ l n k, stepG s e = (l, n, k) := ⟨_, _, _, rfl⟩
      have hL : Hid (l.length ≤ 20) := cover (by have := stepG_short s e; rw [hx] at this; exact this)
      obtain ⟨c, hc⟩ : ∃ c : Int → Bool, ∀ a, l.contains a = c a := ⟨_, fun _ => rfl⟩
      have hh : ∀ a, hasG s e a = c a := fun a => by unfold hasG; rw [hx]; exact hc a
      have hnx : nextG s e = n := by unfold nextG; rw [hx]
      obtain ⟨U, hU⟩ : ∃ U, toldG s e = U := ⟨_, rfl⟩
      have F := walk_all HW.out HE.out
      rw [hU, hnx, hh, hh] at F
      unfold toldG at hU
      rw [hh, hh, hh] at hU
      have HU := cover hU
      have F10 := cover F.1
      have F18 := cover F.2.1
      have FN := cover F.2.2
      have HC := cover hc
      have s1 := cover (step_at hx wr)
      clear hx hnx hh hU hc F hbb
      go_upto_region 11 with fail
      rw [he]
      clear hcc he hyb
      go_wp2_with fail
      refine s1.out.mono ?_
      rintro en w2 ⟨A, m, rfl, H2⟩
      obtain ⟨w3, hw3⟩ : ∃ w3, Hid (w3 = w2.alloc (.cells (rowC A m n k) 25)) := ⟨_, cover rfl⟩
      obtain ⟨g, hg⟩ : ∃ g, Hid (w2.heap.size = g) := ⟨_, cover rfl⟩
      have H3 : Hid (RowVar w.heap.size w w3 g A m n k l) := cover (by rw [hw3.out, ← hg.out]; exact RowVar.made HB.out.1 HB.out.2 hL.out H2)
      clear s1 H2 HB
      go_upto_region 12 with fail
      rw [← hw3.out, hg.out]
      clear hw3 hg
      have hc := HC.out
      go_cut [49] (fun v wx => v = .bool U ∧ Hid (RowVar w.heap.size w wx g A m n k l))
      case first =>
        obtain ⟨c0, c1, c2⟩ := H3.out.cells
        rcases Bool.eq_false_or_eq_true (e == 0) with e0 | e0
        · have hu : U = true := by rw [← HU.out]; simp only [e0, Bool.and_true, Bool.true_and, Bool.and_false, Bool.false_and, Bool.or_true, Bool.true_or, Bool.or_false, Bool.false_or, Bool.not_true, Bool.not_false, decide_true, decide_false, Bool.true_eq_false, Bool.false_eq_true, reduceCtorEq]
          go_wp2
          go_meet
          exact ⟨by rw [hu], H3⟩
        · rcases Bool.eq_false_or_eq_true (e == 3) with e3 | e3
          · have hu : U = true := by rw [← HU.out]; simp only [e0, e3, Bool.and_true, Bool.true_and, Bool.and_false, Bool.false_and, Bool.or_true, Bool.true_or, Bool.or_false, Bool.false_or, Bool.not_true, Bool.not_false, decide_true, decide_false, Bool.true_eq_false, Bool.false_eq_true, reduceCtorEq]
            go_wp2
            go_meet
            exact ⟨by rw [hu], H3⟩
          · rcases Bool.eq_false_or_eq_true (e == 2) with e2 | e2
            · have hu : U = true := by rw [← HU.out]; simp only [e0, e3, e2, Bool.and_true, Bool.true_and, Bool.and_false, Bool.false_and, Bool.or_true, Bool.true_or, Bool.or_false, Bool.false_or, Bool.not_true, Bool.not_false, decide_true, decide_false, Bool.true_eq_false, Bool.false_eq_true, reduceCtorEq]
              go_wp2
              go_meet
              exact ⟨by rw [hu], H3⟩
            · have sh := cover (has_at H3 5)
              rw [hc] at sh
              go_wp2_with fail
              refine sh.out.mono ?_
              rintro e w4 ⟨rfl, H4⟩
              clear sh c0 c1 c2 H3
              obtain ⟨c0, c1, c2⟩ := H4.out.cells
              obtain ⟨b5, k5⟩ : ∃ x, Hid (c 5 = x) := ⟨_, cover rfl⟩
              rw [k5.out]
              rcases b5 with _ | _
              · have sh := cover (has_at H4 8)
                rw [hc] at sh
                go_wp2_with fail
                refine sh.out.mono ?_
                rintro e w5 ⟨rfl, H5⟩
                clear sh c0 c1 c2 H4
                obtain ⟨c0, c1, c2⟩ := H5.out.cells
                obtain ⟨b8, k8⟩ : ∃ x, Hid (c 8 = x) := ⟨_, cover rfl⟩
                rw [k8.out]
                rcases b8 with _ | _
                · have sh := cover (has_at H5 7)
                  rw [hc] at sh
                  go_wp2_with fail
                  refine sh.out.mono ?_
                  rintro e w6 ⟨rfl, H6⟩
                  clear sh c0 c1 c2 H5
                  obtain ⟨c0, c1, c2⟩ := H6.out.cells
                  obtain ⟨b7, k7⟩ : ∃ x, Hid (c 7 = x) := ⟨_, cover rfl⟩
                  rw [k7.out]
                  rcases b7 with _ | _
                  · have hu : U = false := by rw [← HU.out]; simp only [e0, e3, e2, k5.out, k8.out, k7.out, Bool.and_true, Bool.true_and, Bool.and_false, Bool.false_and, Bool.or_true, Bool.true_or, Bool.or_false, Bool.false_or, Bool.not_true, Bool.not_false, decide_true, decide_false, Bool.true_eq_false, Bool.false_eq_true, reduceCtorEq]
                    go_wp2
                    go_meet
                    exact ⟨by rw [hu], H6⟩
                  · have hu : U = true := by rw [← HU.out]; simp only [e0, e3, e2, k5.out, k8.out, k7.out, Bool.and_true, Bool.true_and, Bool.and_false, Bool.false_and, Bool.or_true, Bool.true_or, Bool.or_false, Bool.false_or, Bool.not_true, Bool.not_false, decide_true, decide_false, Bool.true_eq_false, Bool.false_eq_true, reduceCtorEq]
                    go_wp2
                    go_meet
                    exact ⟨by rw [hu], H6⟩
                · have hu : U = true := by rw [← HU.out]; simp only [e0, e3, e2, k5.out, k8.out, Bool.and_true, Bool.true_and, Bool.and_false, Bool.false_and, Bool.or_true, Bool.true_or, Bool.or_false, Bool.false_or, Bool.not_true, Bool.not_false, decide_true, decide_false, Bool.true_eq_false, Bool.false_eq_true, reduceCtorEq]
                  go_wp2
                  go_meet
                  exact ⟨by rw [hu], H5⟩
              · have hu : U = true := by rw [← HU.out]; simp only [e0, e3, e2, k5.out, Bool.and_true, Bool.true_and, Bool.and_false, Bool.false_and, Bool.or_true, Bool.true_or, Bool.or_false, Bool.false_or, Bool.not_true, Bool.not_false, decide_true, decide_false, Bool.true_eq_false, Bool.false_eq_true, reduceCtorEq]
                go_wp2
                go_meet
                exact ⟨by rw [hu], H4⟩
      case rest =>
        obtain ⟨rfl, H4⟩ := hcut
        obtain ⟨w4, hw4⟩ : ∃ w4, w4 = wc := ⟨_, rfl⟩
        subst hw4
        clear H3 HU
        go_upto_if 49 with fail
        obtain ⟨V, hV⟩ : ∃ V, (told || U) = V := ⟨_, rfl⟩
        rw [hV] at F10 FN
        have HV := cover hV
        clear hV
        go_cut [4] (fun v wx => v = .bool V ∧ Hid (RowVar w.heap.size w wx g A m n k l))
        case first =>
          rcases U with _ | _
          · have hv : V = told := by rw [← HV.out]; simp
            go_wp2
            go_meet
            exact ⟨by rw [hv], H4⟩
          · have hv : V = true := by rw [← HV.out]; simp
            go_wp2
            go_meet
            exact ⟨by rw [hv], H4⟩
        case rest =>
          obtain ⟨rfl, H5⟩ := hcut
          obtain ⟨w5, hw5⟩ : ∃ w5, w5 = wc := ⟨_, rfl⟩
          subst hw5
          clear H4 HV
          obtain ⟨c0, c1, c2⟩ := H5.out.cells
          have hn1 : ¬ n < 0 := by have := FN.out.1; omega
          have hn2 : ¬ 13 < n := by have := FN.out.1; omega
          have sh := cover (has_at H5 10)
          rw [hc] at sh
          go_wp2_with fail
          refine sh.out.mono ?_
          rintro en w6 ⟨rfl, H6⟩
          clear sh c0 c1 c2 H5
          obtain ⟨b10, k10⟩ : ∃ x, c 10 = x := ⟨_, rfl⟩
          rw [k10] at F10 FN ⊢
          clear k10
          rcases b10 with _ | _
          · have HW' : Hid (walkG n V) := cover (by have := FN.out; simpa using this)
            clear F10 FN
            go_upto_region 18 with fail
            go_cut [69] (fun v wx => v = .bool false ∧ Hid (RowVar w.heap.size w wx g A m n k l))
            case first =>
              obtain ⟨c0, c1, c2⟩ := H6.out.cells
              have sh := cover (has_at H6 31)
              rw [hc] at sh
              go_wp2_with fail
              refine sh.out.mono ?_
              rintro e w7 ⟨rfl, H7⟩
              clear sh c0 c1 c2 H6
              obtain ⟨c0, c1, c2⟩ := H7.out.cells
              obtain ⟨b31, k31⟩ : ∃ x, Hid (c 31 = x) := ⟨_, cover rfl⟩
              rw [k31.out]
              rcases b31 with _ | _
              · go_wp2
                go_meet
                exact ⟨by first | rfl | (simp; omega), H7⟩
              · rcases Decidable.em (s < 8) with s8 | s8
                · have s8' : ¬ (8 ≤ s) := by omega
                  exfalso
                  have hf := F18.out k31.out
                  omega
                · have s8' : 8 ≤ s := by omega
                  go_wp2
                  go_meet
                  exact ⟨by first | rfl | (simp; omega), H7⟩
            case rest =>
              obtain ⟨rfl, H8⟩ := hcut
              obtain ⟨w8, hw8⟩ : ∃ w8, w8 = wc := ⟨_, rfl⟩
              subst hw8
              clear H6
              obtain ⟨c0, c1, c2⟩ := H8.out.cells
              have HB8 : Hid (Below w.heap.size w w8 ∧ w.heap.size ≤ w8.heap.size) := cover ⟨H8.out.bel, H8.out.le⟩
              clear H8
              go_wp2
              go_roundw
              case rel => exact ⟨j + 1, by omega, by go_num, n, _, rfl, rfl, HW', HB8⟩
              case measure => simp [intOf]; omega
          · have hv : V = true := F10.out rfl
            subst hv
            have HW' : Hid (walkG n false) := cover (by have := FN.out; simpa using this)
            clear F10 FN
            go_upto_region 18 with fail
            go_cut [69] (fun v wx => v = .bool false ∧ Hid (RowVar w.heap.size w wx g A m n k l))
            case first =>
              obtain ⟨c0, c1, c2⟩ := H6.out.cells
              have sh := cover (has_at H6 31)
              rw [hc] at sh
              go_wp2_with fail
              refine sh.out.mono ?_
              rintro e w7 ⟨rfl, H7⟩
              clear sh c0 c1 c2 H6
              obtain ⟨c0, c1, c2⟩ := H7.out.cells
              obtain ⟨b31, k31⟩ : ∃ x, Hid (c 31 = x) := ⟨_, cover rfl⟩
              rw [k31.out]
              rcases b31 with _ | _
              · go_wp2
                go_meet
                exact ⟨by first | rfl | (simp; omega), H7⟩
              · rcases Decidable.em (s < 8) with s8 | s8
                · have s8' : ¬ (8 ≤ s) := by omega
                  exfalso
                  have hf := F18.out k31.out
                  omega
                · have s8' : 8 ≤ s := by omega
                  go_wp2
                  go_meet
                  exact ⟨by first | rfl | (simp; omega), H7⟩
            case rest =>
              obtain ⟨rfl, H8⟩ := hcut
              obtain ⟨w8, hw8⟩ : ∃ w8, w8 = wc := ⟨_, rfl⟩
              subst hw8
              clear H6
              obtain ⟨c0, c1, c2⟩ := H8.out.cells
              have HB8 : Hid (Below w.heap.size w w8 ∧ w.heap.size ≤ w8.heap.size) := cover ⟨H8.out.bel, H8.out.le⟩
              clear H8
              go_wp2
              go_roundw
              case rel => exact ⟨j + 1, by omega, by go_num, n, _, rfl, rfl, HW', HB8⟩
              case measure => simp [intOf]; omega
    · obtain rfl : j = len := by omega
      go_wp2
      go_ret
      exact ⟨rfl, HB.out.1⟩
theorem walk_GridWalks (A0 : Option Addr) (len cap : Nat) (ls : List Int) (w : World) (hlc : len ≤ cap) (hcm : cap ≤ maxLen) (hr : Row w w.heap.size A0 len ls) (hb : ∀ x ∈ ls, (Lit.int .u8 x).wf = true) : Calls Try.prog 7 #[.slice A0 len cap] w fun e w' => e = .returned (.bool true) ∧ Below w.heap.size w w' := go_GridWalks A0 len cap ls w hr (bts_of_wf hb)
end Go.Proofs.Ytlffhnplcgmhlaa
