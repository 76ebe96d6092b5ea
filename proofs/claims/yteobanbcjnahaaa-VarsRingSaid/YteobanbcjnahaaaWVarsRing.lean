/- The walk of VarsRing. -/
import Derived.Deep.CutBlock
import Derived.Deep.DeepCutAuto
import Derived.Deep.RegionHeld3
import Derived.Test.YteobanbcjnahaaaVAwake
import Derived.Test.YteobanbcjnahaaaKWords
namespace Go.Proofs.Yteobanbcjnahaaa
open Go.RowKit
set_option linter.unusedVariables false
set_option linter.unusedSimpArgs false

/-- ahead of round j: so many sent, so many acknowledged, in all -/
def RingAt (B : Nat) (W0 : World) (t : Nat) (j : Nat) (s a : Int) (W : World) : Prop := ∃ v, VaOne B W0 W t v ∧ RingV v s a ∧ s ≤ 64 * j
set_option maxRecDepth 100000 in
set_option maxHeartbeats 800000 in
theorem walk_VarsRing (A : Option Addr) (len cap : Nat) (l : List Int) (w : World) (hlc : len ≤ cap) (hcm : cap ≤ maxLen) (hr : Row w w.heap.size A len l) (hbt : ∀ x ∈ l, (Lit.int .u8 x).wf = true) :
    Calls Try.prog 5 #[.slice A len cap] w fun e w' => e = .returned (.bool true) ∧ Below w.heap.size w w' := by
  obtain ⟨b, hb⟩ : ∃ b, b = w.heap.size := ⟨_, rfl⟩
  have HG := cover hb
  rw [← hb] at hr
  have HR := cover hr
  have HBT : Hid (Bts l) := cover fun x hx => u8_wf (hbt x hx)
  have s0 := cover (awake_any w)
  clear hb hr hbt
  go_enter Try.func5, Try.ntmps5
  go_wp2_with fail
  refine s0.out.mono ?_
  rintro e w0 ⟨rfl, h0⟩
  have H0 := cover h0
  clear h0 s0
  by_cases hlong : (800 : Int) < (len : Int)
  · go_wp2
    go_ret
    exact ⟨rfl, H0.out⟩
  have HL : Hid (len ≤ 800) := cover (by omega)
  have HD8 : Hid (decide ((800 : Int) < (len : Int)) = false) := cover (decide_eq_false hlong)
  have hl : ¬ (800 : Int) < (len : Int) := hlong
  clear hlong
  obtain ⟨t, ht⟩ : ∃ t, t = w0.heap.size := ⟨_, rfl⟩
  obtain ⟨w1, hw1⟩ : ∃ w1, w1 = w0.alloc (.cells (vC 0 0 0) 26) := ⟨_, rfl⟩
  have H1 : Hid (VaOne b w w1 t zVV) := cover (by rw [hw1, ht]; exact VaOne.new (by rw [HG.out]; exact H0.out) (by rw [HG.out]; exact H0.out.size))
  go_upto_region 6 with fail
  rw [← hw1, ← ht]
  clear hw1 ht hl
  go_wp2_with fail
  simp only [HD8.out]
  go_loopw [4, 5, 6] (fun sv av iv wr => ∃ (j : Nat) (s a : Int), j ≤ len ∧ sv = .int .i64 s ∧ av = .int .i64 a ∧ iv = .int .i64 j ∧ Hid (RingAt b w t j s a wr)) (fun _ _ iv _ => len - (intOf iv).toNat)
  case atStart => exact ⟨0, 0, 0, by omega, rfl, rfl, rfl, cover ⟨zVV, H1.out, RingV.zero, by omega⟩⟩
  case round =>
    clear H1 H0
    obtain ⟨j, s, a, hj, rfl, rfl, rfl, hrel⟩ := hrel
    by_cases hlt : j < len
    · obtain ⟨v, h2, h3, h4⟩ := hrel.out
      obtain ⟨ad, x, rfl, hbl, hxw, hget⟩ := HR.out.at_ hlt
      have HXW : Hid (∀ W, Below b w W → W.cell? (ad.add j) = some (.int .u8 x)) := cover fun W hW => (hW.cell (by rw [addr_add_block]; exact hbl)).trans hxw
      have hx := HXW.out _ h2.bel
      clear hxw
      have hxb := HBT.out x (List.mem_of_getElem? hget.out)
      have HX := cover hxb
      have HS : Hid (VaOne b w wr t v ∧ RingV v s a) := cover ⟨h2, h3⟩
      have HB : Hid (s ≤ 64 * j ∧ 0 ≤ a ∧ a ≤ s ∧ s ≤ a + 127) := cover ⟨h4, h3.2.2.1, h3.2.2.2.1, h3.2.2.2.2⟩
      clear h2 h3 h4 hrel
      have hlt' : (j : Int) < (len : Int) := by omega
      obtain ⟨q, hq⟩ : ∃ q, x % 4 = q := ⟨_, rfl⟩
      have HQ : Hid (0 ≤ q ∧ q ≤ 3) := cover (by omega)
      obtain ⟨c, hc⟩ : ∃ c, x / 4 = c := ⟨_, rfl⟩
      have HC : Hid (0 ≤ c ∧ c ≤ 63) := cover (by omega)
      go_upto_block 2 with fail
      rw [hq]
      clear hq
      go_cut [4, 5] (fun sv av wx => ∃ s' a', sv = .int .i64 s' ∧ av = .int .i64 a' ∧ Hid (RingAt b w t (j + 1) s' a' wx))
      case first =>
        by_cases hq2 : q = 2
        · have b0 : (q == 0) = false := by rw [hq2]; rfl
          have b1 : (q == 1) = false := by rw [hq2]; rfl
          have b2 : (q == 2) = true := by rw [hq2]; rfl
          clear hq2
          obtain ⟨d, hd⟩ : ∃ d, Hid (s - a = d) := ⟨_, cover rfl⟩
          have hd0 : 0 ≤ d := by have := HB.out; have := hd.out; omega
          have hwd : wrap64 (s - a) = d := (IntWalk.wrap64_in _ ⟨by have := HB.out; have := HL.out; omega, by have := HB.out; have := HL.out; omega⟩).trans hd.out
          have hwd1 : wrap64 (d + 1) = d + 1 := IntWalk.wrap64_in _ ⟨by omega, by have := HB.out; have := hd.out; omega⟩
          have hdn : d + 1 ≠ 0 := by omega
          have hdn0 : 0 ≤ d + 1 := by omega
          have hc0 : 0 ≤ c := HC.out.1
          obtain ⟨u, hu⟩ : ∃ u, c % (d + 1) = u := ⟨_, rfl⟩
          have hu0 : 0 ≤ u := by rw [← hu]; exact Int.emod_nonneg _ hdn
          have HU : Hid (0 ≤ u ∧ u ≤ s - a) := cover (by have := Int.emod_lt_of_pos c (show 0 < d + 1 by omega); have := hd.out; omega)
          have E := cover (HS.out.2.acked HU.out.1 HU.out.2)
          have ha0 : 0 ≤ a := HB.out.2.1
          have hwa : wrap64 (a + u) = a + u := IntWalk.wrap64_in _ ⟨by omega, by have := HB.out; have := HL.out; have := HU.out; omega⟩
          have hau : 0 ≤ a + u := by omega
          obtain ⟨z, hz⟩ : ∃ z, (a + u) % 128 = z := ⟨_, rfl⟩
          rw [hz] at E
          go_wp2_with fail
          refine (acked_any HS.out.1.va z).mono ?_
          rw [E.out.1]
          rintro e w2 ⟨rfl, h5⟩
          have H5 := cover (HS.out.1.turn h5.out)
          have HNX : Hid (RingAt b w t (j + 1) s (a + u) w2) := cover ⟨_, H5.out, E.out.2, by have := HB.out; omega⟩
          clear h5 H5 E
          go_wp2
          go_meet
          exact ⟨s, a + u, rfl, by go_num, HNX⟩
        by_cases hq3 : q = 3
        · have b0 : (q == 0) = false := by rw [hq3]; rfl
          have b1 : (q == 1) = false := by rw [hq3]; rfl
          have b2 : (q == 2) = false := by rw [hq3]; rfl
          clear hq2 hq3
          obtain ⟨d, hd⟩ : ∃ d, Hid (s - a = d) := ⟨_, cover rfl⟩
          have hwd : wrap64 (s - a) = d := (IntWalk.wrap64_in _ ⟨by have := HB.out; have := HL.out; omega, by have := HB.out; have := HL.out; omega⟩).trans hd.out
          have E := cover HS.out.2.out
          rw [hd.out] at E
          go_wp2_with fail
          refine (back_any HS.out.1.va).mono ?_
          rw [E.out]
          rintro e w2 ⟨rfl, h5⟩
          have H5 := cover (HS.out.1.turn h5.out)
          have HNX : Hid (RingAt b w t (j + 1) a a w2) := cover ⟨_, H5.out, HS.out.2.back, by have := HB.out; omega⟩
          clear h5 H5 E
          go_wp2
          go_meet
          exact ⟨a, a, rfl, rfl, HNX⟩
        by_cases hq0 : q = 0
        · have b0 : (q == 0) = true := by rw [hq0]; rfl
          clear hq0 hq2 hq3
          go_wp2_with fail
          go_loopw [4, 7] (fun sv kv wr => ∃ (k : Nat) (s' : Int), (k : Int) ≤ c ∧ sv = .int .i64 s' ∧ kv = .int .i64 k ∧ Hid (∃ v, VaOne b w wr t v ∧ RingV v s' a ∧ s' ≤ 64 * j + k)) (fun _ kv _ => 64 - (intOf kv).toNat)
          case atStart => exact ⟨0, s, HC.out.1, rfl, rfl, cover ⟨v, HS.out.1, HS.out.2, by have := HB.out; omega⟩⟩
          case round =>
            clear hx
            obtain ⟨k, s', hk, rfl, rfl, hrel⟩ := hrel
            obtain ⟨v', h2, h3, h4⟩ := hrel.out
            have hx := HXW.out _ h2.bel
            have H2 := cover h2
            have H3 := cover h3
            have HB' : Hid (s' ≤ 64 * j + k ∧ 0 ≤ a ∧ a ≤ s' ∧ s' ≤ a + 127) := cover ⟨h4, h3.2.2.1, h3.2.2.2.1, h3.2.2.2.2⟩
            clear h2 h3 h4 hrel
            by_cases hlk : (k : Int) < c
            · have HK : Hid ((k : Int) + 1 ≤ c) := cover (by omega)
              have HN1 : Hid (s' ≤ 64 * j + (k + 1 : Nat) ∧ s' + 1 ≤ 64 * j + (k + 1 : Nat) ∧ ((k + 1 : Nat) : Int) ≤ c) := cover (by have := HB'.out; omega)
              have HW1 : Hid (wrap64 ((k : Int) + 1) = (k : Int) + 1) := cover (IntWalk.wrap64_in _ ⟨by omega, by have := HC.out; omega⟩)
              have HW3 : Hid (wrap64 (s' + 1) = s' + 1) := cover (IntWalk.wrap64_in _ ⟨by have := HB'.out; have := HL.out; omega, by have := HB'.out; have := HL.out; have := HC.out; omega⟩)
              obtain ⟨d, hd⟩ : ∃ d, Hid (s' - a = d) := ⟨_, cover rfl⟩
              have HW2 : Hid (wrap64 (s' - a) = d) := cover ((IntWalk.wrap64_in _ ⟨by have := HB'.out; have := HL.out; omega, by have := HB'.out; have := HL.out; omega⟩).trans hd.out)
              have hs0 : 0 ≤ s' := by have := HB'.out; omega
              by_cases hf : d = 127
              · have E := cover (H3.out.full (by rw [hd.out]; exact hf))
                have hfB : (d == 127) = true := by simpa using hf
                clear hf
                go_wp2_with fail
                refine (sent_any H2.out.va).mono ?_
                rw [E.out.1, E.out.2]
                rintro e w2 ⟨rfl, h5⟩
                have H5 := cover (H2.out.turn h5.out)
                clear h5 H2
                have HNX : Hid (∃ v, VaOne b w w2 t v ∧ RingV v s' a ∧ s' ≤ 64 * j + (k + 1 : Nat)) := cover ⟨v', H5.out, H3.out, HN1.out.1⟩
                clear H5 E
                clear hx hlt' hlt hj hlc hcm hxb hc hk hlk
                have hw := HW1.out
                have hwd := HW2.out
                go_wp2
                go_roundw
                case rel => exact ⟨k + 1, s', HN1.out.2.2, rfl, by go_num, HNX⟩
                case measure =>
                  have h9 := HK.out
                  have h8 := HC.out
                  rw [hw]
                  clear hw hwd
                  simp [intOf]
                  omega
              · have hfB : (d == 127) = false := by simpa using hf
                have E := cover (H3.out.sent (by rw [hd.out]; exact hf))
                obtain ⟨y, hy⟩ : ∃ y, s' % 128 = y := ⟨_, rfl⟩
                have hy0 : 0 ≤ y := by omega
                rw [hy] at E
                clear hf
                go_wp2_with fail
                refine (sent_any H2.out.va).mono ?_
                rw [E.out.1]
                rintro e w2 ⟨rfl, h5⟩
                have H5 := cover (H2.out.turn h5.out)
                clear h5 H2
                have HNX : Hid (∃ v, VaOne b w w2 t v ∧ RingV v (s' + 1) a ∧ s' + 1 ≤ 64 * j + (k + 1 : Nat)) := cover ⟨_, H5.out, E.out.2, HN1.out.2.1⟩
                clear H5 E
                clear hx hlt' hlt hj hlc hcm hxb hc hk hlk
                have hw := HW1.out
                have hwd := HW2.out
                go_wp2
                go_roundw
                case rel => exact ⟨k + 1, s' + 1, HN1.out.2.2, by rw [HW3.out], by go_num, HNX⟩
                case measure =>
                  have h9 := HK.out
                  have h8 := HC.out
                  rw [hw]
                  clear hw hwd
                  simp [intOf]
                  omega
            · have HNX : Hid (RingAt b w t (j + 1) s' a wr) := cover ⟨v', H2.out, H3.out, by have := HB'.out; have := HC.out; omega⟩
              clear H2 H3
              go_wp2
              go_meet
              exact ⟨s', a, rfl, rfl, HNX⟩
        have hq1 : q = 1 := by have := HQ.out; omega
        have b0 : (q == 0) = false := by rw [hq1]; rfl
        have b1 : (q == 1) = true := by rw [hq1]; rfl
        clear hq0 hq1 hq2 hq3
        go_wp2_with fail
        go_loopw [4, 7] (fun sv kv wr => ∃ (k : Nat) (s' : Int), (k : Int) ≤ c ∧ sv = .int .i64 s' ∧ kv = .int .i64 k ∧ Hid (∃ v, VaOne b w wr t v ∧ RingV v s' a ∧ s' ≤ 64 * j + k)) (fun _ kv _ => 64 - (intOf kv).toNat)
        case atStart => exact ⟨0, s, HC.out.1, rfl, rfl, cover ⟨v, HS.out.1, HS.out.2, by have := HB.out; omega⟩⟩
        case round =>
          clear hx
          obtain ⟨k, s', hk, rfl, rfl, hrel⟩ := hrel
          obtain ⟨v', h2, h3, h4⟩ := hrel.out
          have hx := HXW.out _ h2.bel
          have H2 := cover h2
          have H3 := cover h3
          have HB' : Hid (s' ≤ 64 * j + k ∧ 0 ≤ a ∧ a ≤ s' ∧ s' ≤ a + 127) := cover ⟨h4, h3.2.2.1, h3.2.2.2.1, h3.2.2.2.2⟩
          clear h2 h3 h4 hrel
          by_cases hlk : (k : Int) < c
          · have HK : Hid ((k : Int) + 1 ≤ c) := cover (by omega)
            have HN1 : Hid (s' ≤ 64 * j + (k + 1 : Nat) ∧ s' + 1 ≤ 64 * j + (k + 1 : Nat) ∧ ((k + 1 : Nat) : Int) ≤ c) := cover (by have := HB'.out; omega)
            have HW1 : Hid (wrap64 ((k : Int) + 1) = (k : Int) + 1) := cover (IntWalk.wrap64_in _ ⟨by omega, by have := HC.out; omega⟩)
            have HW3 : Hid (wrap64 (s' + 1) = s' + 1) := cover (IntWalk.wrap64_in _ ⟨by have := HB'.out; have := HL.out; omega, by have := HB'.out; have := HL.out; have := HC.out; omega⟩)
            obtain ⟨d, hd⟩ : ∃ d, Hid (s' - a = d) := ⟨_, cover rfl⟩
            have HW2 : Hid (wrap64 (s' - a) = d) := cover ((IntWalk.wrap64_in _ ⟨by have := HB'.out; have := HL.out; omega, by have := HB'.out; have := HL.out; omega⟩).trans hd.out)
            have hs0 : 0 ≤ s' := by have := HB'.out; omega
            by_cases hf : d = 127
            · have E := cover (H3.out.full (by rw [hd.out]; exact hf))
              have hfB : (d == 127) = true := by simpa using hf
              clear hf
              go_wp2_with fail
              refine (sent_any H2.out.va).mono ?_
              rw [E.out.1, E.out.2]
              rintro e w2 ⟨rfl, h5⟩
              have H5 := cover (H2.out.turn h5.out)
              clear h5 H2
              have HNX : Hid (∃ v, VaOne b w w2 t v ∧ RingV v s' a ∧ s' ≤ 64 * j + (k + 1 : Nat)) := cover ⟨v', H5.out, H3.out, HN1.out.1⟩
              clear H5 E
              clear hx hlt' hlt hj hlc hcm hxb hc hk hlk
              have hw := HW1.out
              have hwd := HW2.out
              go_wp2
              go_roundw
              case rel => exact ⟨k + 1, s', HN1.out.2.2, rfl, by go_num, HNX⟩
              case measure =>
                have h9 := HK.out
                have h8 := HC.out
                rw [hw]
                clear hw hwd
                simp [intOf]
                omega
            · have hfB : (d == 127) = false := by simpa using hf
              have E := cover (H3.out.sent (by rw [hd.out]; exact hf))
              obtain ⟨y, hy⟩ : ∃ y, s' % 128 = y := ⟨_, rfl⟩
              have hy0 : 0 ≤ y := by omega
              rw [hy] at E
              clear hf
              go_wp2_with fail
              refine (sent_any H2.out.va).mono ?_
              rw [E.out.1]
              rintro e w2 ⟨rfl, h5⟩
              have H5 := cover (H2.out.turn h5.out)
              clear h5 H2
              have HNX : Hid (∃ v, VaOne b w w2 t v ∧ RingV v (s' + 1) a ∧ s' + 1 ≤ 64 * j + (k + 1 : Nat)) := cover ⟨_, H5.out, E.out.2, HN1.out.2.1⟩
              clear H5 E
              clear hx hlt' hlt hj hlc hcm hxb hc hk hlk
              have hw := HW1.out
              have hwd := HW2.out
              go_wp2
              go_roundw
              case rel => exact ⟨k + 1, s' + 1, HN1.out.2.2, by rw [HW3.out], by go_num, HNX⟩
              case measure =>
                have h9 := HK.out
                have h8 := HC.out
                rw [hw]
                clear hw hwd
                simp [intOf]
                omega
          · have HNX : Hid (RingAt b w t (j + 1) s' a wr) := cover ⟨v', H2.out, H3.out, by have := HB'.out; have := HC.out; omega⟩
            clear H2 H3
            go_wp2
            go_meet
            exact ⟨s', a, rfl, rfl, HNX⟩
      case rest =>
        obtain ⟨s', a', rfl, rfl, hdone⟩ := hcut
        obtain ⟨v', h5, h6, h7⟩ := hdone.out
        have H5 := cover h5
        have HNX0 : Hid (RingV v' s' a' ∧ s' ≤ 64 * (j + 1 : Nat)) := cover ⟨h6, h7⟩
        obtain ⟨d, hd⟩ : ∃ d, Hid (s' - a' = d) := ⟨_, cover rfl⟩
        have hwd : wrap64 (s' - a') = d := (IntWalk.wrap64_in _ ⟨by have := h6.2.2.1; have := h6.2.2.2.1; omega, by have := h6.2.2.1; have := h6.2.2.2.2; omega⟩).trans hd.out
        have hs0 : 0 ≤ s' := by have := h6.2.2.1; have := h6.2.2.2.1; omega
        have ha0 : 0 ≤ a' := h6.2.2.1
        have E : Hid (outV v' = d ∧ v'.va = a' % 128 ∧ v'.vs = s' % 128) := cover ⟨h6.out.trans hd.out, h6.2.1, h6.1⟩
        clear h5 h6 h7 hdone hx HS hc
        go_wp2_with fail
        refine (out_any H5.out.va).mono ?_
        rw [E.out.1]
        rintro e w2 ⟨rfl, h6⟩
        have H6 := cover (H5.out.below h6)
        clear h6 H5
        go_wp2_with fail
        refine (va_any H6.out.va).mono ?_
        rw [E.out.2.1]
        rintro e w3 ⟨rfl, h7⟩
        have H7 := cover (H6.out.below h7)
        clear h7 H6
        go_wp2_with fail
        refine (vs_any H7.out.va).mono ?_
        rw [E.out.2.2]
        rintro e w4 ⟨rfl, h8⟩
        have HNX : Hid (RingAt b w t (j + 1) s' a' w4) := cover ⟨v', H7.out.below h8, HNX0.out.1, HNX0.out.2⟩
        clear h8 H7 E
        go_wp2
        clear hwd hs0 ha0 hd HNX0
        go_roundw
        case rel => exact ⟨j + 1, s', a', by omega, rfl, rfl, by go_num, HNX⟩
        case measure => simp [intOf]; omega
    · obtain ⟨v, h2, h3, h4⟩ := hrel.out
      have HN := cover h2.bel
      have hlt' : ¬ (j : Int) < (len : Int) := by omega
      clear h2 h3 h4 hrel
      go_wp2
      go_ret
      exact ⟨rfl, by rw [← HG.out]; exact HN.out⟩
end Go.Proofs.Yteobanbcjnahaaa
