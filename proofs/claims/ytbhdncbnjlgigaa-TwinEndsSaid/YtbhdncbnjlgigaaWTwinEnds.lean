/- The walk of TwinEnds. -/
import Derived.Deep.CutBlock
import Derived.Deep.DeepCutAuto
import Derived.Test.YtbhdncbnjlgigaaWTwinKnown
import Derived.Test.YtbhdncbnjlgigaaUIn
namespace Go.Proofs.Ytbhdncbnjlgigaa
open Go.RowKit
set_option linter.unusedVariables false
set_option linter.unusedSimpArgs false

/-- two Twins of a law's own -/
structure TwTwo (B : Nat) (W0 W : World) (t u : Nat) (vt vu : BV) : Prop where
  one : TwOne B W0 W t vt
  two : TwP W u vu
  ne : t ≠ u
  lo : B ≤ u
theorem TwTwo.below {B t u : Nat} {W0 W W' : World} {vt vu : BV} (h : TwTwo B W0 W t u vt vu) (hb : Below W.heap.size W W') : TwTwo B W0 W' t u vt vu := ⟨h.one.below hb, h.two.below hb, h.ne, h.lo⟩
theorem TwTwo.turn {B t u : Nat} {W0 W W' : World} {vt vu v' : BV} (h : TwTwo B W0 W t u vt vu) (h' : TwP W' t v' ∧ OnlyB t W W') : TwTwo B W0 W' t u v' vu := ⟨h.one.turn h', h.two.only h'.2 (Ne.symm h.ne), h.ne, h.lo⟩
theorem TwTwo.turn2 {B t u : Nat} {W0 W W' : World} {vt vu v' : BV} (h : TwTwo B W0 W t u vt vu) (h' : TwP W' u v' ∧ OnlyB u W W') : TwTwo B W0 W' t u vt v' :=
  ⟨⟨h.one.tw.only h'.2 h.ne, h.one.lo, below_only h.one.bel h'.2 h.lo h.one.siz, Nat.le_trans h.one.siz h'.2.size⟩, h'.1, h.ne, h.lo⟩
/-- ahead of tick i: so many sent -/
def EndAt (B : Nat) (W0 : World) (t u : Nat) (n w N d i sent : Int) (W : World) : Prop :=
  ∃ vt vu, TwTwo B W0 W t u vt vu ∧ (1 ≤ i ∧ i ≤ N + 1) ∧ (i ≤ N → AsksB n w (i - 1) vt ∧ sent = vt.k) ∧ (i = N + 1 → vt.s = 2 ∧ sent = n) ∧ (i - 1 ≤ d → AsksB n w (i - 1) vu) ∧ (d < i - 1 → vu.s = 3)
theorem zB_s (n w : Int) : (zB n w).s ≠ 1 := by show (0 : Int) ≠ 1; decide
theorem ticks_400 {n w : Int} (hn : 1 ≤ n ∧ n ≤ 20) (hw : 1 ≤ w ∧ w ≤ 20) : 1 ≤ n * w ∧ n * w ≤ 400 := by
  have h1 : 1 * 1 ≤ n * w := Int.mul_le_mul hn.1 hw.1 (by omega) (by omega)
  have h2 : n * w ≤ 20 * 20 := Int.mul_le_mul hn.2 hw.2 (by omega) (by omega)
  omega
set_option maxRecDepth 100000 in
set_option maxHeartbeats 1600000 in
theorem go_TwinEnds (a b c : Int) (w0 : World) (ha : 0 ≤ a ∧ a ≤ 255) (hb : 0 ≤ b ∧ b ≤ 255) (hc : 0 ≤ c ∧ c ≤ 255) :
    Calls Try.prog 5 #[.int .u8 a, .int .u8 b, .int .u8 c] w0 fun e w' => e = .returned (.bool true) ∧ Below w0.heap.size w0 w' := by
  obtain ⟨B, hB⟩ : ∃ B, w0.heap.size = B := ⟨_, rfl⟩
  have s0 := awake_any w0
  rw [hB] at s0 ⊢
  have HSz : Hid (∀ W, Below B w0 W → B ≤ W.heap.size) := cover fun W hW => by rw [← hB]; exact hW.size
  clear hB
  obtain ⟨n, hn⟩ : ∃ n, 1 + a % 20 = n := ⟨_, rfl⟩
  obtain ⟨w, hw⟩ : ∃ w, 1 + b % 20 = w := ⟨_, rfl⟩
  obtain ⟨N, hN⟩ : ∃ N, n * w = N := ⟨_, rfl⟩
  have HK : Hid ((1 ≤ n ∧ n ≤ 20) ∧ (1 ≤ w ∧ w ≤ 20) ∧ (1 ≤ N ∧ N ≤ 400)) := cover ⟨by omega, by omega, by rw [← hN]; exact ticks_400 (by omega) (by omega)⟩
  have HN := cover hN
  have s1 := cover (fun W => new_yes (n := n) (wt := w) (okB_of (by omega) (by omega) (by omega) (by omega)) W)
  have hWN : wrap64 N = N := IntWalk.wrap64_in _ ⟨by have := HK.out; omega, by have := HK.out; omega⟩
  have hN0 : N ≠ 0 := by have := HK.out; omega
  obtain ⟨d, hd⟩ : ∃ d, c % N = d := ⟨_, rfl⟩
  have HD : Hid (0 ≤ d ∧ d < N) := cover (by rw [← hd]; exact ⟨Int.emod_nonneg _ hN0, Int.emod_lt_of_pos _ (by have := HK.out; omega)⟩)
  have hN1 : 0 ≤ N := by have := HK.out; omega
  go_enter Try.func5, Try.ntmps5
  go_wp2_with fail
  refine s0.mono ?_
  rintro e w1 ⟨rfl, hb1⟩
  have H1 := cover hb1
  clear s0 hb1
  go_wp2_with fail
  refine (s1.out _).mono ?_
  rintro e w2 ⟨t, rfl, H2'⟩
  have H2 := cover (TwOne.made H1.out (HSz.out _ H1.out) H2'.out)
  clear H2' H1
  go_wp2_with fail
  refine (s1.out _).mono ?_
  rintro e w3 ⟨u, rfl, H3'⟩
  have H3 : Hid (TwTwo B w0 w3 t u (zB n w) (zB n w)) := cover ⟨H2.out.below H3'.out.2.1, H3'.out.1, by have := H2.out.tw.lt; have := H3'.out.2.2; omega, Nat.le_trans H2.out.siz H3'.out.2.2⟩
  clear H3' H2 s1
  have s4 := cover (start_any H3.out.one.tw)
  rw [(startB_yes (v := zB n w) (zB_s n w)).2] at s4
  go_wp2_with fail
  refine s4.out.mono ?_
  rintro e w4 ⟨rfl, H4'⟩
  have H4 := cover (H3.out.turn H4'.out)
  clear s4 H4' H3
  have s5 := cover (start_any H4.out.two)
  rw [(startB_yes (v := zB n w) (zB_s n w)).2] at s5
  go_wp2_with fail
  refine s5.out.mono ?_
  rintro e w5 ⟨rfl, H5'⟩
  have H5 := cover (H4.out.turn2 H5'.out)
  clear s5 H5' H4
  have HE : Hid (EndAt B w0 t u n w N d 1 1 w5) := cover (by
    have hf := AsksB.first (n := n) (w := w) (v := zB n w) (by have := HK.out; exact okB_of (by omega) (by omega) (by omega) (by omega)) rfl rfl (zB_s n w)
    have hk := HK.out
    have hD := HD.out
    refine ⟨_, _, H5.out, by omega, fun _ => ⟨hf, ?_⟩, fun h => by omega, fun _ => hf, fun h => by omega⟩
    rw [(startB_yes (v := zB n w) (zB_s n w)).1])
  clear H5
  go_wp2_with fail
  rw [hWN, hd]
  go_loopw [13, 15] (fun sv iv wr => ∃ i sent : Int, iv = .int .i64 i ∧ sv = .int .i64 sent ∧ Hid (EndAt B w0 t u n w N d i sent wr)) (fun _ iv _ => (N + 1 - intOf iv).toNat)
  case atStart => exact ⟨1, 1, rfl, rfl, HE⟩
  case round =>
    obtain ⟨i, sent, rfl, rfl, hrel⟩ := hrel
    by_cases hlt : i ≤ N
    · obtain ⟨vt, vu, h2, hi, ht, _, hu1, hu2⟩ := hrel.out
      have HA := cover (ht hlt)
      have s6 := cover (tick_any h2.one.tw)
      have H6 := cover h2
      have HU1 := cover hu1
      have HU2 := cover hu2
      have HI := cover hi
      have H6k : Hid (0 ≤ vt.k ∧ vt.k ≤ 20) := cover (by have := h2.one.tw.ok.2.2.1; obtain ⟨q, r, e, _⟩ := (ht hlt).1; have hk := HK.out; rw [e] at this ⊢; simp only at this ⊢; omega)
      have HLT := cover hlt
      obtain ⟨ok, hok⟩ : ∃ ok, ok = ticksB vt := ⟨_, rfl⟩
      obtain ⟨v', hv'⟩ : ∃ v', v' = tickB vt := ⟨_, rfl⟩
      have HV : Hid ((i + 1 ≤ N → AsksB n w i v' ∧ v'.s = 1 ∧ v'.k = sent + (if ok = true then 1 else 0)) ∧ (i = N → v'.s = 2 ∧ ok = false ∧ sent = n)) := cover (by
        obtain ⟨h3, h4⟩ := HA.out
        rw [hok, hv']
        refine ⟨fun h5 => ?_, fun h5 => ?_⟩
        · have h6 := h3.tick (by rw [HN.out]; omega)
          rw [show i - 1 + 1 = i by omega] at h6
          exact ⟨h6.1, h6.1.asks, by rw [h6.2, h4]⟩
        · have h6 := h3.last (by rw [HN.out]; omega)
          rw [h6.1]
          exact ⟨rfl, h6.2.1, by rw [h4, h6.2.2]⟩)
      rw [← hok, ← hv'] at s6
      clear h2 hi ht hu1 hu2 hok hv' hrel
      go_wp2_with fail
      refine s6.out.mono ?_
      rintro e w6 ⟨rfl, H7'⟩
      have H7 := cover (H6.out.turn H7'.out)
      obtain ⟨w7, hw7, _, hb7⟩ := sent_var w6 ok none 0
      have H8 := cover (H7.out.below hb7.out)
      obtain ⟨_, hh, _⟩ := H8.out.one.tw.hd
      have s8 := cover (state_any hh)
      clear s6 H7' H6 hb7 H7 hh
      obtain ⟨sent', hsent⟩ : ∃ s' : Int, s' = sent + (if ok = true then 1 else 0) := ⟨_, rfl⟩
      have HS' := cover hsent
      rw [← hsent] at HV
      clear hsent
      go_upto_if 70 with (refine wpList_store_row rfl _ _ _ rfl w6.heap.size (sentC ok none 0) rfl rfl 30 zp (heap_alloc_new _ _) (sent_size' _ _ _) (sent_nine _ _ _) (sent_one' _ _ _) ?_; rw [show World.setRow (World.alloc w6 _) w6.heap.size (sentC ok none 0) = w7 from hw7.out.symm])
      clear hw7
      generalize w6.heap.size = g6
      go_cut [13] (fun x wx => x = .int .i64 sent' ∧ Hid (wx = w7))
      case first =>
        have HX := HS'.out
        have HW : wrap64 (sent + 1) = sent + 1 := by
          have h1 := (HA.out).2
          have h2 := H6k.out
          exact IntWalk.wrap64_in _ ⟨by omega, by omega⟩
        rcases ok with _ | _
        · have HY : Hid (sent' = sent) := cover (by rw [HX]; simp)
          clear HX
          go_wp2
          go_meet
          exact ⟨by rw [HY.out], cover rfl⟩
        · have HY : Hid (sent' = sent + 1) := cover (by rw [HX]; simp)
          clear HX
          go_wp2
          go_meet
          exact ⟨by rw [HY.out], cover rfl⟩
      case rest =>
        obtain ⟨rfl, hwc⟩ := hcut
        obtain rfl := hwc.out
        obtain ⟨q, hq⟩ : ∃ q, q = decide (i = N) := ⟨_, rfl⟩
        have hb1 : (i == N) = q := by rw [hq]; rfl
        have hb2 : (v'.s == 2) = q := by
          rw [hq]
          have hi := HI.out
          by_cases hc : i = N
          · rw [((HV.out).2 hc).1, decide_eq_true hc]; rfl
          · rw [((HV.out).1 (by omega)).2.1, decide_eq_false hc]; rfl
        have HW1 : wrap64 (i - 1) = i - 1 := by have := HI.out; have := HK.out; exact IntWalk.wrap64_in _ ⟨by omega, by omega⟩
        have HW2 : wrap64 (i + 1) = i + 1 := by have := HI.out; have := HK.out; exact IntWalk.wrap64_in _ ⟨by omega, by omega⟩
        have HT' : Hid ((i + 1 ≤ N → AsksB n w (i + 1 - 1) v' ∧ sent' = v'.k) ∧ (i + 1 = N + 1 → v'.s = 2 ∧ sent' = n)) := cover (by
          rw [show i + 1 - 1 = i by omega]
          refine ⟨fun h => ⟨((HV.out).1 h).1, ((HV.out).1 h).2.2.symm⟩, fun h => ?_⟩
          have h2 := (HV.out).2 (by omega)
          have h3 := HS'.out
          rw [h2.2.1] at h3
          exact ⟨h2.1, by rw [h3, h2.2.2]; simp⟩)
        obtain ⟨j, hj⟩ : ∃ j, i - 1 = j := ⟨_, rfl⟩
        obtain ⟨sv, hsv⟩ : ∃ sv, v'.s = sv := ⟨_, rfl⟩
        rw [hsv] at hb2 s8
        clear hsv hq hwc
        rw [hj] at HU1 HU2
        have HJ := cover hj
        replace HW1 : wrap64 (i - 1) = j := HW1.trans hj
        clear hj
        by_cases hd1 : j = d
        · have hu := HU1.out (by omega)
          have sH := cover (hear_ans H8.out.two)
          obtain ⟨vq, hvq⟩ : ∃ vq : BV, vq = { vu with s := 3 } := ⟨_, rfl⟩
          have HS3 : Hid (vq.s = 3) := cover (by rw [hvq])
          have HN3 : Hid (vq.s ≠ 1) := cover (by rw [hvq]; show (3 : Int) ≠ 1; decide)
          rw [(hearB_yes hu.asks).2, (hearB_yes hu.asks).1, ← hvq] at sH
          clear hvq
          have hb3 : (j == d) = true := by simpa using hd1
          have hge : j ≥ d := by omega
          have HDJ : Hid (d ≤ j) := cover (by omega)
          clear hu hd1
          go_wp2_with fail
          refine s8.out.mono ?_
          rintro e w8 ⟨rfl, rfl⟩
          rcases q with _ | _
          all_goals
            go_wp2_with fail
            refine sH.out.mono ?_
            rintro e w9 ⟨rfl, H9'⟩
            have H9 := cover (H8.out.turn2 H9'.out)
            clear H9' s8 sH
            have sT := cover (tick_any H9.out.two)
            rw [(tickB_rest (v := vq) HN3.out).1, (tickB_rest (v := vq) HN3.out).2] at sT
            go_wp2_with fail
            refine sT.out.mono ?_
            rintro e w11 ⟨rfl, HB'⟩
            have HB := cover (H9.out.turn2 HB'.out)
            obtain ⟨_, hhu, _⟩ := HB.out.two.hd
            have sS := cover (state_any hhu)
            rw [HS3.out] at sS
            have HNX : Hid (EndAt B w0 t u n w N d (i + 1) sent' w11) := cover ⟨v', vq, HB.out, by have := HI.out; have := HLT.out; omega, HT'.out.1, HT'.out.2, fun h => absurd h (by have := HJ.out; have := HDJ.out; omega), fun _ => HS3.out⟩
            clear sT HB' HB hhu H9
            go_wp2_with fail
            refine sS.out.mono ?_
            rintro e w12 ⟨rfl, rfl⟩
            go_wp2
            go_roundw
            case rel => exact ⟨i + 1, sent', by go_num, rfl, HNX⟩
            case measure => simp [intOf]; have := HLT.out; omega
        · by_cases hd2 : j < d
          · have hb3 : (j == d) = false := by simpa using hd1
            have hlt' : ¬ j ≥ d := by omega
            have HDJ : Hid (j < d) := cover hd2
            have hu := HU1.out (by omega)
            have hu2 := (hu.tick (by have := HD.out; rw [HN.out]; omega)).1
            have sT := cover (tick_any H8.out.two)
            have HU3 := cover hu2
            clear hd1 hd2 hu hu2
            go_wp2_with fail
            refine s8.out.mono ?_
            rintro e w8 ⟨rfl, rfl⟩
            rcases q with _ | _
            all_goals
              go_wp2_with fail
              refine sT.out.mono ?_
              rintro e w9 ⟨rfl, H9'⟩
              have H9 := cover (H8.out.turn2 H9'.out)
              have HNX : Hid (EndAt B w0 t u n w N d (i + 1) sent' w9) := cover ⟨v', _, H9.out, by have := HI.out; have := HLT.out; omega, HT'.out.1, HT'.out.2, fun h => by rw [show i + 1 - 1 = j + 1 by have := HJ.out; omega]; exact HU3.out, fun h => absurd h (by have := HJ.out; have := HDJ.out; omega)⟩
              clear sT H9' H9 s8
              go_wp2
              go_roundw
              case rel => exact ⟨i + 1, sent', by go_num, rfl, HNX⟩
              case measure => simp [intOf]; have := HLT.out; omega
          · have hb3 : (j == d) = false := by simpa using hd1
            have hge : j ≥ d := by omega
            have HDJ : Hid (d ≤ j) := cover (by omega)
            have HS3 : Hid (vu.s = 3) := cover (HU2.out (by omega))
            have HN3 : Hid (vu.s ≠ 1) := cover (by rw [HS3.out]; decide)
            clear hd1 hd2
            go_wp2_with fail
            refine s8.out.mono ?_
            rintro e w8 ⟨rfl, rfl⟩
            rcases q with _ | _
            all_goals
              have sT := cover (tick_any H8.out.two)
              rw [(tickB_rest (v := vu) HN3.out).1, (tickB_rest (v := vu) HN3.out).2] at sT
              go_wp2_with fail
              refine sT.out.mono ?_
              rintro e w11 ⟨rfl, HB'⟩
              have HB := cover (H8.out.turn2 HB'.out)
              obtain ⟨_, hhu, _⟩ := HB.out.two.hd
              have sS := cover (state_any hhu)
              rw [HS3.out] at sS
              have HNX : Hid (EndAt B w0 t u n w N d (i + 1) sent' w11) := cover ⟨v', vu, HB.out, by have := HI.out; have := HLT.out; omega, HT'.out.1, HT'.out.2, fun h => absurd h (by have := HJ.out; have := HDJ.out; omega), fun _ => HS3.out⟩
              clear sT HB' HB hhu H8
              go_wp2_with fail
              refine sS.out.mono ?_
              rintro e w12 ⟨rfl, rfl⟩
              go_wp2
              go_roundw
              case rel => exact ⟨i + 1, sent', by go_num, rfl, HNX⟩
              case measure => simp [intOf]; have := HLT.out; omega
    · obtain ⟨vt, vu, h2, hi, _, ht, _, _⟩ := hrel.out
      obtain ⟨hs2, hsn⟩ := ht (by omega)
      have s6 := cover (start_any h2.one.tw)
      have hne : vt.s ≠ 1 := by rw [hs2]; decide
      rw [(startB_yes hne).2, (startB_yes hne).1] at s6
      have H6 := cover h2
      subst hsn
      clear h2 hi ht hs2 hne hrel
      go_wp2_with fail
      refine s6.out.mono ?_
      rintro e w6 ⟨rfl, H7'⟩
      have H7 := cover (H6.out.turn H7'.out)
      obtain ⟨w7, hw7, _, hb7⟩ := sent_var w6 true none 0
      have H8 := cover (H7.out.below hb7.out)
      obtain ⟨_, hh, _⟩ := H8.out.one.tw.hd
      have s8 := cover (state_any hh)
      clear s6 H7' H6 hb7 H7 hh
      go_upto_region 26 with (refine wpList_store_row rfl _ _ _ rfl w6.heap.size (tstC false none 0) rfl rfl 30 zp (heap_alloc_new _ _) pdu_size rfl (tst_one _ _ _) ?_; rw [show World.setRow (World.alloc w6 _) w6.heap.size (tstC false none 0) = w7 from hw7.out.symm])
      clear hw7
      go_wp2_with fail
      refine s8.out.mono ?_
      rintro e w8 ⟨rfl, rfl⟩
      go_wp2
      go_ret
      exact ⟨rfl, H8.out.one.bel⟩
theorem walk_TwinEnds (a b c : Int) (w : World) (ha : (Lit.int .u8 a).wf = true) (hb : (Lit.int .u8 b).wf = true) (hc : (Lit.int .u8 c).wf = true) :
    Calls Try.prog 5 #[.int .u8 a, .int .u8 b, .int .u8 c] w fun e w' => e = .returned (.bool true) ∧ Below w.heap.size w w' := go_TwinEnds a b c w (byte_wf ha) (byte_wf hb) (byte_wf hc)
end Go.Proofs.Ytbhdncbnjlgigaa
