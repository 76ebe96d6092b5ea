/- The walk of WindowSteps. -/
import Derived.Deep.CutBlock
import Derived.Deep.DeepCutAuto
import Derived.Deep.RegionHeld3
import Derived.Test.YtdjfnhplbhhgiaaIAwake
import Derived.Test.YtdjfnhplbhhgiaaKWords
namespace Go.Proofs.Ytdjfnhplbhhgiaa
open Go.RowKit
set_option linter.unusedVariables false
set_option linter.unusedSimpArgs false

/-- two of the program's Windows, one beside the other -/
structure WiTwo (B : Nat) (W0 W : World) (t r : Nat) (m : Int) (v u : WV) : Prop where
  one : WiOne B W0 W t m v
  two : WiP W r m u
  ne : t ≠ r
  lo : B ≤ r
theorem WiTwo.drewN {B t r : Nat} {W0 W : World} {m : Int} {v u : WV} (h : WiTwo B W0 W t r m v u) (n : Nat) : WiTwo B W0 (W.drewN n) t r m v u := ⟨h.one.drewN n, h.two.drewN n, h.ne, h.lo⟩
theorem WiTwo.first {B t r : Nat} {W0 W W1 : World} {m : Int} {v u v' : WV} (h : WiTwo B W0 W t r m v u) (h1 : WiP W1 t m v' ∧ OnlyB t W W1) : WiTwo B W0 W1 t r m v' u :=
  ⟨h.one.turn h1, h.two.only h1.2 (Ne.symm h.ne), h.ne, h.lo⟩
theorem WiTwo.second {B t r : Nat} {W0 W W1 : World} {m : Int} {v u u' : WV} (h : WiTwo B W0 W t r m v u) (h1 : WiP W1 r m u' ∧ OnlyB r W W1) : WiTwo B W0 W1 t r m v u' :=
  ⟨⟨h.one.wi.only h1.2 h.ne, h.one.lo, below_only h.one.bel h1.2 h.lo h.one.siz, Nat.le_trans h.one.siz h1.2.size⟩, h1.1, h.ne, h.lo⟩

set_option maxRecDepth 100000 in
set_option maxHeartbeats 1600000 in
theorem walk_WindowSteps (a0 : Int) (A : Option Addr) (len cap : Nat) (l : List Int) (w : World) (ha : (Lit.int .u8 a0).wf = true) (hlc : len ≤ cap) (hcm : cap ≤ maxLen) (hr : Row w w.heap.size A len l) (hbt : ∀ x ∈ l, (Lit.int .u8 x).wf = true) :
    Calls Try.prog 6 #[.int .u8 a0, .slice A len cap] w fun e w' => e = .returned (.bool true) ∧ Below w.heap.size w w' := by
  obtain ⟨b, hb⟩ : ∃ b, b = w.heap.size := ⟨_, rfl⟩
  have HG := cover hb
  rw [← hb] at hr
  have HR := cover hr
  have HBT : Hid (Bts l) := cover fun x hx => u8_wf (hbt x hx)
  have HA := cover (u8_wf ha)
  have s0 := cover (awake_any w)
  clear hb hr hbt ha
  go_enter Try.func6, Try.ntmps6
  go_wp2_with fail
  refine s0.out.mono ?_
  rintro e w0 ⟨rfl, h0⟩
  have H0 : Hid (Below b w w0 ∧ b ≤ w0.heap.size) := cover (by rw [HG.out]; exact ⟨h0, h0.size⟩)
  clear h0 s0
  by_cases hlong : (200 : Int) < (len : Int)
  · go_wp2
    go_ret
    exact ⟨rfl, by rw [← HG.out]; exact H0.out.1⟩
  have HL : Hid (len ≤ 200) := cover (by omega)
  have hl : ¬ (200 : Int) < (len : Int) := hlong
  clear hlong
  have HD : Hid (decide ((200 : Int) < (len : Int)) = false) := cover (decide_eq_false hl)
  have ha0 := HA.out
  obtain ⟨q, hq⟩ : ∃ q, Int.tmod a0 64 = q := ⟨_, rfl⟩
  have HQ : Hid (0 ≤ q ∧ q ≤ 63) := cover (by rw [Int.tmod_eq_emod_of_nonneg ha0.1] at hq; omega)
  obtain ⟨m, hm⟩ : ∃ m, 1 + q = m := ⟨_, rfl⟩
  have HM : Hid (1 ≤ m ∧ m ≤ 64) := cover (by have := HQ.out; omega)
  have hw0 : wrap64 a0 = a0 := IntWalk.wrap64_in _ ⟨by omega, by omega⟩
  have hwm : wrap64 (1 + q) = m := (IntWalk.wrap64_in _ ⟨by have := HQ.out; omega, by have := HQ.out; omega⟩).trans hm
  clear hm ha0
  go_upto_region 6 with fail
  simp only [HD.out, hw0, hq, hwm]
  clear hw0 hq hwm hl
  obtain ⟨t, ht⟩ : ∃ t, t = w0.heap.size := ⟨_, rfl⟩
  go_wp2_with fail
  refine (new_yes m HM.out w0).mono ?_
  rintro e w1 ⟨rfl, h1⟩
  have H1 : Hid (WiOne b w w1 t m (freshW m)) := cover (by rw [ht]; exact WiOne.new H0.out.1 H0.out.2 h1.out)
  rw [← ht]
  clear ht h1 H0
  obtain ⟨r, hr⟩ : ∃ r, r = w1.heap.size := ⟨_, rfl⟩
  go_wp2_with fail
  refine (new_yes m HM.out w1).mono ?_
  rintro e w2 ⟨rfl, h2⟩
  have H2 : Hid (WiTwo b w w2 t r m (freshW m) (freshW m)) := cover (by
    refine ⟨H1.out.below h2.out.2, by rw [hr]; exact h2.out.1, ?_, ?_⟩
    · have := H1.out.wi.lt; omega
    · have := H1.out.siz; omega)
  rw [← hr]
  clear hr h2 H1
  go_wp2_with fail
  go_loopw [10] (fun iv wr => ∃ j : Nat, j ≤ len ∧ iv = .int .i64 j ∧ Hid (∃ v, WiTwo b w wr t r m v v)) (fun iv _ => len - (intOf iv).toNat)
  case atStart => exact ⟨0, by omega, rfl, cover ⟨_, H2.out⟩⟩
  case round =>
    clear H2
    obtain ⟨j, hj, rfl, hrel⟩ := hrel
    by_cases hlt : j < len
    · obtain ⟨v, h2⟩ := hrel.out
      obtain ⟨ad, x, rfl, hbl, hxw, hget⟩ := HR.out.at_ hlt
      have HXW : Hid (∀ W, Below b w W → W.cell? (ad.add j) = some (.int .u8 x)) := cover fun W hW => (hW.cell (by rw [addr_add_block]; exact hbl)).trans hxw
      clear hxw hbl
      have hx := HXW.out _ h2.one.bel
      have hxb := HBT.out x (List.mem_of_getElem? hget.out)
      have HX := cover hxb
      have H2 := cover h2
      clear h2 hrel hxb
      have hlt' : (j : Int) < (len : Int) := by omega
      have HLT := cover hlt
      clear hlt
      obtain ⟨y, hy⟩ : ∃ y, bits BinOp.and IntKind.u8 x 7 = y := ⟨_, rfl⟩
      go_upto_if 49 with fail
      clear hy
      go_cut [] (fun wx => Hid (∃ v, WiTwo b w wx t r m v v))
      case first =>
        by_cases h7 : y = 7
        · have b7 : (y == 7) = true := by rw [h7]; rfl
          clear h7
          go_wp2_with fail
          refine (slow_any H2.out.one.wi).mono ?_
          rintro e w3 ⟨rfl, h3⟩
          have H3 := cover (H2.out.first h3.out)
          clear h3 hx
          go_wp2_with fail
          refine (slow_any H3.out.two).mono ?_
          rintro e w4 ⟨rfl, h4⟩
          have HN : Hid (∃ v, WiTwo b w w4 t r m v v) := cover ⟨_, H3.out.second h4.out⟩
          clear h4 H3
          go_wp2
          go_meet
          exact HN
        · have b7 : (y == 7) = false := by simpa using h7
          clear h7
          have HN : Hid (∃ v, WiTwo b w wr t r m v v) := cover ⟨_, H2.out⟩
          go_wp2
          go_meet
          exact HN
      case rest =>
        obtain ⟨v', h5⟩ := hcut.out
        have H5 := cover h5
        clear h5 hcut hx H2
        have hx := HXW.out _ H5.out.one.bel
        obtain ⟨z, hz⟩ : ∃ z, x / 8 = z := ⟨_, rfl⟩
        have HZ : Hid (0 ≤ z ∧ z ≤ 31) := cover (by have := HX.out; omega)
        have HZE := cover hz
        have hwz : wrap64 z = z := IntWalk.wrap64_in _ ⟨by have := HZ.out; omega, by have := HZ.out; omega⟩
        go_wp2_with fail
        refine (now_any H5.out.one.wi).mono ?_
        rintro e w3 ⟨he, rfl⟩
        obtain ⟨o, ho⟩ : ∃ o, Hid (v'.wide = o) := ⟨_, cover rfl⟩
        rw [ho.out] at he
        subst he
        go_wp2_with fail
        refine (acked_any H5.out.one.wi z (by have := HZ.out; omega)).mono ?_
        rintro e w4 ⟨rfl, h6⟩
        have H6 := cover (H5.out.first h6.out)
        have HO : Hid (1 ≤ o ∧ o ≤ m ∧ o ≤ (ackW m z.toNat v').wide ∧ (ackW m z.toNat v').wide ≤ o + z ∧ (ackW m z.toNat v').wide ≤ m) := cover (by
          have h1 := WOk.acked H5.out.one.wi.ok z.toNat
          have h2 := H5.out.one.wi.ok
          have h3 := h1.1
          rw [ho.out] at h1
          refine ⟨by rw [← ho.out]; exact h2.1, by rw [← ho.out]; exact h2.2.1, h1.2.1, by have := h1.2.2; have := HZ.out; omega, h3.2.1⟩)
        clear h6 H5 hx
        have hx := HXW.out _ H6.out.one.bel
        obtain ⟨u, hu⟩ : ∃ u, Hid (ackW m z.toNat v' = u) := ⟨_, cover rfl⟩
        rw [hu.out] at HO H6
        go_wp2_with fail
        go_loopw [12] (fun kv wr => ∃ k : Nat, (k ≤ z.toNat ∧ kv = .int .i64 k) ∧ Hid (WiTwo b w wr t r m u (ackW m k v'))) (fun kv _ => z.toNat - (intOf kv).toNat)
        case atStart => exact ⟨0, ⟨Nat.zero_le _, rfl⟩, H6⟩
        case round =>
          obtain ⟨k, ⟨hk, rfl⟩, hrel⟩ := hrel
          clear hx H6
          have hx := HXW.out _ hrel.out.one.bel
          have H7 := cover hrel.out
          clear hrel
          by_cases hkz : (k : Int) < z
          · have HKZ := cover hkz
            have hwk : wrap64 ((k : Int) + 1) = (k : Int) + 1 := IntWalk.wrap64_in _ ⟨by omega, by have := HZ.out; omega⟩
            go_wp2_with fail
            refine (acked_any H7.out.two 1 (by decide)).mono ?_
            rintro e w5 ⟨rfl, h8⟩
            have H8 := cover (H7.out.second h8.out)
            clear h8 H7 hx
            go_wp2
            go_roundw
            case rel => exact ⟨k + 1, ⟨by clear hwk; have := HKZ.out; omega, by go_num⟩, H8⟩
            case measure =>
              have := HKZ.out
              rw [hwk]
              clear hwk
              simp [intOf]; omega
          · have HE : Hid (ackW m k v' = u) := cover (by rw [← hu.out, show k = z.toNat by have := HZ.out; omega])
            rw [HE.out] at H7
            obtain ⟨f, hf⟩ : ∃ f, Hid (u.wide = f) := ⟨_, cover rfl⟩
            rw [hf.out] at HO
            have CN : Hid (∀ W', (∃ d, W' = wr.drewN d) → ∀ p, p = t ∨ p = r → Calls Try.prog 10 #[ptr p] W' fun e W'' => e = .returned (.int .i64 f) ∧ ∃ d, W'' = wr.drewN d) := cover fun W' ⟨d, hd⟩ p hp => by
              rw [hd]
              rcases hp with rfl | rfl
              · refine (now_any (H7.out.one.wi.drewN d)).mono ?_
                rintro e W'' ⟨rfl, rfl⟩
                exact ⟨by rw [hf.out], d, rfl⟩
              · refine (now_any (H7.out.two.drewN d)).mono ?_
                rintro e W'' ⟨rfl, rfl⟩
                exact ⟨by rw [hf.out], d, rfl⟩
            obtain ⟨g, hg⟩ : ∃ g, o + z = g := ⟨_, rfl⟩
            have hwg : IntKind.i64.wrap (o + z) = g := by rw [IntKind.wrap_i64]; have := HO.out; have := HM.out; have := HZ.out; omega
            have hwg2 : wrap64 (o + z) = g := (IntWalk.wrap64_in _ ⟨by have := HO.out; have := HM.out; have := HZ.out; omega, by have := HO.out; have := HM.out; have := HZ.out; omega⟩).trans hg
            have HO2 : Hid (o ≤ f ∧ f ≤ g ∧ f ≤ m ∧ 1 ≤ f) := cover ⟨by have := HO.out; omega, by have := HO.out; omega, by have := HO.out; omega, by have := HO.out; omega⟩
            have HX7 : Hid (∀ d, ∃ v, WiTwo b w (wr.drewN d) t r m v v) := cover fun d => ⟨u, H7.out.drewN d⟩
            clear hg HE
            go_upto_region 22 with fail
            clear hkz
            have hz2 : x / 8 = z := HZE.out
            have hwz2 : IntKind.i64.wrap z = z := by rw [IntKind.wrap_i64]; have := HZ.out; omega
            have q1 : decide (f < o) = false := decide_eq_false (by have := HO2.out; omega)
            have q2 : decide (g < f) = false := decide_eq_false (by have := HO2.out; omega)
            have q3 : decide (m < f) = false := decide_eq_false (by have := HO2.out; omega)
            have q4 : decide (f < 1) = false := decide_eq_false (by have := HO2.out; omega)
            go_region_held3 (fun W' : World => W'.cell? (ad.add j) = some (.int .u8 x) ∧ ∃ d, W' = wr.drewN d)
              (first
                | exact ⟨hx, _, rfl⟩)
              ((go_at_call 10; refine (CN.out _ ?_ _ ?_).mono ?_; (go_split_ands; assumption); (first | exact .inl rfl | exact .inr rfl); rintro e wX ⟨rfl, dX, rfl⟩))
            all_goals
              have HX := cover (HX7.out dX)
              clear CN H7 HX7 hx q1 q2 q3 q4 hwg hwg2
              generalize wr.drewN dX = wz at HX ⊢
              go_wp2
              go_roundw
              case rel => exact ⟨j + 1, by have := HLT.out; omega, by go_num, HX⟩
              case measure =>
                have := HLT.out
                simp [intOf]; omega
    · obtain ⟨v, h4⟩ := hrel.out
      have HN := cover h4.one.bel
      have hlt' : ¬ (j : Int) < (len : Int) := by omega
      clear h4 hrel
      go_wp2
      go_ret
      exact ⟨rfl, by rw [← HG.out]; exact HN.out⟩
end Go.Proofs.Ytdjfnhplbhhgiaa
