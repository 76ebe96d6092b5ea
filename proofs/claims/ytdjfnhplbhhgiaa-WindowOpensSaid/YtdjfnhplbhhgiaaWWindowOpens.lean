/- The walk of WindowOpens. -/
import Derived.Deep.CutBlock
import Derived.Deep.DeepCutAuto
import Derived.Deep.RegionHeld3
import Derived.Test.YtdjfnhplbhhgiaaIAwake
import Derived.Test.YtdjfnhplbhhgiaaKWords
namespace Go.Proofs.Ytdjfnhplbhhgiaa
open Go.RowKit
set_option linter.unusedVariables false
set_option linter.unusedSimpArgs false

theorem half_in {p c : Int} (h : 0 ≤ p ∧ p ≤ 4160) (hc : p.tdiv 2 = c) : 0 ≤ c ∧ c ≤ 4160 := by
  rw [Int.tdiv_eq_ediv_of_nonneg h.1] at hc
  omega
set_option maxRecDepth 100000 in
set_option maxHeartbeats 1600000 in
theorem walk_WindowOpens (a0 : Int) (A : Option Addr) (len cap : Nat) (l : List Int) (w : World) (ha : (Lit.int .u8 a0).wf = true) (hlc : len ≤ cap) (hcm : cap ≤ maxLen) (hr : Row w w.heap.size A len l) (hbt : ∀ x ∈ l, (Lit.int .u8 x).wf = true) :
    Calls Try.prog 5 #[.int .u8 a0, .slice A len cap] w fun e w' => e = .returned (.bool true) ∧ Below w.heap.size w w' := by
  obtain ⟨b, hb⟩ : ∃ b, b = w.heap.size := ⟨_, rfl⟩
  have HG := cover hb
  rw [← hb] at hr
  have HR := cover hr
  have HBT : Hid (Bts l) := cover fun x hx => u8_wf (hbt x hx)
  have HA := cover (u8_wf ha)
  have s0 := cover (awake_any w)
  clear hb hr hbt ha
  go_enter Try.func5, Try.ntmps5
  go_wp2_with fail
  refine s0.out.mono ?_
  rintro e w0 ⟨rfl, h0⟩
  have H0 : Hid (Below b w w0 ∧ b ≤ w0.heap.size) := cover (by rw [HG.out]; exact ⟨h0, h0.size⟩)
  clear h0 s0
  by_cases hlong : (200 : Int) < (len : Int)
  · go_wp2
    go_ret
    exact ⟨rfl, by rw [← HG.out]; exact H0.out.1⟩
  have HL : Hid (len ≤ 200) := cover (by omega)
  have hl : ¬ (200 : Int) < (len : Int) := hlong
  clear hlong
  have HD : Hid (decide ((200 : Int) < (len : Int)) = false) := cover (decide_eq_false hl)
  have ha0 := HA.out
  obtain ⟨q, hq⟩ : ∃ q, Int.tmod a0 64 = q := ⟨_, rfl⟩
  have HQ : Hid (0 ≤ q ∧ q ≤ 63) := cover (by rw [Int.tmod_eq_emod_of_nonneg ha0.1] at hq; omega)
  obtain ⟨m, hm⟩ : ∃ m, 1 + q = m := ⟨_, rfl⟩
  have HM : Hid (1 ≤ m ∧ m ≤ 64) := cover (by have := HQ.out; omega)
  have hw0 : wrap64 a0 = a0 := IntWalk.wrap64_in _ ⟨by omega, by omega⟩
  have hwm : wrap64 (1 + q) = m := (IntWalk.wrap64_in _ ⟨by have := HQ.out; omega, by have := HQ.out; omega⟩).trans hm
  clear hm ha0
  go_upto_region 6 with fail
  simp only [HD.out, hw0, hq, hwm]
  clear hw0 hq hwm hl
  obtain ⟨t, ht⟩ : ∃ t, t = w0.heap.size := ⟨_, rfl⟩
  go_wp2_with fail
  refine (new_yes m HM.out w0).mono ?_
  rintro e w1 ⟨rfl, h1⟩
  have H1 : Hid (WiOne b w w1 t m (freshW m)) := cover (by rw [ht]; exact WiOne.new H0.out.1 H0.out.2 h1.out)
  rw [← ht]
  clear ht h1 H0
  go_wp2_with fail
  refine (now_any H1.out.wi).mono ?_
  rintro e w2 ⟨he, rfl⟩
  change e = .returned (.int .i64 m) at he
  subst he
  go_wp2_with fail
  refine (slow_any H1.out.wi).mono ?_
  rintro e w2 ⟨rfl, h2⟩
  have H2 := cover (H1.out.turn h2.out)
  clear h2 H1
  go_wp2_with fail
  go_loopw [8, 9, 10] (fun sv iv _ wr => ∃ (j : Nat) (s : Int), j ≤ len ∧ sv = .int .i64 s ∧ iv = .int .i64 j ∧ Hid (0 ≤ s ∧ s ≤ 255 * j ∧ ∃ v, WiOne b w wr t m v ∧ Opened m v s)) (fun _ iv _ _ => len - (intOf iv).toNat)
  case atStart => exact ⟨0, 0, by omega, rfl, rfl, cover ⟨by omega, by omega, _, H2.out, Opened.start HM.out.1⟩⟩
  case round =>
    clear H2
    obtain ⟨j, s, hj, rfl, rfl, hrel⟩ := hrel
    by_cases hlt : j < len
    · obtain ⟨hs0, hs1, v, h2, h3⟩ := hrel.out
      obtain ⟨ad, x, rfl, hbl, hxw, hget⟩ := HR.out.at_ hlt
      have HXW : Hid (∀ W, Below b w W → W.cell? (ad.add j) = some (.int .u8 x)) := cover fun W hW => (hW.cell (by rw [addr_add_block]; exact hbl)).trans hxw
      clear hxw hbl
      have hx := HXW.out _ h2.bel
      have hxb := HBT.out x (List.mem_of_getElem? hget.out)
      have HX := cover hxb
      have H2 := cover (And.intro h2 h3)
      have HS := cover (And.intro hs0 hs1)
      clear h2 h3 hs0 hs1 hrel hxb
      have hlt' : (j : Int) < (len : Int) := by omega
      have HLT := cover hlt
      clear hlt
      have hwx : wrap64 x = x := IntWalk.wrap64_in _ ⟨by have := HX.out; omega, by have := HX.out; omega⟩
      go_wp2_with fail
      refine (acked_any H2.out.1.wi x (by have := HX.out; omega)).mono ?_
      rintro e w3 ⟨rfl, h4⟩
      obtain ⟨y, hy⟩ : ∃ y, s + x = y := ⟨_, rfl⟩
      have HY : Hid (0 ≤ y ∧ y ≤ 255 * ((j + 1 : Nat) : Int)) := cover (by have := HS.out; have := HX.out; push_cast; omega)
      obtain ⟨v', hv'⟩ : ∃ v', Hid (ackW m x.toNat v = v') := ⟨_, cover rfl⟩
      have H4 : Hid (WiOne b w w3 t m v' ∧ Opened m v' y) := cover (by
        have h5 := H2.out.2.acked HS.out.1 x.toNat
        rw [hv'.out, show s + ((x.toNat : Nat) : Int) = y by have := HX.out; omega] at h5
        rw [← hv'.out] at h5 ⊢
        exact ⟨H2.out.1.turn h4.out, h5⟩)
      clear h4 H2 hx
      have hx := HXW.out _ H4.out.1.bel
      have hwy : wrap64 (s + x) = y := (IntWalk.wrap64_in _ ⟨by have := HS.out; have := HX.out; omega, by have := HS.out; have := HX.out; have := HL.out; have := HLT.out; omega⟩).trans hy
      clear hy
      go_wp2_with fail
      simp only [hwy]
      go_loopw [10] (fun kv wr => ∃ k : Nat, kv = .int .i64 k ∧ wr = w3 ∧ Hid (1 ≤ (k : Int) ∧ (k : Int) ≤ m ∧ ∀ u : Int, 1 ≤ u → u < k → tri (u + 1) ≤ 2 * y)) (fun kv _ => 64 - (intOf kv).toNat)
      case atStart => exact ⟨1, rfl, rfl, cover ⟨by omega, HM.out.1, fun u h1 h2 => by omega⟩⟩
      case round =>
        obtain ⟨k, rfl, rfl, hrel⟩ := hrel
        clear hx hwx hwy
        have HK := cover hrel.out
        clear hrel
        obtain ⟨p, hp⟩ : ∃ p, (k : Int) * ((k : Int) + 1) = p := ⟨_, rfl⟩
        have HP : Hid (0 ≤ p ∧ p ≤ 4160) := cover (by
          have h1 := HK.out.1
          have h2 := HK.out.2.1
          have h3 := HM.out.2
          rw [← hp]
          exact ⟨Int.mul_nonneg (by omega) (by omega), Int.le_trans (Int.mul_le_mul (show (k : Int) ≤ 64 by omega) (show (k : Int) + 1 ≤ 65 by omega) (by omega) (by omega)) (by decide)⟩)
        obtain ⟨c, hc⟩ : ∃ c, p.tdiv 2 = c := ⟨_, rfl⟩
        have HTG : Hid (c ≤ y ↔ tri ((k : Int) + 1) ≤ 2 * y) := cover (by rw [← hc, ← hp]; exact tri_go (by omega))
        have hwk : wrap64 ((k : Int) + 1) = (k : Int) + 1 := IntWalk.wrap64_in _ ⟨by omega, by have := HK.out; have := HM.out; omega⟩
        have hwp : wrap64 ((k : Int) * ((k : Int) + 1)) = p := by rw [hp]; exact IntWalk.wrap64_in _ ⟨by have := HP.out; omega, by have := HP.out; omega⟩
        have HCB := cover (half_in HP.out hc)
        have hwc : wrap64 c = c := IntWalk.wrap64_in _ ⟨by have := HCB.out; omega, by have := HCB.out; omega⟩
        by_cases hkm : (k : Int) < m
        · by_cases hcy : c ≤ y
          · have HN : Hid (1 ≤ ((k + 1 : Nat) : Int) ∧ ((k + 1 : Nat) : Int) ≤ m ∧ ∀ u : Int, 1 ≤ u → u < ((k + 1 : Nat) : Int) → tri (u + 1) ≤ 2 * y) := cover ⟨by omega, by push_cast; omega, fun u h1 h2 => by
              by_cases h3 : u < k
              · exact HK.out.2.2 u h1 h3
              · rw [show u = (k : Int) by omega]; exact HTG.out.1 hcy⟩
            clear hp
            go_wp2
            go_roundw
            case rel => exact ⟨k + 1, by go_num, trivial, HN⟩
            case measure =>
              have := HN.out.2.1
              have := HM.out.2
              rw [hwk]
              clear hwk
              simp [intOf]; omega
          · have HW : Hid (v'.wide = k) := cover (H4.out.2.is HK.out.1 HK.out.2.1 HK.out.2.2 (fun h => hcy (HTG.out.2 h.2)))
            clear hp
            go_wp2_with fail
            refine (now_any H4.out.1.wi).mono ?_
            rintro e w5 ⟨he, rfl⟩
            rw [HW.out] at he
            subst he
            have HNX := cover (show 0 ≤ y ∧ y ≤ 255 * ((j + 1 : Nat) : Int) ∧ ∃ v, WiOne b w w5 t m v ∧ Opened m v y from ⟨HY.out.1, HY.out.2, v', H4.out⟩)
            clear hwk hwp hwc hkm hcy
            go_wp2
            go_roundw
            case rel => exact ⟨j + 1, y, by have := HLT.out; omega, rfl, by go_num, HNX⟩
            case measure =>
              have := HLT.out
              simp [intOf]; omega
        · have HW : Hid (v'.wide = k) := cover (H4.out.2.is HK.out.1 HK.out.2.1 HK.out.2.2 (fun h => hkm h.1))
          clear hp
          go_wp2_with fail
          refine (now_any H4.out.1.wi).mono ?_
          rintro e w5 ⟨he, rfl⟩
          rw [HW.out] at he
          subst he
          have HNX := cover (show 0 ≤ y ∧ y ≤ 255 * ((j + 1 : Nat) : Int) ∧ ∃ v, WiOne b w w5 t m v ∧ Opened m v y from ⟨HY.out.1, HY.out.2, v', H4.out⟩)
          clear hwk hwp hwc hkm
          go_wp2
          go_roundw
          case rel => exact ⟨j + 1, y, by have := HLT.out; omega, rfl, by go_num, HNX⟩
          case measure =>
            have := HLT.out
            simp [intOf]; omega
    · obtain ⟨hs0, hs1, v, h2, h3⟩ := hrel.out
      have H2 := cover h2
      have hlt' : ¬ (j : Int) < (len : Int) := by omega
      clear h2 h3 hs0 hs1 hrel
      go_wp2_with fail
      refine (fresh_any H2.out.wi).mono ?_
      rintro e w3 ⟨rfl, h4⟩
      have H4 := cover (H2.out.turn h4.out)
      clear h4 H2
      go_wp2_with fail
      refine (now_any H4.out.wi).mono ?_
      rintro e w5 ⟨he, rfl⟩
      change e = .returned (.int .i64 m) at he
      subst he
      have HN := cover H4.out.bel
      clear H4
      go_wp2
      go_ret
      exact ⟨rfl, by rw [← HG.out]; exact HN.out⟩
end Go.Proofs.Ytdjfnhplbhhgiaa
