/- The walk of WindowFresh. -/
import Derived.Deep.CutBlock
import Derived.Deep.DeepCutAuto
import Derived.Deep.RegionHeld3
import Derived.Test.YtdjfnhplbhhgiaaIAwake
import Derived.Test.YtdjfnhplbhhgiaaKWords
namespace Go.Proofs.Ytdjfnhplbhhgiaa
open Go.RowKit
set_option linter.unusedVariables false
set_option linter.unusedSimpArgs false

theorem freshed (m : Int) (h : 1 ≤ m) : (ackW m 1 slowW).wide = if m < 2 then m else 2 := by
  show (stepW m ⟨1, 0⟩).wide = _
  unfold stepW
  by_cases h1 : m < 2
  · rw [if_pos (by show m ≤ 1; omega), if_pos h1]; show (1 : Int) = m; omega
  · rw [if_neg (by show ¬ m ≤ 1; omega), if_neg h1]; rfl
set_option maxRecDepth 100000 in
set_option maxHeartbeats 1600000 in
theorem walk_WindowFresh (a0 : Int) (A : Option Addr) (len cap : Nat) (l : List Int) (w : World) (ha : (Lit.int .u8 a0).wf = true) (hlc : len ≤ cap) (hcm : cap ≤ maxLen) (hr : Row w w.heap.size A len l) (hbt : ∀ x ∈ l, (Lit.int .u8 x).wf = true) :
    Calls Try.prog 7 #[.int .u8 a0, .slice A len cap] w fun e w' => e = .returned (.bool true) ∧ Below w.heap.size w w' := by
  obtain ⟨b, hb⟩ : ∃ b, b = w.heap.size := ⟨_, rfl⟩
  have HG := cover hb
  rw [← hb] at hr
  have HR := cover hr
  have HBT : Hid (Bts l) := cover fun x hx => u8_wf (hbt x hx)
  have HA := cover (u8_wf ha)
  have s0 := cover (awake_any w)
  clear hb hr hbt ha
  go_enter Try.func7, Try.ntmps7
  go_wp2_with fail
  refine s0.out.mono ?_
  rintro e w0 ⟨rfl, h0⟩
  have H0 : Hid (Below b w w0 ∧ b ≤ w0.heap.size) := cover (by rw [HG.out]; exact ⟨h0, h0.size⟩)
  clear h0 s0
  by_cases hlong : (100 : Int) < (len : Int)
  · go_wp2
    go_ret
    exact ⟨rfl, by rw [← HG.out]; exact H0.out.1⟩
  have HL : Hid (len ≤ 100) := cover (by omega)
  have hl : ¬ (100 : Int) < (len : Int) := hlong
  clear hlong
  have HD : Hid (decide ((100 : Int) < (len : Int)) = false) := cover (decide_eq_false hl)
  have ha0 := HA.out
  obtain ⟨q, hq⟩ : ∃ q, Int.tmod a0 64 = q := ⟨_, rfl⟩
  have HQ : Hid (0 ≤ q ∧ q ≤ 63) := cover (by rw [Int.tmod_eq_emod_of_nonneg ha0.1] at hq; omega)
  obtain ⟨m, hm⟩ : ∃ m, 1 + q = m := ⟨_, rfl⟩
  have HM : Hid (1 ≤ m ∧ m ≤ 64) := cover (by have := HQ.out; omega)
  have hw0 : wrap64 a0 = a0 := IntWalk.wrap64_in _ ⟨by omega, by omega⟩
  have hwm : wrap64 (1 + q) = m := (IntWalk.wrap64_in _ ⟨by have := HQ.out; omega, by have := HQ.out; omega⟩).trans hm
  clear hm ha0
  go_upto_region 6 with fail
  simp only [HD.out, hw0, hq, hwm]
  clear hw0 hq hwm hl
  obtain ⟨t, ht⟩ : ∃ t, t = w0.heap.size := ⟨_, rfl⟩
  go_wp2_with fail
  refine (new_yes m HM.out w0).mono ?_
  rintro e w1 ⟨rfl, h1⟩
  have H1 : Hid (WiOne b w w1 t m (freshW m)) := cover (by rw [ht]; exact WiOne.new H0.out.1 H0.out.2 h1.out)
  rw [← ht]
  clear ht h1 H0
  go_wp2_with fail
  refine (now_any H1.out.wi).mono ?_
  rintro e w2 ⟨he, rfl⟩
  change e = .returned (.int .i64 m) at he
  subst he
  go_wp2_with fail
  go_loopw [8] (fun iv wr => ∃ j : Nat, j ≤ len ∧ iv = .int .i64 j ∧ Hid (∃ v, WiOne b w wr t m v)) (fun iv _ => len - (intOf iv).toNat)
  case atStart => exact ⟨0, by omega, rfl, cover ⟨_, H1.out⟩⟩
  case round =>
    clear H1
    obtain ⟨j, hj, rfl, hrel⟩ := hrel
    by_cases hlt : j < len
    · obtain ⟨v, h2⟩ := hrel.out
      obtain ⟨ad, x, rfl, hbl, hxw, hget⟩ := HR.out.at_ hlt
      have HXW : Hid (∀ W, Below b w W → W.cell? (ad.add j) = some (.int .u8 x)) := cover fun W hW => (hW.cell (by rw [addr_add_block]; exact hbl)).trans hxw
      clear hxw hbl
      have hxb := HBT.out x (List.mem_of_getElem? hget.out)
      have HX := cover hxb
      have H2 := cover h2
      clear h2 hrel hxb
      have hlt' : (j : Int) < (len : Int) := by omega
      have HLT := cover hlt
      clear hlt
      have hwx : wrap64 x = x := IntWalk.wrap64_in _ ⟨by have := HX.out; omega, by have := HX.out; omega⟩
      have hwn : wrap64 (-x) = -x := IntWalk.wrap64_in _ ⟨by have := HX.out; omega, by have := HX.out; omega⟩
      go_wp2_with fail
      refine (slow_any H2.out.wi).mono ?_
      rintro e w2 ⟨rfl, h3⟩
      have H3 := cover (H2.out.turn h3.out)
      clear h3 H2
      have hx := HXW.out _ H3.out.bel
      go_wp2_with fail
      refine (acked_any H3.out.wi x (by have := HX.out; omega)).mono ?_
      rintro e w3 ⟨rfl, h4⟩
      have H4 := cover (H3.out.turn h4.out)
      clear h4 H3 hx
      have hx := HXW.out _ H4.out.bel
      go_wp2_with fail
      refine (acked_any H4.out.wi (-x) (by have := HX.out; omega)).mono ?_
      rintro e w4 ⟨rfl, h5⟩
      have H5 := cover (H4.out.turn h5.out)
      clear h5 H4 hx hwx hwn
      go_wp2_with fail
      refine (fresh_any H5.out.wi).mono ?_
      rintro e w5 ⟨rfl, h6⟩
      have H6 := cover (H5.out.turn h6.out)
      clear h6 H5
      go_wp2_with fail
      refine (now_any H6.out.wi).mono ?_
      rintro e w6 ⟨he, rfl⟩
      change e = .returned (.int .i64 m) at he
      subst he
      go_wp2_with fail
      refine (slow_any H6.out.wi).mono ?_
      rintro e w6 ⟨rfl, h7⟩
      have H7 := cover (H6.out.turn h7.out)
      clear h7 H6
      go_wp2_with fail
      refine (now_any H7.out.wi).mono ?_
      rintro e w7 ⟨he, rfl⟩
      change e = .returned (.int .i64 1) at he
      subst he
      go_wp2_with fail
      refine (acked_any H7.out.wi 1 (by decide)).mono ?_
      rintro e w8 ⟨rfl, h8⟩
      have H8 := cover (H7.out.turn h8.out)
      clear h8 H7
      have hk := freshed m HM.out.1
      go_wp2_with fail
      refine (now_any H8.out.wi).mono ?_
      rintro e w9 ⟨he, rfl⟩
      rw [show (ackW m (1 : Int).toNat slowW).wide = _ from hk] at he
      have HX8 : Hid (∃ v, WiOne b w w9 t m v) := cover ⟨_, H8.out⟩
      clear hk H8
      by_cases h2 : m < 2
      · rw [if_pos h2] at he
        subst he
        go_wp2
        go_roundw
        case rel => exact ⟨j + 1, by have := HLT.out; omega, by go_num, HX8⟩
        case measure =>
          have := HLT.out
          simp [intOf]; omega
      · rw [if_neg h2] at he
        subst he
        go_wp2
        go_roundw
        case rel => exact ⟨j + 1, by have := HLT.out; omega, by go_num, HX8⟩
        case measure =>
          have := HLT.out
          simp [intOf]; omega
    · obtain ⟨v, h4⟩ := hrel.out
      have HN := cover h4.bel
      have hlt' : ¬ (j : Int) < (len : Int) := by omega
      clear h4 hrel
      go_wp2
      go_ret
      exact ⟨rfl, by rw [← HG.out]; exact HN.out⟩
end Go.Proofs.Ytdjfnhplbhhgiaa
