/- The walk of VarsAcks. -/
import Derived.Deep.CutBlock
import Derived.Deep.DeepCutAuto
import Derived.Deep.RegionHeld3
import Derived.Test.YteobanbcjnahaaaVAwake
import Derived.Test.YteobanbcjnahaaaKWords
namespace Go.Proofs.Yteobanbcjnahaaa
open Go.RowKit
set_option linter.unusedVariables false
set_option linter.unusedSimpArgs false

set_option maxRecDepth 100000 in
set_option maxHeartbeats 1600000 in
theorem walk_VarsAcks (x y nr : Int) (w : World) (hx : (Lit.int .u8 x).wf = true) (hy : (Lit.int .u8 y).wf = true) (hz : (Lit.int .i64 nr).wf = true) : Calls Try.prog 6 #[.int .u8 x, .int .u8 y, .int .i64 nr] w fun e w' => e = .returned (.bool true) ∧ Below w.heap.size w w' := by
  have hx' := u8_wf hx
  have hy' := u8_wf hy
  clear hx hy hz
  obtain ⟨m, hm⟩ : ∃ m, x % 128 = m := ⟨_, rfl⟩
  obtain ⟨n, hn⟩ : ∃ n, y % 128 = n := ⟨_, rfl⟩
  have B1 : bits BinOp.and IntKind.i64 x 127 = m := (Go.i64_and127 x).trans hm
  have HM : Hid (0 ≤ m ∧ m ≤ 127) := cover (by omega)
  have HN : Hid (0 ≤ n ∧ n ≤ 127) := cover (by omega)
  clear hm
  obtain ⟨b, hb⟩ : ∃ b, b = w.heap.size := ⟨_, rfl⟩
  have HG := cover hb
  have s0 := cover (awake_any w)
  clear hb
  go_enter Try.func6, Try.ntmps6
  go_wp2_with fail
  refine s0.out.mono ?_
  rintro e w0 ⟨rfl, h0⟩
  obtain ⟨t, ht⟩ : ∃ t, t = w0.heap.size := ⟨_, rfl⟩
  obtain ⟨w1, hw1⟩ : ∃ w1, w1 = w0.alloc (.cells (vC 0 0 0) 26) := ⟨_, rfl⟩
  have H1 : Hid (VaOne b w w1 t zVV) := cover (by rw [hw1, ht]; exact VaOne.new (by rw [HG.out]; exact h0) (by rw [HG.out]; exact h0.size))
  go_upto_region 4 with fail
  rw [← hw1, ← ht]
  clear hw1 ht h0
  go_wp2_with fail
  go_loopw [8] (fun iv wr => ∃ k : Nat, (k : Int) ≤ m ∧ iv = .int .i64 k ∧ Hid (∃ v, VaOne b w wr t v ∧ RingV v k k)) (fun iv _ => 128 - (intOf iv).toNat)
  case atStart => exact ⟨0, HM.out.1, rfl, cover ⟨zVV, H1.out, RingV.zero⟩⟩
  case round =>
    obtain ⟨k, hk, rfl, hrel⟩ := hrel
    by_cases hlt : (k : Int) < m
    · obtain ⟨v, h2, hr⟩ := hrel.out
      have HR := cover hr
      have H2 := cover h2
      have e1 := hr.sent (by omega)
      have e2 := e1.2.acked (u := 1) (by omega) (by omega)
      have E1 := cover e1
      have E2 := cover e2
      have HK : Hid ((k : Int) + 1 ≤ 127 ∧ 0 ≤ (k : Int)) := cover (by have := HM.out; omega)
      have hw : wrap64 ((k : Int) + 1) = (k : Int) + 1 := IntWalk.wrap64_in _ ⟨by omega, by have := HM.out; omega⟩
      obtain ⟨q, hq⟩ : ∃ q, ((k : Int) + 1) % 128 = q := ⟨_, rfl⟩
      rw [hq] at E2
      clear h2 hr e1 e2 hrel
      go_wp2_with fail
      refine (sent_any H2.out.va).mono ?_
      rintro e w2 ⟨rfl, h3⟩
      have H3 := cover (H2.out.turn h3.out)
      clear h3 H2
      go_wp2_with fail
      rw [hq]
      refine (acked_any H3.out.va q).mono ?_
      rintro e w3 ⟨rfl, h4⟩
      have H4 := cover (H3.out.turn h4.out)
      clear h4 H3
      have HNX : Hid (∃ v, VaOne b w w3 t v ∧ RingV v (k + 1 : Nat) (k + 1 : Nat)) := cover ⟨_, H4.out, E2.out.2⟩
      clear H4 E2 E1
      go_wp2
      go_roundw
      case rel => exact ⟨k + 1, by omega, by go_num, HNX⟩
      case measure =>
        have h9 := HK.out
        rw [hw]
        clear hw hq
        simp [intOf]
        omega
    · obtain ⟨v, h2, hr⟩ := hrel.out
      have hkm : (k : Int) = m := by omega
      rw [hkm] at hr
      have H2 : Hid (VaOne b w wr t v ∧ RingV v m m) := cover ⟨h2, hr⟩
      have hkn : ¬ (k : Int) < m := hlt
      clear h2 hr hrel
      go_wp2_with fail
      clear hn hkn
      go_loopw [10] (fun iv wr => ∃ k : Nat, (k : Int) ≤ n ∧ iv = .int .i64 k ∧ Hid (∃ v, VaOne b w wr t v ∧ RingV v (m + k) m)) (fun iv _ => 128 - (intOf iv).toNat)
      case atStart => exact ⟨0, HN.out.1, rfl, cover ⟨v, H2.out.1, by rw [show m + ((0 : Nat) : Int) = m by omega]; exact H2.out.2⟩⟩
      case round =>
        clear H2 v
        obtain ⟨j, hj, rfl, hrel⟩ := hrel
        by_cases hlt : (j : Int) < n
        · obtain ⟨v, h2, hr⟩ := hrel.out
          have H2 := cover h2
          have e1 := hr.sent (by have := HN.out; omega)
          have E1 := cover e1
          have HK : Hid ((j : Int) + 1 ≤ 127 ∧ 0 ≤ (j : Int)) := cover (by have := HN.out; omega)
          have hw : wrap64 ((j : Int) + 1) = (j : Int) + 1 := IntWalk.wrap64_in _ ⟨by omega, by have := HN.out; omega⟩
          clear h2 hr e1 hrel
          go_wp2_with fail
          refine (sent_any H2.out.va).mono ?_
          rintro e w2 ⟨rfl, h3⟩
          have H3 := cover (H2.out.turn h3.out)
          clear h3 H2
          have HNX : Hid (∃ v, VaOne b w w2 t v ∧ RingV v (m + (j + 1 : Nat)) m) := cover ⟨_, H3.out, by rw [show m + ((j + 1 : Nat) : Int) = m + (j : Int) + 1 by omega]; exact E1.out.2⟩
          clear H3 E1
          go_wp2
          go_roundw
          case rel => exact ⟨j + 1, by omega, by go_num, HNX⟩
          case measure =>
            have h9 := HK.out
            rw [hw]
            clear hw
            simp [intOf]
            omega
        · obtain ⟨v, h2, hr⟩ := hrel.out
          have hkm : (j : Int) = n := by omega
          rw [hkm] at hr
          have H2 := cover h2
          have HR := cover hr
          have hkn : ¬ (j : Int) < n := hlt
          clear h2 hr hrel
          have HO : Hid (outV v = n) := cover (by rw [HR.out.out]; omega)
          have HA : Hid (v.va = m) := cover (by have := HR.out.2.1; have := HM.out; omega)
          clear hlt hj hkm
          go_wp2_with fail
          clear hkn
          refine (va_any H2.out.va).mono ?_
          rw [HA.out]
          rintro e w2 ⟨rfl, h3⟩
          have H3 := cover (H2.out.below h3)
          clear h3 H2
          go_wp2_with fail
          refine (vs_any H3.out.va).mono ?_
          rintro e w3 ⟨rfl, h4⟩
          have H4 := cover (H3.out.below h4)
          clear h4 H3
          go_wp2_with fail
          refine (acked_any H4.out.va nr).mono ?_
          rintro e w4 ⟨rfl, h5⟩
          have H5 := cover (H4.out.turn h5.out)
          clear h5 H4
          by_cases hlo : nr < 0
          · have E := cover (acks_no (v := v) (nr := nr) (outI_far (.inl hlo)))
            have E1 := E.out.1
            rw [E.out.2] at H5
            rw [E1]
            clear E E1
            go_wp2_with fail
            refine (va_any H5.out.va).mono ?_
            rw [HA.out]
            rintro e u0 ⟨rfl, j0⟩
            have J0 := cover (H5.out.below j0)
            clear j0 H5
            go_wp2_with fail
            refine (vs_any J0.out.va).mono ?_
            rintro e u1 ⟨rfl, j1⟩
            have J1 := cover (J0.out.below j1)
            clear j1 J0
            go_wp2_with fail
            refine (out_any J1.out.va).mono ?_
            rw [HO.out]
            rintro e u2 ⟨rfl, j2⟩
            have J2 := cover (J1.out.below j2)
            clear j2 J1
            go_wp2
            go_ret
            exact ⟨rfl, by rw [← HG.out]; exact J2.out.bel⟩
          by_cases hhi : (127 : Int) < nr
          · have E := cover (acks_no (v := v) (nr := nr) (outI_far (.inr hhi)))
            have E1 := E.out.1
            rw [E.out.2] at H5
            rw [E1]
            clear E E1
            go_wp2_with fail
            refine (va_any H5.out.va).mono ?_
            rw [HA.out]
            rintro e u0 ⟨rfl, j0⟩
            have J0 := cover (H5.out.below j0)
            clear j0 H5
            go_wp2_with fail
            refine (vs_any J0.out.va).mono ?_
            rintro e u1 ⟨rfl, j1⟩
            have J1 := cover (J0.out.below j1)
            clear j1 J0
            go_wp2_with fail
            refine (out_any J1.out.va).mono ?_
            rw [HO.out]
            rintro e u2 ⟨rfl, j2⟩
            have J2 := cover (J1.out.below j2)
            clear j2 J1
            go_wp2
            go_ret
            exact ⟨rfl, by rw [← HG.out]; exact J2.out.bel⟩
          have hacks := HR.out.acks (nr := nr) ⟨by omega, by omega⟩
          rw [show m + n - m = n by omega, HA.out] at hacks
          obtain ⟨D, hD⟩ : ∃ D, Hid (dist m nr = D) := ⟨_, cover rfl⟩
          have hW1 : wrap64 (nr - m) = nr - m := IntWalk.wrap64_in _ ⟨by have := HM.out; omega, by have := HM.out; omega⟩
          have hW2 := dist_go2 m nr
          rw [hD.out] at hacks hW2
          have hDb : 0 ≤ D ∧ D ≤ 127 := by rw [← hD.out]; exact dist_bd m nr
          obtain ⟨z, hz⟩ : ∃ z, (nr - m).tmod 128 = z := ⟨_, rfl⟩
          have hzb : -127 ≤ z ∧ z ≤ 127 := by rw [← hz]; obtain ⟨_, _, h1, h2⟩ := tmod_128 (nr - m); omega
          rw [hz] at hW2
          have hW3 : wrap64 (z + 128) = z + 128 := IntWalk.wrap64_in _ ⟨by omega, by omega⟩
          by_cases hle : n < D
          · have E := cover (acks_no (v := v) (nr := nr) (fun hk => by have := hacks.1.1 hk; omega))
            have E1 := E.out.1
            rw [E.out.2] at H5
            rw [E1]
            clear E E1
            clear hacks
            go_wp2_with fail
            refine (va_any H5.out.va).mono ?_
            rw [HA.out]
            rintro e u0 ⟨rfl, j0⟩
            have J0 := cover (H5.out.below j0)
            clear j0 H5
            go_wp2_with fail
            refine (vs_any J0.out.va).mono ?_
            rintro e u1 ⟨rfl, j1⟩
            have J1 := cover (J0.out.below j1)
            clear j1 J0
            go_wp2_with fail
            refine (out_any J1.out.va).mono ?_
            rw [HO.out]
            rintro e u2 ⟨rfl, j2⟩
            have J2 := cover (J1.out.below j2)
            clear j2 J1
            go_wp2
            go_ret
            exact ⟨rfl, by rw [← HG.out]; exact J2.out.bel⟩
          · have hle' : ¬ n < D := hle
            have E := cover (hacks.2 (hacks.1.2 (by omega)))
            have E1 := E.out.1
            rw [E1]
            have HND : Hid (wrap64 (n - D) = n - D) := cover (IntWalk.wrap64_in _ ⟨by have := HN.out; omega, by have := HN.out; omega⟩)
            have hND := HND.out
            clear hacks E1 hle
            go_wp2_with fail
            refine (va_any H5.out.va).mono ?_
            rw [E.out.2.1]
            rintro e u0 ⟨rfl, j0⟩
            have J0 := cover (H5.out.below j0)
            clear j0 H5
            go_wp2_with fail
            refine (vs_any J0.out.va).mono ?_
            rw [E.out.2.2.1]
            rintro e u1 ⟨rfl, j1⟩
            have J1 := cover (J0.out.below j1)
            clear j1 J0
            go_wp2_with fail
            refine (out_any J1.out.va).mono ?_
            rw [E.out.2.2.2]
            rintro e u2 ⟨rfl, j2⟩
            have J2 := cover (J1.out.below j2)
            clear j2 J1
            go_wp2
            go_ret
            exact ⟨rfl, by rw [← HG.out]; exact J2.out.bel⟩
end Go.Proofs.Yteobanbcjnahaaa
