/- The walk of LanSpoils. -/
import Derived.Test.YtjidhpmjdhjciaaFRowH
namespace Go.Proofs.Ytjidhpmjdhjciaa
open Go.RowKit
set_option linter.unusedVariables false

set_option maxRecDepth 100000 in
set_option maxHeartbeats 3200000 in
theorem spoils_walk (A : Option Addr) (n c : Nat) (b : List Int) (bit other : Int) (w : World) (hn0 : 0 < n) (hn : n ≤ 200) (hr : Row w w.heap.size A n b) (hb : Bts b) :
    Calls Try.prog 10 #[.slice A n c, .int .i64 bit, .int .i64 other] w fun e w' => e = .returned (.bool true) ∧ Below w.heap.size w w' := by
  have hl := hr.len
  have hB0 : 0 < b.length := by omega
  have t1 := turnB_length b bit
  have t2 := turnB_bts hb bit
  have t3 := turnB_twice hb bit
  have t4 := turnB_ne hb hB0 bit
  have t5 := turnB_length b other
  have t6 := turnB_bts hb other
  have t7 := turnB_twice hb other
  obtain ⟨b', hb'⟩ : ∃ b', b' = turnB b bit := ⟨_, rfl⟩
  obtain ⟨b2, hb2⟩ : ∃ b2, b2 = turnB b other := ⟨_, rfl⟩
  rw [← hb'] at t1 t2 t3 t4
  rw [← hb2] at t5 t6 t7
  have HR := cover (And.intro hr (And.intro hb hl))
  have HT := cover (And.intro t1 (And.intro t2 (And.intro t3 (And.intro t4 (And.intro t5 (And.intro t6 (And.intro t7 (And.intro hb' hb2))))))))
  have HLN := cover (And.intro hB0 (show b.length ≤ 200 by omega))
  clear hr hb hl t1 t2 t3 t4 t5 t6 t7 hb' hb2 hB0
  have hz0 : ((n : Int) == 0) = false := by simp; omega
  have hz1 : (n == 0) = false := by simp; omega
  have hz2 : ¬ (n : Int) = 0 := by omega
  go_enter Try.func10, Try.ntmps10
  go_wp2_with fail
  refine (awake_any w).mono ?_
  rintro e w0 ⟨rfl, hb0⟩
  have H0 := cover hb0
  clear hb0
  go_wp2_with fail
  clear hz0 hz1 hz2
  refine (new_one (W := w) 2 5 9 H0.out (by decide) (by decide) (by decide)).mono ?_
  rintro e w1 ⟨l, rfl, H1⟩
  go_wp2_with fail
  refine (send_one H1.out (by decide) A n c w.heap.size b (HR.out.1.below H1.out.bel) H1.out.siz (by omega)).mono ?_
  rintro e w2 ⟨rfl, H2⟩
  go_wp2_with fail
  refine (twice_one (x := (b, 0)) (r := []) H2.out (by simp) (by have := HLN.out.2; show b.length ≤ _; omega)).mono ?_
  rintro e w3 ⟨rfl, H3⟩
  go_wp2_with fail
  refine (spoil_one H3.out HLN.out.1 (by have := HLN.out.2; show b.length ≤ _; omega) HR.out.2.1 bit).mono ?_
  rintro e w4 ⟨⟨q4, rfl⟩, H4⟩
  have H4' : Hid (LRow w [] l 2 5 9 [(b', 0), (b, 0)] 0 w4) := cover (by have := H4.out; rwa [← HT.out.2.2.2.2.2.2.2.1] at this)
  clear H4
  go_wp2_with fail
  refine (twice_one (x := (b', 0)) (r := [(b, 0)]) H4'.out (by simp) (by have := HLN.out.2; have := HT.out.1; show b'.length ≤ _; omega)).mono ?_
  rintro e w5 ⟨rfl, H5⟩
  go_wp2_with fail
  refine (row_one H5.out (fun x hx => by
    have := HLN.out.2; have := HT.out.1
    simp at hx; rcases hx with rfl | rfl
    · show b'.length ≤ _; omega
    · show b.length ≤ _; omega)).mono ?_
  rintro e w6 ⟨A6, c6, rfl, H6⟩
  obtain ⟨g, B0, d0, rfl, hg, k0, _, r0⟩ := H6.out.1.at_ 0 (b', 0) rfl
  obtain ⟨g1, B1, d1, e1, _, k1, _, r1⟩ := H6.out.1.at_ 1 (b', 0) rfl
  obtain ⟨g2, B2, d2, e2, _, k2, _, r2⟩ := H6.out.1.at_ 2 (b, 0) rfl
  injection e1 with e1; injection e1 with e1; subst e1
  injection e2 with e2; injection e2 with e2; subst e2
  simp at k0 k1 k2
  have H6b := cover H6.out.2
  have hrb := HR.out.1.below H6b.out.bel
  have hbl : b.length ≤ 200 := HLN.out.2
  have hbl' : b'.length = b.length := HT.out.1
  have S0 := fun d => same_no (w := w6.drewN d) (c := d0) (c' := c) (r0.drewN d) (hrb.drewN d) (by show b'.length ≤ _; omega) HT.out.2.2.2.1
  have S1 := fun d => same_yes (w := w6.drewN d) (c := d0) (c' := d1) (r0.drewN d) (r1.drewN d) (by show b'.length ≤ _; omega) rfl
  have S2 := fun d => same_yes (w := w6.drewN d) (c := d2) (c' := c) (r2.drewN d) (hrb.drewN d) (by show b.length ≤ _; omega) rfl
  rw [hbl'] at S0 S1 k0 k1
  have hln : b.length = n := HR.out.2.2
  rw [hln] at S0 S1 S2 k0 k1 k2
  clear H6 r0 r1 r2 hrb hbl hbl' hln H5 H4' H3 H2 H1
  go_wp2_with fail
  go_quiet ((go_at_call 17; (first | (with_reducible exact Calls.quiet_of (S0 _)) | (with_reducible exact Calls.quiet_of (S1 _)) | (with_reducible exact Calls.quiet_of (S2 _)))))
  have H7 : Hid (LRow w [] l 2 5 9 [(b', 0), (b', 0), (b, 0)] 0 (w6.drewN nq)) := cover (H6b.out.drewN nq)
  generalize w6.drewN nq = w7 at H7 ⊢
  clear S0 S1 S2 k0 k1 k2 hg H6b
  go_wp2_with fail
  refine (spoil_one H7.out (by have := HT.out.1; have := HLN.out.1; show 0 < b'.length; omega) (by have := HLN.out.2; have := HT.out.1; show b'.length ≤ _; omega) HT.out.2.1 bit).mono ?_
  rintro e w8 ⟨⟨q8, rfl⟩, H8⟩
  have H8' : Hid (LRow w [] l 2 5 9 [(b, 0), (b', 0), (b, 0)] 0 w8) := cover (by have := H8.out; rwa [show turnB b' bit = b from HT.out.2.2.1] at this)
  clear H8 H7
  go_wp2_with fail
  refine (spoil_one H8'.out HLN.out.1 (by have := HLN.out.2; show b.length ≤ _; omega) HR.out.2.1 other).mono ?_
  rintro e w9 ⟨⟨q9, rfl⟩, H9⟩
  have H9' : Hid (LRow w [] l 2 5 9 [(b2, 0), (b', 0), (b, 0)] 0 w9) := cover (by have := H9.out; rwa [← HT.out.2.2.2.2.2.2.2.2] at this)
  clear H9 H8'
  go_wp2_with fail
  refine (spoil_one H9'.out (by have := HT.out.2.2.2.2.1; have := HLN.out.1; show 0 < b2.length; omega) (by have := HLN.out.2; have := HT.out.2.2.2.2.1; show b2.length ≤ _; omega) HT.out.2.2.2.2.2.1 other).mono ?_
  rintro e w10 ⟨⟨q10, rfl⟩, H10⟩
  have H10' : Hid (LRow w [] l 2 5 9 [(b, 0), (b', 0), (b, 0)] 0 w10) := cover (by have := H10.out; rwa [show turnB b2 other = b from HT.out.2.2.2.2.2.2.1] at this)
  clear H10 H9'
  go_wp2_with fail
  refine (pass_one H10'.out).mono ?_
  rintro e w11 ⟨A11, c11, x11, rfl, _, k11, h11⟩
  have K11 := cover k11
  have H11 := cover h11
  clear k11 h11
  go_wp2_with fail
  refine (pass_one H11.out).mono ?_
  rintro e w12 ⟨A12, c12, x12, rfl, i12, k12, h12⟩
  have K12 := cover (And.intro (K11.out.more i12) k12)
  have H12 := cover h12
  clear i12 k12 h12 K11
  have hs1 := same_yes (c := c11) (c' := c) (H12.out.kept K12.out.1) (HR.out.1.below H12.out.bel) (by have := HLN.out.2; show b.length ≤ _; omega) rfl
  go_wp2_with fail
  refine hs1.mono ?_
  rintro e w13 ⟨rfl, d13, hw13⟩
  have H13 : Hid (LRow w x12 l 2 5 9 [(b, 0)] 0 w13) := cover (by rw [hw13]; exact H12.out.drewN _)
  clear hw13 hs1
  have hs2 := same_no (c := c12) (c' := c) (H13.out.kept K12.out.2) (HR.out.1.below H13.out.bel) (by have := HLN.out.2; have := HT.out.1; show b'.length ≤ _; omega) HT.out.2.2.2.1
  go_wp2_with fail
  refine hs2.mono ?_
  rintro e w14 ⟨rfl, d14, hw14⟩
  have H14 : Hid (LRow w x12 l 2 5 9 [(b, 0)] 0 w14) := cover (by rw [hw14]; exact H13.out.drewN _)
  clear hw14 hs2
  go_wp2_with fail
  refine (spoil_rev H14.out bit).mono ?_
  rintro e w15 ⟨rfl, H15⟩
  have HF := cover H15.out.bel
  clear H15 H14 H13 H12 H11 H10'
  go_wp2
  go_ret
  exact ⟨rfl, HF.out⟩
theorem walk_LanSpoils (A : Option Addr) (n c : Nat) (b : List Int) (bit : Int) (other : Int) (w : World) (hlc : n ≤ c) (hcm : c ≤ maxLen) (hr : Row w w.heap.size A n b) (hb : ∀ x ∈ b, (Lit.int .u8 x).wf = true) (hbit : (Lit.int .i64 bit).wf = true) (hot : (Lit.int .i64 other).wf = true) :
    Calls Try.prog 10 #[.slice A n c, .int .i64 bit, .int .i64 other] w fun e w' => e = .returned (.bool true) ∧ Below w.heap.size w w' := by
  unfold maxLen at hcm
  by_cases h0 : n = 0
  · subst h0
    clear hr hb
    go_enter Try.func10, Try.ntmps10
    go_wp2_with fail
    refine (awake_any w).mono ?_
    rintro e w0 ⟨rfl, hb0⟩
    go_wp2
    go_ret
    exact ⟨rfl, hb0⟩
  by_cases hn : n ≤ 200
  · exact spoils_walk A n c b bit other w (by omega) hn hr (bts_of_wf hb)
  · have hn' : (200 : Int) < (n : Int) := by omega
    have hz0 : ((n : Int) == 0) = false := by simp; omega
    clear hr hb h0 hn
    go_enter Try.func10, Try.ntmps10
    go_wp2_with fail
    refine (awake_any w).mono ?_
    rintro e w0 ⟨rfl, hb0⟩
    go_wp2
    go_ret
    exact ⟨rfl, hb0⟩
end Go.Proofs.Ytjidhpmjdhjciaa
