/- The walk of ClockFull. -/
import Derived.Test.YtodiocioldakjaaKAwake
import Derived.Deep.CutBlock
import Derived.Deep.DeepCutAuto
namespace Go.Proofs.Ytodiocioldakjaa
open Go.RowKit
set_option linter.unusedVariables false

/-- the timers 0 to k - 1, each of which has five ticks more than its number -/
def fullL (k : Nat) : List (Int × Int) := (List.range k).map fun (i : Nat) => ((i : Int), (5 : Int) + i)
theorem fullL_keys (k : Nat) : (fullL k).map (·.1) = (List.range k).map (fun (i : Nat) => (i : Int)) := by unfold fullL; rw [List.map_map]; rfl
theorem fullL_has (k : Nat) (x : Int) : hasK (fullL k) x = true ↔ 0 ≤ x ∧ x < k := by
  rw [hasK_iff, fullL_keys, List.mem_map]
  constructor
  · rintro ⟨i, hi, rfl⟩; have := List.mem_range.1 hi; omega
  · rintro ⟨h0, h1⟩; exact ⟨x.toNat, List.mem_range.2 (by omega), by omega⟩
theorem fullL_no {k : Nat} {x : Int} (h : ¬ (0 ≤ x ∧ x < k)) : hasK (fullL k) x = false := by
  cases hh : hasK (fullL k) x
  · rfl
  · exact absurd ((fullL_has k x).1 hh) h
theorem fullL_len (k : Nat) : (fullL k).length = k := by simp [fullL]
theorem fullL_succ (k : Nat) : startK (fullL k) (k : Int) ((5 : Int) + k) = fullL (k + 1) := by
  unfold startK
  rw [stopK_no (fullL_no (by omega))]
  unfold fullL
  rw [List.range_succ, List.map_append]; rfl
theorem fullB {n k : Nat} (h : k < n) (hn : n ≤ 40) : startB n (fullL k) (k : Int) ((5 : Int) + k) 10000 = true := by
  rw [startB_is (by omega) (by omega), fullL_no (by omega), fullL_len]; simpa using h
theorem hasK_stop_own {α : Type} [DecidableEq α] (l : List (α × Int)) (k : α) : hasK (stopK l k) k = false := by
  cases hh : hasK (stopK l k) k
  · rfl
  · obtain ⟨x, hx, e⟩ := List.mem_map.1 (hasK_iff.1 hh)
    unfold stopK at hx
    have := (List.mem_filter.1 hx).2
    simp [e] at this
theorem hasK_start_own {α : Type} [DecidableEq α] (l : List (α × Int)) (k : α) (t : Int) : hasK (startK l k t) k = true := hasK_iff.2 (List.mem_map.2 ⟨(k, t), by unfold startK; simp, rfl⟩)
set_option maxRecDepth 100000 in
set_option maxHeartbeats 1600000 in
theorem walk_ClockFull (a0 a1 : Int) (w : World) (h0' : (Lit.int .u8 a0).wf = true) (h1' : (Lit.int .u8 a1).wf = true) : Calls Try.prog 7 #[.int .u8 a0, .int .u8 a1] w fun e w' => e = .returned (.bool true) ∧ Below w.heap.size w w' := by
  have h0 := u8_wf h0'
  have h1 := u8_wf h1'
  clear h0' h1'
  obtain ⟨B, hB⟩ : ∃ B, B = w.heap.size := ⟨_, rfl⟩
  rw [← hB]
  have hBw : B ≤ w.heap.size := by omega
  clear hB
  obtain ⟨n, hn⟩ : ∃ n : Nat, (1 : Int) + a0 % 40 = n := ⟨(1 + a0 % 40).toNat, by omega⟩
  have hn1 : (1 : Int) ≤ (n : Int) := by omega
  have hn40 : (n : Int) ≤ 40 := by omega
  obtain ⟨k, hk⟩ : ∃ k : Nat, a1 % (n : Int) = k := ⟨(a1 % n).toNat, by have := Int.emod_nonneg a1 (b := (n : Int)) (by omega); omega⟩
  have hkn : (k : Int) < (n : Int) := by rw [← hk]; exact Int.emod_lt_of_pos _ (by omega)
  have hnz : ((n : Int) == 0) = false := by rw [beq_eq_false_iff_ne]; omega
  go_enter Try.func7, Try.ntmps7
  go_wp2_with fail
  refine (awake_any w).mono ?_
  rintro e w0 ⟨rfl, hb0⟩
  have HB0 : Hid (Below B w w0) := cover (hb0.mono hBw)
  have hs0 : B ≤ w0.heap.size := Nat.le_trans hBw hb0.size
  clear hb0
  go_wp2_with fail
  refine (newI_has (n : Int) (by omega) hs0).mono ?_
  rintro e w1 ⟨c, rfl, H1⟩
  have e1 : ((n : Int)).toNat = n := Int.toNat_natCast n
  rw [e1] at H1
  have HL1 : Hid (CIHas B w1 c n 0 (fullL 0) ∧ Below B w w1) := cover ⟨H1.out.1, HB0.out.trans H1.out.2⟩
  have HN := cover hn
  clear H1 HB0 hn e1
  go_wp2_with fail
  go_loopw [7] (fun i wr => ∃ j : Nat, (j : Int) ≤ (n : Int) ∧ i = .int .i64 j ∧ Hid (CIHas B wr c n 0 (fullL j) ∧ Below B w wr)) (fun i _ => n - (intOf i).toNat)
  case atStart => exact ⟨0, by omega, rfl, HL1⟩
  case round =>
    obtain ⟨j, hj, rfl, hrel⟩ := hrel
    by_cases hlt : (j : Int) < (n : Int)
    · have hst := startI_has hrel.out.1 (j : Int) ((5 : Int) + j)
      rw [fullB (by omega) (by omega), if_pos rfl, fullL_succ] at hst
      have h5 : IntKind.i64.wrap ((5 : Int) + (j : Int)) = (5 : Int) + j := by rw [IntKind.wrap_i64]; omega
      go_wp2_with fail
      refine hst.mono ?_
      rintro e w2 ⟨rfl, H2⟩
      have HN2 : Hid (CIHas B w2 c n 0 (fullL (j + 1)) ∧ Below B w w2) := cover ⟨H2.out.1, hrel.out.2.trans H2.out.2⟩
      clear hst H2 hrel
      go_wp2
      go_roundw
      case rel => exact ⟨j + 1, by omega, by go_num, HN2⟩
      case measure => simp [intOf]; omega
    · obtain rfl : j = n := by omega
      go_wp2_with fail
      -- one more does not
      have HI := cover hrel.out.1.ok
      have hno := fullL_no (k := j) (x := (j : Int)) (by omega)
      have b1 : startB j (fullL j) (j : Int) 3 10000 = false := by
        rw [startB_is (by decide) (by decide), hno, fullL_len]; simp
      have s1 := startI_has hrel.out.1 (j : Int) 3
      rw [b1, if_neg (by decide)] at s1
      refine s1.mono ?_
      rintro e w2 ⟨rfl, H2⟩
      have B2 := cover (hrel.out.2.trans H2.out.2)
      clear s1 hrel
      -- one that runs can be started anew
      have hyes := (fullL_has j (k : Int)).2 (by omega)
      have b2 : startB j (fullL j) (k : Int) 9 10000 = true := by
        rw [startB_is (by decide) (by decide), hyes]; rfl
      have s2 := startI_has H2.out.1 (k : Int) 9
      rw [b2, if_pos rfl] at s2
      go_wp2_with fail
      refine s2.mono ?_
      rintro e w3 ⟨rfl, H3⟩
      have B3 := cover (B2.out.trans H3.out.2)
      have HI3 := cover H3.out.1.ok
      clear s2 H2 B2
      have s3 := leftI_has H3.out.1 (k : Int)
      rw [leftK_start_own] at s3
      go_wp2_with fail
      refine s3.mono ?_
      rintro e w4 ⟨rfl, hb4⟩
      have H4 := cover (H3.out.1.below hb4)
      have B4 := cover (B3.out.trans (hb4.mono H3.out.1.size))
      clear s3 H3 B3 hb4
      have s4 := stopI_has H4.out (k : Int)
      rw [hasK_start_own] at s4
      go_wp2_with fail
      refine s4.mono ?_
      rintro e w5 ⟨rfl, H5⟩
      have B5 := cover (B4.out.trans H5.out.2)
      clear s4 H4 B4
      have s5 := stopI_has H5.out.1 (k : Int)
      rw [hasK_stop_own, stopK_no (hasK_stop_own _ _)] at s5
      go_wp2_with fail
      refine s5.mono ?_
      rintro e w6 ⟨rfl, H6⟩
      have B6 := cover (B5.out.trans H6.out.2)
      clear s5 H5 B5
      obtain ⟨L, hL⟩ : ∃ L, L = stopK (startK (fullL j) (k : Int) 9) (k : Int) := ⟨_, rfl⟩
      have hlen : L.length + 1 = j := by
        rw [hL]
        have h9 := stopK_len (k := (k : Int)) HI3.out.once (hasK_start_own _ _ _)
        have h8 := stopK_len (l := fullL j) (k := (k : Int)) HI.out.once hyes
        rw [h9]
        unfold startK
        rw [List.length_append]
        simp only [List.length_cons, List.length_nil]
        rw [fullL_len] at h8
        omega
      have hnoL : hasK L (j : Int) = false := by
        cases hh : hasK L (j : Int)
        · rfl
        · rw [hL] at hh
          obtain ⟨x, hx, e⟩ := List.mem_map.1 (hasK_iff.1 hh)
          unfold stopK startK at hx
          have hx1 := (List.mem_filter.1 hx).1
          rcases List.mem_append.1 hx1 with h2 | h2
          · have h3 := (List.mem_filter.1 h2).1
            have : hasK (fullL j) (j : Int) = true := hasK_iff.2 (List.mem_map.2 ⟨x, h3, e⟩)
            rw [hno] at this; cases this
          · simp at h2; subst h2; simp at e; omega
      have hkL : ∀ x ∈ L, x.1 ≠ (k : Int) := fun x hx => by
        rw [hL] at hx; unfold stopK at hx
        simpa using (List.mem_filter.1 hx).2
      have b7 : startB j L (j : Int) 3 10000 = true := by
        rw [startB_is (by decide) (by decide), hnoL]; simp; omega
      rw [← hL] at H6
      have s7 := startI_has H6.out.1 (j : Int) 3
      rw [b7, if_pos rfl] at s7
      go_wp2_with fail
      refine s7.mono ?_
      rintro e w7 ⟨rfl, H7⟩
      have B7 := cover (B6.out.trans H7.out.2)
      have E1 : leftK (startK L (j : Int) 3) (j : Int) = 3 := leftK_start_own _ _ _
      have E2 : leftK (startK L (j : Int) 3) (k : Int) = 0 := by rw [leftK_start_other (by omega), leftK_none hkL]
      have E3 : (startK L (j : Int) 3).length = j := by
        unfold startK; rw [stopK_no hnoL, List.length_append]; exact hlen
      obtain ⟨L7, hL7⟩ : ∃ L7, L7 = startK L (j : Int) 3 := ⟨_, rfl⟩
      rw [← hL7] at E1 E2 E3 H7
      clear s7 H6 B6 hkL b7 hnoL hlen hL hL7 hyes b1 b2 hno L
      have F1 := leftI_has H7.out.1 (j : Int)
      rw [E1] at F1
      go_wp2_with fail
      refine F1.mono ?_
      rintro e w8 ⟨rfl, hb8⟩
      have H8 := cover (H7.out.1.below hb8)
      have B8 := cover (B7.out.trans (hb8.mono H7.out.1.size))
      clear F1 hb8 H7 B7
      have F2 := leftI_has H8.out (k : Int)
      rw [E2] at F2
      go_wp2_with fail
      refine F2.mono ?_
      rintro e w9 ⟨rfl, hb9⟩
      have H9 := cover (H8.out.below hb9)
      have B9 := cover (B8.out.trans (hb9.mono H8.out.size))
      clear F2 hb9 H8 B8
      have F3 := lenI_has H9.out
      rw [E3] at F3
      go_wp2_with fail
      refine F3.mono ?_
      rintro e w' ⟨rfl, rfl⟩
      clear F3
      go_wp2
      go_ret
      exact ⟨rfl, B9.out⟩
end Go.Proofs.Ytodiocioldakjaa
