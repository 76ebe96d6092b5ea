/- The document's own Takes. -/
import Derived.Test.YtbpmhfekjihhhaaMTake
namespace Go.Proofs.Ytbpmhfekjihhhaa
open Go.RowKit
attribute [local go_sem] run_eq6 undef

theorem sameL_comm (x y : List Int) : sameL x y = sameL y x := by
  unfold sameL
  by_cases h : x = y
  · rw [h]
  · rw [decide_eq_false h, decide_eq_false (fun e => h e.symm)]
set_option maxHeartbeats 1600000 in
theorem ref_takes_at (m0 m1 m2 m3 m4 m5 : Int) (A : Option Addr) (n c B : Nat) (gs : List (List Int)) (t0 t1 t2 t3 t4 t5 : Int) (w w2 : World) (q1 q2 q3 q4 : Bool) (hr : AdrsB w2 B A n gs) (hB : B ≤ w2.heap.size) (hmax : n ≤ 9223372036854775807)
    (hw2 : Hid (w2 = (w.alloc (.cells #[.int .u8 m0, .int .u8 m1, .int .u8 m2, .int .u8 m3, .int .u8 m4, .int .u8 m5] 33)).alloc (.cells #[.int .u8 t0, .int .u8 t1, .int .u8 t2, .int .u8 t3, .int .u8 t4, .int .u8 t5] 33))) (HB : Hid (Boxed w w2 [m0, m1, m2, m3, m4, m5] [t0, t1, t2, t3, t4, t5]))
    (h1 : sameL [t0, t1, t2, t3, t4, t5] [m0, m1, m2, m3, m4, m5] = q1) (h2 : sameL [t0, t1, t2, t3, t4, t5] [255, 255, 255, 255, 255, 255] = q2) (h3 : Hid (grp t0 = q3)) (h4 : Hid (hasB gs [t0, t1, t2, t3, t4, t5] = q4)) :
    Calls Try.prog 26 #[.agg #[.int .u8 m0, .int .u8 m1, .int .u8 m2, .int .u8 m3, .int .u8 m4, .int .u8 m5], .slice A n c, .agg #[.int .u8 t0, .int .u8 t1, .int .u8 t2, .int .u8 t3, .int .u8 t4, .int .u8 t5]] w fun e w' => e = .returned (.bool (q1 || q2 || (q3 && q4))) ∧ Below w.heap.size w w' := by
  have HL := cover hr.len
  have HA := cover (from_below ref_all_any w2)
  have HG := cover (from_below (ref_group_any t0 t1 t2 t3 t4 t5) w2)
  rw [h3.out] at HG
  have hcc := HB.out.all (Below.refl _ _)
  have hs2 := HB.out.bel.size
  rcases q1 with _ | _
  · rcases q2 with _ | _
    · go_enter Try.func26, Try.ntmps26
      go_wp2_with fail
      rw [← hw2.out]
      go_region_held3 (fun w' => (World.cell? w' ⟨w.heap.size, 0, none⟩ = some (.int .u8 m0) ∧ World.cell? w' ⟨w.heap.size, 1, none⟩ = some (.int .u8 m1) ∧ World.cell? w' ⟨w.heap.size, 2, none⟩ = some (.int .u8 m2) ∧ World.cell? w' ⟨w.heap.size, 3, none⟩ = some (.int .u8 m3) ∧ World.cell? w' ⟨w.heap.size, 4, none⟩ = some (.int .u8 m4) ∧ World.cell? w' ⟨w.heap.size, 5, none⟩ = some (.int .u8 m5)) ∧ (World.cell? w' ⟨(w.heap.size + 1), 0, none⟩ = some (.int .u8 t0) ∧ World.cell? w' ⟨(w.heap.size + 1), 1, none⟩ = some (.int .u8 t1) ∧ World.cell? w' ⟨(w.heap.size + 1), 2, none⟩ = some (.int .u8 t2) ∧ World.cell? w' ⟨(w.heap.size + 1), 3, none⟩ = some (.int .u8 t3) ∧ World.cell? w' ⟨(w.heap.size + 1), 4, none⟩ = some (.int .u8 t4) ∧ World.cell? w' ⟨(w.heap.size + 1), 5, none⟩ = some (.int .u8 t5)) ∧ Below w2.heap.size w2 w') (first | exact HB.out.all hbX | exact HB.out.all (Below.refl _ _).drew)
        (first
          | (go_at_call 30; refine (HA.out _ ?_).mono ?_; (go_split_ands; assumption); rintro e w1 ⟨rfl, hbX⟩))
      have hcX := HB.out.all hbX
      go_wp2_with fail
      refine (HG.out _ hbX).mono ?_
      rintro e w3 ⟨rfl, hbY⟩
      have hcY := (HB.out.all hbY).2.1
      have hr3 := hr.below (hbY.mono hB)
      have hbel := HB.out.bel.trans (hbY.mono hs2)
      have HBel := cover hbel
      clear hbX hbY hcX hr hbel hcc
      rcases q3 with _ | _
      · go_wp2
        go_ret
        exact ⟨rfl, HBel.out⟩
      · go_wp2_with fail
        go_loopw [7] (fun i wr => ∃ k : Nat, k ≤ n ∧ i = .int .i64 k ∧ Hid (hasB (gs.take k) [t0, t1, t2, t3, t4, t5] = false) ∧ ∃ d, wr = w3.drewN d) (fun i _ => n - (intOf i).toNat)
        case atStart => exact ⟨0, Nat.zero_le _, rfl, cover rfl, 0, rfl⟩
        case round =>
          obtain ⟨k, hk, rfl, hno, d, rfl⟩ := hrel
          by_cases hlt : k < n
          · obtain ⟨ad, a0, a1, a2, a3, a4, a5, rfl, hblk, hgk, g0, g1, g2, g3, g4, g5⟩ := hr3.cells k (by rw [HL.out]; exact hlt)
            have HGK : Hid (gs[k]? = some [a0, a1, a2, a3, a4, a5]) := cover (by rw [List.getElem?_eq_getElem (by rw [HL.out]; exact hlt), hgk])
            clear hgk
            rcases hq : sameL [a0, a1, a2, a3, a4, a5] [t0, t1, t2, t3, t4, t5] with _ | _
            · go_wp2_with fail
              go_quiet (fail)
              go_wp2
              go_roundw
              case rel => exact ⟨k + 1, by omega, by go_num, cover (by rw [hasB_next HGK.out, hno.out, sameL_comm, hq]; rfl), d + nq, rfl⟩
              case measure => simp [intOf]; omega
            · go_wp2_with fail
              go_quiet (fail)
              go_wp2
              go_ret
              refine ⟨ret_bool ?_, below_drewN (below_drewN HBel.out _) _⟩
              rw [← h4.out, hasB_yes HGK.out (by rw [sameL_comm]; exact hq)]
              rfl
          · obtain rfl : k = n := by omega
            go_wp2
            go_ret
            refine ⟨ret_bool ?_, below_drewN HBel.out _⟩
            rw [← h4.out, ← List.take_of_length_le (l := gs) (i := k) (by rw [HL.out]; omega), hno.out]
            rfl
    · go_enter Try.func26, Try.ntmps26
      go_wp2_with fail
      rw [← hw2.out]
      go_region_held3 (fun w' => (World.cell? w' ⟨w.heap.size, 0, none⟩ = some (.int .u8 m0) ∧ World.cell? w' ⟨w.heap.size, 1, none⟩ = some (.int .u8 m1) ∧ World.cell? w' ⟨w.heap.size, 2, none⟩ = some (.int .u8 m2) ∧ World.cell? w' ⟨w.heap.size, 3, none⟩ = some (.int .u8 m3) ∧ World.cell? w' ⟨w.heap.size, 4, none⟩ = some (.int .u8 m4) ∧ World.cell? w' ⟨w.heap.size, 5, none⟩ = some (.int .u8 m5)) ∧ (World.cell? w' ⟨(w.heap.size + 1), 0, none⟩ = some (.int .u8 t0) ∧ World.cell? w' ⟨(w.heap.size + 1), 1, none⟩ = some (.int .u8 t1) ∧ World.cell? w' ⟨(w.heap.size + 1), 2, none⟩ = some (.int .u8 t2) ∧ World.cell? w' ⟨(w.heap.size + 1), 3, none⟩ = some (.int .u8 t3) ∧ World.cell? w' ⟨(w.heap.size + 1), 4, none⟩ = some (.int .u8 t4) ∧ World.cell? w' ⟨(w.heap.size + 1), 5, none⟩ = some (.int .u8 t5)) ∧ Below w2.heap.size w2 w') (first | exact HB.out.all hbX | exact HB.out.all (Below.refl _ _).drew)
        (first
          | (go_at_call 30; refine (HA.out _ ?_).mono ?_; (go_split_ands; assumption); rintro e w1 ⟨rfl, hbX⟩))
      go_wp2
      go_ret
      exact ⟨rfl, HB.out.bel.trans (hbX.mono hs2)⟩
  · go_enter Try.func26, Try.ntmps26
    go_wp2_with fail
    rw [← hw2.out]
    go_quiet (fail)
    go_wp2
    go_ret
    exact ⟨rfl, below_drewN HB.out.bel _⟩
theorem ref_takes_any (m0 m1 m2 m3 m4 m5 : Int) (A : Option Addr) (n c B : Nat) (gs : List (List Int)) (t0 t1 t2 t3 t4 t5 : Int) (w : World) (hr : AdrsB w B A n gs) (hB : B ≤ w.heap.size) (hmax : n ≤ 9223372036854775807) :
    Calls Try.prog 26 #[.agg #[.int .u8 m0, .int .u8 m1, .int .u8 m2, .int .u8 m3, .int .u8 m4, .int .u8 m5], .slice A n c, .agg #[.int .u8 t0, .int .u8 t1, .int .u8 t2, .int .u8 t3, .int .u8 t4, .int .u8 t5]] w fun e w' => e = .returned (.bool (takesB [m0, m1, m2, m3, m4, m5] gs [t0, t1, t2, t3, t4, t5] t0)) ∧ Below w.heap.size w w' :=
  ref_takes_at m0 m1 m2 m3 m4 m5 A n c B gs t0 t1 t2 t3 t4 t5 w _ _ _ _ _ ((hr.alloc hB _).alloc (by simp; omega) _) (by simp; omega) hmax (cover rfl) (cover (boxed_two w m0 m1 m2 m3 m4 m5 t0 t1 t2 t3 t4 t5)) rfl rfl (cover rfl) (cover rfl)
end Go.Proofs.Ytbpmhfekjihhhaa
