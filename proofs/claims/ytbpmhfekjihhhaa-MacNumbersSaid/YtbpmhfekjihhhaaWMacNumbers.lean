/- The walk of MacNumbers. -/
import Derived.Test.YtbpmhfekjihhhaaMAwake
import Derived.Test.YtbpmhfekjihhhaaWMacGroups
import Derived.Deep.RegionHeld3
import Derived.StillTailTactics
namespace Go.Proofs.Ytbpmhfekjihhhaa
open Go.RowKit
set_option linter.unusedVariables false
attribute [local go_sem] run_eq6 undef

theorem num6_bd {L : List Int} {n : Int} (h0 : 0 ≤ n) (h1 : n ≤ 255) : -1 ≤ num6 L n ∧ num6 L n ≤ 255 := by unfold num6; split <;> omega
theorem num6_yes {L : List Int} {n : Int} (h : 0 ≤ num6 L n) : num6 L n = n ∧ L = [2, 0, 0, 0, 0, n] := by
  unfold num6 at h ⊢
  split at h
  · rename_i hs; rw [if_pos hs]; exact ⟨rfl, sameL_iff.1 hs⟩
  · omega
theorem num6_none : num6 [0, 0, 0, 0, 0, 0] 0 = -1 := by unfold num6; rw [sameL_no (by decide), if_neg (by decide)]

set_option maxRecDepth 100000 in
set_option maxHeartbeats 800000 in
theorem numbers_neg (n m x0 x1 x2 x3 x4 x5 y0 y1 y2 y3 y4 y5 a0 a1 a2 a3 a4 a5 : Int) (w w2 : World) (q : Bool) (n0 : n < 0) (hq : sameL [x0, x1, x2, x3, x4, x5] [0, 0, 0, 0, 0, 0] = true) (ha : Byt a5) (hw2 : Hid (w2 = w.alloc (.cells #[.int .u8 a0, .int .u8 a1, .int .u8 a2, .int .u8 a3, .int .u8 a4, .int .u8 a5] 33)))
    (hsn : ∀ W, Calls Try.prog 18 #[.int .i64 n] W fun e w' => e = .returned (.agg #[.int .u8 x0, .int .u8 x1, .int .u8 x2, .int .u8 x3, .int .u8 x4, .int .u8 x5]) ∧ Below W.heap.size W w')
    (hsm : ∀ W, Calls Try.prog 18 #[.int .i64 m] W fun e w' => e = .returned (.agg #[.int .u8 y0, .int .u8 y1, .int .u8 y2, .int .u8 y3, .int .u8 y4, .int .u8 y5]) ∧ Below W.heap.size W w') :
    Calls Try.prog 10 #[.int .i64 n, .int .i64 m, .agg #[.int .u8 a0, .int .u8 a1, .int .u8 a2, .int .u8 a3, .int .u8 a4, .int .u8 a5]] w fun e w' => e = .returned (.bool true) ∧ Below w.heap.size w w' := by
  obtain ⟨ha0, ha1⟩ := ha
  have HN := cover hsn
  have HM := cover hsm
  clear hsn hsm
  have H2 : Hid (Below w.heap.size w w2) := cover (by rw [hw2.out]; exact (Below.refl _ _).alloc (Nat.le_refl _) _)
  have A2 : Hid (Six w2 w.heap.size 0 [a0, a1, a2, a3, a4, a5]) := cover (by rw [hw2.out]; exact six_boxed w a0 a1 a2 a3 a4 a5)
  have hs2 : w.heap.size < w2.heap.size := by rw [hw2.out]; simp
  go_enter Try.func10, Try.ntmps10
  go_wp2_with fail
  rw [← hw2.out]
  refine (awake_any w2).mono ?_
  rintro e w3 ⟨rfl, hb3⟩
  have hs3 := hb3.size
  have H3 := cover (H2.out.trans (hb3.mono (by omega)))
  have A3 := cover (A2.out.below hb3 hs2)
  clear hb3
  go_wp2_with fail
  refine (HN.out w3).mono ?_
  rintro e w4 ⟨rfl, hb4⟩
  have hs4 := hb4.size
  have H4 := cover (H3.out.trans (hb4.mono (by omega)))
  have A4 := cover (A3.out.below hb4 (by omega))
  clear hb4
  go_wp2_with fail
  refine (HM.out w4).mono ?_
  rintro e w5 ⟨rfl, hb5⟩
  have hs5 := hb5.size
  have H5 := cover (H4.out.trans (hb5.mono (by omega)))
  have A5 := cover (A4.out.below hb5 (by omega))
  clear hb5
  go_upto_region 4 with fail
  obtain ⟨w6, hw6⟩ : ∃ w6, Hid (w6 = (w5.alloc (.cells #[.int .u8 x0, .int .u8 x1, .int .u8 x2, .int .u8 x3, .int .u8 x4, .int .u8 x5] 33)).alloc (.cells #[.int .u8 y0, .int .u8 y1, .int .u8 y2, .int .u8 y3, .int .u8 y4, .int .u8 y5] 33)) := ⟨_, cover rfl⟩
  rw [← hw6.out]
  have B6 : Hid (Boxed w5 w6 [x0, x1, x2, x3, x4, x5] [y0, y1, y2, y3, y4, y5]) := cover (by rw [hw6.out]; exact boxed_two w5 x0 x1 x2 x3 x4 x5 y0 y1 y2 y3 y4 y5)
  have hs6 := B6.out.siz
  have H6 := cover (H5.out.trans (B6.out.bel.mono (by omega)))
  have A6 := cover (A5.out.below B6.out.bel (by omega))
  have hx6 := B6.out.one.all
  have hy6 := B6.out.two.all
  have ha6 := A6.out.all
  go_wp2_with fail
  refine (number_any a0 a1 a2 a3 a4 a5 ha0 (by omega) w6).mono ?_
  rintro e w8 ⟨rfl, hb8⟩
  have hs8 := hb8.size
  have H8 := cover (H6.out.trans (hb8.mono (by omega)))
  have A8 := cover (A6.out.below hb8 (by omega))
  have hlt8 : w.heap.size < w8.heap.size := by omega
  clear hb8
  have hbk := num6_bd (L := [a0, a1, a2, a3, a4, a5]) ha0 ha1
  have hky : 0 ≤ num6 [a0, a1, a2, a3, a4, a5] a5 → num6 [a0, a1, a2, a3, a4, a5] a5 = a5 ∧ [a0, a1, a2, a3, a4, a5] = [2, 0, 0, 0, 0, a5] := num6_yes
  obtain ⟨k, hk⟩ : ∃ k, Hid (num6 [a0, a1, a2, a3, a4, a5] a5 = k) := ⟨_, cover rfl⟩
  rw [hk.out] at hbk hky ⊢
  have HKY := cover hky
  obtain ⟨hk0, hk1⟩ := hbk
  clear hky hx6 hy6 ha6
  have hz := from_below (number_any 0 0 0 0 0 0 (by decide) (by decide)) w8
  rw [num6_none] at hz
  have HZ := cover hz
  have ha8 := A8.out.all
  have HA8 : Hid (∀ W', Below w8.heap.size w8 W' → (World.cell? W' ⟨w.heap.size, 0, none⟩ = some (.int .u8 a0) ∧ World.cell? W' ⟨w.heap.size, 1, none⟩ = some (.int .u8 a1) ∧ World.cell? W' ⟨w.heap.size, 2, none⟩ = some (.int .u8 a2) ∧ World.cell? W' ⟨w.heap.size, 3, none⟩ = some (.int .u8 a3) ∧ World.cell? W' ⟨w.heap.size, 4, none⟩ = some (.int .u8 a4) ∧ World.cell? W' ⟨w.heap.size, 5, none⟩ = some (.int .u8 a5)) ∧ Below w8.heap.size w8 W') := cover (fun W' hb => ⟨(A8.out.below hb hlt8).all, hb⟩)
  clear hz
  by_cases hneg : k < 0
  · have kd : decide (k < 0) = true := by simpa using hneg
    go_wp2_with fail
    go_still_tail 17, (by kernel_rfl)
    change wpList _ _ _ _ _ w8.drew
    go_wp2_with (go_at_call 19; refine (HZ.out _ (Below.refl _ _).drew).mono ?_; rintro e w9 ⟨rfl, hbX⟩)
    go_ret
    exact ⟨rfl, H8.out.trans (hbX.mono H8.out.size)⟩
  · obtain ⟨e1, e2⟩ := HKY.out (by omega)
    have hst := from_below (station_in k (by omega) (by omega)) w8
    have qa : sameL [2, 0, 0, 0, 0, k] [a0, a1, a2, a3, a4, a5] = true := by rw [e2, e1]; exact sameL_refl _
    have HST := cover hst
    have hk00 : 0 ≤ k := by omega
    have kd : decide (k < 0) = false := decide_eq_false hneg
    clear hst e1 e2
    go_wp2_with fail
    go_region_held3 (fun W' => (World.cell? W' ⟨w.heap.size, 0, none⟩ = some (.int .u8 a0) ∧ World.cell? W' ⟨w.heap.size, 1, none⟩ = some (.int .u8 a1) ∧ World.cell? W' ⟨w.heap.size, 2, none⟩ = some (.int .u8 a2) ∧ World.cell? W' ⟨w.heap.size, 3, none⟩ = some (.int .u8 a3) ∧ World.cell? W' ⟨w.heap.size, 4, none⟩ = some (.int .u8 a4) ∧ World.cell? W' ⟨w.heap.size, 5, none⟩ = some (.int .u8 a5)) ∧ Below w8.heap.size w8 W') (first | exact HA8.out _ hbX | exact HA8.out _ (Below.refl _ _).drew)
      (first
        | (go_at_call 19; refine (HZ.out _ ?_).mono ?_; (go_split_ands; assumption); rintro e w9 ⟨rfl, hbX⟩)
        | (go_at_call 18; refine (HST.out _ ?_).mono ?_; (go_split_ands; assumption); rintro e w9 ⟨rfl, hbX⟩))
    go_wp2
    go_ret
    exact ⟨rfl, H8.out.trans (hbX.mono H8.out.size)⟩
end Go.Proofs.Ytbpmhfekjihhhaa
