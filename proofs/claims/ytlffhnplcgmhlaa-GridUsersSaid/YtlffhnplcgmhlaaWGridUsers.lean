/- The walk of GridUsers. -/
import Derived.Laws.Bits128
import Derived.Test.YtlffhnplcgmhlaaJUse
import Derived.Test.YtlffhnplcgmhlaaOFrame
namespace Go.Proofs.Ytlffhnplcgmhlaa
open Go.RowKit
set_option linter.unusedVariables false
set_option linter.unusedSimpArgs false

set_option maxHeartbeats 3200000 in
theorem go_GridUsers (a : Int) (w : World) (ha : 0 ≤ a ∧ a ≤ 255) : Calls Try.prog 8 #[.int .u8 a] w fun e w' => e = .returned (.bool true) ∧ Below w.heap.size w w' := by
  have s0 := awake_any w
  obtain ⟨s, hs⟩ : ∃ s, a % 14 = s := ⟨_, rfl⟩
  have HS : Hid (0 ≤ s ∧ s ≤ 13) := cover (by omega)
  have hu := users_all HS.out
  unfold usersG at hu
  simp only [Bool.and_eq_true, beq_iff_eq] at hu
  obtain ⟨⟨⟨⟨⟨⟨u0, u1⟩, u4⟩, u2⟩, u3⟩, u7⟩, u6⟩ := hu
  have K0 := cover (fun W => known_any s 0 W)
  have K1 := cover (fun W => known_any s 1 W)
  have K4 := cover (fun W => known_any s 4 W)
  have K2 := cover (fun W => known_any s 2 W)
  have K3 := cover (fun W => known_any s 3 W)
  have K7 := cover (fun W => known_any s 7 W)
  have K6 := cover (fun W => known_any s 6 W)
  rw [u0] at K0
  rw [u1] at K1
  rw [u4] at K4
  rw [u2] at K2
  rw [u3] at K3
  rw [u7] at K7
  rw [u6] at K6
  clear u0 u1 u2 u3 u4 u6 u7
  go_enter Try.func8, Try.ntmps8
  go_wp2_with fail
  refine s0.mono ?_
  rintro e w1 ⟨rfl, hb1⟩
  have HB1 := cover hb1
  clear hb1 s0
  have hcase : s = 0 ∨ s = 1 ∨ s = 2 ∨ s = 3 ∨ s = 4 ∨ s = 5 ∨ s = 6 ∨ s = 7 ∨ s = 8 ∨ s = 9 ∨ s = 10 ∨ s = 11 ∨ s = 12 ∨ s = 13 := by have := HS.out; omega
  clear HS
  rcases hcase with rfl | rfl | rfl | rfl | rfl | rfl | rfl | rfl | rfl | rfl | rfl | rfl | rfl | rfl
  all_goals
    go_wp2_with fail
    refine (K0.out _).mono ?_
    rintro e w2 ⟨rfl, hb⟩
    have HB2 := cover (HB1.out.trans (hb.mono HB1.out.size))
    clear hb
    go_wp2_with fail
    refine (K1.out _).mono ?_
    rintro e w3 ⟨rfl, hb⟩
    have HB3 := cover (HB2.out.trans (hb.mono HB2.out.size))
    clear hb
    go_wp2_with fail
    refine (K4.out _).mono ?_
    rintro e w4 ⟨rfl, hb⟩
    have HB4 := cover (HB3.out.trans (hb.mono HB3.out.size))
    clear hb
    go_wp2_with fail
    refine (K2.out _).mono ?_
    rintro e w5 ⟨rfl, hb⟩
    have HB5 := cover (HB4.out.trans (hb.mono HB4.out.size))
    clear hb
    go_wp2_with fail
    refine (K3.out _).mono ?_
    rintro e w6 ⟨rfl, hb⟩
    have HB6 := cover (HB5.out.trans (hb.mono HB5.out.size))
    clear hb
    go_wp2_with fail
    refine (K7.out _).mono ?_
    rintro e w7 ⟨rfl, hb⟩
    have HB7 := cover (HB6.out.trans (hb.mono HB6.out.size))
    clear hb
    go_wp2_with fail
    refine (K6.out _).mono ?_
    rintro e w8 ⟨rfl, hb⟩
    have HB8 := cover (HB7.out.trans (hb.mono HB7.out.size))
    clear hb
    go_wp2
    go_ret
    exact ⟨rfl, HB8.out⟩
theorem walk_GridUsers (a : Int) (w : World) (ha : (Lit.int .u8 a).wf = true) : Calls Try.prog 8 #[.int .u8 a] w fun e w' => e = .returned (.bool true) ∧ Below w.heap.size w w' := by
  refine go_GridUsers a w ?_
  simp only [Lit.wf, Bool.and_eq_true, decide_eq_true_eq] at ha
  exact ha
end Go.Proofs.Ytlffhnplcgmhlaa
