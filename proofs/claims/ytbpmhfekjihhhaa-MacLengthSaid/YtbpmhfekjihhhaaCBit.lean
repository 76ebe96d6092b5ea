/- What shiftByte does. -/
import Derived.Test.YtbpmhfekjihhhaaRows
import Derived.Test.YtbpmhfekjihhhaaOWords
import Derived.Test.YtbpmhfekjihhhaaCReg
namespace Go.Proofs.Ytbpmhfekjihhhaa
open Go.RowKit

theorem shift_any (s : W32) (r : Int) (w : World) (hr : Hid (r = rg s)) :
    Calls Try.prog 34 #[.int .u32 r] w fun e w' => e = .returned (.int .u32 (rg (steps 8 s))) ∧ w = w' := by
  have hb : 0 ≤ r ∧ r < 4294967296 := by have := rg_bd s; rw [← hr.out] at this; exact this
  go_enter Try.func34, Try.ntmps34
  go_wp2
  go_loop [0, 4] (fun r i => ∃ (k : Nat) (x : Int), k ≤ 8 ∧ i = .int .i64 k ∧ r = .int .u32 x ∧ 0 ≤ x ∧ x < 4294967296 ∧ Hid (x = rg (steps k s))) (fun _ i => 8 - (intOf i).toNat)
  case atStart => exact ⟨0, _, by decide, rfl, rfl, hb.1, hb.2, hr⟩
  case round =>
    obtain ⟨k, x, hk, rfl, rfl, h0, h1, hx⟩ := hrel
    by_cases hlt : k < 8
    · rcases hl : (steps k s).getLsbD 0 with _ | _
      · obtain ⟨t1, t2⟩ := rg_step_zero hx.out hl
        have hb2 := rg_bd (step (steps k s))
        rw [← t2] at hb2
        have T2 := cover t2
        clear t2 hl
        go_wp2
        go_round
        case rel => exact ⟨k + 1, _, by omega, by go_num, rfl, hb2.1, hb2.2, by rw [steps_succ]; exact T2⟩
        case measure => simp [intOf]; omega
      · obtain ⟨t1, t2⟩ := rg_step_one hx.out hl
        have hb2 := rg_bd (step (steps k s))
        rw [← t2] at hb2
        have T2 := cover t2
        have HB := cover hb2
        clear t2 hl hb2
        go_wp2
        go_round
        case rel => exact ⟨k + 1, _, by omega, by go_num, rfl, HB.out.1, HB.out.2, by rw [steps_succ]; exact T2⟩
        case measure => simp [intOf]; omega
    · obtain rfl : k = 8 := by omega
      go_wp2
      go_ret
      exact ⟨ret_int hx.out, rfl⟩
end Go.Proofs.Ytbpmhfekjihhhaa
