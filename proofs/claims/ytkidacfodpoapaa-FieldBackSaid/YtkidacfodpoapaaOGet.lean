/- What Get answers. -/
import Derived.Test.YtkidacfodpoapaaOWidth
namespace Go.Proofs.Ytkidacfodpoapaa
open Go.RowKit

set_option maxHeartbeats 400000 in
theorem get_any (A : Option Addr) (n c B : Nat) (l : List Int) (w : World) (hr : Row w B A n l) (hb : Bts l) :
    Calls Try.prog 36 #[.slice A n c] w fun e w' => e = .returned (.int .i64 (getB l)) ∧ w = w' := by
  have hlen := hr.len
  by_cases h1 : 1 ≤ n ∧ n ≤ 7
  · obtain ⟨h1, h2⟩ := h1
    go_enter Try.func36, Try.ntmps36
    go_wp2_with (first | (go_at_call 43; refine (isWidth_yes _ _ (by omega) (by omega)).mono ?_; rintro e w' ⟨rfl, rfl⟩))
    go_loop [3, 12] (fun m i => ∃ k : Nat, k ≤ n ∧ i = .int .i64 k ∧ m = .int .i64 (getv (l.take k))) (fun _ i => n - (intOf i).toNat)
    case atStart => exact ⟨0, Nat.zero_le _, rfl, rfl⟩
    case round =>
      obtain ⟨k, hk, rfl, rfl⟩ := hrel
      by_cases hlt : k < n
      · obtain ⟨ad, rfl, had, hc⟩ := hr.cells k (by omega)
        have hbd := getv_bd7 (hb.take k) (by rw [List.length_take]; omega)
        have hx := hb.at (k := k) (by omega)
        have HS : Hid (bits BinOp.or IntKind.i64 (wrap64 (getv (List.take k l) * 256)) (wrap64 l[k]) = getv (l.take (k + 1))) := by
          rw [getv_take_succ l k (by omega)]; exact or_byte _ _ hbd.1 (getv_bd6 (hb.take k) (by rw [List.length_take]; omega)).2 hx
        clear hbd hx hb
        go_wp2
        go_round
        case rel => exact ⟨k + 1, by omega, by go_num, by rw [HS.out]⟩
        case measure => simp [intOf]; omega
      · obtain rfl : k = n := by omega
        go_wp2
        go_ret
        exact ⟨ret_int (by unfold getB; rw [if_pos (by omega), List.take_of_length_le (by omega)]), rfl⟩
  · go_enter Try.func36, Try.ntmps36
    go_wp2_with (first | (go_at_call 43; refine (isWidth_no _ _ (by omega)).mono ?_; rintro e w' ⟨rfl, rfl⟩))
    go_ret
    exact ⟨ret_int (by unfold getB; rw [if_neg (by omega)]), rfl⟩
end Go.Proofs.Ytkidacfodpoapaa
