/- What Slow and the document's own sums answer. -/
import Derived.Test.YtbpmhfekjihhhaaCBit
namespace Go.Proofs.Ytbpmhfekjihhhaa
open Go.RowKit

theorem feed_walk {s : W32} {x : Int} (h : 0 ≤ x ∧ x ≤ 255) : bits BinOp.xor IntKind.u32 (rg s) x = rg (s ^^^ byteB x) := by
  conv => lhs; rw [rg_byte h]
  rw [rg_xor]
set_option maxHeartbeats 400000 in
theorem ref_more_any (s : W32) (A : Option Addr) (n c B : Nat) (l : List Int) (w : World) (hr : Row w B A n l) (hb : Bts l) (hmax : n ≤ 9223372036854775807) :
    Calls Try.prog 66 #[.int .u32 (rg s), .slice A n c] w fun e w' => e = .returned (.int .u32 (rg (more s l))) ∧ w = w' := by
  have hn := rg_not s
  have HL := cover hr.len
  have HB := cover hb
  clear hb
  go_enter Try.func66, Try.ntmps66
  go_wp2
  clear hn
  go_loop [0, 5] (fun r i => ∃ k : Nat, k ≤ n ∧ i = .int .i64 k ∧ r = .int .u32 (rg (run (~~~ s) (l.take k)))) (fun _ i => n - (intOf i).toNat)
  case atStart => exact ⟨0, Nat.zero_le _, rfl, rfl⟩
  case round =>
    obtain ⟨k, hk, rfl, rfl⟩ := hrel
    by_cases hlt : k < n
    · obtain ⟨ad, x, rfl, had, hc, hx⟩ := hr.at_ hlt
      obtain ⟨sk, hs⟩ : ∃ sk, Hid (run (~~~ s) (l.take k) = sk) := ⟨_, cover rfl⟩
      rw [hs.out]
      have hx2 := HB.out.get hx.out
      have HN : Hid (steps 8 (sk ^^^ byteB x) = run (~~~ s) (l.take (k + 1))) := cover (by
        rw [List.take_add_one, hx.out]
        show _ = run (~~~ s) (l.take k ++ [x])
        rw [run_snoc, hs.out]; rfl)
      have hf := feed_walk (s := sk) hx2
      go_wp2
      clear hf
      go_loop [0, 6] (fun r i => ∃ (j : Nat) (y : Int), j ≤ 8 ∧ i = .int .i64 j ∧ r = .int .u32 y ∧ 0 ≤ y ∧ y < 4294967296 ∧ Hid (y = rg (steps j (sk ^^^ byteB x)))) (fun _ i => 8 - (intOf i).toNat)
      case atStart => exact ⟨0, _, by decide, rfl, rfl, (rg_bd _).1, (rg_bd _).2, rfl⟩
      case round =>
        obtain ⟨j, y, hj, rfl, rfl, h0, h1, hy⟩ := hrel
        by_cases hj8 : j < 8
        · rcases hl : (steps j (sk ^^^ byteB x)).getLsbD 0 with _ | _
          · obtain ⟨t1, t2⟩ := rg_step_zero hy.out hl
            have hb2 := rg_bd (step (steps j (sk ^^^ byteB x)))
            rw [← t2] at hb2
            have T2 := cover t2
            have HB2 := cover hb2
            clear t2 hl hb2
            go_wp2
            go_round
            case rel => exact ⟨j + 1, _, by omega, by go_num, rfl, HB2.out.1, HB2.out.2, by rw [steps_succ]; exact T2⟩
            case measure => simp [intOf]; omega
          · obtain ⟨t1, t2⟩ := rg_step_one hy.out hl
            have hb2 := rg_bd (step (steps j (sk ^^^ byteB x)))
            rw [← t2] at hb2
            have T2 := cover t2
            have HB2 := cover hb2
            clear t2 hl hb2
            go_wp2
            go_round
            case rel => exact ⟨j + 1, _, by omega, by go_num, rfl, HB2.out.1, HB2.out.2, by rw [steps_succ]; exact T2⟩
            case measure => simp [intOf]; omega
        · obtain rfl : j = 8 := by omega
          go_wp2
          go_round
          case rel => exact ⟨k + 1, by omega, by go_num, by rw [hy.out, HN.out]⟩
          case measure => simp [intOf]; omega
    · obtain rfl : k = n := by omega
      have HT : Hid (l.take k = l) := cover (List.take_of_length_le (by rw [HL.out]; omega))
      rw [HT.out]
      have hn := rg_not (run (~~~ s) l)
      go_wp2
      go_ret
      exact ⟨rfl, rfl⟩
theorem ref_sum_any (A : Option Addr) (n c B : Nat) (l : List Int) (w : World) (hr : Row w B A n l) (hb : Bts l) (hmax : n ≤ 9223372036854775807) :
    Calls Try.prog 59 #[.slice A n c] w fun e w' => e = .returned (.int .u32 (rg (summ l))) ∧ w = w' := by
  have hm := ref_more_any 0 A n c B l w hr hb hmax
  rw [show rg 0 = 0 from rfl] at hm
  have HM := cover hm
  clear hr hb hm
  go_enter Try.func59, Try.ntmps59
  go_wp2_with (go_at_call 66; refine HM.out.mono ?_; rintro e w1 ⟨rfl, rfl⟩)
  go_ret
  exact ⟨rfl, rfl⟩
end Go.Proofs.Ytbpmhfekjihhhaa
