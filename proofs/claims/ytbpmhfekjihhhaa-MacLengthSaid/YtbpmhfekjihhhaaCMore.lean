/- What More, Sum and Slow answer. -/
import Derived.Test.YtbpmhfekjihhhaaCBit
namespace Go.Proofs.Ytbpmhfekjihhhaa
open Go.RowKit

/-- the cells of a table -/
structure IsTab (T : Array Value) (f : Nat → W32) : Prop where
  size : T.size = 256
  at_ : ∀ i, i < 256 → T[i]? = some (.int .u32 (rg (f i)))

set_option maxHeartbeats 400000 in
theorem more_any (T : Array Value) (f : Nat → W32) (s : W32) (A : Option Addr) (n c B : Nat) (l : List Int) (w : World) (ht : IsTab T f) (hr : Row w B A n l) (hB : B ≤ w.heap.size) (hb : Bts l) (hmax : n ≤ 9223372036854775807) :
    Calls Try.prog 45 #[.agg T, .int .u32 (rg s), .slice A n c] w fun e w' => e = .returned (.int .u32 (rg (moreT f s l))) ∧ Below w.heap.size w w' := by
  have hn := rg_not s
  have HL := cover hr.len
  have HB := cover hb
  have hr' := hr.alloc hB (.cells T 26)
  clear hr hb
  go_enter Try.func45, Try.ntmps45
  go_wp2
  clear hn
  go_loop [7, 14] (fun r i => ∃ k : Nat, k ≤ n ∧ i = .int .i64 k ∧ r = .int .u32 (rg (runT f (~~~ s) (l.take k)))) (fun _ i => n - (intOf i).toNat)
  case atStart => exact ⟨0, Nat.zero_le _, rfl, rfl⟩
  case round =>
    obtain ⟨k, hk, rfl, rfl⟩ := hrel
    by_cases hlt : k < n
    · obtain ⟨ad, x, rfl, had, hc, hx⟩ := hr'.at_ hlt
      obtain ⟨sk, hs⟩ : ∃ sk, Hid (runT f (~~~ s) (l.take k) = sk) := ⟨_, cover rfl⟩
      rw [hs.out]
      have hx2 := HB.out.get hx.out
      obtain ⟨j, hj⟩ : ∃ j, Hid (ix sk x = j) := ⟨_, cover rfl⟩
      have hj2 : j < 256 := by rw [← hj.out]; exact ix_lt hx2
      have e1 : bits BinOp.xor IntKind.u8 (rg sk % 256) x = (j : Int) := by rw [ix_walk hx2, hj.out]
      have e2 := ht.at_ j hj2
      have HN : Hid (bits BinOp.xor IntKind.u32 (rg sk / (256 : Int)) (rg (f j)) = rg (runT f (~~~ s) (l.take (k + 1)))) := cover (by
        rw [List.take_add_one, hx.out]
        show _ = rg (runT f (~~~ s) (l.take k ++ [x]))
        rw [runT_snoc, hs.out, ← feedT_walk, hj.out])
      have hbd := rg_bd sk
      go_wp2
      go_round
      case rel => exact ⟨k + 1, by omega, by go_num, by rw [HN.out]⟩
      case measure => simp [intOf]; omega
    · obtain rfl : k = n := by omega
      have HT : Hid (l.take k = l) := cover (List.take_of_length_le (by rw [HL.out]; omega))
      rw [HT.out]
      have hn := rg_not (runT f (~~~ s) l)
      go_wp2
      go_ret
      exact ⟨rfl, (Below.refl _ _).alloc (Nat.le_refl _) _⟩
theorem sum_any (T : Array Value) (f : Nat → W32) (A : Option Addr) (n c B : Nat) (l : List Int) (w : World) (ht : IsTab T f) (hr : Row w B A n l) (hB : B ≤ w.heap.size) (hb : Bts l) (hmax : n ≤ 9223372036854775807) :
    Calls Try.prog 31 #[.agg T, .slice A n c] w fun e w' => e = .returned (.int .u32 (rg (moreT f 0 l))) ∧ Below w.heap.size w w' := by
  have hr' := hr.alloc hB (.cells T 26)
  have hm := more_any T f 0 A n c B l (w.alloc (.cells T 26)) ht hr' (by simp; omega) hb hmax
  rw [show rg 0 = 0 from rfl] at hm
  have HM := cover hm
  clear hr hb hm
  go_enter Try.func31, Try.ntmps31
  go_wp2_with (first
    | (refine wpList_load_row rfl _ _ rfl w.heap.size rfl _ T (0, 0) _ (heap_alloc_new _ _) Try.underlying26 rfl (by rw [ht.size]; kernel_rfl) ?_)
    | (go_at_call 45; refine HM.out.mono ?_; rintro e w1 ⟨rfl, hb1⟩))
  go_ret
  exact ⟨rfl, ((Below.refl _ _).alloc (Nat.le_refl _) _).trans (hb1.mono (by simp))⟩
end Go.Proofs.Ytbpmhfekjihhhaa
