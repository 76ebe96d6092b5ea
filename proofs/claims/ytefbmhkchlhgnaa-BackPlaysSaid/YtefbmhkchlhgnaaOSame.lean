/- What the document's Same answers. -/
import Derived.Test.YtefbmhkchlhgnaaRows
import Derived.Test.YtefbmhkchlhgnaaOWords
import Derived.Deep.QuietTactic
import Derived.BigQuiet
namespace Go.Proofs.Ytefbmhkchlhgnaa
open Go.RowKit

theorem take_snoc_eq {a b : List Int} {k : Nat} {x y : Int} (ha : a[k]? = some x) (hb : b[k]? = some y) (h : a.take k = b.take k) (e : x = y) : a.take (k + 1) = b.take (k + 1) := by
  rw [List.take_add_one, List.take_add_one, h, ha, hb, e]
theorem ne_of_at {a b : List Int} {k : Nat} {x y : Int} (ha : a[k]? = some x) (hb : b[k]? = some y) (e : ¬ x = y) : a ≠ b := by
  rintro rfl
  rw [ha] at hb; injection hb with hb; exact e hb

theorem same_len (A A' : Option Addr) (n c m c' : Nat) (w : World) (h : n ≠ m) :
    Calls Try.prog 18 #[.slice A n c, .slice A' m c'] w fun e w' => e = .returned (.bool false) ∧ ∃ d, w' = w.drewN d := by
  have hne : ((n : Int) != (m : Int)) = true := by rw [bne_iff_ne]; omega
  go_enter Try.func18, Try.ntmps18
  go_wp2
  go_ret
  exact ⟨rfl, 0, rfl⟩

set_option maxHeartbeats 400000 in
theorem same_any (A A' : Option Addr) (n c c' B B' : Nat) (l l' : List Int) (w : World) (h1 : Row w B A n l) (h2 : Row w B' A' n l') (hmax : n ≤ 9223372036854775807) :
    Calls Try.prog 18 #[.slice A n c, .slice A' n c'] w fun e w' => e = .returned (.bool (decide (l = l'))) ∧ ∃ d, w' = w.drewN d := by
  go_enter Try.func18, Try.ntmps18
  go_wp2
  go_loopw [5] (fun i wr => ∃ k : Nat, k ≤ n ∧ i = .int .i64 k ∧ Hid (l.take k = l'.take k) ∧ ∃ d, wr = w.drewN d) (fun i _ => n - (intOf i).toNat)
  case atStart => exact ⟨0, Nat.zero_le _, rfl, cover rfl, 0, rfl⟩
  case round =>
    obtain ⟨k, hk, rfl, heq, d, rfl⟩ := hrel
    by_cases hlt : k < n
    · obtain ⟨ad, x, rfl, had, hc, hx⟩ := h1.at_ hlt
      obtain ⟨ad', y, rfl, had', hc', hy⟩ := h2.at_ hlt
      by_cases hxy : x = y
      · have hn := take_snoc_eq hx.out hy.out heq.out hxy
        have HN := cover hn
        subst hxy
        clear hn
        go_wp2_with fail
        go_quiet (fail)
        go_wp2
        go_roundw
        case rel => exact ⟨k + 1, by omega, by go_num, HN, _, rfl⟩
        case measure => simp [intOf]; omega
      · have hn := ne_of_at hx.out hy.out hxy
        have HN := cover hn
        clear hn
        go_wp2_with fail
        go_quiet (fail)
        go_wp2
        go_ret
        exact ⟨ret_bool (by simp [HN.out]), _, World.drewN_drewN _ _ _⟩
    · obtain rfl : k = n := by omega
      have hl1 := h1.len
      have hl2 := h2.len
      have HN := cover (show l = l' by have := heq.out; rwa [List.take_of_length_le (by omega), List.take_of_length_le (by omega)] at this)
      clear hl1 hl2
      go_wp2
      go_ret
      exact ⟨ret_bool (by simp [HN.out]), _, rfl⟩
end Go.Proofs.Ytefbmhkchlhgnaa
