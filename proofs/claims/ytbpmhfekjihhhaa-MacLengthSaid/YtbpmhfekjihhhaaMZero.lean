/- What isNotZero, slices.IndexFunc and slices.ContainsFunc answer. -/
import Derived.Test.YtbpmhfekjihhhaaMFrm
namespace Go.Proofs.Ytbpmhfekjihhhaa
open Go.RowKit
set_option linter.unusedVariables false

/-- are all noughts? -/
def allZ (l : List Int) : Bool := l.all (· == 0)
theorem allZ_next {l : List Int} {k : Nat} {x : Int} (h : l[k]? = some x) : allZ (l.take (k + 1)) = (allZ (l.take k) && (x == 0)) := by
  unfold allZ; rw [List.take_add_one, h]; simp
theorem allZ_no {l : List Int} {k : Nat} {x : Int} (h : l[k]? = some x) (hx : x ≠ 0) : allZ l = false := by
  unfold allZ
  rw [List.all_eq_false]
  exact ⟨x, List.mem_of_getElem? h, by simpa using hx⟩
theorem isNotZero_any (x : Int) (w : World) (q : Bool) (hq : (x != 0) = q) : Calls Try.prog 58 #[.int .u8 x] w fun e w' => e = .returned (.bool q) ∧ w = w' := by
  subst hq
  go_enter Try.func58, Try.ntmps58
  go_wp2
  go_ret
  exact ⟨rfl, rfl⟩
/-- a place, or none -/
def IdxZ (q : Bool) (w : World) (e : Ending) (w' : World) : Prop := ∃ i : Int, e = .returned (.int .i64 i) ∧ decide (0 ≤ i) = q ∧ w = w'
set_option maxHeartbeats 800000 in
theorem indexFunc_any (A : Option Addr) (n c B : Nat) (l : List Int) (w : World) (q : Bool) (hq : Hid ((!allZ l) = q)) (hr : Row w B A n l) (hmax : n ≤ 9223372036854775807) :
    Calls Try.prog 65 #[.slice A n c, .func (.func 58) #[] #[]] w (IdxZ q w) := by
  have HL := cover hr.len
  go_enter Try.func65, Try.ntmps65
  go_wp2
  go_loop [8] (fun i => ∃ k : Nat, k ≤ n ∧ i = .int .i64 k ∧ Hid (allZ (l.take k) = true)) (fun i => n - (intOf i).toNat)
  case atStart => exact ⟨0, Nat.zero_le _, rfl, cover rfl⟩
  case round =>
    obtain ⟨k, hk, rfl, hz⟩ := hrel
    by_cases hlt : k < n
    · obtain ⟨ad, x, rfl, had, hc, hx⟩ := hr.at_ hlt
      rcases hb : (x != 0) with _ | _
      · have HB := cover hb
        clear hb
        go_wp2_with (go_at_call 58; refine (isNotZero_any x _ false HB.out).mono ?_; rintro e w' ⟨rfl, rfl⟩)
        go_round
        case rel => exact ⟨k + 1, by omega, by go_num, cover (by rw [allZ_next hx.out, hz.out]; have := HB.out; simpa using this)⟩
        case measure => simp [intOf]; omega
      · have HB := cover hb
        clear hb
        go_wp2_with (go_at_call 58; refine (isNotZero_any x _ true HB.out).mono ?_; rintro e w' ⟨rfl, rfl⟩)
        go_ret
        refine ⟨k, rfl, ?_, rfl⟩
        rw [← hq.out, allZ_no hx.out (by have := HB.out; simpa using this)]
        simp
    · obtain rfl : k = n := by omega
      go_wp2
      go_ret
      refine ⟨-1, rfl, ?_, rfl⟩
      rw [← hq.out, ← List.take_of_length_le (l := l) (i := k) (by rw [HL.out]; omega), hz.out]
      rfl
theorem containsFunc_any (A : Option Addr) (n c B : Nat) (l : List Int) (w : World) (q : Bool) (hq : Hid ((!allZ l) = q)) (hr : Row w B A n l) (hmax : n ≤ 9223372036854775807) :
    Calls Try.prog 56 #[.slice A n c, .func (.func 58) #[] #[]] w fun e w' => e = .returned (.bool q) ∧ w = w' := by
  go_enter Try.func56, Try.ntmps56
  go_wp2_with fail
  refine (indexFunc_any A n c B l w q hq hr hmax).mono ?_
  rintro e w1 ⟨i, rfl, hi, rfl⟩
  go_wp2
  go_ret
  exact ⟨rfl, rfl⟩
end Go.Proofs.Ytbpmhfekjihhhaa
