/- What the document's own Copy hands back. -/
import Derived.Test.YtefbmhkchlhgnaaOClone
namespace Go.Proofs.Ytefbmhkchlhgnaa
open Go.RowKit
set_option linter.unusedVariables false

/-- at the head of a round of Copy -/
def CopyAt (w : World) (l : List Int) (j : Nat) (v : Value) (wr : World) : Prop :=
  wr.ownsRow w.heap.size 5 1 v j ((l.take j).map (Value.int .u8)) ∧ Below w.heap.size w wr

set_option maxHeartbeats 400000 in
theorem copy_any (A : Option Addr) (n c B : Nat) (l : List Int) (w : World) (hr : Row w B A n l) (hB : B ≤ w.heap.size) (hmax : n ≤ 140737488355328) :
    Calls Try.prog 31 #[.slice A n c] w (GivesB w l) := by
  obtain ⟨i0, hi, hz0, hz1, hz2⟩ := info_parts u8_info
  have HL := cover hr.len
  go_enter Try.func31, Try.ntmps31
  go_wp2
  go_loopw [3, 4] (fun v i wr => ∃ j : Nat, j ≤ n ∧ i = .int .i64 j ∧ Hid (CopyAt w l j v wr)) (fun _ i _ => n - (intOf i).toNat)
  case atStart => exact ⟨0, Nat.zero_le _, rfl, cover ⟨World.ownsRow_nil _ _ _ _, Below.refl _ _⟩⟩
  case round =>
    obtain ⟨j, hj, rfl, hrel⟩ := hrel
    obtain ⟨hown, hbel⟩ := hrel.out
    have hsz := hbel.size
    by_cases hlt : j < n
    · obtain ⟨ad, x, rfl, had, hc, hx⟩ := (hr.keep fun p hp => hbel.cell (by omega)).at_ hlt
      go_wp2_with (at_builtin; refine wpList_append_own _ rfl _ _ 26 rfl w.heap.size 5 i0 (.int .u8 0) 1 1 Try.underlying26 hi hz0 hz1 hz2 rfl (by decide) _ _ _ rfl (hown.alloc _) ⟨wr.heap.size, 0, none⟩ 1 1 [.int .u8 x] rfl rfl ?c1 ?c2 ?c3 ?c4 ?c5 ?_)
      case c1 => exact cell_one_new _ _ _
      case c2 => intro u hu; simp at hu; subst hu; rfl
      case c3 => unfold maxLen; omega
      case c4 => omega
      case c5 => simp; omega
      intro v' w1 hown' hgrow _
      rw [← List.map_take] at hown'
      have HN : Hid (CopyAt w l (j + 1) v' w1) := cover ⟨by rw [List.take_add_one, hx.out, List.map_append]; exact hown', (hbel.alloc hsz _).grown hgrow (by simp; omega) (fun k hk => (hown.lt k hk).1)⟩
      clear hown' hgrow hown
      go_wp2
      go_roundw
      case rel => exact ⟨j + 1, by omega, by go_num, HN⟩
      case measure => simp [intOf]; omega
    · obtain rfl : j = n := by omega
      rw [List.take_of_length_le (by rw [HL.out]; omega)] at hown
      obtain ⟨A1, c1, rfl, _⟩ := own_shape hown
      go_wp2
      go_ret
      refine ⟨A1, c1, by rw [HL.out]; rfl, ?_, hbel⟩
      unfold OwnB; rw [HL.out]; exact hown
end Go.Proofs.Ytefbmhkchlhgnaa
