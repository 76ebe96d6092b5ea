/- What bytes.Clone and the document's Copy hand back. -/
import Derived.Test.YtefbmhkchlhgnaaOPut
namespace Go.Proofs.Ytefbmhkchlhgnaa
open Go.RowKit

set_option maxHeartbeats 400000 in
theorem clone_some (ad : Addr) (n c B : Nat) (l : List Int) (w : World) (hr : Row w B (some ad) n l) (hB : B ≤ w.heap.size) (hmax : n ≤ 140737488355328) :
    Calls Try.prog 27 #[.slice (some ad) n c] w (GivesB w l) := by
  obtain ⟨i0, hi, hz0, hz1, hz2⟩ := info_parts u8_info
  have hnil := fun (W : World) => Lib.run_eql_slice_nil (P := Try.prog) W 26 5 (some ad) n c 0 0 Try.underlying26
  go_enter Try.func27, Try.ntmps27
  have hown : (w.alloc (.cells #[] 5)).ownsRow w.heap.size 5 1 (.slice (some ⟨w.heap.size, 0, none⟩) 0 0) 0 [] := World.ownsRow_made w #[] 0 (Nat.le_refl _) (by unfold maxLen; omega) rfl
  have hnews := (hr.alloc hB (.cells #[] 5)).news
  have hl := hr.len
  go_wp2_with (at_builtin; refine wpList_append_own _ rfl _ _ 26 rfl w.heap.size 5 i0 (.int .u8 0) 1 1 Try.underlying26 hi hz0 hz1 hz2 rfl (by decide) _ _ _ rfl hown ad n c (l.map (Value.int .u8)) rfl ?c1 hnews ?c2 ?c3 ?c4 ?c5 ?_)
  case c1 => simp [hl]
  case c2 => exact fun u hu => by obtain ⟨x, _, rfl⟩ := List.mem_map.1 hu; rfl
  case c3 => unfold maxLen; omega
  case c4 => omega
  case c5 => simp
  intro v' w1 hown' hgrow _
  obtain ⟨A, cp, rfl, _⟩ := own_shape hown'
  go_wp2
  go_ret
  refine ⟨A, cp, by rw [hl]; rfl, by unfold OwnB; rw [hl]; exact hown', ?_⟩
  exact ((Below.refl _ _).alloc (Nat.le_refl _) _).grown hgrow (by simp) (fun k hk => by injection hk with hk; simp at hk; omega)
theorem clone_nil (n c : Nat) (w : World) :
    Calls Try.prog 27 #[.slice none n c] w fun e w' => e = .returned (.slice none 0 0) ∧ w = w' := by
  have hnil := fun (W : World) => Lib.run_eql_slice_nil (P := Try.prog) W 26 5 none n c 0 0 Try.underlying26
  go_enter Try.func27, Try.ntmps27
  go_wp2
  go_ret
  exact ⟨rfl, rfl⟩
/-- Clone, at all rows -/
theorem clone_any (A : Option Addr) (n c B : Nat) (l : List Int) (w : World) (hr : Row w B A n l) (hB : B ≤ w.heap.size) (hmax : n ≤ 140737488355328) :
    Calls Try.prog 27 #[.slice A n c] w (GivesB w l) := by
  rcases A with _ | ad
  · have hl : l = [] := by
      rcases l with _ | ⟨x, l⟩
      · rfl
      · obtain ⟨ad, e, _⟩ := hr.cells 0 (by simp); cases e
    subst hl
    exact (clone_nil n c w).mono fun e w' ⟨he, hw⟩ => by subst hw; exact ⟨none, 0, he, OwnB.nil _ _, Below.refl _ _⟩
  · exact clone_some ad n c B l w hr hB hmax
end Go.Proofs.Ytefbmhkchlhgnaa
