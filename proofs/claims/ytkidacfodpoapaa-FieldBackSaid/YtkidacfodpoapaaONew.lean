/- What New, Left, Fail, fail and take do. -/
import Derived.Test.YtkidacfodpoapaaOClone
namespace Go.Proofs.Ytkidacfodpoapaa
open Go.RowKit

set_option maxHeartbeats 400000 in
theorem new_any (A : Option Addr) (n c B : Nat) (l : List Int) (w : World) (hr : Row w B A n l) (hB : B ≤ w.heap.size) (hmax : n ≤ 140737488355328) :
    Calls Try.prog 31 #[.slice A n c] w fun e w' => ∃ g, e = .returned (.pointer (some ⟨g, 0, none⟩)) ∧ Rd 78 w' g g l false ∧ w.heap.size ≤ g ∧ Below w.heap.size w w' := by
  go_enter Try.func31, Try.ntmps31
  go_wp2_with (go_at_call 42; refine (clone_any A n c B l w hr hB hmax).mono ?_; rintro e w1 ⟨A1, c1, rfl, hown, hb1⟩)
  go_ret
  refine ⟨_, rfl, ⟨⟨A1, c1, heap_alloc_new _ _, ?_, hown.row.alloc (Nat.le_refl _) _⟩, Nat.le_refl _⟩, hb1.size, hb1.alloc hb1.size _⟩
  exact own_cap hown
end Go.Proofs.Ytkidacfodpoapaa
