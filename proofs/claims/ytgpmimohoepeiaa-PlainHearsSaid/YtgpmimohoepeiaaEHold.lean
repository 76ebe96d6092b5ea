/- A region that draws its order, walked by moves: two that may come up now. -/
import Derived.Test.YtgpmimohoepeiaaFHeld
namespace Go.Proofs.Ytgpmimohoepeiaa
set_option linter.unusedVariables false

section
variable {F : Fence} {n : Nat} {P : Program} {ops : Array Oper} {Q : Exit → Act → World → Prop} {md : Region.Mode} {S : World → Prop} {e : Nat}
/-- either of two may come up now -/
theorem hold_two (i j : Nat) {oi oj : Oper} {ri rj : List Oper} {fuel : Nat} {listed : Array Bool} {a : Act} {w : World} (hr : Region.ready md ops listed = [i, j]) (hi : ops.toList.drop i = oi :: ri) (hj : ops.toList.drop j = oj :: rj) (hwi : Region.wanted oi (yielded ops a.tmps) = true) (hwj : Region.wanted oj (yielded ops a.tmps) = true)
    (h1 : ∀ K : Act → World → Prop, (∀ a' w', (i = e ∨ S w') → heldIn F n P md ops Q S e fuel (listed.setIfInBounds i true) a' w' → K a' w') → oi.wpIn F n P a w K Q)
    (h2 : ∀ K : Act → World → Prop, (∀ a' w', (j = e ∨ S w') → heldIn F n P md ops Q S e fuel (listed.setIfInBounds j true) a' w' → K a' w') → oj.wpIn F n P a w K Q) : heldIn F n P md ops Q S e (fuel + 1) listed a w := by
  refine ⟨fun h0 => (by rw [hr] at h0; cases h0), fun x hx => ?_⟩
  rw [hr] at hx
  simp only [List.mem_cons, List.not_mem_nil, or_false] at hx
  rcases hx with rfl | rfl
  · unfold wpOpIn
    simp only [of_drop hi, hwi, if_true]
    exact h1 _ (fun a' w' q1 q2 => ⟨q1, q2⟩)
  · unfold wpOpIn
    simp only [of_drop hj, hwj, if_true]
    exact h2 _ (fun a' w' q1 q2 => ⟨q1, q2⟩)
end
end Go.Proofs.Ytgpmimohoepeiaa
