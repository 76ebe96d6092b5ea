/- MacGroups, of all arguments. -/
import Derived.Test.YtbpmhfekjihhhaaWMacGroups
namespace Go.Proofs.Ytbpmhfekjihhhaa
open Go.RowKit
set_option linter.unusedVariables false

theorem takes_two (a b : Int) : takesB [2, 0, 0, 0, 0, a] [] [2, 0, 0, 0, 0, b] 2 = (a == b) := by
  unfold takesB hasB
  rw [grp_two, sameL_no (x := [2, 0, 0, 0, 0, b]) (y := [255, 255, 255, 255, 255, 255]) (by intro h; injection h with h _; revert h; decide)]
  by_cases h : a = b
  · subst h
    rw [sameL_refl]; simp
  · rw [sameL_no (fun e => h (by injection e with _ e; injection e with _ e; injection e with _ e; injection e with _ e; injection e with _ e; injection e with e _; exact e.symm))]
    simp [h]
theorem takes_odd {o a : Int} (L : List Int) (ho : ¬ o = 2) : takesB [2, 0, 0, 0, 0, a] [] (o :: L) o = sameL (o :: L) [255, 255, 255, 255, 255, 255] := by
  unfold takesB hasB
  rw [sameL_no (x := o :: L) (y := [2, 0, 0, 0, 0, a]) (fun e => ho (by injection e))]
  simp
theorem walk_MacGroups (a b : Int) (g0 g1 g2 g3 g4 g5 : Int) (w : World) (wa : (Lit.int .u8 a).wf = true) (wb : (Lit.int .u8 b).wf = true) (hg : Bts [g0, g1, g2, g3, g4, g5]) :
    Calls Try.prog 9 #[.int .u8 a, .int .u8 b, .agg #[.int .u8 g0, .int .u8 g1, .int .u8 g2, .int .u8 g3, .int .u8 g4, .int .u8 g5]] w fun e w' => e = .returned (.bool true) ∧ Below w.heap.size w w' := by
  have ha : Byt a := (bts_of_wf (l := [a]) (fun y hy => by simp at hy; subst hy; exact wa)).head
  have hb : Byt b := (bts_of_wf (l := [b]) (fun y hy => by simp at hy; subst hy; exact wb)).head
  have h0 : Byt g0 := hg.head
  obtain ⟨o1, o2⟩ := odd_of h0
  exact groups_at a b g0 g1 g2 g3 g4 g5 _ w _ _ _ ha hb h0 rfl (cover o1) (cover rfl) rfl (cover (takes_two a b)) rfl (cover (takes_odd _ o2))
end Go.Proofs.Ytbpmhfekjihhhaa
