/- What the document's own flag, Code, mayU and May answer. -/
import Derived.Test.YtkidacfodpoapaaRows
import Derived.Test.YtkidacfodpoapaaOWords
import Derived.Test.YtkidacfodpoapaaUMath
namespace Go.Proofs.Ytkidacfodpoapaa
open Go.RowKit
set_option linter.unusedVariables false

/-- may it be, as a Boolean -/
noncomputable def mayB (p : PV) : Bool := @decide (MayP p) (Classical.propDecidable _)
noncomputable def mayUB (p : PV) : Bool := @decide (p.ns = 0 ∧ p.nr = 0 ∧ MayU p) (Classical.propDecidable _)
theorem mayB_yes {p : PV} (h : MayP p) : mayB p = true := by simp [mayB, h]
theorem mayB_no {p : PV} (h : ¬ MayP p) : mayB p = false := by simp [mayB, h]
theorem mayB_iff {p : PV} : mayB p = true ↔ MayP p := by simp [mayB]
theorem mayUB_yes {p : PV} (h : p.ns = 0 ∧ p.nr = 0 ∧ MayU p) : mayUB p = true := by simp [mayUB, h]
theorem mayUB_no {p : PV} (h : ¬ (p.ns = 0 ∧ p.nr = 0 ∧ MayU p)) : mayUB p = false := by simp [mayUB, h]

theorem flag_any (b : Bool) (w : World) : Calls Try.prog 38 #[.bool b] w fun e w' => e = .returned (.int .i64 (fl b)) ∧ w' = w := by
  cases b
  · go_enter Try.func38, Try.ntmps38
    go_wp2
    go_ret
    exact ⟨rfl, rfl⟩
  · go_enter Try.func38, Try.ntmps38
    go_wp2
    go_ret
    exact ⟨rfl, rfl⟩

theorem even_or (x : Int) : (x % 2 = 0 ∧ x.tmod 2 = 0) ∨ (x % 2 ≠ 0 ∧ x.tmod 2 ≠ 0) := by
  rcases Int.emod_two_eq x with h | h
  · exact .inl ⟨h, Int.tmod_eq_zero_of_dvd (by omega)⟩
  · refine .inr ⟨by omega, fun hc => ?_⟩
    have := Int.dvd_of_tmod_eq_zero hc
    omega

end Go.Proofs.Ytkidacfodpoapaa
