/- What a reader hands back of one byte, and of what is left, failed or not. -/
import Derived.Test.YtkidacfodpoapaaONum
import Derived.Test.YtkidacfodpoapaaOMore
namespace Go.Proofs.Ytkidacfodpoapaa
open Go.RowKit
set_option linter.unusedVariables false
set_option linter.unusedSimpArgs false

/-- one number of one byte: what it is, what is left, has it failed? -/
def num1 : List Int → Bool → Int × List Int × Bool
  | x :: l, false => (x, l, false)
  | l, _ => (0, l, true)
theorem num1_nil (f : Bool) : num1 [] f = (0, [], true) := rfl
theorem num1_fail (l : List Int) : num1 l true = (0, l, true) := by cases l <;> rfl
theorem num1_bd {l : List Int} (f : Bool) (h : Bts l) : (0 ≤ (num1 l f).1 ∧ (num1 l f).1 ≤ 255) ∧ Bts (num1 l f).2.1 := by
  cases l with
  | nil => exact ⟨show (0 : Int) ≤ 0 ∧ (0 : Int) ≤ 255 by decide, h⟩
  | cons x l => cases f
                · exact ⟨h x (by simp), fun y hy => h y (List.mem_cons_of_mem x hy)⟩
                · exact ⟨show (0 : Int) ≤ 0 ∧ (0 : Int) ≤ 255 by decide, h⟩
theorem num1_le (l : List Int) (f : Bool) : (num1 l f).2.1.length ≤ l.length := by
  cases l with
  | nil => exact Nat.le_refl _
  | cons x l => cases f
                · exact Nat.le_succ _
                · exact Nat.le_refl _
theorem num1_any (B g : Nat) (l : List Int) (f : Bool) (w : World) (hr : Rd 78 w B g l f) (hb : Bts l) (hmax : l.length ≤ 140737488355328) :
    Calls Try.prog 32 #[.pointer (some ⟨g, 0, none⟩), .int .i64 1] w fun e w' => e = .returned (.int .i64 (num1 l f).1) ∧ Rd 78 w' B g (num1 l f).2.1 (num1 l f).2.2 ∧ OnlyB g w w' := by
  cases f with
  | true =>
    rw [num1_fail]
    exact num_no B g l true 1 w hr (by simp [okR])
  | false =>
    cases l with
    | nil => exact num_no B g [] false 1 w hr (by simp [okR])
    | cons x l =>
      refine (num_yes B g 1 (x :: l) w hr hb (by simp) (by decide) (by decide) hmax).mono ?_
      rintro e w' ⟨he, h1, h2⟩
      exact ⟨by rw [he]; simp [num1, getv], h1, h2⟩
theorem num1_ok {l l' : List Int} {f : Bool} {x : Int} (h : num1 l f = (x, l', false)) : f = false ∧ l = x :: l' := by
  cases f with
  | true => rw [num1_fail] at h; injection h with _ h; injection h with _ h; cases h
  | false =>
    cases l with
    | nil => rw [num1_nil] at h; injection h with _ h; injection h with _ h; cases h
    | cons y l => injection h with h1 h; injection h with h2 h3; subst h1; subst h2; exact ⟨rfl, rfl⟩
theorem num1_bad {l l' : List Int} {f : Bool} {x : Int} (h : num1 l f = (x, l', true)) : x = 0 ∧ (f = true ∨ l = []) := by
  cases f with
  | true => rw [num1_fail] at h; injection h with h1 _; exact ⟨h1.symm, .inl rfl⟩
  | false =>
    cases l with
    | nil => rw [num1_nil] at h; injection h with h1 _; exact ⟨h1.symm, .inr rfl⟩
    | cons y l => injection h with h1 h; injection h with _ h; cases h
/-- Rest has answered -/
def RestD (B g : Nat) (l : List Int) (f : Bool) (w : World) (e : Ending) (w' : World) : Prop :=
  ∃ A c l', e = .returned (.slice A (if f then [] else l).length c) ∧ OwnB w' w.heap.size (.slice A (if f then [] else l).length c) (if f then [] else l) ∧ Rd 78 w' B g l' f ∧ OnlyB g w w'
theorem rest_any (B g : Nat) (l : List Int) (f : Bool) (w : World) (hr : Rd 78 w B g l f) (hmax : l.length ≤ 140737488355328) :
    Calls Try.prog 34 #[.pointer (some ⟨g, 0, none⟩)] w (RestD B g l f w) := by
  cases f with
  | false =>
    refine (rest_yes B g l w hr hmax).mono ?_
    rintro e w' ⟨A, c, he, ho, h1, h2⟩
    rw [List.take_length] at ho
    exact ⟨A, c, _, he, ho, h1, h2⟩
  | true =>
    refine (rest_no B g l w hr).mono ?_
    rintro e w' ⟨he, h1, h2⟩
    exact ⟨none, 0, l, he, OwnB.nil _ _, h1, h2⟩
end Go.Proofs.Ytkidacfodpoapaa
