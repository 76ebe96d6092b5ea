/- The grid, plainly: what each event does in each state, and what follows of the table. No program is named here. -/
import Derived.WalkKit
namespace Go.Proofs.Ytlffhnplcgmhlaa
open Go.RowKit
set_option linter.unusedVariables false

/-- state, event, what is done, the next state -/
def gridL : List (Int × Int × List Int × Int) := [
  (0, 0, [0, 33, 13], 2),
  (0, 8, [5], 1),
  (0, 9, [3], 0),
  (0, 20, [3], 0),
  (1, 1, [2, 10], 8),
  (1, 2, [3], 0),
  (1, 9, [2, 7], 0),
  (2, 10, [12, 10, 6], 8),
  (2, 11, [12, 7], 0),
  (2, 8, [2], 2),
  (2, 9, [3, 12, 7], 0),
  (2, 2, [1, 33, 13], 6),
  (2, 29, [0, 32, 13], 2),
  (2, 33, [12, 7], 0),
  (3, 10, [12, 10, 9], 8),
  (3, 11, [12, 7], 0),
  (3, 8, [2], 3),
  (3, 9, [3, 12, 7], 0),
  (3, 2, [1, 33, 13], 6),
  (3, 29, [0, 32, 13], 3),
  (3, 33, [12, 7], 0),
  (4, 4, [2, 10], 8),
  (4, 2, [3], 0),
  (4, 9, [2, 7], 0),
  (4, 11, [7], 0),
  (5, 3, [0, 33, 13], 3),
  (5, 2, [1, 33, 13], 6),
  (5, 8, [8], 4),
  (5, 9, [2, 7], 0),
  (5, 11, [7], 0),
  (6, 10, [12], 0),
  (6, 11, [12], 0),
  (6, 8, [3, 12], 0),
  (6, 9, [2], 6),
  (6, 29, [1, 32, 13], 6),
  (6, 33, [12], 0),
  (7, 8, [12, 8], 4),
  (7, 9, [2, 12, 7], 0),
  (7, 11, [12, 7], 0),
  (7, 12, [12, 8], 5),
  (7, 20, [4], 7),
  (7, 29, [4, 32, 13], 7),
  (7, 33, [12, 8], 5),
  (7, 3, [12, 0, 33, 13], 3),
  (7, 2, [12, 1, 33, 13], 6),
  (8, 3, [12, 0, 33, 13], 3),
  (8, 2, [12, 1, 33, 13], 6),
  (8, 8, [12, 8], 4),
  (8, 9, [12, 2, 7], 0),
  (8, 11, [12, 7], 0),
  (8, 12, [12, 8], 5),
  (8, 28, [12, 4, 33, 13], 7),
  (8, 33, [12, 8], 5),
  (8, 5, [31], 8),
  (8, 6, [25], 9),
  (8, 13, [19, 18, 23, 31], 8),
  (8, 16, [19, 27, 15, 31], 10),
  (8, 19, [20, 19, 31], 8),
  (8, 22, [19, 21, 17], 8),
  (8, 25, [20, 19, 22, 34, 31], 8),
  (8, 14, [19, 18, 24, 31], 8),
  (8, 17, [19, 28, 15, 31], 10),
  (8, 20, [20, 19, 24, 31], 8),
  (8, 23, [19, 21, 17, 24], 8),
  (8, 26, [20, 19, 22, 34, 24, 31], 8),
  (8, 29, [29, 14, 32, 34], 11),
  (8, 32, [29, 14, 32], 11),
  (9, 3, [12, 0, 33, 13], 3),
  (9, 2, [12, 1, 33, 13], 6),
  (9, 8, [12, 8], 4),
  (9, 9, [12, 2, 7], 0),
  (9, 11, [12, 7], 0),
  (9, 12, [12, 8], 5),
  (9, 28, [12, 4, 33, 13], 7),
  (9, 33, [12, 8], 5),
  (9, 5, [31], 9),
  (9, 7, [23], 8),
  (9, 13, [19, 25, 31], 9),
  (9, 16, [19, 25, 31], 9),
  (9, 19, [20, 19, 31], 9),
  (9, 22, [19, 21, 17], 9),
  (9, 25, [20, 19, 22, 34, 31], 9),
  (9, 14, [19, 26, 31], 9),
  (9, 17, [19, 26, 31], 9),
  (9, 20, [20, 19, 26, 31], 9),
  (9, 23, [19, 21, 17, 26], 9),
  (9, 26, [20, 19, 22, 34, 26, 31], 9),
  (9, 29, [30, 14, 32, 34], 12),
  (9, 32, [30, 14, 32], 12),
  (10, 3, [12, 0, 33, 13], 3),
  (10, 2, [12, 1, 33, 13], 6),
  (10, 8, [12, 8], 4),
  (10, 9, [12, 2, 7], 0),
  (10, 11, [12, 7], 0),
  (10, 12, [12, 8], 5),
  (10, 28, [12, 4, 33, 13], 7),
  (10, 33, [12, 8], 5),
  (10, 5, [31], 10),
  (10, 6, [16, 25], 9),
  (10, 13, [19, 18, 16, 23, 31], 8),
  (10, 16, [19, 31], 10),
  (10, 19, [20, 19, 31], 10),
  (10, 22, [19, 21, 17], 10),
  (10, 25, [20, 19, 22, 34, 31], 10),
  (10, 14, [19, 18, 16, 24, 31], 8),
  (10, 17, [19, 24, 31], 10),
  (10, 20, [20, 19, 24, 31], 10),
  (10, 23, [19, 21, 17, 24], 10),
  (10, 26, [20, 19, 22, 34, 24, 31], 10),
  (10, 29, [29, 14, 32, 34], 13),
  (10, 32, [29, 14, 32], 13),
  (10, 31, [29, 14, 32], 13),
  (11, 3, [12, 0, 33, 13], 3),
  (11, 2, [12, 1, 33, 13], 6),
  (11, 8, [12, 8], 4),
  (11, 9, [12, 2, 7], 0),
  (11, 11, [12, 7], 0),
  (11, 12, [12, 8], 5),
  (11, 28, [12, 4, 33, 13], 7),
  (11, 33, [12, 8], 5),
  (11, 6, [25], 12),
  (11, 13, [19, 18, 23], 11),
  (11, 16, [19, 27, 15], 13),
  (11, 19, [20, 19], 11),
  (11, 22, [19, 21], 11),
  (11, 25, [20, 19], 11),
  (11, 14, [19, 18, 24], 11),
  (11, 17, [19, 28, 15], 13),
  (11, 20, [20, 19, 24], 11),
  (11, 23, [19, 21, 24], 11),
  (11, 26, [20, 19, 24], 11),
  (11, 15, [20, 19, 18, 22, 33, 23, 31], 8),
  (11, 18, [20, 19, 22, 33, 27, 15, 31], 10),
  (11, 21, [20, 19, 22, 33, 31], 8),
  (11, 24, [19, 21, 17, 22, 33], 8),
  (11, 27, [20, 19, 22, 34, 33, 31], 8),
  (11, 30, [29, 14, 32], 11),
  (12, 3, [12, 0, 33, 13], 3),
  (12, 2, [12, 1, 33, 13], 6),
  (12, 8, [12, 8], 4),
  (12, 9, [12, 2, 7], 0),
  (12, 11, [12, 7], 0),
  (12, 12, [12, 8], 5),
  (12, 28, [12, 4, 33, 13], 7),
  (12, 33, [12, 8], 5),
  (12, 7, [23], 11),
  (12, 13, [19, 25], 12),
  (12, 16, [19, 25], 12),
  (12, 19, [20, 19], 12),
  (12, 22, [19, 21], 12),
  (12, 25, [20, 19], 12),
  (12, 14, [19, 26], 12),
  (12, 17, [19, 26], 12),
  (12, 20, [20, 19, 26], 12),
  (12, 23, [19, 21, 26], 12),
  (12, 26, [20, 19, 26], 12),
  (12, 15, [20, 19, 22, 33, 25, 31], 9),
  (12, 18, [20, 19, 22, 33, 25, 31], 9),
  (12, 21, [20, 19, 22, 33, 31], 9),
  (12, 24, [19, 21, 17, 22, 33], 9),
  (12, 27, [20, 19, 22, 34, 33, 31], 9),
  (12, 30, [30, 14, 32], 12),
  (13, 3, [12, 0, 33, 13], 3),
  (13, 2, [12, 1, 33, 13], 6),
  (13, 8, [12, 8], 4),
  (13, 9, [12, 2, 7], 0),
  (13, 11, [12, 7], 0),
  (13, 12, [12, 8], 5),
  (13, 28, [12, 4, 33, 13], 7),
  (13, 33, [12, 8], 5),
  (13, 6, [16, 25], 12),
  (13, 13, [19, 18, 16, 23], 11),
  (13, 16, [19], 13),
  (13, 19, [20, 19], 13),
  (13, 22, [19, 21], 13),
  (13, 25, [20, 19], 13),
  (13, 14, [19, 18, 16, 24], 11),
  (13, 17, [19, 24], 13),
  (13, 20, [20, 19, 24], 13),
  (13, 23, [19, 21, 24], 13),
  (13, 26, [20, 19, 24], 13),
  (13, 15, [20, 19, 18, 16, 22, 33, 23, 31], 8),
  (13, 18, [20, 19, 22, 33, 31], 10),
  (13, 21, [20, 19, 22, 33, 31], 10),
  (13, 24, [19, 21, 17, 22, 33], 10),
  (13, 27, [20, 19, 22, 34, 33, 31], 10),
  (13, 30, [29, 14, 32], 13)]
def rowG (s e : Int) : Option (List Int × Int) := (gridL.find? fun x => x.1 == s && x.2.1 == e).map fun x => x.2.2
/-- what is done, the next state, is it known? -/
def stepG (s e : Int) : List Int × Int × Bool := match rowG s e with
  | some (d, n) => (d, n, true)
  | none => ([], s, false)
def hasG (s e a : Int) : Bool := (stepG s e).1.contains a
def nextG (s e : Int) : Int := (stepG s e).2.1
def knownG (s e : Int) : Bool := (stepG s e).2.2
theorem rowG_far {s e : Int} (h : ¬ (0 ≤ s ∧ s ≤ 13 ∧ 0 ≤ e ∧ e ≤ 33)) : rowG s e = none := by
  have hall : ∀ x ∈ gridL, 0 ≤ x.1 ∧ x.1 ≤ 13 ∧ 0 ≤ x.2.1 ∧ x.2.1 ≤ 33 := by decide +kernel
  unfold rowG
  rw [Option.map_eq_none_iff, List.find?_eq_none]
  intro x hx hc
  have := hall x hx
  simp only [Bool.and_eq_true, beq_iff_eq] at hc
  rw [hc.1, hc.2] at this
  exact h this
theorem stepG_far {s e : Int} (h : ¬ (0 ≤ s ∧ s ≤ 13 ∧ 0 ≤ e ∧ e ≤ 33)) : stepG s e = ([], s, false) := by unfold stepG; rw [rowG_far h]
/-- whatever is so of all rows -/
theorem allG {p : Int → Int → Bool} (h : ∀ s : Fin 14, ∀ e : Fin 34, p s.val e.val = true) {s e : Int} (hs : 0 ≤ s ∧ s ≤ 13) (he : 0 ≤ e ∧ e ≤ 33) : p s e = true := by
  obtain ⟨i, rfl⟩ : ∃ i : Nat, s = (i : Int) := ⟨s.toNat, by omega⟩
  obtain ⟨j, rfl⟩ : ∃ j : Nat, e = (j : Int) := ⟨e.toNat, by omega⟩
  exact h ⟨i, by omega⟩ ⟨j, by omega⟩
theorem nextG_bd {s e : Int} (hs : 0 ≤ s ∧ s ≤ 13) : 0 ≤ nextG s e ∧ nextG s e ≤ 13 := by
  by_cases he : 0 ≤ e ∧ e ≤ 33
  · have := allG (p := fun s e => decide (0 ≤ nextG s e ∧ nextG s e ≤ 13)) (by decide +kernel) hs he
    simpa using this
  · unfold nextG; rw [stepG_far (by omega)]; exact hs

/-! GridEnds -/
def endsG (s e : Int) : Bool :=
  if knownG s e then
    let data := decide (8 ≤ s)
    let after := decide (8 ≤ nextG s e)
    let user := e == 2 || e == 3
    !(decide (nextG s e < 0) || decide (13 < nextG s e) || hasG s e 10 != (!data && after) || (hasG s e 18 || hasG s e 31 || hasG s e 19) && !data) &&
    !(data && !after && !user && !hasG s e 7 && !hasG s e 8 && !hasG s e 4) &&
    !((decide (11 ≤ nextG s e) && decide (s < 11) && !hasG s e 14) || (decide (11 ≤ s) && decide (8 ≤ nextG s e) && decide (nextG s e < 11) && !hasG s e 33)) &&
    (!data || after || hasG s e 12)
  else (stepG s e).1.isEmpty && nextG s e == s
theorem ends_all {s e : Int} (hs : 0 ≤ s ∧ s ≤ 13) (he : 0 ≤ e ∧ e ≤ 33) : endsG s e = true := allG (by decide +kernel) hs he
/-! GridAnswers -/
def answersG (s e : Int) : Bool :=
  let n := (stepG s e).1.countP fun a => a == 24 || a == 26 || a == 28
  let asked := decide (13 ≤ e) && decide (e ≤ 27) && (e - 13) % 3 == 1
  (n == 1) == asked && decide (n ≤ 1)
theorem answers_all {s e : Int} (hs : 8 ≤ s ∧ s ≤ 13) (he : 0 ≤ e ∧ e ≤ 33) : answersG s e = true := by
  have := allG (p := fun s e => decide (s < 8) || answersG s e) (by decide +kernel) (s := s) (e := e) (by omega) he
  rw [Bool.or_eq_true] at this
  exact this.resolve_left (by simp; omega)
/-! GridUsers -/
def usersG (s : Int) : Bool :=
  knownG s 0 == (s == 0) && knownG s 1 == (s == 1) && knownG s 4 == (s == 4) && knownG s 2 == (s != 0 && s != 6) && knownG s 3 == (s == 5 || s == 7 || decide (8 ≤ s)) && knownG s 7 == (s == 9 || s == 12) && knownG s 6 == (decide (8 ≤ s) && s != 9 && s != 12)
theorem users_all {s : Int} (hs : 0 ≤ s ∧ s ≤ 13) : usersG s = true := allG (p := fun s _ => usersG s) (by decide +kernel) hs (e := 0) (by decide)
/-! GridTimers -/
def timersG (s e : Int) : Bool :=
  let poll := hasG s e 29 || hasG s e 30
  !(poll != hasG s e 14 || poll && (!hasG s e 32 || decide (nextG s e < 11))) &&
  !(hasG s e 21 && hasG s e 17 != decide (nextG s e < 11)) &&
  !(nextG s e == 0 && (hasG s e 13 || hasG s e 14 || hasG s e 15 || hasG s e 17)) &&
  !(hasG s e 32 != (decide (29 ≤ e) && decide (e ≤ 32) && knownG s e)) &&
  ((!hasG s e 0 || hasG s e 13) && (!hasG s e 1 || hasG s e 13) && (!hasG s e 34 || e == 29 || decide (25 ≤ e) && decide (e ≤ 27)))
theorem timers_all {s e : Int} (hs : 0 ≤ s ∧ s ≤ 13) (he : 0 ≤ e ∧ e ≤ 33) : timersG s e = true := allG (by decide +kernel) hs he
/-! GridWalks -/
/-- was something said? -/
def toldG (s e : Int) : Bool := e == 0 || e == 3 || e == 2 || hasG s e 5 || hasG s e 8 || hasG s e 7
/-- between two Clears: told, or still connected, or waiting behind a Frmr -/
def walkG (s : Int) (told : Bool) : Prop := (0 ≤ s ∧ s ≤ 13) ∧ (told = true ∨ 7 ≤ s)
theorem walk_all {s e : Int} {told : Bool} (h : walkG s told) (he : 0 ≤ e ∧ e ≤ 33) :
    (hasG s e 10 = true → (told || toldG s e) = true) ∧ (hasG s e 31 = true → 8 ≤ s) ∧ walkG (nextG s e) (if hasG s e 10 then false else (told || toldG s e)) := by
  have hb := nextG_bd (e := e) h.1
  have h1 := allG (p := fun s e => !hasG s e 10 || (toldG s e || decide (s < 7)) && decide (8 ≤ nextG s e)) (by decide +kernel) h.1 he
  have h2 := allG (p := fun s e => !hasG s e 31 || decide (8 ≤ s)) (by decide +kernel) h.1 he
  have h3 := allG (p := fun s e => decide (s < 7) || toldG s e || decide (7 ≤ nextG s e)) (by decide +kernel) h.1 he
  simp only [Bool.or_eq_true, Bool.and_eq_true, Bool.not_eq_true', decide_eq_true_eq] at h1 h2 h3
  refine ⟨fun hc => ?_, fun hp => ?_, hb, ?_⟩
  · rcases h1 with h1 | ⟨h1, _⟩
    · rw [hc] at h1; cases h1
    · rcases h1 with h1 | h1
      · rw [h1]; simp
      · rcases h.2 with h4 | h4
        · rw [h4]; rfl
        · omega
  · rcases h2 with h2 | h2
    · rw [hp] at h2; cases h2
    · exact h2
  · by_cases hc : hasG s e 10 = true
    · rw [if_pos hc]
      rcases h1 with h1 | ⟨_, h1⟩
      · rw [hc] at h1; cases h1
      · right; omega
    · rw [if_neg hc]
      rcases h.2 with h4 | h4
      · left; rw [h4]; rfl
      · rcases h3 with (h3 | h3) | h3
        · omega
        · left; rw [h3]; simp
        · right; exact h3
end Go.Proofs.Ytlffhnplcgmhlaa
