/- The queue's functions as a law calls them: a queue that holds these items; all else lies as it lay. -/
import Derived.Test.YthfmkhjafkhpdaaQIOps
namespace Go.Proofs.Ythfmkhjafkhpdaa
open Go.RowKit

/-- a queue at block q that holds these items; it lies from block B on -/
def IHas (B : Nat) (w : World) (q : Nat) (m : Int) (xs : List Value) : Prop := ∃ G ps, IIn w q G m ps xs ∧ OwnQ B q G ps
abbrev ISpare (B : Nat) (w w' : World) : Prop := Spare [70, 73, 75] B w w'
section
variable {B : Nat} {w : World} {q : Nat} {m : Int} {xs : List Value}
theorem IHas.lt (h : IHas B w q m xs) : q < w.heap.size := by obtain ⟨G, ps, h, _⟩ := h; exact h.lt
theorem IHas.spare {w' : World} {ts : List TypeId} (h : IHas B w q m xs) (hS : Spare ts B w w') (h1 : 70 ∉ ts ∧ 73 ∉ ts ∧ 75 ∉ ts) : IHas B w' q m xs := by
  obtain ⟨G, ps, h, hO⟩ := h
  refine ⟨G, ps, h.keep fun k hk => ?_, hO⟩
  obtain ⟨A, c, hh, hr⟩ := h.ex
  rcases hk with rfl | hk | hk
  · rw [hh]; exact hS.block _ _ hh (.inr fun c T f e => by injection e with _ e2; subst e2; exact h1.1)
  · obtain ⟨cur, hc⟩ := hr.lt hk; rw [hc]; exact hS.block _ _ hc (.inr fun c T f e => by injection e with _ e2; subst e2; exact h1.2.1)
  · obtain ⟨x, hx⟩ := h.cellOf hk; rw [hx]; exact hS.block _ _ hx (.inr fun c T f e => by injection e with _ e2; subst e2; exact h1.2.2)
theorem IHas.below {w' : World} (h : IHas B w q m xs) (hb : Below w.heap.size w w') : IHas B w' q m xs := by
  obtain ⟨G, ps, h, hO⟩ := h; exact ⟨G, ps, h.below hb, hO⟩
theorem newI_has (n : Int) (B : Nat) (w : World) (hB : B ≤ w.heap.size) (m : Int) (hm : m = max 0 n) : Calls Try.prog 15 #[.int .i64 n] w fun e w' => ∃ q, e = .returned (ptr q) ∧ Hid (IHas B w' q m [] ∧ Below w.heap.size w w' ∧ w.heap.size ≤ q) := by
  by_cases h0 : 0 < n
  · refine (newI_pos n w h0).mono ?_
    rintro e w' ⟨rfl, H⟩
    obtain ⟨h1, h2⟩ := H.out
    exact ⟨_, rfl, cover ⟨⟨none, [], by rw [show m = n by omega]; exact h1, ⟨hB, fun g hg => (by cases hg), fun p hp => (by cases hp)⟩⟩, h2, Nat.le_refl _⟩⟩
  · refine (newI_neg n w (by omega)).mono ?_
    rintro e w' ⟨rfl, H⟩
    obtain ⟨h1, h2⟩ := H.out
    exact ⟨_, rfl, cover ⟨⟨none, [], by rw [show m = 0 by omega]; exact h1, ⟨hB, fun g hg => (by cases hg), fun p hp => (by cases hp)⟩⟩, h2, Nat.le_refl _⟩⟩
theorem lenI_has (h : IHas B w q m xs) : Calls Try.prog 24 #[ptr q] w fun e w' => e = .returned (.int .i64 xs.length) ∧ w = w' := by
  obtain ⟨G, ps, h, _⟩ := h
  rw [← h.len]; exact lenI_any h
theorem mostI_has (h : IHas B w q m xs) : Calls Try.prog 18 #[ptr q] w fun e w' => e = .returned (.int .i64 m) ∧ w = w' := by
  obtain ⟨G, ps, h, _⟩ := h
  exact mostI_any h
theorem peekI_has (h : IHas B w q m xs) (i : Nat) (x : Value) (hx : xs[i]? = some x) : Calls Try.prog 36 #[ptr q, .int .i64 i] w fun e w' => e = .returned (.tuple #[x, .bool true]) ∧ w = w' := by
  obtain ⟨G, ps, h, _⟩ := h
  exact peekI_yes h i x hx
theorem peekI_hasnt (h : IHas B w q m xs) (i : Int) (hi : i < 0 ∨ (xs.length : Int) ≤ i) : Calls Try.prog 36 #[ptr q, .int .i64 i] w fun e w' => e = .returned (.tuple #[.int .i64 0, .bool false]) ∧ w = w' := by
  obtain ⟨G, ps, h, _⟩ := h
  exact peekI_no h i (by rw [h.len]; exact hi)
theorem putI_has (h : IHas B w q m xs) (hB : B ≤ w.heap.size) (x : Int) (hm : (xs.length : Int) < m) (hbig : xs.length ≤ 1000000) :
    Calls Try.prog 17 #[ptr q, .int .i64 x] w fun e w' => e = .returned (.bool true) ∧ Hid (IHas B w' q m (xs ++ [.int .i64 x]) ∧ ISpare B w w') := by
  obtain ⟨G, ps, h, hO⟩ := h
  refine (putI_yes h x (by rw [h.len]; exact hm) (by have := h.len; omega)).mono ?_
  rintro e w' ⟨rfl, H⟩
  obtain ⟨G', p, h1, h2, h3, h4⟩ := H.out
  exact ⟨rfl, cover ⟨⟨G', _, h1, hO.next h3 hB h4⟩, Spare.of_turned h hO h2 (fun k hk => by simp at hk; exact hk.elim Or.inl (fun h => Or.inr (Or.inl h)))⟩⟩
theorem putI_hasnt (h : IHas B w q m xs) (x : Int) (hm : m ≤ (xs.length : Int)) :
    Calls Try.prog 17 #[ptr q, .int .i64 x] w fun e w' => e = .returned (.bool false) ∧ w = w' := by
  obtain ⟨G, ps, h, _⟩ := h
  exact putI_no h x (by rw [h.len]; exact hm)
theorem insertI_hasnt (h : IHas B w q m xs) (i : Int) (x : Int) (hi : m ≤ (xs.length : Int) ∨ i < 0 ∨ (xs.length : Int) < i) :
    Calls Try.prog 20 #[ptr q, .int .i64 i, .int .i64 x] w fun e w' => e = .returned (.bool false) ∧ w = w' := by
  obtain ⟨G, ps, h, _⟩ := h
  exact insertI_no h i x (by rw [h.len]; exact hi)
theorem takeI_has {x : Value} {ys : List Value} (h : IHas B w q m (x :: ys)) :
    Calls Try.prog 19 #[ptr q] w fun e w' => e = .returned (.tuple #[x, .bool true]) ∧ Hid (IHas B w' q m ys ∧ ISpare B w w') := by
  obtain ⟨G, ps, h, hO⟩ := h
  refine (takeI_yes h x rfl).mono ?_
  rintro e w' ⟨rfl, H⟩
  obtain ⟨h1, h2⟩ := H.out
  exact ⟨rfl, cover ⟨⟨G, _, h1, hO.drop 1⟩, Spare.of_turned h hO h2 (fun k hk => by simp at hk; exact hk.elim Or.inl (fun h => Or.inr (Or.inl h)))⟩⟩
theorem takeI_hasnt (h : IHas B w q m []) :
    Calls Try.prog 19 #[ptr q] w fun e w' => e = .returned (.tuple #[.int .i64 0, .bool false]) ∧ w = w' := by
  obtain ⟨G, ps, h, hO⟩ := h
  have hl := h.len
  simp at hl
  subst hl
  exact takeI_no h
theorem cutI_has (h : IHas B w q m xs) (n k : Nat) (h1 : 1 ≤ k) (hk : k = min n xs.length) (hn63 : n ≤ 9223372036854775807) :
    Calls Try.prog 21 #[ptr q, .int .i64 n] w fun e w' => e = .returned (.int .i64 k) ∧ Hid (IHas B w' q m (xs.drop k) ∧ ISpare B w w') := by
  obtain ⟨G, ps, h, hO⟩ := h
  refine (cutI_some h n k h1 (by rw [h.len]; exact hk) hn63).mono ?_
  rintro e w' ⟨rfl, H⟩
  obtain ⟨h1, h2⟩ := H.out
  exact ⟨rfl, cover ⟨⟨G, _, h1, hO.drop k⟩, Spare.of_turned h hO h2 (fun k hk => by simp at hk; exact hk.elim Or.inl (fun h => Or.inr (Or.inl h)))⟩⟩
theorem cutI_hasnt (h : IHas B w q m xs) (n : Int) (hn : n < 1 ∨ xs.length = 0) : Calls Try.prog 21 #[ptr q, .int .i64 n] w fun e w' => e = .returned (.int .i64 0) ∧ w = w' := by
  obtain ⟨G, ps, h, _⟩ := h
  exact cutI_none h n (by rw [h.len]; exact hn)
end
end Go.Proofs.Ythfmkhjafkhpdaa
