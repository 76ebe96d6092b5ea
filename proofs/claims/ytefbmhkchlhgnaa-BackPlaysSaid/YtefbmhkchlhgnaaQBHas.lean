/- The queue's functions as a law calls them: a queue that holds these items; all else lies as it lay. -/
import Derived.Test.YtefbmhkchlhgnaaQBOps
namespace Go.Proofs.Ytefbmhkchlhgnaa
open Go.RowKit

/-- a queue at block q that holds these items; it lies from block B on -/
def BHas (B : Nat) (w : World) (q : Nat) (m : Int) (xs : List Value) : Prop := ∃ G ps, BIn w q G m ps xs ∧ OwnQ B q G ps
abbrev BSpare (B : Nat) (w w' : World) : Prop := Spare [52, 56, 55] B w w'
section
variable {B : Nat} {w : World} {q : Nat} {m : Int} {xs : List Value}
theorem BHas.lt (h : BHas B w q m xs) : q < w.heap.size := by obtain ⟨G, ps, h, _⟩ := h; exact h.lt
theorem BHas.spare {w' : World} {ts : List TypeId} (h : BHas B w q m xs) (hS : Spare ts B w w') (h1 : 52 ∉ ts ∧ 56 ∉ ts ∧ 55 ∉ ts) : BHas B w' q m xs := by
  obtain ⟨G, ps, h, hO⟩ := h
  refine ⟨G, ps, h.keep fun k hk => ?_, hO⟩
  obtain ⟨A, c, hh, hr⟩ := h.ex
  rcases hk with rfl | hk | hk
  · rw [hh]; exact hS.block _ _ hh (.inr fun c T f e => by injection e with _ e2; subst e2; exact h1.1)
  · obtain ⟨cur, hc⟩ := hr.lt hk; rw [hc]; exact hS.block _ _ hc (.inr fun c T f e => by injection e with _ e2; subst e2; exact h1.2.1)
  · obtain ⟨x, hx⟩ := h.cellOf hk; rw [hx]; exact hS.block _ _ hx (.inr fun c T f e => by injection e with _ e2; subst e2; exact h1.2.2)
theorem BHas.below {w' : World} (h : BHas B w q m xs) (hb : Below w.heap.size w w') : BHas B w' q m xs := by
  obtain ⟨G, ps, h, hO⟩ := h; exact ⟨G, ps, h.below hb, hO⟩
theorem newB_has (n : Int) (B : Nat) (w : World) (hB : B ≤ w.heap.size) (m : Int) (hm : m = max 0 n) : Calls Try.prog 25 #[.int .i64 n] w fun e w' => ∃ q, e = .returned (ptr q) ∧ Hid (BHas B w' q m [] ∧ Below w.heap.size w w' ∧ w.heap.size ≤ q) := by
  by_cases h0 : 0 < n
  · refine (newB_pos n w h0).mono ?_
    rintro e w' ⟨rfl, H⟩
    obtain ⟨h1, h2⟩ := H.out
    exact ⟨_, rfl, cover ⟨⟨none, [], by rw [show m = n by omega]; exact h1, ⟨hB, fun g hg => (by cases hg), fun p hp => (by cases hp)⟩⟩, h2, Nat.le_refl _⟩⟩
  · refine (newB_neg n w (by omega)).mono ?_
    rintro e w' ⟨rfl, H⟩
    obtain ⟨h1, h2⟩ := H.out
    exact ⟨_, rfl, cover ⟨⟨none, [], by rw [show m = 0 by omega]; exact h1, ⟨hB, fun g hg => (by cases hg), fun p hp => (by cases hp)⟩⟩, h2, Nat.le_refl _⟩⟩
theorem lenB_has (h : BHas B w q m xs) : Calls Try.prog 30 #[ptr q] w fun e w' => e = .returned (.int .i64 xs.length) ∧ w = w' := by
  obtain ⟨G, ps, h, _⟩ := h
  rw [← h.len]; exact lenB_any h
theorem mostB_has (h : BHas B w q m xs) : Calls Try.prog 33 #[ptr q] w fun e w' => e = .returned (.int .i64 m) ∧ w = w' := by
  obtain ⟨G, ps, h, _⟩ := h
  exact mostB_any h
theorem peekB_has (h : BHas B w q m xs) (i : Nat) (x : Value) (hx : xs[i]? = some x) : Calls Try.prog 28 #[ptr q, .int .i64 i] w fun e w' => e = .returned (.tuple #[x, .bool true]) ∧ w = w' := by
  obtain ⟨G, ps, h, _⟩ := h
  exact peekB_yes h i x hx
theorem peekB_hasnt (h : BHas B w q m xs) (i : Int) (hi : i < 0 ∨ (xs.length : Int) ≤ i) : Calls Try.prog 28 #[ptr q, .int .i64 i] w fun e w' => e = .returned (.tuple #[.slice none 0 0, .bool false]) ∧ w = w' := by
  obtain ⟨G, ps, h, _⟩ := h
  exact peekB_no h i (by rw [h.len]; exact hi)
theorem putB_has (h : BHas B w q m xs) (hB : B ≤ w.heap.size) (x : Option Addr × Nat × Nat) (hm : (xs.length : Int) < m) (hbig : xs.length ≤ 1000000) :
    Calls Try.prog 26 #[ptr q, .slice x.1 x.2.1 x.2.2] w fun e w' => e = .returned (.bool true) ∧ Hid (BHas B w' q m (xs ++ [.slice x.1 x.2.1 x.2.2]) ∧ BSpare B w w') := by
  obtain ⟨G, ps, h, hO⟩ := h
  refine (putB_yes h x (by rw [h.len]; exact hm) (by have := h.len; omega)).mono ?_
  rintro e w' ⟨rfl, H⟩
  obtain ⟨G', p, h1, h2, h3, h4⟩ := H.out
  exact ⟨rfl, cover ⟨⟨G', _, h1, hO.next h3 hB h4⟩, Spare.of_turned h hO h2 (fun k hk => by simp at hk; exact hk.elim Or.inl (fun h => Or.inr (Or.inl h)))⟩⟩
theorem putB_hasnt (h : BHas B w q m xs) (x : Option Addr × Nat × Nat) (hm : m ≤ (xs.length : Int)) :
    Calls Try.prog 26 #[ptr q, .slice x.1 x.2.1 x.2.2] w fun e w' => e = .returned (.bool false) ∧ w = w' := by
  obtain ⟨G, ps, h, _⟩ := h
  exact putB_no h x (by rw [h.len]; exact hm)
theorem insertB_hasnt (h : BHas B w q m xs) (i : Int) (x : Option Addr × Nat × Nat) (hi : m ≤ (xs.length : Int) ∨ i < 0 ∨ (xs.length : Int) < i) :
    Calls Try.prog 32 #[ptr q, .int .i64 i, .slice x.1 x.2.1 x.2.2] w fun e w' => e = .returned (.bool false) ∧ w = w' := by
  obtain ⟨G, ps, h, _⟩ := h
  exact insertB_no h i x (by rw [h.len]; exact hi)
theorem cutB_has (h : BHas B w q m xs) (n k : Nat) (h1 : 1 ≤ k) (hk : k = min n xs.length) (hn63 : n ≤ 9223372036854775807) :
    Calls Try.prog 29 #[ptr q, .int .i64 n] w fun e w' => e = .returned (.int .i64 k) ∧ Hid (BHas B w' q m (xs.drop k) ∧ BSpare B w w') := by
  obtain ⟨G, ps, h, hO⟩ := h
  refine (cutB_some h n k h1 (by rw [h.len]; exact hk) hn63).mono ?_
  rintro e w' ⟨rfl, H⟩
  obtain ⟨h1, h2⟩ := H.out
  exact ⟨rfl, cover ⟨⟨G, _, h1, hO.drop k⟩, Spare.of_turned h hO h2 (fun k hk => by simp at hk; exact hk.elim Or.inl (fun h => Or.inr (Or.inl h)))⟩⟩
theorem cutB_hasnt (h : BHas B w q m xs) (n : Int) (hn : n < 1 ∨ xs.length = 0) : Calls Try.prog 29 #[ptr q, .int .i64 n] w fun e w' => e = .returned (.int .i64 0) ∧ w = w' := by
  obtain ⟨G, ps, h, _⟩ := h
  exact cutB_none h n (by rw [h.len]; exact hn)
end
end Go.Proofs.Ytefbmhkchlhgnaa
