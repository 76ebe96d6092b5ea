/- Own words for memory: a slice value that reads as rows of bytes. -/
import Derived.Test.YtefbmhkchlhgnaaOWords
namespace Go.Proofs.Ytefbmhkchlhgnaa
open Go.RowKit

/-- the slice value '.slice A n _' reads as these rows of bytes; all cells lie below block B -/
structure RowsB (w : World) (B : Nat) (A : Option Addr) (n : Nat) (ls : List (List Int)) : Prop where
  len : ls.length = n
  cells : ∀ k (h : k < ls.length), ∃ ad A' c', A = some ad ∧ ad.block < B ∧ w.cell? (ad.add k) = some (.slice A' ls[k].length c') ∧ ls[k].length ≤ c' ∧ Row w B A' ls[k].length ls[k] ∧ (A' = none → c' = 0)
/-- how long all are together -/
def totL (ls : List (List Int)) : Nat := (ls.map List.length).sum
theorem totL_append (a b : List (List Int)) : totL (a ++ b) = totL a + totL b := by simp [totL]
theorem totL_flatten (ls : List (List Int)) : ls.flatten.length = totL ls := by rw [List.length_flatten]; rfl
theorem totL_take_succ (ls : List (List Int)) (k : Nat) (h : k < ls.length) : totL (ls.take (k + 1)) = totL (ls.take k) + ls[k].length := by
  rw [List.take_succ_eq_append_getElem h, totL_append]; simp [totL]
theorem totL_take_le (ls : List (List Int)) (k : Nat) : totL (ls.take k) ≤ totL ls := by
  conv => rhs; rw [← List.take_append_drop k ls]
  rw [totL_append]; omega
theorem flatten_take_succ (ls : List (List Int)) (k : Nat) (h : k < ls.length) : (ls.take (k + 1)).flatten = (ls.take k).flatten ++ ls[k] := by
  rw [List.take_succ_eq_append_getElem h, List.flatten_append]; simp

theorem totL_next {ls : List (List Int)} {k : Nat} {x : List Int} (h : ls[k]? = some x) : totL (ls.take (k + 1)) = totL (ls.take k) + x.length := by
  obtain ⟨hk, rfl⟩ := List.getElem?_eq_some_iff.1 h
  exact totL_take_succ ls k hk
theorem flatten_next {ls : List (List Int)} {k : Nat} {x : List Int} (h : ls[k]? = some x) : (ls.take (k + 1)).flatten = (ls.take k).flatten ++ x := by
  obtain ⟨hk, rfl⟩ := List.getElem?_eq_some_iff.1 h
  exact flatten_take_succ ls k hk

section
variable {w w' : World} {B B' n : Nat} {A : Option Addr} {ls : List (List Int)}
theorem RowsB.at_ (h : RowsB w B A n ls) {k : Nat} (hk : k < n) : ∃ ad A' c' x, A = some ad ∧ ad.block < B ∧ w.cell? (ad.add k) = some (.slice A' x.length c') ∧ x.length ≤ c' ∧ Row w B A' x.length x ∧ (A' = none → c' = 0) ∧ Hid (ls[k]? = some x) := by
  have hk' : k < ls.length := by rw [h.len]; exact hk
  obtain ⟨ad, A', c', e, hb, hc, hlc, hr, hn⟩ := h.cells k hk'
  exact ⟨ad, A', c', ls[k], e, hb, hc, hlc, hr, hn, List.getElem?_eq_getElem hk'⟩
theorem RowsB.keep (h : RowsB w B A n ls) (hk : ∀ p : Addr, p.block < B → w'.cell? p = w.cell? p) : RowsB w' B A n ls :=
  ⟨h.len, fun k hl => by
    obtain ⟨ad, A', c', e, hb, hc, hlc, hr, hn⟩ := h.cells k hl
    exact ⟨ad, A', c', e, hb, (hk _ (by rw [addr_add_block]; exact hb)).trans hc, hlc, hr.keep hk, hn⟩⟩
theorem RowsB.below (h : RowsB w B A n ls) (hb : Below B w w') : RowsB w' B A n ls := h.keep fun _ hp => hb.cell hp
theorem RowsB.drewN (h : RowsB w B A n ls) (k : Nat) : RowsB (w.drewN k) B A n ls := h.keep fun _ _ => rfl
theorem RowsB.alloc (h : RowsB w B A n ls) (hB : B ≤ w.heap.size) (o : Obj) : RowsB (w.alloc o) B A n ls :=
  h.keep fun p hp => World.cell?_alloc_lt w o p (by omega)
theorem RowsB.more (h : RowsB w B A n ls) (hB : B ≤ B') : RowsB w B' A n ls :=
  ⟨h.len, fun k hl => by
    obtain ⟨ad, A', c', e, hb, hc, hlc, hr, hn⟩ := h.cells k hl
    exact ⟨ad, A', c', e, by omega, hc, hlc, hr.more hB, hn⟩⟩
/-- a literal of two rows -/
theorem RowsB.two {B : Nat} {w : World} {A1 A2 : Option Addr} {c1 c2 : Nat} {l1 l2 : List Int} (t : TypeId) (hB : w.heap.size + 1 = B)
    (h1 : Row w w.heap.size A1 l1.length l1) (h2 : Row w w.heap.size A2 l2.length l2) (e1 : l1.length ≤ c1) (e2 : l2.length ≤ c2) (n1 : A1 = none → c1 = 0) (n2 : A2 = none → c2 = 0) :
    RowsB (w.alloc (.cells #[.slice A1 l1.length c1, .slice A2 l2.length c2] t)) B (some ⟨w.heap.size, 0, none⟩) 2 [l1, l2] := by
  subst hB
  refine ⟨rfl, fun k hk => ?_⟩
  have hk2 : k < 2 := hk
  have ha : ∀ j, (⟨w.heap.size, 0, none⟩ : Addr).add j = ⟨w.heap.size, j, none⟩ := by
    intro j; unfold Addr.add; split <;> simp_all
  rcases (show k = 0 ∨ k = 1 by omega) with rfl | rfl
  · exact ⟨_, A1, c1, rfl, by simp, by rw [ha, cell_of_row _ _ 0 _ _ (0, 0) (heap_alloc_new w _)]; rfl, e1, (h1.alloc (Nat.le_refl _) _).more (by omega), n1⟩
  · exact ⟨_, A2, c2, rfl, by simp, by rw [ha, cell_of_row _ _ 1 _ _ (0, 0) (heap_alloc_new w _)]; rfl, e2, (h2.alloc (Nat.le_refl _) _).more (by omega), n2⟩
end
end Go.Proofs.Ytefbmhkchlhgnaa
