/- A list that a loop over a walk gathers, in its variable. -/
import Derived.RangeFuncBox
import Derived.Test.YtjkgiepfglimcaaQRange
namespace Go.Proofs.Ytjkgiepfglimcaa
open Go.RowKit Go.Shelf
set_option linter.unusedVariables false

/-- a list that the call has gathered, in its variable; of what was there these blocks alone may have turned -/
structure AtK (TB e sz : Nat) (L : List Nat) (W : World) (b base n : Nat) (xs : List Value) (A : World) : Prop where
  row : ∃ v, A.heap[b]? = some (.cells #[v] TB (0, 0)) ∧ A.ownsRow base e sz v n xs
  tur : Turned L W A
section
variable {TB e sz : Nat}
theorem ownK_turned {L : List Nat} {a b : World} {base n : Nat} {v : Value} {xs : List Value} (h : a.ownsRow base e sz v n xs) (hT : Turned L a b) (hL : ∀ g, v.ownBlock = some g → g ∉ L) : b.ownsRow base e sz v n xs := by
  refine ⟨h.1, ?_⟩
  rcases h.2 with h0 | ⟨g, cap, cur, rfl, hg, hh, hr⟩
  · exact .inl h0
  · exact .inr ⟨g, cap, cur, rfl, hg, hT.at_ hh (hL g rfl), hr⟩
theorem AtK.turned {L M : List Nat} {W A A' : World} {b base n : Nat} {xs : List Value} (h : AtK TB e sz L W b base n xs A) (hT : Turned M A A') (hb : b ∉ M) (hM : ∀ i ∈ M, W.heap.size ≤ i ∧ i < base) : AtK TB e sz L W b base n xs A' := by
  obtain ⟨v, h1, h2⟩ := h.row
  exact ⟨⟨v, hT.at_ h1 hb, ownK_turned h2 hT (fun g hg hm => by have := (h2.lt g hg).1; have := hM g hm; omega)⟩, h.tur.trans hT (fun i hi => .inr (hM i hi).1)⟩
theorem AtK.below {L : List Nat} {W A A' : World} {b base n : Nat} {xs : List Value} (h : AtK TB e sz L W b base n xs A) (hB : Below A.heap.size A A') : AtK TB e sz L W b base n xs A' := by
  obtain ⟨v, h1, h2⟩ := h.row
  refine ⟨⟨v, (hB.block b (block_lt h1)).trans h1, ownK_turned h2 (Turned.of_below (L := []) hB) (fun g _ hm => by cases hm)⟩, h.tur.trans (Turned.of_below (L := []) hB) (fun i hi => by cases hi)⟩
theorem AtK.drewN {L : List Nat} {W A : World} {b base n : Nat} {xs : List Value} (h : AtK TB e sz L W b base n xs A) (k : Nat) : AtK TB e sz L W b base n xs (A.drewN k) := ⟨h.row, h.tur.drewN k⟩
theorem AtK.app {L : List Nat} {W A w1 : World} {b base n m : Nat} {v v' : Value} {ys zs : List Value} {o : Obj} (h1 : A.heap[b]? = some (.cells #[v] TB (0, 0))) (h2 : A.ownsRow base e sz v n ys) (tur : Turned L W A) (hb : b ∈ L) (hbb : b < base) (hW : W.heap.size ≤ base)
    (hown' : w1.ownsRow base e sz v' m zs) (hgrow : (A.alloc o).grownBy w1 v.ownBlock) :
    AtK TB e sz L W b base m zs (w1.setCell ⟨b, 0, none⟩ v') ∧ A.heap.size ≤ (w1.setCell ⟨b, 0, none⟩ v').heap.size ∧ w1.heap[b]? = some (.cells #[v] TB (0, 0)) ∧ ∀ k, k < A.heap.size → k ≠ b → k < base → (w1.setCell ⟨b, 0, none⟩ v').heap[k]? = A.heap[k]? := by
  have hlt := block_lt h1
  have hsz := hgrow.size
  simp at hsz
  have hbase : ∀ g, v.ownBlock = some g → base ≤ g := fun g hg => (h2.lt g hg).1
  have hk1 : ∀ k, k < A.heap.size → v.ownBlock ≠ some k → w1.heap[k]? = A.heap[k]? := fun k hk hn => (hgrow.block k (by simp; omega) (fun e => hn e.symm)).trans (Below.heap_alloc _ _ _ hk)
  have hb1 : w1.heap[b]? = some (.cells #[v] TB (0, 0)) := (hk1 b hlt (fun e => by have := hbase b e; omega)).trans h1
  refine ⟨⟨⟨v', by rw [set_block hb1]; rfl, ?_⟩, ?_⟩, by rw [set_size]; omega, hb1, ?_⟩
  · exact ownsRow_setCell_other hown' (fun e => by have := (hown'.lt b e).1; omega) _
  · refine Turned.setCell ⟨hgrow.os.trans tur.os, hgrow.tape.trans tur.tape, hgrow.output.trans tur.output, by have := tur.size; omega, fun k hk hn => ?_⟩ (.inl hb) _ _
    have := tur.size
    exact (hk1 k (by omega) (fun e => by have := hbase k e; omega)).trans (tur.block k hk hn)
  · intro k hk hne hlt
    rw [set_other _ _ hne]
    exact hk1 k hk (fun e => by have := hbase k e; omega)
end
end Go.Proofs.Ytjkgiepfglimcaa
