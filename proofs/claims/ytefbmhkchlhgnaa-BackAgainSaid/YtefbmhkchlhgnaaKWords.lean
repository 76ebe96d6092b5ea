/- Words for rows of the call's own, whatever is in them; numbers of few bits; rows that read as numbers. -/
import Derived.Test.YtefbmhkchlhgnaaFFoot
import Derived.Test.YtefbmhkchlhgnaaOMore
namespace Go.Proofs.Ytefbmhkchlhgnaa
open Go.RowKit
set_option linter.unusedVariables false

theorem row_type {w : World} {base e size n : Nat} {v : Value} {xs : List Value} (h : w.ownsRow base e size v n xs) {i : Nat} (hi : v.ownBlock = some i) : ∃ cur, w.heap[i]? = some (.cells cur e (0, 0)) := by
  rcases h.2 with ⟨hv, _⟩ | ⟨g', cap, cur, hv, _, hh, _⟩
  · rw [hv] at hi; simp [Value.ownBlock] at hi
  · rw [hv] at hi
    have : g' = i := by simpa [Value.ownBlock] using hi
    subst this; exact ⟨cur, hh⟩
theorem row_keeps {w w' : World} {base e size n : Nat} {v : Value} {xs : List Value} (h : w.ownsRow base e size v n xs) (hk : ∀ i, v.ownBlock = some i → w'.heap[i]? = w.heap[i]?) : w'.ownsRow base e size v n xs := by
  refine ⟨h.1, ?_⟩
  rcases h.2 with h0 | ⟨g, cap, cur, rfl, hg, hh, hr⟩
  · exact .inl h0
  · exact .inr ⟨g, cap, cur, rfl, hg, (hk g rfl).trans hh, hr⟩
theorem cell_alloc_lt {w : World} {p : Addr} {v : Value} (o : Obj) (h : w.cell? p = some v) : (w.alloc o).cell? p = some v := by
  have hl : p.block < w.heap.size := by
    rcases Nat.lt_or_ge p.block w.heap.size with h1 | h1
    · exact h1
    · unfold World.cell? at h; rw [Array.getElem?_eq_none h1] at h; simp at h
  rw [World.cell?_alloc_lt w o p hl]; exact h
theorem keyI_ne {a b : Int} (h : a ≠ b) : (a == b) = false := by rw [beq_eq_false_iff_ne]; exact h
theorem keyI_self (a : Int) : (a == a) = true := by simp
theorem u8_wf {x : Int} (h : (Lit.int .u8 x).wf = true) : 0 ≤ x ∧ x ≤ 255 := by
  simp only [Lit.wf, Bool.and_eq_true, decide_eq_true_eq] at h
  exact h
theorem u16_wf {x : Int} (h : (Lit.int .u16 x).wf = true) : 0 ≤ x ∧ x ≤ 65535 := by
  simp only [Lit.wf, Bool.and_eq_true, decide_eq_true_eq] at h
  exact h
/-- the cells of an own row whose items are of one cell -/
theorem own_cell {w : World} {base e n : Nat} {A : Option Addr} {cp : Nat} {xs : List Value} (h : w.ownsRow base e 1 (.slice A n cp) n xs) {j : Nat} {x : Value} (hx : xs[j]? = some x) : ∃ g, A = some ⟨g, 0, none⟩ ∧ g < w.heap.size ∧ base ≤ g ∧ w.cell? ⟨g, j, none⟩ = some x := by
  have hl := (List.getElem?_eq_some_iff.1 hx).1
  rw [h.1] at hl
  rcases h.2 with ⟨_, h0⟩ | ⟨g, c, cur, hv, hb, hh, _⟩
  · omega
  · injection hv with hv
    subst hv
    exact ⟨g, rfl, block_lt hh, hb, by rw [World.ownsRow.cellAt h j (by omega)]; exact hx⟩
/-- rows that read as numbers -/
def Nums (w : World) (A : Option Addr) (l : List Int) : Prop := ∀ j x, l[j]? = some x → ∃ g, A = some ⟨g, 0, none⟩ ∧ w.cell? ⟨g, j, none⟩ = some (.int .i64 x)
theorem Nums.of_own {w : World} {base cp n : Nat} {A : Option Addr} {l : List Int} (h : w.ownsRow base 3 1 (.slice A n cp) n (l.map (Value.int .i64))) : Nums w A l := fun j x hx => by
  obtain ⟨g, hA, _, _, hc⟩ := own_cell h (j := j) (x := .int .i64 x) (by rw [List.getElem?_map, hx]; rfl)
  exact ⟨g, hA, hc⟩
theorem Nums.drewN {w : World} {A : Option Addr} {l : List Int} (h : Nums w A l) (n : Nat) : Nums (w.drewN n) A l := h
end Go.Proofs.Ytefbmhkchlhgnaa
