/- The document's own row: what makes one. -/
import Derived.Test.YtlffhnplcgmhlaaJStep
namespace Go.Proofs.Ytlffhnplcgmhlaa
open Go.RowKit
set_option linter.unusedVariables false
set_option linter.unusedSimpArgs false

theorem ref_row_size : (Try.prog.info? 30).map (fun x => x.size) = some 3 := by kernel_rfl
theorem refrow_any (n : Int) (A : Option Addr) (m : Nat) (w : World) : Calls Try.prog 41 #[.int .i64 n, .slice A m m] w fun e w' => e = .returned (.agg (rowC A m n true)) ∧ Below w.heap.size w w' := by
  go_enter Try.func41, Try.ntmps41
  go_wp2
  exact bodyPost_ret (v := .agg (rowC A m n true)) (results_cell_row (by rfl) _ _ w.heap.size _ (rowC A m n true) (0, 0) _ rfl (heap_alloc_new _ _) Try.underlying30 rfl ref_row_size) rfl ⟨rfl, (Below.refl _ _).alloc (Nat.le_refl _) _⟩
/-- the events that a state knows -/
def evsG (s : Int) : List Int := (gridL.filter fun x => x.1 == s).map (·.2.1)
theorem stepG_none {s e : Int} (h : e ∉ evsG s) : stepG s e = ([], s, false) := by
  have h1 : rowG s e = none := by
    unfold rowG
    rw [Option.map_eq_none_iff, List.find?_eq_none]
    intro x hx hc
    simp only [Bool.and_eq_true, beq_iff_eq] at hc
    exact h (List.mem_map.2 ⟨x, List.mem_filter.2 ⟨hx, by simp [hc.1]⟩, hc.2⟩)
  unfold stepG; rw [h1]
/-- what is so where a row is stored in the result -/
theorem ref_fin {w w1 w2 : World} {g : Nat} (l : List Int) (n : Int) (h : w.heap.size = g ∧ Below g w w1 ∧ w1.heap[g]? = some (.cells zr0 30 (0, 0))) (hb : Below (w1.alloc (.cells (intsC l) 3)).heap.size (w1.alloc (.cells (intsC l) 3)) w2) :
    w2.heap[g]? = some (.cells zr0 30 (0, 0)) ∧ RowOut w (l, n, true) (.returned (.agg (rowC (some ⟨w1.heap.size, 0, none⟩) l.length n true))) (w2.setRow g (rowC (some ⟨w1.heap.size, 0, none⟩) l.length n true)) := by
  obtain ⟨hg, hb1, hh⟩ := h
  have hlt := block_lt hh
  have ha : Below w1.heap.size w1 (w1.alloc (.cells (intsC l) 3)) := (Below.refl _ _).alloc (Nat.le_refl _) _
  have h2 := ha.trans (hb.mono ha.size)
  have hh2 := (h2.block g hlt).trans hh
  have hi : IntsAt (w1.alloc (.cells (intsC l) 3)) w1.heap.size (.slice (some ⟨w1.heap.size, 0, none⟩) l.length l.length) l := .inr ⟨_, rfl, Nat.le_refl _, heap_alloc_new _ _⟩
  have hi2 : IntsAt (w2.setRow g (rowC (some ⟨w1.heap.size, 0, none⟩) l.length n true)) w1.heap.size (.slice (some ⟨w1.heap.size, 0, none⟩) l.length l.length) l := (hi.below hb).keep fun g' hg' => setRow_other _ _ _ _ (type_ne hg' hh2 (by decide))
  refine ⟨hh2, _, _, rfl, cover ⟨hi2.more hb1.size, ?_⟩⟩
  rw [hg]
  exact Go.below_setRow (hb1.trans (h2.mono (Nat.le_of_lt hlt))) (Nat.le_refl _) _
/-- a row that was handed back, stored in the result -/
theorem row_pass {w w1 w2 : World} {g : Nat} {x : RowV} {A : Option Addr} {m : Nat} (h : w.heap.size = g ∧ Below g w w1 ∧ w1.heap[g]? = some (.cells zr0 30 (0, 0))) (H : Hid (IntsAt w2 w1.heap.size (.slice A m m) x.1 ∧ Below w1.heap.size w1 w2)) :
    w2.heap[g]? = some (.cells zr0 30 (0, 0)) ∧ RowOut w x (.returned (.agg (rowC A m x.2.1 x.2.2))) (w2.setRow g (rowC A m x.2.1 x.2.2)) := by
  obtain ⟨hg, hb1, hh⟩ := h
  have hlt := block_lt hh
  have hh2 := (H.out.2.block g hlt).trans hh
  refine ⟨hh2, A, m, rfl, cover ⟨(H.out.1.keep fun g' hg' => setRow_other _ _ _ _ (type_ne hg' hh2 (by decide))).more hb1.size, ?_⟩⟩
  rw [hg]
  exact Go.below_setRow (hb1.trans (H.out.2.mono (Nat.le_of_lt hlt))) (Nat.le_refl _) _
/-- where there is none -/
theorem ref_no {w w1 : World} {g : Nat} {s e : Int} (hs : stepG s e = ([], s, false)) (h : w.heap.size = g ∧ Below g w w1 ∧ w1.heap[g]? = some (.cells zr0 30 (0, 0))) : RowOut w (stepG s e) (.returned (.agg (rowC none 0 s false))) (w1.setRow g (rowC none 0 s false)) := by
  rw [hs]
  exact ⟨none, 0, rfl, cover ⟨.inl ⟨rfl, rfl⟩, by rw [h.1]; exact Go.below_setRow h.2.1 (Nat.le_refl _) _⟩⟩
end Go.Proofs.Ytlffhnplcgmhlaa
