/- What the laws over a row of deeds share: a deed that was copied out, beside the law's lan. -/
import Derived.Test.YtjidhpmjdhjciaaFRoom
import Derived.Test.YtjidhpmjdhjciaaFHas
namespace Go.Proofs.Ytjidhpmjdhjciaa
open Go.RowKit
set_option linter.unusedVariables false

/-- the block that a deed was copied into -/
def dobj (q : DV) : Obj := .cells #[.int .i64 q.what, .int .i64 q.f, .int .i64 q.t, .int .i64 q.bit, .slice q.A q.b.length q.c] 42 (0, 0)
theorem LHas.keep_new {W w : World} {xs : List (Nat × Obj)} {l : Nat} {s : LS} (h : LHas W xs l s w) (o : Obj) : LHas W ((w.heap.size, o) :: xs) l s (w.alloc o) := by
  obtain ⟨S, h1, h2, h3, h4⟩ := h.below ((Below.refl _ _).alloc (Nat.le_refl _) o)
  obtain ⟨S', k1, k2, k3, k4⟩ := h
  have hb : Below w.heap.size w (w.alloc o) := (Below.refl _ _).alloc (Nat.le_refl _) o
  refine ⟨S', k1.below hb, k2, h3, fun p hp => ?_⟩
  rcases List.mem_cons.1 hp with rfl | hp
  · exact ⟨heap_alloc_new w _, fun hs => by have := k1.lt _ hs; simp at this⟩
  · exact ⟨(hb.block _ (block_lt (k4 p hp).1)).trans (k4 p hp).1, (k4 p hp).2⟩
theorem LHas.drop {W w : World} {xs : List (Nat × Obj)} {l : Nat} {s : LS} (h : LHas W xs l s w) : LHas W [] l s w := by
  obtain ⟨S, h1, h2, h3, h4⟩ := h
  exact ⟨S, h1, h2, h3, fun p hp => by cases hp⟩
theorem LHas.sub {W w : World} {xs ys : List (Nat × Obj)} {l : Nat} {s : LS} (h : LHas W xs l s w) (hs : ∀ p ∈ ys, p ∈ xs) : LHas W ys l s w := by
  obtain ⟨S, h1, h2, h3, h4⟩ := h
  exact ⟨S, h1, h2, h3, fun p hp => h4 p (hs p hp)⟩
theorem LHas.block {W w : World} {xs : List (Nat × Obj)} {l : Nat} {s : LS} {p : Nat × Obj} (h : LHas W (p :: xs) l s w) : w.heap[p.1]? = some p.2 := by
  obtain ⟨S, h1, h2, h3, h4⟩ := h
  exact (h4 p (by simp)).1
theorem LHas.lens {W w : World} {xs : List (Nat × Obj)} {l : Nat} {s : LS} (h : LHas W xs l s w) (k : Nat) : (s.rows k).length ≤ s.m := by
  obtain ⟨S, h1, _⟩ := h
  exact h1.len k
theorem dobj_cells {w : World} {g : Nat} {q : DV} (h : w.heap[g]? = some (dobj q)) :
    w.cell? ⟨g, 0, none⟩ = some (.int .i64 q.what) ∧ w.cell? ⟨g, 1, none⟩ = some (.int .i64 q.f) ∧ w.cell? ⟨g, 2, none⟩ = some (.int .i64 q.t) ∧ w.cell? ⟨g, 3, none⟩ = some (.int .i64 q.bit) ∧ w.cell? ⟨g, 4, none⟩ = some (.slice q.A q.b.length q.c) :=
  ⟨cell_of_row _ _ 0 _ _ (0, 0) h, cell_of_row _ _ 1 _ _ (0, 0) h, cell_of_row _ _ 2 _ _ (0, 0) h, cell_of_row _ _ 3 _ _ (0, 0) h, cell_of_row _ _ 4 _ _ (0, 0) h⟩
theorem or_zero {m : Int} (h : 0 ≤ m ∧ m ≤ 255) : bits BinOp.or IntKind.i64 0 m = m := by
  have h1 := or_byte 0 m (by decide) (by decide) h
  rw [show (0 : Int) * 256 = 0 from rfl, IntWalk.wrap64_in 0 ⟨by decide, by decide⟩, IntWalk.wrap64_in m ⟨by omega, by omega⟩] at h1
  omega
end Go.Proofs.Ytjidhpmjdhjciaa
