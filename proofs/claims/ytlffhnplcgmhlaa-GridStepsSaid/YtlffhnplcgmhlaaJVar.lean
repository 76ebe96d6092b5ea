/- A row kept in a variable of a law's; has, asked of it; how a law begins. -/
import Derived.Test.YtlffhnplcgmhlaaJUse
namespace Go.Proofs.Ytlffhnplcgmhlaa
open Go.RowKit
set_option linter.unusedVariables false
set_option linter.unusedSimpArgs false

theorem stepG_short (s e : Int) : (stepG s e).1.length ≤ 20 := by
  have hall : ∀ x ∈ gridL, x.2.2.1.length ≤ 20 := by decide +kernel
  unfold stepG rowG
  cases h : gridL.find? (fun x => x.1 == s && x.2.1 == e) with
  | none => simp
  | some x => exact hall x (List.mem_of_find?_eq_some h)
/-- the row x in the variable g, the law's own world being w0; it has just what c says -/
structure RowVar (b : Nat) (w0 w : World) (g : Nat) (A : Option Addr) (m : Nat) (n : Int) (k : Bool) (l : List Int) : Prop where
  bel : Below b w0 w
  le : b ≤ w.heap.size
  hd : w.heap[g]? = some (.cells (rowC A m n k) 25 (0, 0))
  row : RowK .i64 w w.heap.size A m l
  short : m ≤ 1000
theorem RowVar.below {b : Nat} {w0 w w' : World} {g : Nat} {A : Option Addr} {m : Nat} {n : Int} {k : Bool} {l : List Int} (h : RowVar b w0 w g A m n k l) (hb : Below w.heap.size w w') : RowVar b w0 w' g A m n k l :=
  ⟨h.bel.trans (hb.mono h.le), Nat.le_trans h.le hb.size, (hb.block g (block_lt h.hd)).trans h.hd, (h.row.below hb).more hb.size, h.short⟩
theorem RowVar.cells {b : Nat} {w0 w : World} {g : Nat} {A : Option Addr} {m : Nat} {n : Int} {k : Bool} {l : List Int} (h : RowVar b w0 w g A m n k l) : w.cell? ⟨g, 0, none⟩ = some (.slice A m m) ∧ w.cell? ⟨g, 1, none⟩ = some (.int .i64 n) ∧ w.cell? ⟨g, 2, none⟩ = some (.bool k) := rowC_cells h.hd
theorem has_at {b : Nat} {w0 w : World} {g : Nat} {A : Option Addr} {m : Nat} {n : Int} {k : Bool} {l : List Int} (h : Hid (RowVar b w0 w g A m n k l)) (a : Int) :
    Calls Try.prog 16 #[.agg (rowC A m n k), .int .i64 a] w fun e w' => e = .returned (.bool (l.contains a)) ∧ Hid (RowVar b w0 w' g A m n k l) :=
  (has_any A m l n k a w h.out.row h.out.short).mono fun e w' he => ⟨he.1, cover (h.out.below he.2)⟩
/-- a row that Step handed back, stored in a variable -/
theorem RowVar.made {b : Nat} {w0 w w1 : World} {A : Option Addr} {m : Nat} {l : List Int} {n : Int} {k : Bool} (hb : Below b w0 w) (hs : b ≤ w.heap.size) (hl : l.length ≤ 20) (H : Hid (IntsAt w1 w.heap.size (.slice A m m) l ∧ Below w.heap.size w w1)) :
    RowVar b w0 (w1.alloc (.cells (rowC A m n k) 25)) w1.heap.size A m n k l := by
  have ha : Below w1.heap.size w1 (w1.alloc (.cells (rowC A m n k) 25)) := (Below.refl _ _).alloc (Nat.le_refl _) _
  have h1 := H.out.2.size
  obtain ⟨hm, hr⟩ := H.out.1.out
  exact ⟨(hb.trans (H.out.2.mono hs)).trans (ha.mono (by omega)), by have := ha.size; omega, heap_alloc_new _ _, (hr.below ha).more ha.size, by omega⟩
theorem step_at {s e : Int} {l : List Int} {n : Int} {k : Bool} (hx : stepG s e = (l, n, k)) (w : World) : Calls Try.prog 11 #[.int .i64 s, .int .i64 e] w fun en w' => ∃ A m, en = .returned (.agg (rowC A m n k)) ∧ Hid (IntsAt w' w.heap.size (.slice A m m) l ∧ Below w.heap.size w w') := by
  have h := step_any s e w
  rw [hx] at h
  exact h
end Go.Proofs.Ytlffhnplcgmhlaa
