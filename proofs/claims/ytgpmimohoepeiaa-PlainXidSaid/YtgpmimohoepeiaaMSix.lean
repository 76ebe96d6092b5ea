/- Addresses: six bytes as a value and in memory; how two of them compare. -/
import Derived.ChangeKeysEq
import Derived.Test.YtgpmimohoepeiaaOWords
import Derived.Test.YtgpmimohoepeiaaOFrame
namespace Go.Proofs.Ytgpmimohoepeiaa
open Go.RowKit

/-- the cells from offset o of block g on are those bytes -/
def Six (w : World) (g o : Nat) (L : List Int) : Prop := ∀ j (h : j < L.length), w.cell? ⟨g, o + j, none⟩ = some (.int .u8 L[j])
section
variable {w w' : World} {g o : Nat} {L : List Int} {a0 a1 a2 a3 a4 a5 : Int}
theorem Six.all (h : Six w g 0 [a0, a1, a2, a3, a4, a5]) : (World.cell? w ⟨g, 0, none⟩ = some (.int .u8 a0) ∧ World.cell? w ⟨g, 1, none⟩ = some (.int .u8 a1) ∧ World.cell? w ⟨g, 2, none⟩ = some (.int .u8 a2) ∧ World.cell? w ⟨g, 3, none⟩ = some (.int .u8 a3) ∧ World.cell? w ⟨g, 4, none⟩ = some (.int .u8 a4) ∧ World.cell? w ⟨g, 5, none⟩ = some (.int .u8 a5)) :=
  ⟨h 0 (by simp), h 1 (by simp), h 2 (by simp), h 3 (by simp), h 4 (by simp), h 5 (by simp)⟩
theorem Six.all6 (h : Six w g 6 [a0, a1, a2, a3, a4, a5]) : (World.cell? w ⟨g, 6, none⟩ = some (.int .u8 a0) ∧ World.cell? w ⟨g, 7, none⟩ = some (.int .u8 a1) ∧ World.cell? w ⟨g, 8, none⟩ = some (.int .u8 a2) ∧ World.cell? w ⟨g, 9, none⟩ = some (.int .u8 a3) ∧ World.cell? w ⟨g, 10, none⟩ = some (.int .u8 a4) ∧ World.cell? w ⟨g, 11, none⟩ = some (.int .u8 a5)) :=
  ⟨h 0 (by simp), h 1 (by simp), h 2 (by simp), h 3 (by simp), h 4 (by simp), h 5 (by simp)⟩
theorem Six.below {B : Nat} (h : Six w g o L) (hb : Below B w w') (hg : g < B) : Six w' g o L := fun j hj => (hb.cell (p := ⟨g, o + j, none⟩) hg).trans (h j hj)
theorem Six.madeF (w : World) (L : List Int) (cs : Array Value) (k : Nat) (t : TypeId) (fr : Nat × Nat) (h : ∀ j (h : j < L.length), cs[k + j]? = some (.int .u8 L[j])) : Six (w.alloc (.cells cs t fr)) w.heap.size k L := by
  intro j hj
  rw [cell_of_row _ _ _ _ _ fr (heap_alloc_new w _)]
  exact h j hj
theorem lt6 {j : Nat} (h : j < 6) : j = 0 ∨ j = 1 ∨ j = 2 ∨ j = 3 ∨ j = 4 ∨ j = 5 := by omega
theorem Six.made (w : World) (a0 a1 a2 a3 a4 a5 : Int) (t : TypeId) : Six (w.alloc (.cells #[.int .u8 a0, .int .u8 a1, .int .u8 a2, .int .u8 a3, .int .u8 a4, .int .u8 a5] t)) w.heap.size 0 [a0, a1, a2, a3, a4, a5] := by
  refine Six.madeF w _ _ 0 t (0, 0) fun j hj => ?_
  rcases lt6 hj with rfl | rfl | rfl | rfl | rfl | rfl <;> rfl
theorem Six.drewN (h : Six w g o L) (n : Nat) : Six (w.drewN n) g o L := h
theorem Six.alloc (h : Six w g o L) (hg : g < w.heap.size) (ob : Obj) : Six (w.alloc ob) g o L := fun j hj => (World.cell?_alloc_lt w ob _ hg).trans (h j hj)
end

/-- are two rows of numbers the same? -/
def sameL (x y : List Int) : Bool := decide (x = y)
theorem sameL_refl (x : List Int) : sameL x x = true := decide_eq_true rfl
theorem sameL_iff {x y : List Int} : sameL x y = true ↔ x = y := by simp [sameL]
theorem run_eq1 (w : World) (d : Nat) (x y : Int) : (Op.equalIn (d + 1) 5 (.int .u8 x) (.int .u8 y)).run Try.prog w = .ok (decide (x = y)) w := by
  simp [Op.equalIn, go_sem]
  rfl
theorem run_eqStep (w : World) (xs ys : Array Value) (i : Nat) (is : List Nat) (x y : Int) (hx : xs[i]? = some (.int .u8 x)) (hy : ys[i]? = some (.int .u8 y)) :
    (Op.eqItems 9999 5 1 xs ys (i :: is)).run Try.prog w = if x = y then (Op.eqItems 9999 5 1 xs ys is).run Try.prog w else .ok false w := by
  have hk : Try.prog.plainKey 5 = true := by kernel_rfl
  rw [Op.eqItems.eq_2, Nat.mul_one]
  simp only [Sem.run_bind, run_part_plain w hk hx, run_part_plain w hk hy, Result.andThen_ok]
  rw [show (Op.equalIn 9999 5 (.int .u8 x) (.int .u8 y)).run Try.prog w = .ok (decide (x = y)) w from run_eq1 w 9998 x y]
  rw [Result.andThen_ok]
  by_cases h : x = y
  · simp [h]
  · simp [h]
theorem run_eq6 (w : World) (a0 a1 a2 a3 a4 a5 b0 b1 b2 b3 b4 b5 : Int) :
    (Op.equalIn 10000 37 (.agg #[.int .u8 a0, .int .u8 a1, .int .u8 a2, .int .u8 a3, .int .u8 a4, .int .u8 a5]) (.agg #[.int .u8 b0, .int .u8 b1, .int .u8 b2, .int .u8 b3, .int .u8 b4, .int .u8 b5])).run Try.prog w = .ok (sameL [a0, a1, a2, a3, a4, a5] [b0, b1, b2, b3, b4, b5]) w := by
  obtain ⟨i, hi⟩ := info_of_underlying Try.underlying5
  have hc : Try.prog.cellsOf 5 = 1 := by kernel_rfl
  rw [run_equalIn_array w 9999 _ _ Try.underlying37 hi, hc, show List.range 6 = [0, 1, 2, 3, 4, 5] from rfl]
  rw [run_eqStep w _ _ 0 _ a0 b0 rfl rfl, run_eqStep w _ _ 1 _ a1 b1 rfl rfl, run_eqStep w _ _ 2 _ a2 b2 rfl rfl, run_eqStep w _ _ 3 _ a3 b3 rfl rfl, run_eqStep w _ _ 4 _ a4 b4 rfl rfl, run_eqStep w _ _ 5 _ a5 b5 rfl rfl]
  unfold sameL
  by_cases h0 : a0 = b0 <;> by_cases h1 : a1 = b1 <;> by_cases h2 : a2 = b2 <;> by_cases h3 : a3 = b3 <;> by_cases h4 : a4 = b4 <;> by_cases h5 : a5 = b5 <;> simp [h0, h1, h2, h3, h4, h5, Op.eqItems]
end Go.Proofs.Ytgpmimohoepeiaa
