/- A frame as a value and in memory. -/
import Derived.Test.YtbpmhfekjihhhaaMAdr
import Derived.Test.YtbpmhfekjihhhaaOPut
import Derived.Test.YtbpmhfekjihhhaaCRef
namespace Go.Proofs.Ytbpmhfekjihhhaa
open Go.RowKit

theorem lt13 {j : Nat} (h : j < 6) : j = 0 ∨ j = 1 ∨ j = 2 ∨ j = 3 ∨ j = 4 ∨ j = 5 := lt6 h
theorem RowK.ofSix {w : World} {g o B : Nat} {L : List Int} (h : Six w g o L) (hB : g < B) : Row w B (some ⟨g, o, none⟩) L.length L :=
  ⟨rfl, fun k hk => ⟨_, rfl, hB, by
    have : (⟨g, o, none⟩ : Addr).add k = ⟨g, o + k, none⟩ := by unfold Addr.add; split <;> simp_all
    rw [this]; exact h k hk⟩⟩
theorem six_of {w : World} {g o : Nat} {a0 a1 a2 a3 a4 a5 : Int} (h : (World.cell? w ⟨g, 0, none⟩ = some (.int .u8 a0) ∧ World.cell? w ⟨g, 1, none⟩ = some (.int .u8 a1) ∧ World.cell? w ⟨g, 2, none⟩ = some (.int .u8 a2) ∧ World.cell? w ⟨g, 3, none⟩ = some (.int .u8 a3) ∧ World.cell? w ⟨g, 4, none⟩ = some (.int .u8 a4) ∧ World.cell? w ⟨g, 5, none⟩ = some (.int .u8 a5))) (ho : o = 0) : Six w g o [a0, a1, a2, a3, a4, a5] := by
  subst ho
  intro j hj
  obtain ⟨h0, h1, h2, h3, h4, h5⟩ := h
  rcases lt6 hj with rfl | rfl | rfl | rfl | rfl | rfl
  · exact h0
  · exact h1
  · exact h2
  · exact h3
  · exact h4
  · exact h5
/-- a frame that lies in block g -/
structure FrmIn (w : World) (g : Nat) (M L : List Int) (v : Value) : Prop where
  to : Six w g 0 M
  fr : Six w g 6 L
  dat : w.cell? ⟨g, 12, none⟩ = some v
section
variable {w w' : World} {g : Nat} {M L : List Int} {v : Value}
theorem FrmIn.below {B : Nat} (h : FrmIn w g M L v) (hb : Below B w w') (hg : g < B) : FrmIn w' g M L v := ⟨h.to.below hb hg, h.fr.below hb hg, (hb.cell (p := ⟨g, 12, none⟩) hg).trans h.dat⟩
theorem FrmIn.made (w : World) (t0 t1 t2 t3 t4 t5 f0 f1 f2 f3 f4 f5 : Int) (v : Value) (T : TypeId) : FrmIn (w.alloc (.cells #[.int .u8 t0, .int .u8 t1, .int .u8 t2, .int .u8 t3, .int .u8 t4, .int .u8 t5, .int .u8 f0, .int .u8 f1, .int .u8 f2, .int .u8 f3, .int .u8 f4, .int .u8 f5, v] T)) w.heap.size [t0, t1, t2, t3, t4, t5] [f0, f1, f2, f3, f4, f5] v := by
  refine ⟨Six.madeF w _ _ 0 T (0, 0) fun j hj => ?_, Six.madeF w _ _ 6 T (0, 0) fun j hj => ?_, ?_⟩
  · rcases lt6 hj with rfl | rfl | rfl | rfl | rfl | rfl <;> rfl
  · rcases lt6 hj with rfl | rfl | rfl | rfl | rfl | rfl <;> rfl
  · rw [cell_of_row _ _ _ _ _ (0, 0) (heap_alloc_new w _)]; rfl
theorem FrmIn.alloc (h : FrmIn w g M L v) (hg : g < w.heap.size) (o : Obj) : FrmIn (w.alloc o) g M L v := ⟨h.to.alloc hg o, h.fr.alloc hg o, (World.cell?_alloc_lt w o _ hg).trans h.dat⟩
end

/-- a literal of five rows -/
theorem RowsB.five {B : Nat} {w : World} {A1 A2 A3 A4 A5 : Option Addr} {c1 c2 c3 c4 c5 : Nat} {l1 l2 l3 l4 l5 : List Int} (t : TypeId) (hB : w.heap.size + 1 = B)
    (h1 : Row w w.heap.size A1 l1.length l1) (h2 : Row w w.heap.size A2 l2.length l2) (h3 : Row w w.heap.size A3 l3.length l3) (h4 : Row w w.heap.size A4 l4.length l4) (h5 : Row w w.heap.size A5 l5.length l5)
    (e1 : l1.length ≤ c1) (e2 : l2.length ≤ c2) (e3 : l3.length ≤ c3) (e4 : l4.length ≤ c4) (e5 : l5.length ≤ c5)
    (n1 : A1 = none → c1 = 0) (n2 : A2 = none → c2 = 0) (n3 : A3 = none → c3 = 0) (n4 : A4 = none → c4 = 0) (n5 : A5 = none → c5 = 0) :
    RowsB (w.alloc (.cells #[.slice A1 l1.length c1, .slice A2 l2.length c2, .slice A3 l3.length c3, .slice A4 l4.length c4, .slice A5 l5.length c5] t)) B (some ⟨w.heap.size, 0, none⟩) 5 [l1, l2, l3, l4, l5] := by
  subst hB
  refine ⟨rfl, fun k hk => ?_⟩
  have hk2 : k < 5 := hk
  have ha : ∀ j, (⟨w.heap.size, 0, none⟩ : Addr).add j = ⟨w.heap.size, j, none⟩ := by
    intro j; unfold Addr.add; split <;> simp_all
  rcases (show k = 0 ∨ k = 1 ∨ k = 2 ∨ k = 3 ∨ k = 4 by omega) with rfl | rfl | rfl | rfl | rfl
  · exact ⟨_, A1, c1, rfl, by simp, by rw [ha, cell_of_row _ _ 0 _ _ (0, 0) (heap_alloc_new w _)]; rfl, e1, (h1.alloc (Nat.le_refl _) _).more (by omega), n1⟩
  · exact ⟨_, A2, c2, rfl, by simp, by rw [ha, cell_of_row _ _ 1 _ _ (0, 0) (heap_alloc_new w _)]; rfl, e2, (h2.alloc (Nat.le_refl _) _).more (by omega), n2⟩
  · exact ⟨_, A3, c3, rfl, by simp, by rw [ha, cell_of_row _ _ 2 _ _ (0, 0) (heap_alloc_new w _)]; rfl, e3, (h3.alloc (Nat.le_refl _) _).more (by omega), n3⟩
  · exact ⟨_, A4, c4, rfl, by simp, by rw [ha, cell_of_row _ _ 3 _ _ (0, 0) (heap_alloc_new w _)]; rfl, e4, (h4.alloc (Nat.le_refl _) _).more (by omega), n4⟩
  · exact ⟨_, A5, c5, rfl, by simp, by rw [ha, cell_of_row _ _ 4 _ _ (0, 0) (heap_alloc_new w _)]; rfl, e5, (h5.alloc (Nat.le_refl _) _).more (by omega), n5⟩
end Go.Proofs.Ytbpmhfekjihhhaa
