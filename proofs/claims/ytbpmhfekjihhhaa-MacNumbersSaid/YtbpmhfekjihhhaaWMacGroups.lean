/- The walk of MacGroups. -/
import Derived.Test.YtbpmhfekjihhhaaMAwake
import Derived.Test.YtbpmhfekjihhhaaMTake
import Derived.Test.YtbpmhfekjihhhaaWMacTakes
import Derived.Deep.RegionHeld3
namespace Go.Proofs.Ytbpmhfekjihhhaa
open Go.RowKit
set_option linter.unusedVariables false
attribute [local go_sem] run_eq6

theorem odd_all : ∀ n : Nat, n < 256 → grp (bits BinOp.or IntKind.u8 (n : Int) 1) = true ∧ ¬ bits BinOp.or IntKind.u8 (n : Int) 1 = 2 := by decide +kernel
theorem odd_of {x : Int} (h : Byt x) : grp (bits BinOp.or IntKind.u8 x 1) = true ∧ ¬ bits BinOp.or IntKind.u8 x 1 = 2 := by
  obtain ⟨n, rfl⟩ : ∃ n : Nat, (n : Int) = x := ⟨x.toNat, by have := h.1; omega⟩
  exact odd_all n (by have := h.2; omega)
theorem sameL_no {x y : List Int} (h : x ≠ y) : sameL x y = false := decide_eq_false h
/-- a literal of one address -/
theorem AdrsB.one (w : World) (a0 a1 a2 a3 a4 a5 : Int) (t : TypeId) : AdrsB (w.alloc (.cells #[.int .u8 a0, .int .u8 a1, .int .u8 a2, .int .u8 a3, .int .u8 a4, .int .u8 a5] t)) (w.heap.size + 1) (some ⟨w.heap.size, 0, none⟩) 1 [[a0, a1, a2, a3, a4, a5]] := by
  have h := Six.made w a0 a1 a2 a3 a4 a5 t
  refine ⟨rfl, fun k hk => ?_⟩
  have hk0 : k = 0 := by simp at hk; omega
  subst hk0
  exact ⟨_, a0, a1, a2, a3, a4, a5, rfl, by simp, rfl, h 0 (by simp), h 1 (by simp), h 2 (by simp), h 3 (by simp), h 4 (by simp), h 5 (by simp)⟩
theorem setCell0_six {w : World} {g : Nat} {a0 a1 a2 a3 a4 a5 x : Int} (h : w.heap[g]? = some (.cells #[.int .u8 a0, .int .u8 a1, .int .u8 a2, .int .u8 a3, .int .u8 a4, .int .u8 a5] 33 (0, 0))) : (w.setCell ⟨g, 0, none⟩ (.int .u8 x)).heap[g]? = some (.cells #[.int .u8 x, .int .u8 a1, .int .u8 a2, .int .u8 a3, .int .u8 a4, .int .u8 a5] 33 (0, 0)) :=
  heap_setCell_same w g 0 _ _ (.int .u8 x) h
theorem six_heap {w : World} {g : Nat} {a0 a1 a2 a3 a4 a5 : Int} {T : TypeId} (h : w.heap[g]? = some (.cells #[.int .u8 a0, .int .u8 a1, .int .u8 a2, .int .u8 a3, .int .u8 a4, .int .u8 a5] T (0, 0))) : Six w g 0 [a0, a1, a2, a3, a4, a5] := by
  intro j hj
  rw [cell_of_row _ _ _ _ _ _ h]
  rcases lt6 hj with rfl | rfl | rfl | rfl | rfl | rfl <;> rfl

set_option maxRecDepth 100000 in
set_option maxHeartbeats 3200000 in
theorem groups_at (a b g0 g1 g2 g3 g4 g5 o : Int) (w w2 : World) (q p : Bool) (ha : Byt a) (hb : Byt b) (hg0 : Byt g0) (ho : bits BinOp.or IntKind.u8 g0 1 = o) (ho1 : Hid (grp o = true)) (hw2 : Hid (w2 = w.alloc (.cells #[.int .u8 g0, .int .u8 g1, .int .u8 g2, .int .u8 g3, .int .u8 g4, .int .u8 g5] 33)))
    (hab : (a == b) = q) (hq : Hid (takesB [2, 0, 0, 0, 0, a] [] [2, 0, 0, 0, 0, b] 2 = q)) (hp : sameL [o, g1, g2, g3, g4, g5] [255, 255, 255, 255, 255, 255] = p) (hp2 : Hid (takesB [2, 0, 0, 0, 0, a] [] [o, g1, g2, g3, g4, g5] o = p)) :
    Calls Try.prog 9 #[.int .u8 a, .int .u8 b, .agg #[.int .u8 g0, .int .u8 g1, .int .u8 g2, .int .u8 g3, .int .u8 g4, .int .u8 g5]] w fun e w' => e = .returned (.bool true) ∧ Below w.heap.size w w' := by
  obtain ⟨a0, a1⟩ := ha
  obtain ⟨b0, b1⟩ := hb
  obtain ⟨c0, c1⟩ := hg0
  have H2 : Hid (Below w.heap.size w w2) := cover (by rw [hw2.out]; exact (Below.refl _ _).alloc (Nat.le_refl _) _)
  have G2 : Hid (w2.heap[w.heap.size]? = some (.cells #[.int .u8 g0, .int .u8 g1, .int .u8 g2, .int .u8 g3, .int .u8 g4, .int .u8 g5] 33 (0, 0))) := cover (by rw [hw2.out]; exact heap_alloc_new _ _)
  have hs2 : w.heap.size < w2.heap.size := block_lt G2.out
  go_enter Try.func9, Try.ntmps9
  go_wp2_with fail
  rw [← hw2.out]
  refine (awake_any w2).mono ?_
  rintro e w3 ⟨rfl, hb3⟩
  have hs3 := hb3.size
  have H3 := cover (H2.out.trans (hb3.mono (by omega)))
  have G3 := cover ((hb3.block w.heap.size hs2).trans G2.out)
  clear hb3
  go_wp2_with fail
  refine (station_in a (by omega) (by omega) w3).mono ?_
  rintro e w4 ⟨rfl, hb4⟩
  have hs4 := hb4.size
  have H4 := cover (H3.out.trans (hb4.mono (by omega)))
  have G4 := cover ((hb4.block w.heap.size (by omega)).trans G3.out)
  clear hb4
  go_wp2_with fail
  refine (station_in b (by omega) (by omega) w4).mono ?_
  rintro e w5 ⟨rfl, hb5⟩
  have hs5 := hb5.size
  have H5 := cover (H4.out.trans (hb5.mono (by omega)))
  have g5 := (hb5.block w.heap.size (by omega)).trans G4.out
  have G5 := cover g5
  have hlt5 : w.heap.size < w5.heap.size := by omega
  have k1 : w5.cell? ⟨w.heap.size, 0, none⟩ = some (.int .u8 g0) := by rw [cell_of_row _ _ _ _ _ _ g5]; rfl
  have k2 : w5.frozen? ⟨w.heap.size, 0, none⟩ = false := frozen_of_row _ _ _ _ _ g5
  clear hb5 g5
  go_upto_region 5 with fail
  obtain ⟨w6, hw6⟩ : ∃ w6, Hid (w6 = ((w5.setCell ⟨w.heap.size, 0, none⟩ (.int .u8 o)).alloc (.cells #[.int .u8 2, .int .u8 0, .int .u8 0, .int .u8 0, .int .u8 0, .int .u8 a] 33)).alloc (.cells #[.int .u8 2, .int .u8 0, .int .u8 0, .int .u8 0, .int .u8 0, .int .u8 b] 33)) := ⟨_, cover rfl⟩
  rw [← hw6.out]
  have hsc : (w5.setCell ⟨w.heap.size, 0, none⟩ (.int .u8 o)).heap.size = w5.heap.size := by simp [World.setCell]
  have hs6 : w6.heap.size = w5.heap.size + 2 := by rw [hw6.out]; simp [hsc]
  have H6 : Hid (Below w.heap.size w w6) := cover (by
    rw [hw6.out]
    exact ((H5.out.setCell (p := ⟨w.heap.size, 0, none⟩) (Nat.le_refl _) _).alloc (by rw [hsc]; omega) _).alloc (by simp [hsc]; omega) _)
  have X6 : Hid (Six w6 w5.heap.size 0 [2, 0, 0, 0, 0, a]) := cover (by
    have h := (six_boxed (w5.setCell ⟨w.heap.size, 0, none⟩ (.int .u8 o)) 2 0 0 0 0 a).alloc (by simp) (.cells #[.int .u8 2, .int .u8 0, .int .u8 0, .int .u8 0, .int .u8 0, .int .u8 b] 33)
    rw [hsc] at h
    rw [hw6.out]
    exact h)
  have Y6 : Hid (Six w6 (w5.heap.size + 1) 0 [2, 0, 0, 0, 0, b]) := cover (by
    have h := six_boxed ((w5.setCell ⟨w.heap.size, 0, none⟩ (.int .u8 o)).alloc (.cells #[.int .u8 2, .int .u8 0, .int .u8 0, .int .u8 0, .int .u8 0, .int .u8 a] 33)) 2 0 0 0 0 b
    have e : ((w5.setCell ⟨w.heap.size, 0, none⟩ (.int .u8 o)).alloc (.cells #[.int .u8 2, .int .u8 0, .int .u8 0, .int .u8 0, .int .u8 0, .int .u8 a] 33)).heap.size = w5.heap.size + 1 := by simp [hsc]
    rw [e] at h
    rw [hw6.out]
    exact h)
  have Z6 : Hid (Six w6 w.heap.size 0 [o, g1, g2, g3, g4, g5]) := cover (by
    rw [hw6.out]
    exact ((six_heap (setCell0_six (x := o) G5.out)).alloc (by rw [hsc]; omega) _).alloc (by simp [hsc]; omega) _)
  have HK : Hid (∀ W', Below w6.heap.size w6 W' → (World.cell? W' ⟨w5.heap.size, 0, none⟩ = some (.int .u8 2) ∧ World.cell? W' ⟨w5.heap.size, 1, none⟩ = some (.int .u8 0) ∧ World.cell? W' ⟨w5.heap.size, 2, none⟩ = some (.int .u8 0) ∧ World.cell? W' ⟨w5.heap.size, 3, none⟩ = some (.int .u8 0) ∧ World.cell? W' ⟨w5.heap.size, 4, none⟩ = some (.int .u8 0) ∧ World.cell? W' ⟨w5.heap.size, 5, none⟩ = some (.int .u8 a)) ∧ (World.cell? W' ⟨(w5.heap.size + 1), 0, none⟩ = some (.int .u8 2) ∧ World.cell? W' ⟨(w5.heap.size + 1), 1, none⟩ = some (.int .u8 0) ∧ World.cell? W' ⟨(w5.heap.size + 1), 2, none⟩ = some (.int .u8 0) ∧ World.cell? W' ⟨(w5.heap.size + 1), 3, none⟩ = some (.int .u8 0) ∧ World.cell? W' ⟨(w5.heap.size + 1), 4, none⟩ = some (.int .u8 0) ∧ World.cell? W' ⟨(w5.heap.size + 1), 5, none⟩ = some (.int .u8 b)) ∧ (World.cell? W' ⟨w.heap.size, 0, none⟩ = some (.int .u8 o) ∧ World.cell? W' ⟨w.heap.size, 1, none⟩ = some (.int .u8 g1) ∧ World.cell? W' ⟨w.heap.size, 2, none⟩ = some (.int .u8 g2) ∧ World.cell? W' ⟨w.heap.size, 3, none⟩ = some (.int .u8 g3) ∧ World.cell? W' ⟨w.heap.size, 4, none⟩ = some (.int .u8 g4) ∧ World.cell? W' ⟨w.heap.size, 5, none⟩ = some (.int .u8 g5)) ∧ Below w6.heap.size w6 W') := cover (fun W' hb =>
    ⟨(X6.out.below hb (by omega)).all, (Y6.out.below hb (by omega)).all, (Z6.out.below hb (by omega)).all, hb⟩)
  have HA := cover (from_below all_any w6)
  have ht1 := from_below (fun W => takes_any 2 0 0 0 0 a none 0 0 0 [] 2 0 0 0 0 b W AdrsB.none_ (by omega) (by omega)) w6
  rw [hq.out] at ht1
  have HT1 := cover ht1
  have ht2 := from_below (fun W => takes_any 2 0 0 0 0 a none 0 0 0 [] 255 255 255 255 255 255 W AdrsB.none_ (by omega) (by omega)) w6
  rw [show takesB [2, 0, 0, 0, 0, a] [] [255, 255, 255, 255, 255, 255] 255 = true by unfold takesB; rw [sameL_refl [255, 255, 255, 255, 255, 255]]; simp] at ht2
  have HT2 := cover ht2
  have HT3 := cover (fun (W' : World) (hb : Below w6.heap.size w6 W') => (takes_any 2 0 0 0 0 a (some ⟨W'.heap.size, 0, none⟩) 1 1 (W'.heap.size + 1) [[o, g1, g2, g3, g4, g5]] o g1 g2 g3 g4 g5 (W'.alloc (.cells #[.int .u8 o, .int .u8 g1, .int .u8 g2, .int .u8 g3, .int .u8 g4, .int .u8 g5] 33)) (AdrsB.one W' o g1 g2 g3 g4 g5 _) (by simp) (by decide)).mono
    (fun e w'' (h : e = .returned (.bool (takesB [2, 0, 0, 0, 0, a] [[o, g1, g2, g3, g4, g5]] [o, g1, g2, g3, g4, g5] o)) ∧ Below _ _ w'') => (⟨by rw [h.1, show takesB [2, 0, 0, 0, 0, a] [[o, g1, g2, g3, g4, g5]] [o, g1, g2, g3, g4, g5] o = true by unfold takesB hasB; rw [ho1.out]; simp [sameL_refl]], (hb.alloc hb.size _).trans (h.2.mono (by have := hb.size; simp; omega))⟩ : e = .returned (.bool true) ∧ Below w6.heap.size w6 w'')))
  have ht4 := from_below (fun W => takes_any 2 0 0 0 0 a none 0 0 0 [] o g1 g2 g3 g4 g5 W AdrsB.none_ (by omega) (by omega)) w6
  rw [hp2.out] at ht4
  have HT4 := cover ht4
  have hg1 := from_below (group_any 2 0 0 0 0 a) w6
  rw [grp_two] at hg1
  have HG1 := cover hg1
  have hg2 := from_below (group_any o g1 g2 g3 g4 g5) w6
  rw [ho1.out] at hg2
  have HG2 := cover hg2
  have hn := from_below (number_any 2 0 0 0 0 a a0 (by omega)) w6
  rw [show num6 [2, 0, 0, 0, 0, a] a = a by unfold num6; rw [sameL_refl, if_pos rfl]] at hn
  have HN := cover hn
  have hwa : IntKind.i64.wrap a = a := by rw [IntKind.wrap_i64]; omega
  clear k1 k2 ht1 ht2 ht4 hg1 hg2 hn hsc
  go_region_held3 (fun W' => (World.cell? W' ⟨w5.heap.size, 0, none⟩ = some (.int .u8 2) ∧ World.cell? W' ⟨w5.heap.size, 1, none⟩ = some (.int .u8 0) ∧ World.cell? W' ⟨w5.heap.size, 2, none⟩ = some (.int .u8 0) ∧ World.cell? W' ⟨w5.heap.size, 3, none⟩ = some (.int .u8 0) ∧ World.cell? W' ⟨w5.heap.size, 4, none⟩ = some (.int .u8 0) ∧ World.cell? W' ⟨w5.heap.size, 5, none⟩ = some (.int .u8 a)) ∧ (World.cell? W' ⟨(w5.heap.size + 1), 0, none⟩ = some (.int .u8 2) ∧ World.cell? W' ⟨(w5.heap.size + 1), 1, none⟩ = some (.int .u8 0) ∧ World.cell? W' ⟨(w5.heap.size + 1), 2, none⟩ = some (.int .u8 0) ∧ World.cell? W' ⟨(w5.heap.size + 1), 3, none⟩ = some (.int .u8 0) ∧ World.cell? W' ⟨(w5.heap.size + 1), 4, none⟩ = some (.int .u8 0) ∧ World.cell? W' ⟨(w5.heap.size + 1), 5, none⟩ = some (.int .u8 b)) ∧ (World.cell? W' ⟨w.heap.size, 0, none⟩ = some (.int .u8 o) ∧ World.cell? W' ⟨w.heap.size, 1, none⟩ = some (.int .u8 g1) ∧ World.cell? W' ⟨w.heap.size, 2, none⟩ = some (.int .u8 g2) ∧ World.cell? W' ⟨w.heap.size, 3, none⟩ = some (.int .u8 g3) ∧ World.cell? W' ⟨w.heap.size, 4, none⟩ = some (.int .u8 g4) ∧ World.cell? W' ⟨w.heap.size, 5, none⟩ = some (.int .u8 g5)) ∧ Below w6.heap.size w6 W')
    (first | exact HK.out _ hbX | exact HK.out _ (Below.refl _ _).drew | exact HK.out _ (hbX.alloc hbX.size _))
    (first
      | (go_at_call 25; (first | ((with_reducible refine (HT1.out _ ?_).mono ?_); (go_split_ands; assumption)) | ((with_reducible refine (HT2.out _ ?_).mono ?_); (go_split_ands; assumption)) | ((with_reducible refine (HT4.out _ ?_).mono ?_); (go_split_ands; assumption)) | (refine (HT3.out _ hbX).mono ?_)); rintro e w1 ⟨rfl, hbX⟩)
      | (go_at_call 15; refine (HA.out _ ?_).mono ?_; (go_split_ands; assumption); rintro e w1 ⟨rfl, hbX⟩)
      | (go_at_call 17; (first | (with_reducible refine (HG1.out _ ?_).mono ?_) | (with_reducible refine (HG2.out _ ?_).mono ?_)); (go_split_ands; assumption); rintro e w1 ⟨rfl, hbX⟩)
      | (go_at_call 19; refine (HN.out _ ?_).mono ?_; (go_split_ands; assumption); rintro e w1 ⟨rfl, hbX⟩))
  go_wp2
  go_ret
  exact ⟨rfl, H6.out.trans (hbX.mono H6.out.size)⟩
end Go.Proofs.Ytbpmhfekjihhhaa
