/- What PutClass hands back, the program's and the document's. -/
import Derived.Deep.CutBlock
import Derived.Deep.DeepCutAuto
import Derived.Deep.RegionHeld3
import Derived.Test.YtgpmimohoepeiaaOMore
import Derived.Test.YtgpmimohoepeiaaGFold
namespace Go.Proofs.Ytgpmimohoepeiaa
open Go.RowKit
set_option linter.unusedVariables false
set_option linter.unusedSimpArgs false

/-- a class handed over, boxed -/
theorem class_cells {w : World} {g : Nat} {v0 v1 v2 : Value} {T : TypeId} {fr : Nat × Nat} (h : w.heap[g]? = some (.cells #[v0, v1, v2] T fr)) : w.cell? ⟨g, 0, none⟩ = some v0 ∧ w.cell? ⟨g, 1, none⟩ = some v1 ∧ w.cell? ⟨g, 2, none⟩ = some v2 := by
  refine ⟨?_, ?_, ?_⟩
  all_goals (rw [cell_of_row w g _ _ _ _ h]; rfl)

set_option maxHeartbeats 1600000 in
theorem ref_putClass_any (c : CV) (w : World) :
    Calls Try.prog 38 #[.agg #[.int .i64 c.fm, .int .i64 c.ty, .int .i64 c.wd]] w (GivesE (putC c) w) := by
  obtain ⟨w1, hw1⟩ : ∃ w1, Hid (w1 = w.alloc (.cells #[.int .i64 c.fm, .int .i64 c.ty, .int .i64 c.wd] 87)) := ⟨_, cover rfl⟩
  have H1 : Hid (Below w.heap.size w w1) := cover (by rw [hw1.out]; exact (Below.refl _ _).alloc (Nat.le_refl _) _)
  have hgp : w1.heap[w.heap.size]? = some (.cells #[.int .i64 c.fm, .int .i64 c.ty, .int .i64 c.wd] 87 (0, 0)) := by rw [hw1.out]; exact heap_alloc_new _ _
  have hs1 := H1.out.size
  obtain ⟨c0, c1, c2⟩ := class_cells hgp
  clear hgp
  by_cases hok : OkC c
  · have HE : Hid (putC c = ([c.fm, c.ty, 2 * c.wd], 0)) := cover (by unfold putC; rw [if_pos hok]; rfl)
    obtain ⟨⟨a0, a1⟩, ⟨a2, a3⟩, ⟨a4, a5⟩⟩ := hok
    have v0 := w8 (x := c.fm) ⟨a0, a1⟩
    have v1 := w8 (x := c.ty) ⟨a2, by omega⟩
    have v2 := w64 (x := 2 * c.wd) ⟨by omega, by omega⟩
    have v3 := w8 (x := 2 * c.wd) ⟨by omega, by omega⟩
    have HM := cover (ownB_made w1 [c.fm, c.ty, 2 * c.wd] #[.int .u8 c.fm, .int .u8 c.ty, .int .u8 (2 * c.wd)] rfl (by simp))
    have HB := cover (H1.out.alloc H1.out.size (.cells #[.int .u8 c.fm, .int .u8 c.ty, .int .u8 (2 * c.wd)] 5))
    go_enter Try.func38, Try.ntmps38
    go_upto_region 1 with fail
    rw [← hw1.out]
    go_wp2
    go_ret2
    exact ⟨_, 3, by rw [HE.out]; rfl, by rw [HE.out]; exact HM.out.mono hs1, HB.out⟩
  · have HE : Hid (putC c = ([], 1)) := cover (by unfold putC; rw [if_neg hok])
    have hno : c.fm < 0 ∨ (0 ≤ c.fm ∧ 255 < c.fm) ∨ ((0 ≤ c.fm ∧ c.fm ≤ 255) ∧ c.ty < 0) ∨ ((0 ≤ c.fm ∧ c.fm ≤ 255) ∧ 0 ≤ c.ty ∧ 31 < c.ty) ∨ ((0 ≤ c.fm ∧ c.fm ≤ 255) ∧ (0 ≤ c.ty ∧ c.ty ≤ 31) ∧ c.wd < 0) ∨ ((0 ≤ c.fm ∧ c.fm ≤ 255) ∧ (0 ≤ c.ty ∧ c.ty ≤ 31) ∧ 0 ≤ c.wd ∧ 127 < c.wd) := by
      unfold OkC at hok; omega
    clear hok
    rcases hno with h | ⟨h, h'⟩ | ⟨⟨h, h'⟩, h3⟩ | ⟨⟨h, h'⟩, h3, h4⟩ | ⟨⟨h, h'⟩, ⟨h3, h4⟩, h5⟩ | ⟨⟨h, h'⟩, ⟨h3, h4⟩, h5, h6⟩
    all_goals
      go_enter Try.func38, Try.ntmps38
      go_upto_region 1 with fail
      rw [← hw1.out]
      go_wp2
      go_ret2
      exact GivesE.no HE.out H1.out

/-- fold, over one flag -/
theorem fold_one (x : Int) (g : Nat) (b : Bool) (W : World) (hx : 0 ≤ x ∧ x ≤ 127) (hc : W.cell? ⟨g, 0, none⟩ = some (.bool b)) : Calls Try.prog 54 #[.int .u8 x, .slice (some ⟨g, 0, none⟩) 1 1] W fun e w' => e = .returned (.int .u8 (2 * x + fl b)) ∧ w' = W := by
  have h := fold_any x ⟨g, 0, none⟩ [b] 1 W hx rfl (by decide) (fun k b' hb => by
    obtain rfl : k = 0 := by
      have := (List.getElem?_eq_some_iff.1 hb).1; simp at this; omega
    simp at hb; subst hb; exact hc)
  rw [foldF_one b hx.1 hx.2] at h
  exact h

set_option maxHeartbeats 1600000 in
theorem putClass_any (c : CV) (w : World) :
    Calls Try.prog 35 #[.agg #[.int .i64 c.fm, .int .i64 c.ty, .int .i64 c.wd]] w (GivesE (putC c) w) := by
  obtain ⟨w1, hw1⟩ : ∃ w1, Hid (w1 = w.alloc (.cells #[.int .i64 c.fm, .int .i64 c.ty, .int .i64 c.wd] 83)) := ⟨_, cover rfl⟩
  have H1 : Hid (Below w.heap.size w w1) := cover (by rw [hw1.out]; exact (Below.refl _ _).alloc (Nat.le_refl _) _)
  have hgp : w1.heap[w.heap.size]? = some (.cells #[.int .i64 c.fm, .int .i64 c.ty, .int .i64 c.wd] 83 (0, 0)) := by rw [hw1.out]; exact heap_alloc_new _ _
  have hs1 : w.heap.size < w1.heap.size := block_lt hgp
  obtain ⟨c0, c1, c2⟩ := class_cells hgp
  clear hgp
  by_cases d0 : 0 ≤ c.fm ∧ c.fm ≤ 255
  case neg =>
    have HE : Hid (putC c = ([], 1)) := cover (by unfold putC; rw [if_neg (fun h => d0 h.1)])
    have D0 := cover (decide_eq_false d0)
    clear d0
    go_enter Try.func35, Try.ntmps35
    go_upto_region 1 with fail
    rw [← hw1.out]
    go_wp2_with (go_at_call 53; refine (fits_any c.fm 255 w1).mono ?_; rw [D0.out]; rintro e w' ⟨rfl, rfl⟩)
    go_ret2
    exact GivesE.no HE.out H1.out
  have D0 := cover (decide_eq_true d0)
  by_cases d1 : 0 ≤ c.ty ∧ c.ty ≤ 31
  case neg =>
    have HE : Hid (putC c = ([], 1)) := cover (by unfold putC; rw [if_neg (fun h => d1 h.2.1)])
    have D1 := cover (decide_eq_false d1)
    clear d0 d1
    go_enter Try.func35, Try.ntmps35
    go_upto_region 1 with fail
    rw [← hw1.out]
    go_wp2_with (go_at_call 53; first | (refine (fits_any c.fm 255 w1).mono ?_; rw [D0.out]; rintro e w' ⟨rfl, rfl⟩) | (refine (fits_any c.ty 31 w').mono ?_; rw [D1.out]; rintro e w2 ⟨rfl, rfl⟩))
    go_ret2
    exact GivesE.no HE.out H1.out
  have D1 := cover (decide_eq_true d1)
  by_cases d2 : 0 ≤ c.wd ∧ c.wd ≤ 127
  case neg =>
    have HE : Hid (putC c = ([], 1)) := cover (by unfold putC; rw [if_neg (fun h => d2 h.2.2)])
    have D2 := cover (decide_eq_false d2)
    clear d0 d1 d2
    go_enter Try.func35, Try.ntmps35
    go_upto_region 1 with fail
    rw [← hw1.out]
    go_wp2_with (go_at_call 53; first | (refine (fits_any c.fm 255 w1).mono ?_; rw [D0.out]; rintro e w' ⟨rfl, rfl⟩) | (refine (fits_any c.ty 31 w').mono ?_; rw [D1.out]; rintro e w2 ⟨rfl, rfl⟩) | (refine (fits_any c.wd 127 w2).mono ?_; rw [D2.out]; rintro e w3 ⟨rfl, rfl⟩))
    go_ret2
    exact GivesE.no HE.out H1.out
  have D2 := cover (decide_eq_true d2)
  have HE : Hid (putC c = ([c.fm, c.ty, 2 * c.wd], 0)) := cover (by unfold putC; rw [if_pos ⟨d0, d1, d2⟩]; rfl)
  have v0 := w8 (x := c.fm) d0
  have v1 := w8 (x := c.ty) ⟨d1.1, by omega⟩
  have v2 := w8 (x := c.wd) ⟨d2.1, by omega⟩
  have HF : Hid (∀ W g, W.cell? ⟨g, 0, none⟩ = some (.bool false) → Below w1.heap.size w1 W → Calls Try.prog 54 #[.int .u8 c.wd, .slice (some ⟨g, 0, none⟩) 1 1] W fun e w' => e = .returned (.int .u8 (2 * c.wd)) ∧ Below w1.heap.size w1 w') :=
    cover (fun W g hc hb => (fold_one c.wd g false W ⟨d2.1, by omega⟩ hc).mono fun e w' h => ⟨by rw [h.1]; simp [fl], by rw [h.2]; exact hb⟩)
  clear d0 d1 d2
  go_enter Try.func35, Try.ntmps35
  go_upto_region 1 with fail
  rw [← hw1.out]
  go_wp2_with (go_at_call 53; first | (refine (fits_any c.fm 255 w1).mono ?_; rw [D0.out]; rintro e w' ⟨rfl, rfl⟩) | (refine (fits_any c.ty 31 w').mono ?_; rw [D1.out]; rintro e w2 ⟨rfl, rfl⟩) | (refine (fits_any c.wd 127 w2).mono ?_; rw [D2.out]; rintro e w3 ⟨rfl, rfl⟩))
  go_region_held3 (fun W' => W'.cell? ⟨w.heap.size, 0, none⟩ = some (.int .i64 c.fm) ∧ W'.cell? ⟨w.heap.size, 1, none⟩ = some (.int .i64 c.ty) ∧ W'.cell? ⟨w.heap.size, 2, none⟩ = some (.int .i64 c.wd) ∧ Below w3.heap.size w3 W')
    (first
      | exact ⟨c0, c1, c2, (Below.refl _ _).drew⟩
      | (have hbY := (Below.refl w3.heap.size w3).drew.alloc (Nat.le_refl _) (.cells #[.bool false] 4); exact ⟨(hbY.cell (p := ⟨w.heap.size, 0, none⟩) hs1).trans c0, (hbY.cell (p := ⟨w.heap.size, 1, none⟩) hs1).trans c1, (hbY.cell (p := ⟨w.heap.size, 2, none⟩) hs1).trans c2, hbY⟩)
      | exact ⟨(hbX.cell (p := ⟨w.heap.size, 0, none⟩) hs1).trans c0, (hbX.cell (p := ⟨w.heap.size, 1, none⟩) hs1).trans c1, (hbX.cell (p := ⟨w.heap.size, 2, none⟩) hs1).trans c2, hbX⟩
      | (have hbY := hbX.alloc hbX.size (.cells #[.int .u8 c.fm, .int .u8 c.ty, .int .u8 (2 * c.wd)] 5); exact ⟨(hbY.cell (p := ⟨w.heap.size, 0, none⟩) hs1).trans c0, (hbY.cell (p := ⟨w.heap.size, 1, none⟩) hs1).trans c1, (hbY.cell (p := ⟨w.heap.size, 2, none⟩) hs1).trans c2, hbY⟩))
    ((go_at_call 54; refine (HF.out _ _ ?_ ?_).mono ?_; (show (w3.alloc _).cell? _ = _; rw [cell_of_row _ _ 0 _ _ (0, 0) (heap_alloc_new _ _)]; rfl); exact ((Below.refl _ _).alloc (Nat.le_refl _) _).drew; rintro e w4 ⟨rfl, hbX⟩))
  have HM := cover (ownB_made w4 [c.fm, c.ty, 2 * c.wd] #[.int .u8 c.fm, .int .u8 c.ty, .int .u8 (2 * c.wd)] rfl (by simp))
  have HB := cover (H1.out.trans ((hbX.alloc hbX.size (.cells #[.int .u8 c.fm, .int .u8 c.ty, .int .u8 (2 * c.wd)] 5)).mono (by omega)))
  have hs4 := hbX.size
  go_wp2
  go_ret2
  exact ⟨_, 3, by rw [HE.out]; rfl, by rw [HE.out]; exact HM.out.mono (by omega), HB.out⟩
end Go.Proofs.Ytgpmimohoepeiaa
