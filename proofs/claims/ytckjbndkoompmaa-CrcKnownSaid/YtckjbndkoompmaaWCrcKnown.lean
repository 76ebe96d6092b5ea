/- The walk of CrcKnown. -/
import Derived.Test.YtckjbndkoompmaaCAwake
import Derived.Test.YtckjbndkoompmaaOFrame
import Derived.Test.YtckjbndkoompmaaOSame
import Derived.Deep.RegionHeld3
namespace Go.Proofs.Ytckjbndkoompmaa
open Go.RowKit
set_option linter.unusedVariables false
attribute [local go_sem ↓] ldTab_fold
attribute [local go_sem] ldTab_at

theorem no_three : okOpen [1, 2, 3] = false := by decide
theorem no_five : okOpen [0, 0, 0, 0, 1] = false := by decide +kernel
theorem same_five (A A' : Option Addr) (c c' B B' : Nat) (w : World) (h1 : Row w B A 1 [5]) (h2 : Row w B' A' 1 [5]) :
    Calls Try.prog 16 #[.slice A 1 c, .slice A' 1 c'] w fun e w' => e = .returned (.bool true) ∧ ∃ d, w' = w.drewN d :=
  (same_any A A' 1 c c' B B' [5] [5] w h1 h2 (by decide)).mono fun _ _ h => h

set_option maxRecDepth 100000 in
set_option maxHeartbeats 1600000 in
theorem walk_CrcKnown (w : World) : Calls Try.prog 3 #[] w fun e w' => e = .returned (.bool true) ∧ Below w.heap.size w w' := by
  have kc := fun (w : World) (C : Array Value) (n c : Nat) => Lib.run_convert_bytes_const (P := Try.prog) w 28 5 C n c Try.underlying28 Try.underlying5
  go_enter Try.func3, Try.ntmps3
  go_wp2_with fail
  refine (awake_any w).mono ?_
  rintro e w0 ⟨rfl, hb0⟩
  go_wp2_with fail
  refine (make_any _).mono ?_
  rintro e w1 ⟨T, rfl, hT, hb1⟩
  have hs0 := hb0.size
  have hbel1 := hb0.trans (hb1.mono hs0)
  have hs1 := hbel1.size
  clear hb0 hb1 hs0
  go_wp2_with (first
    | (refine new_var rfl _ rfl _ _ (alloc_tab _) ?_)
    | (refine store_tab (w0 := w) rfl _ _ rfl w1.heap.size w.heap.size T tabRow rfl rfl hT (heap_alloc_new _ _) (hbel1.alloc hs1 _) hs1 ?_; intro w2 ht2 hb2; clear hbel1; have hts2 := ht2.of; have hT256 := hT.size))
  obtain ⟨g, hg⟩ : ∃ g, g = w1.heap.size := ⟨_, rfl⟩
  rw [← hg] at ht2 hs1 hts2 ⊢
  clear hg
  have hs2 := hb2.size
  refine (open_refused T _ 3 3 (w2.heap.size + 1) [1, 2, 3] _ no_three hT (RowK.made w2 [1, 2, 3] #[.int .u8 1, .int .u8 2, .int .u8 3] 5 rfl) (by simp) (by unfold Bts; decide) (by decide) (by decide) (by decide)).mono ?_
  rintro e w3 ⟨⟨A3, c3, rfl⟩, hb3⟩
  have ht3 := (ht2.alloc _).below hb3 (by have := ht2.lt; simp; omega)
  have hbel3 := (hb2.alloc hs2 _).trans (hb3.mono (by simp; omega))
  have hs3 := hbel3.size
  have hts3 := ht3.of
  clear hb3 ht2 hb2 hts2
  go_wp2_with fail
  refine (open_refused T _ 5 5 (w3.heap.size + 1) [0, 0, 0, 0, 1] _ no_five hT (RowK.made w3 [0, 0, 0, 0, 1] #[.int .u8 0, .int .u8 0, .int .u8 0, .int .u8 0, .int .u8 1] 5 rfl) (by simp) (by unfold Bts; decide) (by decide) (by decide) (by decide)).mono ?_
  rintro e w4 ⟨⟨A4, c4, rfl⟩, hb4⟩
  have ht4 := (ht3.alloc _).below hb4 (by have := ht3.lt; simp; omega)
  have hbel4 := (hbel3.alloc hs3 _).trans (hb4.mono (by simp; omega))
  have hs4 := hbel4.size
  have hts4 := ht4.of
  have hgl := ht4.lt
  clear hb4 ht3 hbel3 hts3
  have H4 := cover (And.intro ht4 hbel4)
  clear ht4 hbel4
  go_wp2_with fail
  go_region_held3 (fun w' => tabOf w' g = T) (first | exact hts4 | exact (tabOf_alloc hgl _).trans hts4 | exact hts5 | exact hts6)
    (first
      | (go_at_call 13; refine (seal_made T _ 1 1 (w4.heap.size + 1) [5] (w4.alloc (.cells #[.int .u8 5] 5)).drew hT ((RowK.made w4 [5] #[.int .u8 5] 5 rfl).keep fun _ _ => rfl) (by simp [World.drew]) (by unfold Bts; decide) (by decide) (fun h => by cases h) (by decide)).mono ?_; rintro e w5 ⟨A5, c5, rfl, ho5, hbX⟩; have hb5 : Below w4.heap.size w4 w5 := (((Below.refl _ _).alloc (Nat.le_refl _) _).drew).trans (hbX.mono (by simp [World.drew])); have hts5 := (tabOf_below hb5 hgl).trans hts4; have hs5 := hb5.size; clear hbX)
      | (go_at_call 12; refine (open_sealed T A5 _ c5 _ [5] w5 hT ho5.row (Nat.le_refl _) (by unfold Bts; decide) (own_cap ho5) (by decide +kernel) (own_max ho5)).mono ?_; rintro e w6 ⟨A6, c6, rfl, ho6, hbY⟩; have hb6 : Below w4.heap.size w4 w6 := hb5.trans (hbY.mono hs5); have hts6 := (tabOf_below hb6 hgl).trans hts4; clear hbY))
  have hrow6 := cover ho6.row
  have hs6 := hb6.size
  have H6 := cover (And.intro (H4.out.1.below hb6 hgl) (H4.out.2.trans (hb6.mono hs4)))
  clear ho6 hb6 ho5 hb5 hts5 hts4
  go_wp2_with fail
  refine (slow_any _ 9 9 (w6.heap.size + 1) nine _ (RowK.madeF w6 nine #[.int .u8 49, .int .u8 50, .int .u8 51, .int .u8 52, .int .u8 53, .int .u8 54, .int .u8 55, .int .u8 56, .int .u8 57] 5 (9, 10) rfl) nine_bts (by decide)).mono ?_
  rintro e w7 ⟨he, hw7⟩
  rw [nine_sum] at he
  subst he
  have hb7 : Below w6.heap.size w6 w7 := by rw [← hw7]; exact (Below.refl _ _).alloc (Nat.le_refl _) _
  have ht7 := H6.out.1.below hb7 H6.out.1.lt
  have hbel7 := H6.out.2.trans (hb7.mono H6.out.2.size)
  have hts7 := ht7.of
  have hrow7 := cover ((hrow6.out.below hb7).more hb7.size)
  have hs7 := hbel7.size
  clear hw7 hb7 hts6
  go_wp2_with fail
  refine (sum_made T none 0 0 0 [] w7 hT RowK.none_ (by omega) Bts.nil (by decide)).mono ?_
  rintro e w8 ⟨he, hb8⟩
  rw [show rg (summ []) = 0 by decide] at he
  subst he
  have hrow8 := cover (hrow7.out.below hb8)
  have hbel8 := hbel7.trans (hb8.mono hs7)
  have hs8 := hbel8.size
  have hs78 := hb8.size
  clear hb8 hts7
  go_wp2_with fail
  refine (same_five A6 _ c6 1 _ _ _ ((hrow8.out.more hs78).alloc (Nat.le_refl _) _) (RowK.made w8 [5] #[.int .u8 5] 5 rfl)).mono ?_
  rintro e w9 ⟨rfl, d, rfl⟩
  go_wp2
  go_ret
  exact ⟨rfl, below_drewN (hbel8.alloc hs8 _) _⟩
end Go.Proofs.Ytckjbndkoompmaa
