/- The walk of SapsKnown. -/
import Derived.Test.YtnegbiofnjdfaaaSHas
namespace Go.Proofs.Ytnegbiofnjdfaaa
open Go.RowKit
set_option linter.unusedVariables false

theorem ints_out {w0 w : World} {A : Option Addr} {cp : Nat} {l : List Int} (ho : w.ownsRow w0.heap.size 3 1 (.slice A l.length cp) l.length (l.map (Value.int .i64))) (hl : l.length ≤ 1000) (c : Nat) :
    Calls Try.prog 13 #[.slice A l.length cp, .slice (some ⟨w.heap.size, 0, none⟩) l.length c] (w.alloc (.cells (l.map (Value.int .i64)).toArray 3)) fun e w' => e = .returned (.bool true) ∧ ∃ d, w' = (w.alloc (.cells (l.map (Value.int .i64)).toArray 3)).drewN d := by
  refine ints_same _ rfl (by omega) ?_ ?_
  · intro j x hj
    obtain ⟨g, hg, hc⟩ := Nums.of_own ho j x hj
    exact ⟨g, hg, cell_alloc_lt _ hc⟩
  · intro j x hj
    refine ⟨w.heap.size, rfl, ?_⟩
    rw [cell_of_row _ _ _ _ _ _ (heap_alloc_new _ _)]
    simp [hj]
set_option maxRecDepth 100000 in
set_option maxHeartbeats 1600000 in
theorem walk_SapsKnown (w : World) : Calls Try.prog 3 #[] w fun e w' => e = .returned (.bool true) ∧ Below w.heap.size w w' := by
  obtain ⟨B, hB⟩ : ∃ B, B = w.heap.size := ⟨_, rfl⟩
  rw [← hB]
  have hBw : B ≤ w.heap.size := by omega
  clear hB
  go_enter Try.func3, Try.ntmps3
  go_wp2_with fail
  refine (awake_any w).mono ?_
  rintro e w0 ⟨rfl, hb0⟩
  have HB0 : Hid (Below B w w0) := cover (hb0.mono hBw)
  have hs0 : B ≤ w0.heap.size := Nat.le_trans hBw hb0.size
  clear hb0
  go_wp2_with fail
  refine (new_has hs0).mono ?_
  rintro e w1 ⟨s, rfl, H1⟩
  have B1 := cover (HB0.out.trans H1.out.2)
  have s1 := open_has H1.out.1 (n := 4) k64 2
  have e1 : openE [] 4 2 = 0 := by decide
  have e2 : openS [] 4 2 = [⟨4, 2, []⟩] := by unfold openS; rw [if_pos e1]; rfl
  rw [e1, e2] at s1
  clear e1 e2 HB0
  go_wp2_with fail
  refine s1.mono ?_
  rintro e w2 ⟨rfl, H2⟩
  have B2 := cover (B1.out.trans H2.out.2)
  clear s1 H1 B1
  have s1 := open_has H2.out.1 (n := 8) k64 1
  have e1 : openE [⟨4, 2, []⟩] 8 1 = 0 := by decide
  have e2 : openS [⟨4, 2, []⟩] 8 1 = [⟨4, 2, []⟩, ⟨8, 1, []⟩] := by unfold openS; rw [if_pos e1]; rfl
  rw [e1, e2] at s1
  clear e1 e2
  go_wp2_with fail
  refine s1.mono ?_
  rintro e w3 ⟨rfl, H3⟩
  have B3 := cover (B2.out.trans H3.out.2)
  clear s1 H2 B2
  have s1 := join_has H3.out.1 (n := 8) k64 5
  have e1 : joinE [⟨4, 2, []⟩, ⟨8, 1, []⟩] 8 5 = 0 := by decide
  have e2 : joinS [⟨4, 2, []⟩, ⟨8, 1, []⟩] 8 5 = [⟨4, 2, []⟩, ⟨8, 1, [5]⟩] := by unfold joinS; rw [if_pos e1]; rfl
  rw [e1, e2] at s1
  clear e1 e2
  go_wp2_with fail
  refine s1.mono ?_
  rintro e w4 ⟨rfl, H4⟩
  have B4 := cover (B3.out.trans H4.out.2)
  clear s1 H3 B3
  have s1 := open_has H4.out.1 (n := 4) k64 1
  have e1 : openE [⟨4, 2, []⟩, ⟨8, 1, [5]⟩] 4 1 = 8 := by decide
  have e2 : openS [⟨4, 2, []⟩, ⟨8, 1, [5]⟩] 4 1 = [⟨4, 2, []⟩, ⟨8, 1, [5]⟩] := by unfold openS; rw [if_neg (by rw [e1]; decide)]
  rw [e1, e2] at s1
  clear e1 e2
  go_wp2_with fail
  refine s1.mono ?_
  rintro e w5 ⟨rfl, H5⟩
  have B5 := cover (B4.out.trans H5.out.2)
  clear s1 H4 B4
  have s1 := open_has H5.out.1 (n := 5) k64 1
  have e1 : openE [⟨4, 2, []⟩, ⟨8, 1, [5]⟩] 5 1 = 1 := by decide
  have e2 : openS [⟨4, 2, []⟩, ⟨8, 1, [5]⟩] 5 1 = [⟨4, 2, []⟩, ⟨8, 1, [5]⟩] := by unfold openS; rw [if_neg (by rw [e1]; decide)]
  rw [e1, e2] at s1
  clear e1 e2
  go_wp2_with fail
  refine s1.mono ?_
  rintro e w6 ⟨rfl, H6⟩
  have B6 := cover (B5.out.trans H6.out.2)
  clear s1 H5 B5
  have s1 := join_has H6.out.1 (n := 6) k64 5
  have e1 : joinE [⟨4, 2, []⟩, ⟨8, 1, [5]⟩] 6 5 = 7 := by decide
  have e2 : joinS [⟨4, 2, []⟩, ⟨8, 1, [5]⟩] 6 5 = [⟨4, 2, []⟩, ⟨8, 1, [5]⟩] := by unfold joinS; rw [if_neg (by rw [e1]; decide)]
  rw [e1, e2] at s1
  clear e1 e2
  go_wp2_with fail
  refine s1.mono ?_
  rintro e w7 ⟨rfl, H7⟩
  have B7 := cover (B6.out.trans H7.out.2)
  clear s1 H6 B6
  -- what is heard
  have s1 := hears_has H7.out.1 (n := 5) k64
  have e1 : hearS [⟨4, 2, []⟩, ⟨8, 1, [5]⟩] 5 = [8] := by decide +kernel
  rw [e1] at s1
  clear e1
  go_wp2_with fail
  refine s1.mono ?_
  rintro e w8 ⟨A8, c8, rfl, h8⟩
  have H8 := cover (H7.out.1.below h8.out.2)
  have B8 := cover (B7.out.trans (h8.out.2.mono H7.out.1.size))
  have i8 := ints_out h8.out.1 (by decide) 1
  clear s1 H7 B7 h8
  go_wp2_with fail
  refine i8.mono ?_
  rintro e w9 ⟨rfl, d9, hd9⟩
  have hb9 : Below w8.heap.size w8 w9 := by rw [hd9]; exact below_drewN ((Below.refl _ _).alloc (Nat.le_refl _) _) _
  have H9 := cover (H8.out.below hb9)
  have B9 := cover (B8.out.trans (hb9.mono H8.out.size))
  clear i8 hd9 hb9 H8 B8
  have s1 := hears_has H9.out (n := 255) k64
  have e1 : hearS [⟨4, 2, []⟩, ⟨8, 1, [5]⟩] 255 = [4, 8] := by decide +kernel
  rw [e1] at s1
  clear e1
  go_wp2_with fail
  refine s1.mono ?_
  rintro e w10 ⟨A8, c8, rfl, h8⟩
  have H10 := cover (H9.out.below h8.out.2)
  have B10 := cover (B9.out.trans (h8.out.2.mono H9.out.size))
  have i8 := ints_out h8.out.1 (by decide) 2
  clear s1 H9 B9 h8
  go_wp2_with fail
  refine i8.mono ?_
  rintro e w11 ⟨rfl, d9, hd9⟩
  have hb9 : Below w10.heap.size w10 w11 := by rw [hd9]; exact below_drewN ((Below.refl _ _).alloc (Nat.le_refl _) _) _
  have H11 := cover (H10.out.below hb9)
  have B11 := cover (B10.out.trans (hb9.mono H10.out.size))
  clear i8 hd9 hb9 H10 B10
  have s1 := hears_has H11.out (n := 6) k64
  have e1 : hearS [⟨4, 2, []⟩, ⟨8, 1, [5]⟩] 6 = [] := by decide +kernel
  rw [e1] at s1
  clear e1
  go_wp2_with fail
  refine s1.mono ?_
  rintro e w12 ⟨A8, c8, rfl, h8⟩
  have H12 := cover (H11.out.below h8.out.2)
  have B12 := cover (B11.out.trans (h8.out.2.mono H11.out.size))
  clear s1 H11 B11 h8
  have s1 := hears_has H12.out (n := 0) k64
  have e1 : hearS [⟨4, 2, []⟩, ⟨8, 1, [5]⟩] 0 = [] := by decide +kernel
  rw [e1] at s1
  clear e1
  go_wp2_with fail
  refine s1.mono ?_
  rintro e w13 ⟨A8, c8, rfl, h8⟩
  have B13 := cover (B12.out.trans (h8.out.2.mono H12.out.size))
  clear s1 H12 B12 h8
  go_wp2
  go_ret
  exact ⟨rfl, B13.out⟩
end Go.Proofs.Ytnegbiofnjdfaaa
