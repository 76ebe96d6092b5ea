/- What All, Group, Station and Number answer, the program's and the document's. -/
import Derived.Test.YtjidhpmjdhjciaaMSix
import Derived.Deep.RegionHeld3
namespace Go.Proofs.Ytjidhpmjdhjciaa
open Go.RowKit
attribute [local go_sem] run_eq6

/-- is it a group's first byte? -/
def grp (x : Int) : Bool := bits BinOp.and IntKind.u8 x 1 == 1
/-- the number of an address, as a value -/
def num6 (L : List Int) (n : Int) : Int := if sameL L [2, 0, 0, 0, 0, n] = true then n else -1
abbrev vAll : Value := .agg #[.int .u8 255, .int .u8 255, .int .u8 255, .int .u8 255, .int .u8 255, .int .u8 255]
abbrev vSta (n : Int) : Value := .agg #[.int .u8 2, .int .u8 0, .int .u8 0, .int .u8 0, .int .u8 0, .int .u8 n]
abbrev vNone : Value := .agg #[.int .u8 0, .int .u8 0, .int .u8 0, .int .u8 0, .int .u8 0, .int .u8 0]
theorem station_in (n : Int) (h : 0 ≤ n) (h' : n < 256) (w : World) :
    Calls Try.prog 66 #[.int .i64 n] w fun e w' => e = .returned (.agg #[.int .u8 2, .int .u8 0, .int .u8 0, .int .u8 0, .int .u8 0, .int .u8 n]) ∧ Below w.heap.size w w' := by
  go_enter Try.func66, Try.ntmps66
  go_wp2
  exact bodyPost_ret (v := vSta n) (by simp [results, Try.results66, go_sem]) rfl ⟨rfl, (Below.refl _ _).alloc (Nat.le_refl _) _⟩
theorem ref_station_in (n : Int) (h : 0 ≤ n) (h' : n < 256) (w : World) :
    Calls Try.prog 56 #[.int .i64 n] w fun e w' => e = .returned (.agg #[.int .u8 2, .int .u8 0, .int .u8 0, .int .u8 0, .int .u8 0, .int .u8 n]) ∧ Below w.heap.size w w' := by
  go_enter Try.func56, Try.ntmps56
  go_wp2
  exact bodyPost_ret (v := vSta n) (by simp [results, Try.results56, go_sem]) rfl ⟨rfl, (Below.refl _ _).alloc (Nat.le_refl _) _⟩
theorem station_out (n : Int) (h : ¬ (0 ≤ n ∧ n < 256)) (w : World) :
    Calls Try.prog 66 #[.int .i64 n] w fun e w' => e = .returned (.agg #[.int .u8 0, .int .u8 0, .int .u8 0, .int .u8 0, .int .u8 0, .int .u8 0]) ∧ Below w.heap.size w w' := by
  by_cases h0 : n < 0
  · go_enter Try.func66, Try.ntmps66
    go_wp2
    exact bodyPost_ret (v := vNone) (by simp [results, Try.results66, go_sem]) rfl ⟨rfl, (Below.refl _ _).alloc (Nat.le_refl _) _⟩
  · have h1 : 256 ≤ n := by omega
    go_enter Try.func66, Try.ntmps66
    go_wp2
    exact bodyPost_ret (v := vNone) (by simp [results, Try.results66, go_sem]) rfl ⟨rfl, (Below.refl _ _).alloc (Nat.le_refl _) _⟩
theorem ref_station_out (n : Int) (h : ¬ (0 ≤ n ∧ n < 256)) (w : World) :
    Calls Try.prog 56 #[.int .i64 n] w fun e w' => e = .returned (.agg #[.int .u8 0, .int .u8 0, .int .u8 0, .int .u8 0, .int .u8 0, .int .u8 0]) ∧ Below w.heap.size w w' := by
  by_cases h0 : n < 0
  · go_enter Try.func56, Try.ntmps56
    go_wp2
    exact bodyPost_ret (v := vNone) (by simp [results, Try.results56, go_sem]) rfl ⟨rfl, (Below.refl _ _).alloc (Nat.le_refl _) _⟩
  · have h1 : 255 < n := by omega
    go_enter Try.func56, Try.ntmps56
    go_wp2
    exact bodyPost_ret (v := vNone) (by simp [results, Try.results56, go_sem]) rfl ⟨rfl, (Below.refl _ _).alloc (Nat.le_refl _) _⟩

theorem six_boxed (w : World) (a0 a1 a2 a3 a4 a5 : Int) : Six (w.alloc (.cells #[.int .u8 a0, .int .u8 a1, .int .u8 a2, .int .u8 a3, .int .u8 a4, .int .u8 a5] 58)) w.heap.size 0 [a0, a1, a2, a3, a4, a5] := Six.made w a0 a1 a2 a3 a4 a5 _
theorem boxed_after {w w1 : World} {a0 a1 a2 a3 a4 a5 : Int} (hb : Below (w.alloc (.cells #[.int .u8 a0, .int .u8 a1, .int .u8 a2, .int .u8 a3, .int .u8 a4, .int .u8 a5] 58)).drew.heap.size (w.alloc (.cells #[.int .u8 a0, .int .u8 a1, .int .u8 a2, .int .u8 a3, .int .u8 a4, .int .u8 a5] 58)).drew w1) : (World.cell? w1 ⟨w.heap.size, 0, none⟩ = some (.int .u8 a0) ∧ World.cell? w1 ⟨w.heap.size, 1, none⟩ = some (.int .u8 a1) ∧ World.cell? w1 ⟨w.heap.size, 2, none⟩ = some (.int .u8 a2) ∧ World.cell? w1 ⟨w.heap.size, 3, none⟩ = some (.int .u8 a3) ∧ World.cell? w1 ⟨w.heap.size, 4, none⟩ = some (.int .u8 a4) ∧ World.cell? w1 ⟨w.heap.size, 5, none⟩ = some (.int .u8 a5)) ∧ Below w.heap.size w w1 := by
  have h1 : Six (w.alloc (.cells #[.int .u8 a0, .int .u8 a1, .int .u8 a2, .int .u8 a3, .int .u8 a4, .int .u8 a5] 58)).drew w.heap.size 0 [a0, a1, a2, a3, a4, a5] := six_boxed w a0 a1 a2 a3 a4 a5
  exact ⟨(h1.below hb (by simp [World.drew])).all, (((Below.refl w.heap.size w).alloc (Nat.le_refl _) (.cells #[.int .u8 a0, .int .u8 a1, .int .u8 a2, .int .u8 a3, .int .u8 a4, .int .u8 a5] 58)).drew).trans (hb.mono (by simp [World.drew]))⟩
theorem number_any (a0 a1 a2 a3 a4 a5 : Int) (h : 0 ≤ a5) (h' : a5 < 256) (w : World) :
    Calls Try.prog 54 #[.agg #[.int .u8 a0, .int .u8 a1, .int .u8 a2, .int .u8 a3, .int .u8 a4, .int .u8 a5]] w fun e w' => e = .returned (.int .i64 (num6 [a0, a1, a2, a3, a4, a5] a5)) ∧ Below w.heap.size w w' := by
  rcases hq : sameL [a0, a1, a2, a3, a4, a5] [2, 0, 0, 0, 0, a5] with _ | _
  all_goals
    go_enter Try.func54, Try.ntmps54
    go_wp2_with fail
    go_region_held3 (fun w' => (World.cell? w' ⟨w.heap.size, 0, none⟩ = some (.int .u8 a0) ∧ World.cell? w' ⟨w.heap.size, 1, none⟩ = some (.int .u8 a1) ∧ World.cell? w' ⟨w.heap.size, 2, none⟩ = some (.int .u8 a2) ∧ World.cell? w' ⟨w.heap.size, 3, none⟩ = some (.int .u8 a3) ∧ World.cell? w' ⟨w.heap.size, 4, none⟩ = some (.int .u8 a4) ∧ World.cell? w' ⟨w.heap.size, 5, none⟩ = some (.int .u8 a5)))
      (first | exact hb1 | exact (six_boxed w a0 a1 a2 a3 a4 a5).all)
      (first | (go_at_call 66; refine (station_in _ h h' (w.alloc (.cells #[.int .u8 a0, .int .u8 a1, .int .u8 a2, .int .u8 a3, .int .u8 a4, .int .u8 a5] 58)).drew).mono ?_; rintro e w1 ⟨rfl, hb⟩; obtain ⟨hb1, hb2⟩ := boxed_after hb; clear hb))
    go_wp2
    go_ret
    refine ⟨ret_int ?_, hb2⟩
    unfold num6
    simp [hq]
theorem ref_number_any (a0 a1 a2 a3 a4 a5 : Int) (h : 0 ≤ a5) (h' : a5 < 256) (w : World) :
    Calls Try.prog 30 #[.agg #[.int .u8 a0, .int .u8 a1, .int .u8 a2, .int .u8 a3, .int .u8 a4, .int .u8 a5]] w fun e w' => e = .returned (.int .i64 (num6 [a0, a1, a2, a3, a4, a5] a5)) ∧ Below w.heap.size w w' := by
  have hw5 : IntKind.i64.wrap a5 = a5 := by rw [IntKind.wrap_i64]; omega
  rcases hq : sameL [a0, a1, a2, a3, a4, a5] [2, 0, 0, 0, 0, a5] with _ | _
  all_goals
    go_enter Try.func30, Try.ntmps30
    go_wp2_with fail
    go_region_held3 (fun w' => (World.cell? w' ⟨w.heap.size, 0, none⟩ = some (.int .u8 a0) ∧ World.cell? w' ⟨w.heap.size, 1, none⟩ = some (.int .u8 a1) ∧ World.cell? w' ⟨w.heap.size, 2, none⟩ = some (.int .u8 a2) ∧ World.cell? w' ⟨w.heap.size, 3, none⟩ = some (.int .u8 a3) ∧ World.cell? w' ⟨w.heap.size, 4, none⟩ = some (.int .u8 a4) ∧ World.cell? w' ⟨w.heap.size, 5, none⟩ = some (.int .u8 a5)))
      (first | exact hb1 | exact (six_boxed w a0 a1 a2 a3 a4 a5).all)
      (first | (go_at_call 56; refine (ref_station_in _ h h' (w.alloc (.cells #[.int .u8 a0, .int .u8 a1, .int .u8 a2, .int .u8 a3, .int .u8 a4, .int .u8 a5] 58)).drew).mono ?_; rintro e w1 ⟨rfl, hb⟩; obtain ⟨hb1, hb2⟩ := boxed_after hb; clear hb))
    go_wp2
    go_ret
    refine ⟨ret_int ?_, hb2⟩
    unfold num6
    simp [hq]
end Go.Proofs.Ytjidhpmjdhjciaa
