/- What All, Group, Station and Number answer, the program's and the document's. -/
import Derived.Test.YtgpmimohoepeiaaMSix
import Derived.Deep.RegionHeld3
namespace Go.Proofs.Ytgpmimohoepeiaa
open Go.RowKit
attribute [local go_sem] run_eq6

/-- is it a group's first byte? -/
def grp (x : Int) : Bool := bits BinOp.and IntKind.u8 x 1 == 1
/-- the number of an address, as a value -/
def num6 (L : List Int) (n : Int) : Int := if sameL L [2, 0, 0, 0, 0, n] = true then n else -1
abbrev vAll : Value := .agg #[.int .u8 255, .int .u8 255, .int .u8 255, .int .u8 255, .int .u8 255, .int .u8 255]
abbrev vSta (n : Int) : Value := .agg #[.int .u8 2, .int .u8 0, .int .u8 0, .int .u8 0, .int .u8 0, .int .u8 n]
abbrev vNone : Value := .agg #[.int .u8 0, .int .u8 0, .int .u8 0, .int .u8 0, .int .u8 0, .int .u8 0]
theorem ref_station_in (n : Int) (h : 0 ≤ n) (h' : n < 256) (w : World) :
    Calls Try.prog 26 #[.int .i64 n] w fun e w' => e = .returned (.agg #[.int .u8 2, .int .u8 0, .int .u8 0, .int .u8 0, .int .u8 0, .int .u8 n]) ∧ Below w.heap.size w w' := by
  go_enter Try.func26, Try.ntmps26
  go_wp2
  exact bodyPost_ret (v := vSta n) (by simp [results, Try.results26, go_sem]) rfl ⟨rfl, (Below.refl _ _).alloc (Nat.le_refl _) _⟩
theorem ref_station_out (n : Int) (h : ¬ (0 ≤ n ∧ n < 256)) (w : World) :
    Calls Try.prog 26 #[.int .i64 n] w fun e w' => e = .returned (.agg #[.int .u8 0, .int .u8 0, .int .u8 0, .int .u8 0, .int .u8 0, .int .u8 0]) ∧ Below w.heap.size w w' := by
  by_cases h0 : n < 0
  · go_enter Try.func26, Try.ntmps26
    go_wp2
    exact bodyPost_ret (v := vNone) (by simp [results, Try.results26, go_sem]) rfl ⟨rfl, (Below.refl _ _).alloc (Nat.le_refl _) _⟩
  · have h1 : 255 < n := by omega
    go_enter Try.func26, Try.ntmps26
    go_wp2
    exact bodyPost_ret (v := vNone) (by simp [results, Try.results26, go_sem]) rfl ⟨rfl, (Below.refl _ _).alloc (Nat.le_refl _) _⟩

theorem six_boxed (w : World) (a0 a1 a2 a3 a4 a5 : Int) : Six (w.alloc (.cells #[.int .u8 a0, .int .u8 a1, .int .u8 a2, .int .u8 a3, .int .u8 a4, .int .u8 a5] 37)) w.heap.size 0 [a0, a1, a2, a3, a4, a5] := Six.made w a0 a1 a2 a3 a4 a5 _
theorem boxed_after {w w1 : World} {a0 a1 a2 a3 a4 a5 : Int} (hb : Below (w.alloc (.cells #[.int .u8 a0, .int .u8 a1, .int .u8 a2, .int .u8 a3, .int .u8 a4, .int .u8 a5] 37)).drew.heap.size (w.alloc (.cells #[.int .u8 a0, .int .u8 a1, .int .u8 a2, .int .u8 a3, .int .u8 a4, .int .u8 a5] 37)).drew w1) : (World.cell? w1 ⟨w.heap.size, 0, none⟩ = some (.int .u8 a0) ∧ World.cell? w1 ⟨w.heap.size, 1, none⟩ = some (.int .u8 a1) ∧ World.cell? w1 ⟨w.heap.size, 2, none⟩ = some (.int .u8 a2) ∧ World.cell? w1 ⟨w.heap.size, 3, none⟩ = some (.int .u8 a3) ∧ World.cell? w1 ⟨w.heap.size, 4, none⟩ = some (.int .u8 a4) ∧ World.cell? w1 ⟨w.heap.size, 5, none⟩ = some (.int .u8 a5)) ∧ Below w.heap.size w w1 := by
  have h1 : Six (w.alloc (.cells #[.int .u8 a0, .int .u8 a1, .int .u8 a2, .int .u8 a3, .int .u8 a4, .int .u8 a5] 37)).drew w.heap.size 0 [a0, a1, a2, a3, a4, a5] := six_boxed w a0 a1 a2 a3 a4 a5
  exact ⟨(h1.below hb (by simp [World.drew])).all, (((Below.refl w.heap.size w).alloc (Nat.le_refl _) (.cells #[.int .u8 a0, .int .u8 a1, .int .u8 a2, .int .u8 a3, .int .u8 a4, .int .u8 a5] 37)).drew).trans (hb.mono (by simp [World.drew]))⟩
end Go.Proofs.Ytgpmimohoepeiaa
