/- MacNumbers, of all arguments. -/
import Derived.Test.YtbpmhfekjihhhaaWMacNumA
import Derived.Test.YtbpmhfekjihhhaaWMacNumC
namespace Go.Proofs.Ytbpmhfekjihhhaa
open Go.RowKit
set_option linter.unusedVariables false

theorem num6_sta (n : Int) : num6 [2, 0, 0, 0, 0, n] n = n := by unfold num6; rw [sameL_refl, if_pos rfl]
theorem sta_same (n m : Int) : sameL [2, 0, 0, 0, 0, n] [2, 0, 0, 0, 0, m] = (n == m) := by
  by_cases h : n = m
  · subst h; rw [sameL_refl]; simp
  · rw [sameL_no (fun e => h (by injection e with _ e; injection e with _ e; injection e with _ e; injection e with _ e; injection e with _ e; injection e with e _))]
    simp [h]
theorem walk_MacNumbers (n m : Int) (a0 a1 a2 a3 a4 a5 : Int) (w : World) (wn : (Lit.int .i64 n).wf = true) (wm : (Lit.int .i64 m).wf = true) (ha : Bts [a0, a1, a2, a3, a4, a5]) :
    Calls Try.prog 10 #[.int .i64 n, .int .i64 m, .agg #[.int .u8 a0, .int .u8 a1, .int .u8 a2, .int .u8 a3, .int .u8 a4, .int .u8 a5]] w fun e w' => e = .returned (.bool true) ∧ Below w.heap.size w w' := by
  have h5 : Byt a5 := ha a5 (by simp)
  have hin : ∀ k : Int, 0 ≤ k → k ≤ 255 → ∀ W, Calls Try.prog 18 #[.int .i64 k] W fun e w' => e = .returned (.agg #[.int .u8 2, .int .u8 0, .int .u8 0, .int .u8 0, .int .u8 0, .int .u8 k]) ∧ Below W.heap.size W w' := fun k h0 h1 W => station_in k h0 (by omega) W
  have hout : ∀ k : Int, ¬ (0 ≤ k ∧ k < 256) → ∀ W, Calls Try.prog 18 #[.int .i64 k] W fun e w' => e = .returned (.agg #[.int .u8 0, .int .u8 0, .int .u8 0, .int .u8 0, .int .u8 0, .int .u8 0]) ∧ Below W.heap.size W w' := fun k h W => station_out k h W
  have q0 := sameL_refl [0, 0, 0, 0, 0, 0]
  by_cases n0 : 0 ≤ n
  · by_cases n1 : n ≤ 255
    · by_cases m0 : 0 ≤ m
      · by_cases m1 : m ≤ 255
        · exact numbers_in_in n m 2 0 0 0 0 n 2 0 0 0 0 m a0 a1 a2 a3 a4 a5 w _ _ n0 n1 rfl m0 m1 (cover (num6_sta n)) (sta_same n m) rfl h5 (cover rfl) (hin n n0 n1) (hin m m0 m1)
        · exact numbers_in_big n m 2 0 0 0 0 n 0 0 0 0 0 0 a0 a1 a2 a3 a4 a5 w _ true n0 n1 rfl m0 (by omega) (cover (num6_sta n)) h5 (cover rfl) (hin n n0 n1) (hout m (by omega))
      · exact numbers_in_neg n m 2 0 0 0 0 n 0 0 0 0 0 0 a0 a1 a2 a3 a4 a5 w _ true n0 n1 rfl (by omega) (cover (num6_sta n)) h5 (cover rfl) (hin n n0 n1) (hout m (by omega))
    · by_cases m0 : 0 ≤ m ∧ m < 256
      · exact numbers_big n m 0 0 0 0 0 0 2 0 0 0 0 m a0 a1 a2 a3 a4 a5 w _ true n0 (by omega) q0 h5 (cover rfl) (hout n (by omega)) (hin m m0.1 (by omega))
      · exact numbers_big n m 0 0 0 0 0 0 0 0 0 0 0 0 a0 a1 a2 a3 a4 a5 w _ true n0 (by omega) q0 h5 (cover rfl) (hout n (by omega)) (hout m m0)
  · by_cases m0 : 0 ≤ m ∧ m < 256
    · exact numbers_neg n m 0 0 0 0 0 0 2 0 0 0 0 m a0 a1 a2 a3 a4 a5 w _ true (by omega) q0 h5 (cover rfl) (hout n (by omega)) (hin m m0.1 (by omega))
    · exact numbers_neg n m 0 0 0 0 0 0 0 0 0 0 0 0 a0 a1 a2 a3 a4 a5 w _ true (by omega) q0 h5 (cover rfl) (hout n (by omega)) (hout m m0)
end Go.Proofs.Ytbpmhfekjihhhaa
