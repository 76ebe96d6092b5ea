/- Numbers that go round, plainly. No program is named here. -/
import Derived.WalkKit
namespace Go.Proofs.Yteobanbcjnahaaa
open Go.RowKit
set_option linter.unusedVariables false

/-! numbers that go round -/
def dist (a b : Int) : Int := (b - a) % 128
theorem tmod_128 (a : Int) : ∃ k : Int, a.tmod 128 = a - 128 * k ∧ -127 ≤ a.tmod 128 ∧ a.tmod 128 ≤ 127 := by
  have h := Int.mul_tdiv_add_tmod a 128
  have h1 := Int.lt_tmod_of_pos a (show (0 : Int) < 128 by decide)
  have h2 := Int.tmod_lt_of_pos a (show (0 : Int) < 128 by decide)
  exact ⟨a.tdiv 128, by omega, by omega, by omega⟩
/-- as Go reckons it -/
theorem dist_go (a b : Int) : ((b.tmod 128 - a.tmod 128).tmod 128 + 128).tmod 128 = dist a b := by
  obtain ⟨k, hk, _, _⟩ := tmod_128 a
  obtain ⟨m, hm, _, _⟩ := tmod_128 b
  obtain ⟨n, hn, h1, h2⟩ := tmod_128 (b.tmod 128 - a.tmod 128)
  rw [Int.tmod_eq_emod_of_nonneg (by omega)]
  unfold dist
  omega
theorem add_go (a n : Int) : ((a.tmod 128 + n.tmod 128).tmod 128 + 128).tmod 128 = (a + n) % 128 := by
  obtain ⟨k, hk, _, _⟩ := tmod_128 a
  obtain ⟨m, hm, _, _⟩ := tmod_128 n
  obtain ⟨q, hq, h1, h2⟩ := tmod_128 (a.tmod 128 + n.tmod 128)
  rw [Int.tmod_eq_emod_of_nonneg (by omega)]
  omega
theorem dist_bd (a b : Int) : 0 ≤ dist a b ∧ dist a b ≤ 127 := by unfold dist; omega
/-- is x one of a, a + 1, .. b? -/
def inR (x a b : Int) : Bool := decide (dist a x ≤ dist a b)
theorem inR_up (x a b u : Int) : inR ((x + u) % 128) ((a + u) % 128) ((b + u) % 128) = inR x a b := by
  have h1 : dist ((a + u) % 128) ((x + u) % 128) = dist a x := by unfold dist; omega
  have h2 : dist ((a + u) % 128) ((b + u) % 128) = dist a b := by unfold dist; omega
  unfold inR
  rw [h1, h2]

/-- how many of the first k numbers are among the n + 1 from a on -/
def cntW (a n k : Int) : Int := if a + n < 128 then min (max (k - a) 0) (n + 1) else min k (a + n - 127) + min (max (k - a) 0) (128 - a)
theorem cntW_zero {a n : Int} (h0 : 0 ≤ a) (h1 : a ≤ 127) (h2 : 0 ≤ n) (h3 : n ≤ 127) : cntW a n 0 = 0 := by
  unfold cntW; split <;> omega
theorem cntW_next {a n k : Int} (h0 : 0 ≤ a) (h1 : a ≤ 127) (h2 : 0 ≤ n) (h3 : n ≤ 127) (h4 : 0 ≤ k) (h5 : k ≤ 127) : cntW a n (k + 1) = cntW a n k + (if dist a k ≤ n then 1 else 0) := by
  have hd : dist a k = if a ≤ k then k - a else k - a + 128 := by unfold dist; split <;> omega
  rw [hd]
  unfold cntW
  split <;> split <;> split <;> omega
theorem cntW_all {a n : Int} (h0 : 0 ≤ a) (h1 : a ≤ 127) (h2 : 0 ≤ n) (h3 : n ≤ 127) : cntW a n 128 = n + 1 := by
  unfold cntW; split <;> omega
/-- of one with room for a window of n: which N(R) is right -/
theorem inR_win {a n k : Int} (h2 : 0 ≤ n) (h3 : n ≤ 127) : inR k a ((a + n) % 128) = decide (dist a k ≤ n) := by
  have : dist a ((a + n) % 128) = n := by unfold dist; omega
  unfold inR
  rw [this]
/-! what follows of them -/
def addI (a n : Int) : Int := (a + n) % 128
def lessI (a b : Int) : Int := if dist a b = 0 then 0 else if dist a b < 64 then -1 else 1
theorem add_bd (a n : Int) : 0 ≤ addI a n ∧ addI a n ≤ 127 := by unfold addI; omega
theorem add_dist {x y : Int} (h0 : 0 ≤ y) (h1 : y ≤ 127) : addI x (dist x y) = y := by unfold addI dist; omega
theorem round_is {x y : Int} (h0 : 0 ≤ x) (h1 : x ≤ 127) (h2 : 0 ≤ y) (h3 : y ≤ 127) : (dist x y + dist y x = 0 ∧ x = y) ∨ (dist x y + dist y x = 128 ∧ x ≠ y) := by unfold dist; omega
theorem in_first (x y : Int) : inR x x y = true := by
  unfold inR
  exact decide_eq_true (by have := dist_bd x y; have : dist x x = 0 := by unfold dist; omega
                           omega)
theorem in_last (x y : Int) : inR y x y = true := by unfold inR; exact decide_eq_true (Int.le_refl _)
/-- has one come by z in fewer than k steps? -/
def byB (x z k : Int) : Bool := decide (dist x z < k)
theorem byB_zero (x z : Int) : byB x z 0 = false := by
  unfold byB; exact decide_eq_false (by have := dist_bd x z; omega)
theorem byB_next {x z k : Int} (h0 : 0 ≤ x) (h1 : x ≤ 127) (h2 : 0 ≤ z) (h3 : z ≤ 127) (h4 : 0 ≤ k) (h5 : k ≤ 127) : (byB x z k || addI x k == z) = byB x z (k + 1) := by
  have hd := dist_bd x z
  have e : (addI x k = z) ↔ dist x z = k := by unfold addI dist; omega
  unfold byB
  by_cases hk : dist x z = k
  · have h : addI x k = z := e.2 hk
    rw [h, decide_eq_true (show dist x z < k + 1 by omega)]
    simp
  · have h : ¬ addI x k = z := fun h => hk (e.1 h)
    have h' : (addI x k == z) = false := by simpa using h
    rw [h', Bool.or_false]
    by_cases hl : dist x z < k
    · rw [decide_eq_true hl, decide_eq_true (by omega)]
    · rw [decide_eq_false hl, decide_eq_false (by omega)]
theorem byB_in (x y z : Int) : byB x z (dist x y + 1) = inR z x y := by
  unfold byB inR
  by_cases h : dist x z ≤ dist x y
  · rw [decide_eq_true h, decide_eq_true (by omega)]
  · rw [decide_eq_false h, decide_eq_false (by omega)]
theorem less_back (x y : Int) : dist x y = 64 ∨ lessI x y = -lessI y x := by
  have h1 := dist_bd x y
  have h2 := dist_bd y x
  have h : dist x y + dist y x = 0 ∨ dist x y + dist y x = 128 := by unfold dist; omega
  by_cases h64 : dist x y = 64
  · exact .inl h64
  · right
    unfold lessI
    rcases h with h | h
    · rw [if_pos (show dist x y = 0 by omega), if_pos (show dist y x = 0 by omega)]; rfl
    · rw [if_neg (show ¬ dist x y = 0 by omega), if_neg (show ¬ dist y x = 0 by omega)]
      by_cases hl : dist x y < 64
      · rw [if_pos hl, if_neg (show ¬ dist y x < 64 by omega)]
      · rw [if_neg hl, if_pos (show dist y x < 64 by omega)]; rfl
theorem add_add (a m n : Int) : addI (addI a m) n = addI a (m + n) := by unfold addI; omega
theorem dist_add (a m : Int) : dist a (addI a m) = addI 0 m := by unfold addI dist; omega
theorem add_back (a m n : Int) : addI (addI (addI a m) n) (-n) = addI a m := by unfold addI; omega
theorem less_self (x : Int) : lessI x x = 0 := by
  unfold lessI; rw [if_pos (by unfold dist; omega)]
theorem order_1 {x m n : Int} (h0 : 0 ≤ x) (h1 : x ≤ 127) (h2 : 0 ≤ m) (h3 : m ≤ 31) (h4 : 0 ≤ n) (h5 : n ≤ 31) : lessI x (addI (addI x m) n) = (if 0 < m + n then -1 else 0) ∧ lessI (addI (addI x m) n) x = (if 0 < m + n then 1 else 0) := by
  have e1 : dist x (addI (addI x m) n) = m + n := by unfold addI dist; omega
  have e2 : dist (addI (addI x m) n) x = if 0 < m + n then 128 - (m + n) else 0 := by unfold addI dist; split <;> omega
  unfold lessI
  rw [e1, e2]
  split <;> split <;> simp_all <;> omega
theorem order_2 {x m n : Int} (h0 : 0 ≤ x) (h1 : x ≤ 127) (h2 : 0 ≤ m) (h3 : m ≤ 31) (h4 : 0 ≤ n) (h5 : n ≤ 31) : inR (addI x m) x (addI (addI x m) n) = true ∧ (x = addI x m ∨ inR x (addI x m) (addI (addI x m) 64) = false) := by
  constructor
  · unfold inR
    refine decide_eq_true ?_
    unfold addI dist; omega
  · by_cases hm : m = 0
    · left; unfold addI; omega
    · right
      unfold inR
      refine decide_eq_false ?_
      unfold addI dist; omega
end Go.Proofs.Yteobanbcjnahaaa
