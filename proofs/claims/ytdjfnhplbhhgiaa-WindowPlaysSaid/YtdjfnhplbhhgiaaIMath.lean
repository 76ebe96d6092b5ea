/- How many may be out, plainly: a window that opens step by step. No program is named here. -/
import Derived.WalkKit
namespace Go.Proofs.Ytdjfnhplbhhgiaa
open Go.RowKit
set_option linter.unusedVariables false

/-- how wide, how many were counted -/
structure WV where
  wide : Int
  cnt : Int
/-- one more came through -/
def stepW (m : Int) (s : WV) : WV := if m ≤ s.wide then s else if s.wide ≤ s.cnt + 1 then ⟨s.wide + 1, 0⟩ else ⟨s.wide, s.cnt + 1⟩
/-- so many more -/
def ackW (m : Int) : Nat → WV → WV
  | 0, s => s
  | k + 1, s => stepW m (ackW m k s)
def slowW : WV := ⟨1, 0⟩
def freshW (m : Int) : WV := ⟨m, 0⟩
/-- what may be, of one whose most is m -/
def WOk (m : Int) (s : WV) : Prop := 1 ≤ s.wide ∧ s.wide ≤ m ∧ 0 ≤ s.cnt ∧ (s.wide < m → s.cnt < s.wide) ∧ (s.wide = m → s.cnt = 0)
theorem WOk.slow {m : Int} (h : 1 ≤ m) : WOk m slowW := ⟨Int.le_refl _, h, Int.le_refl _, fun _ => (by decide : (0 : Int) < 1), fun _ => rfl⟩
theorem WOk.fresh {m : Int} (h : 1 ≤ m) : WOk m (freshW m) := ⟨h, Int.le_refl _, Int.le_refl _, fun h => absurd h (Int.lt_irrefl _), fun _ => rfl⟩
theorem WOk.step {m : Int} {s : WV} (h : WOk m s) : WOk m (stepW m s) ∧ s.wide ≤ (stepW m s).wide ∧ (stepW m s).wide ≤ s.wide + 1 := by
  obtain ⟨h1, h2, h3, h4, h5⟩ := h
  unfold stepW
  split
  · exact ⟨⟨h1, h2, h3, h4, h5⟩, by omega, by omega⟩
  · split
    · exact ⟨⟨by show 1 ≤ s.wide + 1; omega, by show s.wide + 1 ≤ m; omega, Int.le_refl 0, fun _ => by show (0 : Int) < s.wide + 1; omega, fun _ => rfl⟩, by show s.wide ≤ s.wide + 1; omega, by show s.wide + 1 ≤ _; omega⟩
    · exact ⟨⟨h1, h2, by show 0 ≤ s.cnt + 1; omega, fun _ => by show s.cnt + 1 < s.wide; omega, fun e => by have e' : s.wide = m := e; omega⟩, by show s.wide ≤ s.wide; omega, by show s.wide ≤ s.wide + 1; omega⟩
theorem WOk.acked {m : Int} {s : WV} (h : WOk m s) : ∀ k : Nat, WOk m (ackW m k s) ∧ s.wide ≤ (ackW m k s).wide ∧ (ackW m k s).wide ≤ s.wide + k
  | 0 => ⟨h, Int.le_refl _, by show s.wide ≤ s.wide + ((0 : Nat) : Int); omega⟩
  | k + 1 => by
    obtain ⟨h1, h2, h3⟩ := WOk.acked h k
    obtain ⟨k1, k2, k3⟩ := h1.step
    exact ⟨k1, Int.le_trans h2 k2, by show (stepW m (ackW m k s)).wide ≤ s.wide + ((k + 1 : Nat) : Int); push_cast; omega⟩
theorem ackW_add (m : Int) (s : WV) (j : Nat) : ∀ k : Nat, ackW m (j + k) s = ackW m k (ackW m j s)
  | 0 => rfl
  | k + 1 => by rw [← Nat.add_assoc]; show stepW m _ = stepW m _; rw [ackW_add m s j k]
theorem stepW_full {m : Int} {s : WV} (h : m ≤ s.wide) : stepW m s = s := by unfold stepW; rw [if_pos h]
theorem ackW_full {m : Int} {s : WV} (h : m ≤ s.wide) : ∀ k : Nat, ackW m k s = s
  | 0 => rfl
  | k + 1 => by show stepW m (ackW m k s) = s; rw [ackW_full h k]; exact stepW_full h
/-- as a loop has it that ends when it is most wide -/
theorem ackW_stop {m : Int} {s : WV} {j k : Nat} (h : m ≤ (ackW m j s).wide) (hk : j ≤ k) : ackW m k s = ackW m j s := by
  obtain ⟨d, rfl⟩ : ∃ d, k = j + d := ⟨k - j, by omega⟩
  rw [ackW_add, ackW_full h]

/-! behind Slow: how wide when so many came through -/
/-- twice 1 + 2 + .. + (w - 1) -/
def tri (w : Int) : Int := w * (w - 1)
theorem tri_next (w : Int) : tri (w + 1) = tri w + 2 * w := by
  unfold tri
  rw [show w + 1 - 1 = w by omega, Int.mul_comm (w + 1) w, Int.mul_add, Int.mul_sub]
  omega
/-- behind Slow, when k came through -/
def Opened (m : Int) (s : WV) (k : Int) : Prop := WOk m s ∧ (s.wide < m → tri s.wide + 2 * s.cnt = 2 * k) ∧ (s.wide = m → tri m ≤ 2 * k)
theorem Opened.start {m : Int} (h : 1 ≤ m) : Opened m slowW 0 := by
  refine ⟨WOk.slow h, fun _ => by decide, fun e => ?_⟩
  have : (1 : Int) = m := e
  subst this; decide
theorem Opened.step {m k : Int} {s : WV} (h : Opened m s k) (hk : 0 ≤ k) : Opened m (stepW m s) (k + 1) := by
  obtain ⟨h1, h2, h3⟩ := h
  refine ⟨h1.step.1, ?_⟩
  obtain ⟨a1, a2, a3, a4, a5⟩ := h1
  unfold stepW
  by_cases hm : m ≤ s.wide
  · rw [if_pos hm]
    have he : s.wide = m := by omega
    exact ⟨fun h => absurd h (by omega), fun _ => by have := h3 he; omega⟩
  · rw [if_neg hm]
    have e := h2 (by omega)
    have hc := a4 (by omega)
    have ht := tri_next s.wide
    by_cases hw : s.wide ≤ s.cnt + 1
    · rw [if_pos hw]
      have hcc : s.cnt = s.wide - 1 := by omega
      have e2 : tri (s.wide + 1) = 2 * (k + 1) := by omega
      exact ⟨fun _ => by show tri (s.wide + 1) + 2 * 0 = 2 * (k + 1); omega, fun hh => by have hh' : s.wide + 1 = m := hh; rw [← hh']; omega⟩
    · rw [if_neg hw]
      exact ⟨fun _ => by show tri s.wide + 2 * (s.cnt + 1) = 2 * (k + 1); omega, fun hh => by have hh' : s.wide = m := hh; omega⟩
theorem Opened.acked {m k : Int} {s : WV} (h : Opened m s k) (hk : 0 ≤ k) : ∀ j : Nat, Opened m (ackW m j s) (k + j)
  | 0 => by rw [show k + ((0 : Nat) : Int) = k by omega]; exact h
  | j + 1 => by
    have := (Opened.acked h hk j).step (by omega)
    rw [show k + ((j + 1 : Nat) : Int) = k + (j : Int) + 1 by push_cast; omega]
    exact this
theorem tri_mono {a b : Int} (h0 : 0 ≤ a) (h : a ≤ b) : tri (a + 1) ≤ tri (b + 1) := by
  unfold tri
  rw [show a + 1 - 1 = a by omega, show b + 1 - 1 = b by omega]
  exact Int.mul_le_mul (by omega) h h0 (by omega)
/-- it is just so wide: the first width whose next step would want more than k -/
theorem Opened.is {m k w : Int} {s : WV} (h : Opened m s k) (h1 : 1 ≤ w) (h2 : w ≤ m) (hall : ∀ v, 1 ≤ v → v < w → tri (v + 1) ≤ 2 * k) (hstop : ¬ (w < m ∧ tri (w + 1) ≤ 2 * k)) : s.wide = w := by
  obtain ⟨⟨a1, a2, a3, a4, a5⟩, b1, b2⟩ := h
  rcases Int.lt_trichotomy s.wide w with hlt | he | hgt
  · exfalso
    have hm : s.wide < m := by omega
    have e := b1 hm
    have hc := a4 hm
    have ht := hall s.wide a1 hlt
    rw [tri_next] at ht
    omega
  · exact he
  · exfalso
    refine hstop ⟨by omega, ?_⟩
    have hmono := tri_mono (a := w) (b := s.wide - 1) (by omega) (by omega)
    rw [show s.wide - 1 + 1 = s.wide by omega] at hmono
    rcases Int.lt_or_eq_of_le a2 with hm | hm
    · have := b1 hm; omega
    · have := b2 hm; rw [hm] at hmono; omega
/-- as Go reckons it: wide * (wide + 1) / 2 ≤ sum -/
theorem tri_go {w k : Int} (h : 0 ≤ w) : (w * (w + 1)).tdiv 2 ≤ k ↔ tri (w + 1) ≤ 2 * k := by
  have h0 : 0 ≤ w * (w + 1) := Int.mul_nonneg h (by omega)
  rw [Int.tdiv_eq_ediv_of_nonneg h0]
  have e : tri (w + 1) = w * (w + 1) := by unfold tri; rw [show w + 1 - 1 = w by omega, Int.mul_comm]
  have hev : ∃ q, w * (w + 1) = 2 * q := by
    rcases Int.emod_two_eq w with h2 | h2
    · exact ⟨w / 2 * (w + 1), by rw [← Int.mul_assoc, show 2 * (w / 2) = w by omega]⟩
    · exact ⟨w * ((w + 1) / 2), by rw [Int.mul_left_comm, show 2 * ((w + 1) / 2) = w + 1 by omega]⟩
  obtain ⟨q, hq⟩ := hev
  rw [e, hq]
  omega
theorem stepW_in {m : Int} {s : WV} (h : s.wide < m) : (s.wide ≤ s.cnt + 1 → stepW m s = ⟨s.wide + 1, 0⟩) ∧ (¬ s.wide ≤ s.cnt + 1 → stepW m s = ⟨s.wide, s.cnt + 1⟩) := by
  unfold stepW
  rw [if_neg (by omega)]
  exact ⟨fun h => if_pos h, fun h => if_neg h⟩
end Go.Proofs.Ytdjfnhplbhhgiaa
