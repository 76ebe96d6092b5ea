/- The check for a second station of one's address, plainly: how it stands, what it sends, when it ends. No program is named here. -/
import Derived.WalkKit
namespace Go.Proofs.Ytbhdncbnjlgigaa
open Go.RowKit
set_option linter.unusedVariables false

/-- so many times at most, so many ticks each; how it stands (0 idle, 1 asking, 2 alone, 3 two); so many times sent, so many ticks left -/
structure BV where
  n : Int
  w : Int
  s : Int
  k : Int
  l : Int
def zB (n w : Int) : BV := ⟨n, w, 0, 0, 0⟩
def okB (n w : Int) : Prop := (1 ≤ n ∧ n ≤ 100) ∧ (1 ≤ w ∧ w ≤ 10000)
instance (n w : Int) : Decidable (okB n w) := by unfold okB; infer_instance
/-- what Start makes of it, and does it send? -/
def startB (v : BV) : BV := if v.s = 1 then v else { v with s := 1, k := 1, l := v.w }
def startsB (v : BV) : Bool := decide (v.s ≠ 1)
/-- what a tick makes of it, and does it send? -/
def tickB (v : BV) : BV :=
  if v.s = 1 then
    if 1 < v.l then { v with l := v.l - 1 }
    else if v.k < v.n then { v with k := v.k + 1, l := v.w }
    else { v with s := 2, l := 0 }
  else v
def ticksB (v : BV) : Bool := decide (v.s = 1 ∧ v.l ≤ 1 ∧ v.k < v.n)
/-- what is heard: a is it the answer? -/
def hearB (a : Bool) (v : BV) : BV := if v.s = 1 ∧ a = true then { v with s := 3 } else v
def hearsB (a : Bool) (v : BV) : Bool := decide (v.s = 1 ∧ a = true)

def BOk (v : BV) : Prop :=
  okB v.n v.w ∧ (0 ≤ v.s ∧ v.s ≤ 3) ∧ (0 ≤ v.k ∧ v.k ≤ v.n) ∧ (0 ≤ v.l ∧ v.l ≤ v.w) ∧ (v.s = 1 → 1 ≤ v.k ∧ 1 ≤ v.l)
theorem BOk.zero {n w : Int} (h : okB n w) : BOk (zB n w) := by
  obtain ⟨⟨h1, h2⟩, h3, h4⟩ := h
  refine ⟨⟨⟨h1, h2⟩, h3, h4⟩, ?_, ?_, ?_, ?_⟩ <;> simp only [zB] <;> omega
theorem BOk.start {v : BV} (h : BOk v) : BOk (startB v) := by
  obtain ⟨⟨⟨h1, h2⟩, h3, h4⟩, h5, h6, h7, h8⟩ := h
  unfold startB
  split
  · exact ⟨⟨⟨h1, h2⟩, h3, h4⟩, h5, h6, h7, h8⟩
  · refine ⟨⟨⟨h1, h2⟩, h3, h4⟩, ?_, ?_, ?_, ?_⟩ <;> simp only <;> omega
theorem BOk.tick {v : BV} (h : BOk v) : BOk (tickB v) := by
  obtain ⟨⟨⟨h1, h2⟩, h3, h4⟩, h5, h6, h7, h8⟩ := h
  unfold tickB
  split
  · next hs =>
    obtain ⟨h9, h10⟩ := h8 hs
    split
    · refine ⟨⟨⟨h1, h2⟩, h3, h4⟩, ?_, ?_, ?_, ?_⟩ <;> simp only <;> omega
    · split
      · refine ⟨⟨⟨h1, h2⟩, h3, h4⟩, ?_, ?_, ?_, ?_⟩ <;> simp only <;> omega
      · refine ⟨⟨⟨h1, h2⟩, h3, h4⟩, ?_, ?_, ?_, ?_⟩ <;> simp only <;> omega
  · exact ⟨⟨⟨h1, h2⟩, h3, h4⟩, h5, h6, h7, h8⟩
theorem BOk.hear {v : BV} (a : Bool) (h : BOk v) : BOk (hearB a v) := by
  obtain ⟨⟨⟨h1, h2⟩, h3, h4⟩, h5, h6, h7, h8⟩ := h
  unfold hearB
  split
  · refine ⟨⟨⟨h1, h2⟩, h3, h4⟩, ?_, ?_, ?_, ?_⟩ <;> simp only <;> omega
  · exact ⟨⟨⟨h1, h2⟩, h3, h4⟩, h5, h6, h7, h8⟩

/-- n and w stay as they are -/
theorem startB_n (v : BV) : (startB v).n = v.n ∧ (startB v).w = v.w := by unfold startB; split <;> exact ⟨rfl, rfl⟩
theorem tickB_n (v : BV) : (tickB v).n = v.n ∧ (tickB v).w = v.w := by
  unfold tickB; split
  · split
    · exact ⟨rfl, rfl⟩
    · split <;> exact ⟨rfl, rfl⟩
  · exact ⟨rfl, rfl⟩
theorem hearB_n (a : Bool) (v : BV) : (hearB a v).n = v.n ∧ (hearB a v).w = v.w := by unfold hearB; split <;> exact ⟨rfl, rfl⟩
theorem tickB_rest {v : BV} (h : v.s ≠ 1) : tickB v = v ∧ ticksB v = false := by
  unfold tickB ticksB
  rw [if_neg h]
  exact ⟨rfl, decide_eq_false (fun hx => h hx.1)⟩
theorem hearB_rest {v : BV} (a : Bool) (h : v.s ≠ 1) : hearB a v = v ∧ hearsB a v = false := by
  unfold hearB hearsB
  rw [if_neg (fun hx => h hx.1)]
  exact ⟨rfl, decide_eq_false (fun hx => h hx.1)⟩
theorem hearB_not (v : BV) : hearB false v = v ∧ hearsB false v = false := by
  unfold hearB hearsB
  rw [if_neg (fun hx => by cases hx.2)]
  exact ⟨rfl, decide_eq_false (fun hx => by cases hx.2)⟩
theorem hearB_yes {v : BV} (h : v.s = 1) : hearB true v = { v with s := 3 } ∧ hearsB true v = true := by
  unfold hearB hearsB
  rw [if_pos ⟨h, rfl⟩]
  exact ⟨rfl, decide_eq_true ⟨h, rfl⟩⟩
theorem startB_not {v : BV} (h : v.s = 1) : startB v = v ∧ startsB v = false := by
  unfold startB startsB
  rw [if_pos h]
  exact ⟨rfl, decide_eq_false (fun hx => hx h)⟩
theorem startB_yes {v : BV} (h : v.s ≠ 1) : startB v = { v with s := 1, k := 1, l := v.w } ∧ startsB v = true := by
  unfold startB startsB
  rw [if_neg h]
  exact ⟨rfl, decide_eq_true h⟩

/-- it asks since i ticks, and heard nothing -/
def AsksB (n w i : Int) (v : BV) : Prop :=
  ∃ q r : Int, v = ⟨n, w, 1, 1 + q, w - r⟩ ∧ i = q * w + r ∧ (0 ≤ r ∧ r < w) ∧ (0 ≤ q ∧ q < n)
theorem AsksB.first {n w : Int} (h : okB n w) {v : BV} (hn : v.n = n) (hw : v.w = w) (hs : v.s ≠ 1) :
    AsksB n w 0 (startB v) := by
  obtain ⟨⟨h1, h2⟩, h3, h4⟩ := h
  obtain ⟨n', w', s, k, l⟩ := v
  simp only at hn hw hs
  subst hn; subst hw
  refine ⟨0, 0, ?_, by omega, by omega, by omega⟩
  rw [(startB_yes hs).1]
  simp
theorem AsksB.asks {n w i : Int} {v : BV} (h : AsksB n w i v) : v.s = 1 := by
  obtain ⟨q, r, rfl, _⟩ := h; rfl
/-- it asks for less than n * w ticks -/
theorem AsksB.lt {n w i : Int} {v : BV} (h : AsksB n w i v) : i < n * w := by
  obtain ⟨q, r, rfl, hi, hr, hq⟩ := h
  have h1 : (q + 1) * w ≤ n * w := Int.mul_le_mul_of_nonneg_right (by omega) (by omega)
  rw [Int.add_mul, Int.one_mul] at h1
  omega
/-- a tick that is not the last one: it asks on; it sent once more if the tick sends -/
theorem AsksB.tick {n w i : Int} {v : BV} (h : AsksB n w i v) (hi : i + 1 < n * w) :
    AsksB n w (i + 1) (tickB v) ∧ (tickB v).k = v.k + (if ticksB v = true then 1 else 0) := by
  obtain ⟨q, r, rfl, he, hr, hq⟩ := h
  by_cases hl : 1 < w - r
  · have e1 : tickB ⟨n, w, 1, 1 + q, w - r⟩ = ⟨n, w, 1, 1 + q, w - r - 1⟩ := by unfold tickB; simp [hl]
    have e2 : ticksB ⟨n, w, 1, 1 + q, w - r⟩ = false := by unfold ticksB; exact decide_eq_false (fun hx => by have := hx.2.1; simp only at this; omega)
    rw [e1, e2]
    refine ⟨⟨q, r + 1, ?_, by omega, by omega, hq⟩, by simp⟩
    simp only [BV.mk.injEq, true_and]; omega
  · have hr1 : r + 1 = w := by omega
    have hq1 : 1 + q < n := by
      by_cases hc : 1 + q < n
      · exact hc
      · exfalso
        have hqn : n = q + 1 := by omega
        rw [hqn, Int.add_mul, Int.one_mul] at hi
        omega
    have e1 : tickB ⟨n, w, 1, 1 + q, w - r⟩ = ⟨n, w, 1, 1 + q + 1, w⟩ := by unfold tickB; simp [hl, hq1]
    have e2 : ticksB ⟨n, w, 1, 1 + q, w - r⟩ = true := by unfold ticksB; exact decide_eq_true ⟨rfl, by simp only; omega, hq1⟩
    rw [e1, e2]
    refine ⟨⟨q + 1, 0, ?_, ?_, by omega, by omega⟩, by simp⟩
    · simp only [BV.mk.injEq, true_and]; omega
    · rw [Int.add_mul, Int.one_mul]; omega
/-- the last one: it is alone, and asked n times -/
theorem AsksB.last {n w i : Int} {v : BV} (h : AsksB n w i v) (hi : i + 1 = n * w) :
    tickB v = ⟨n, w, 2, n, 0⟩ ∧ ticksB v = false ∧ v.k = n := by
  obtain ⟨q, r, rfl, he, hr, hq⟩ := h
  have h1 : (q + 1) * w ≤ n * w := Int.mul_le_mul_of_nonneg_right (by omega) (by omega)
  have hq1 : q + 1 = n := by
    by_cases hc : q + 1 = n
    · exact hc
    · exfalso
      have h2 : (q + 1 + 1) * w ≤ n * w := Int.mul_le_mul_of_nonneg_right (by omega) (by omega)
      rw [Int.add_mul, Int.add_mul, Int.one_mul] at h2
      omega
  rw [Int.add_mul, Int.one_mul, ] at h1
  have hr1 : r + 1 = w := by
    rw [← hq1, Int.add_mul, Int.one_mul] at hi
    omega
  have hl : ¬ 1 < w - r := by omega
  have hk : ¬ 1 + q < n := by omega
  refine ⟨?_, ?_, by simp only; omega⟩
  · unfold tickB
    rw [if_pos rfl, if_neg hl, if_neg hk]
    simp only [BV.mk.injEq, true_and, and_true]; omega
  · unfold ticksB
    exact decide_eq_false (fun hx => hk hx.2.2)
/-- is it alone behind the tick i + 1? -/
theorem AsksB.alone {n w i : Int} {v : BV} (h : AsksB n w i v) : ((tickB v).s = 2) ↔ i + 1 = n * w := by
  have hlt := h.lt
  by_cases hi : i + 1 = n * w
  · rw [(h.last hi).1]
    exact ⟨fun _ => hi, fun _ => rfl⟩
  · have := (h.tick (by omega)).1.asks
    exact ⟨fun h2 => by omega, fun h2 => absurd h2 hi⟩

end Go.Proofs.Ytbhdncbnjlgigaa
