/- The numbers of a connection, plainly: what is sent, taken, acknowledged, sent again; round the ring. No program is named here. -/
import Derived.WalkKit
import Derived.Test.YteobanbcjnahaaaNMath
namespace Go.Proofs.Yteobanbcjnahaaa
open Go.RowKit
set_option linter.unusedVariables false

/-- V(S), V(R), V(A) -/
structure VV where
  vs : Int
  vr : Int
  va : Int
def zVV : VV := ⟨0, 0, 0⟩
def VOk (v : VV) : Prop := (0 ≤ v.vs ∧ v.vs ≤ 127) ∧ (0 ≤ v.vr ∧ v.vr ≤ 127) ∧ (0 ≤ v.va ∧ v.va ≤ 127)
theorem VOk.zero : VOk zVV := by unfold VOk zVV; decide
def outV (v : VV) : Int := dist v.va v.vs
theorem outV_bd (v : VV) : 0 ≤ outV v ∧ outV v ≤ 127 := dist_bd _ _
/-- the number that is sent; -1: none may be -/
def sentV (v : VV) : Int := if outV v = 127 then -1 else v.vs
def sentS (v : VV) : VV := if outV v = 127 then v else { v with vs := addI v.vs 1 }
def tookS (v : VV) : VV := { v with vr := addI v.vr 1 }
/-- may it be acknowledged? -/
def okA (v : VV) (nr : Int) : Prop := (0 ≤ nr ∧ nr ≤ 127) ∧ inR nr v.va v.vs = true
instance (v : VV) (nr : Int) : Decidable (okA v nr) := by unfold okA; infer_instance
def ackV (v : VV) (nr : Int) : Int := if okA v nr then dist v.va nr else -1
def ackS (v : VV) (nr : Int) : VV := if okA v nr then { v with va := nr } else v
def backS (v : VV) : VV := { v with vs := v.va }
theorem VOk.sent {v : VV} (h : VOk v) : VOk (sentS v) := by
  obtain ⟨h1, h2, h3⟩ := h
  unfold sentS
  split
  · exact ⟨h1, h2, h3⟩
  · exact ⟨add_bd _ _, h2, h3⟩
theorem VOk.took {v : VV} (h : VOk v) : VOk (tookS v) := ⟨h.1, add_bd _ _, h.2.2⟩
theorem VOk.acked {v : VV} (h : VOk v) (nr : Int) : VOk (ackS v nr) := by
  unfold ackS
  split
  · rename_i ha; exact ⟨h.1, h.2.1, ha.1⟩
  · exact h
theorem VOk.back {v : VV} (h : VOk v) : VOk (backS v) := ⟨h.2.2, h.2.1, h.2.2⟩

/-! round the ring: what was sent and what was acknowledged, in all -/
/-- so many were sent, so many acknowledged -/
def RingV (v : VV) (s a : Int) : Prop := v.vs = s % 128 ∧ v.va = a % 128 ∧ 0 ≤ a ∧ a ≤ s ∧ s ≤ a + 127
theorem RingV.zero : RingV zVV 0 0 := by unfold RingV zVV; decide
theorem RingV.out {v : VV} {s a : Int} (h : RingV v s a) : outV v = s - a := by
  obtain ⟨h1, h2, h3, h4, h5⟩ := h
  unfold outV dist
  rw [h1, h2]
  omega
theorem RingV.full {v : VV} {s a : Int} (h : RingV v s a) (hf : s - a = 127) : sentV v = -1 ∧ sentS v = v := by
  unfold sentV sentS
  rw [h.out, if_pos hf, if_pos hf]
  exact ⟨rfl, rfl⟩
theorem RingV.sent {v : VV} {s a : Int} (h : RingV v s a) (hf : s - a ≠ 127) : sentV v = s % 128 ∧ RingV (sentS v) (s + 1) a := by
  have ho := h.out
  unfold sentV sentS
  rw [ho, if_neg hf, if_neg hf]
  obtain ⟨h1, h2, h3, h4, h5⟩ := h
  refine ⟨h1, ?_, h2, h3, by omega, by omega⟩
  show addI v.vs 1 = (s + 1) % 128
  rw [h1]; unfold addI; omega
theorem RingV.ok {v : VV} {s a u : Int} (h : RingV v s a) (h0 : 0 ≤ u) (h1 : u ≤ s - a) : okA v ((a + u) % 128) := by
  obtain ⟨e1, e2, h3, h4, h5⟩ := h
  refine ⟨⟨by omega, by omega⟩, ?_⟩
  unfold inR
  refine decide_eq_true ?_
  unfold dist
  rw [e1, e2]
  omega
theorem RingV.acked {v : VV} {s a u : Int} (h : RingV v s a) (h0 : 0 ≤ u) (h1 : u ≤ s - a) : ackV v ((a + u) % 128) = u ∧ RingV (ackS v ((a + u) % 128)) s (a + u) := by
  have hok := h.ok h0 h1
  unfold ackV ackS
  rw [if_pos hok, if_pos hok]
  obtain ⟨e1, e2, h3, h4, h5⟩ := h
  refine ⟨?_, e1, rfl, by omega, by omega, by omega⟩
  unfold dist
  rw [e2]
  omega
theorem RingV.back {v : VV} {s a : Int} (h : RingV v s a) : RingV (backS v) a a := by
  obtain ⟨e1, e2, h3, h4, h5⟩ := h
  exact ⟨e2, e2, h3, Int.le_refl _, by omega⟩

/-! which numbers are right to acknowledge -/
theorem dist_go2 (a nr : Int) : ((nr - a).tmod 128 + 128).tmod 128 = dist a nr := by
  obtain ⟨k, hk, h1, h2⟩ := tmod_128 (nr - a)
  rw [Int.tmod_eq_emod_of_nonneg (by omega)]
  unfold dist
  omega
theorem RingV.acks {v : VV} {s a nr : Int} (h : RingV v s a) (hn : 0 ≤ nr ∧ nr ≤ 127) : (okA v nr ↔ dist v.va nr ≤ s - a) ∧ (okA v nr → ackV v nr = dist v.va nr ∧ (ackS v nr).va = nr ∧ (ackS v nr).vs = v.vs ∧ outV (ackS v nr) = s - a - dist v.va nr) := by
  have ho := h.out
  unfold outV at ho
  have hiff : okA v nr ↔ dist v.va nr ≤ s - a := by
    unfold okA inR
    rw [ho, decide_eq_true_iff]
    exact ⟨fun h => h.2, fun h => ⟨hn, h⟩⟩
  refine ⟨hiff, fun hok => ?_⟩
  have hle := hiff.1 hok
  unfold ackV ackS
  rw [if_pos hok, if_pos hok]
  refine ⟨rfl, rfl, rfl, ?_⟩
  show dist nr v.vs = _
  obtain ⟨e1, e2, h3, h4, h5⟩ := h
  unfold dist at hle ⊢
  rw [e2] at hle ⊢
  rw [e1]
  have hq : (a % 128 + (nr - a % 128) % 128) % 128 = nr := by omega
  have hb : 0 ≤ (nr - a % 128) % 128 := by omega
  generalize (nr - a % 128) % 128 = q at hle hq hb ⊢
  omega
theorem acks_no {v : VV} {nr : Int} (h : ¬ okA v nr) : ackV v nr = -1 ∧ ackS v nr = v := by
  unfold ackV ackS; rw [if_neg h, if_neg h]; exact ⟨rfl, rfl⟩
theorem outI_far {v : VV} {nr : Int} (h : nr < 0 ∨ 127 < nr) : ¬ okA v nr := fun hok => by have := hok.1; omega
end Go.Proofs.Yteobanbcjnahaaa
