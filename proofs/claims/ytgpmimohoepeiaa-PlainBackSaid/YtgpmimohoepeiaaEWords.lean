/- Maps in memory, in general: numbers of 64 bits; what a map that is owned keeps. No program is named here. -/
import Derived.DeepKeys4
import Derived.Maps.Ext
import Derived.Maps.RangeWalk
import Derived.Sort.KeysCollected
import Derived.Test.YtgpmimohoepeiaaKWords
namespace Go.Proofs.Ytgpmimohoepeiaa
open Go.RowKit
set_option linter.unusedVariables false

abbrev I64 (x : Int) : Prop := (Lit.int .i64 x).wf = true
theorem i64_bd {x : Int} (h : I64 x) : -9223372036854775808 ≤ x ∧ x ≤ 9223372036854775807 := by
  unfold I64 at h
  simp only [Lit.wf, Bool.and_eq_true, decide_eq_true_eq] at h
  exact h
theorem i64_of {x : Int} (h : -9223372036854775808 ≤ x ∧ x ≤ 9223372036854775807) : I64 x := by
  unfold I64
  simp only [Lit.wf, Bool.and_eq_true, decide_eq_true_eq]
  exact h
abbrev DU := DataW Unit
abbrev RU := Value → Option (DU × List MemPlace)
section
variable {P : Program} {k : TypeId} {R : RU} {w w' : World} {b n : Nat} {D : DU}
theorem own_tight (h : w.ownsMap P k R b n D) : w.ownsMap P k R b (Maps.size D) D := by
  obtain ⟨es, clock, hb, F, hs, rfl⟩ := h
  exact ⟨es, clock, hb, F, by simp [Maps.size, length_sorted], rfl⟩
theorem own_kept (h : w.ownsMap P k R b n D) (hk : w'.heap[b]? = w.heap[b]?) : w'.ownsMap P k R b n D := by
  obtain ⟨es, clock, hb, r⟩ := h
  exact ⟨es, clock, hk.trans hb, r⟩
theorem own_obj (h : w.ownsMap P k R b n D) : ∃ es c, w.heap[b]? = some (.map es c) := by
  obtain ⟨es, clock, hb, _⟩ := h
  exact ⟨es, clock, hb⟩
theorem has_key (h : w.ownsMap P k R b n D) {kl : Lit} (hh : Maps.has D kl = true) : ∃ v, keyOf P k v = some kl := by
  obtain ⟨es, rfl, hk⟩ := h.keysOf
  obtain ⟨p, hp, hs⟩ := List.any_eq_true.1 hh
  rw [← WideAt.sameKey_eq hs]
  exact hk p hp
end
theorem nodup_le {α : Type} [DecidableEq α] : ∀ (l L : List α), l.Nodup → (∀ x ∈ l, x ∈ L) → l.length ≤ L.length
  | [], L, _, _ => Nat.zero_le _
  | x :: l, L, h, hL => by
    rw [List.nodup_cons] at h
    have hx := hL x (by simp)
    have ih := nodup_le l (L.erase x) h.2 (fun y hy => (List.mem_erase_of_ne (fun e => h.1 (by rw [← e]; exact hy))).2 (hL y (by simp [hy])))
    rw [List.length_erase_of_mem hx] at ih
    have := List.length_pos_of_mem hx
    rw [List.length_cons]
    omega
end Go.Proofs.Ytgpmimohoepeiaa
