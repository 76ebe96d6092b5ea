/- What a unit is to a connection, plainly: its type, whether it asks, whether its N(R) may not be, which event it is. No program is named here. -/
import Derived.WalkKit
import Derived.Test.YtihbnphgjpohpaaUMath
import Derived.Test.YtihbnphgjpohpaaNMath
namespace Go.Proofs.Ytihbnphgjpohpaa
open Go.RowKit

open Classical in
/-- of which type? -/
noncomputable def typeP (p : PV) : Int := if MayP p then (if p.form ≠ 2 then 2 else if p.kind = 0 ∨ p.kind = 1 ∨ p.kind = 2 then 1 else if p.kind = 8 ∨ p.kind = 9 then 3 else 2) else 0
def asksP (p : PV) : Bool := !p.resp && p.poll
def wrongP (p : PV) (va vs : Int) : Bool := p.form != 2 && !inR p.nr va vs
/-- U: which one -/
def evU (p : PV) : Int := if p.kind = 3 then 8 else if p.kind = 4 then 9 else if p.kind = 5 then 10 else if p.kind = 6 then 11 else 12
/-- I and S in order: the first of three -/
def evB (p : PV) (vr : Int) : Int := if p.form = 0 then (if p.ns = vr % 128 then 13 else 16) else if p.kind = 0 then 19 else if p.kind = 1 then 22 else 25
def evT (p : PV) (st vr : Int) : Int := if asksP p = true then evB p vr + 1 else if p.resp = true ∧ p.poll = true ∧ 11 ≤ st then evB p vr + 2 else evB p vr
noncomputable def eventP (p : PV) (st vr va vs : Int) : Int :=
  if typeP p ≠ 2 then -1 else if p.form = 2 then evU p else if st < 8 then (if asksP p = true then 20 else 19) else if wrongP p va vs = true then 28 else evT p st vr
theorem typeP_no {p : PV} (h : ¬ MayP p) : typeP p = 0 := by unfold typeP; rw [if_neg h]
theorem typeP_yes {p : PV} (h : MayP p) : typeP p = (if p.form ≠ 2 then 2 else if p.kind = 0 ∨ p.kind = 1 ∨ p.kind = 2 then 1 else if p.kind = 8 ∨ p.kind = 9 then 3 else 2) := by unfold typeP; rw [if_pos h]
theorem typeP_2 {p : PV} (h : typeP p = 2) : MayP p ∧ (p.form = 2 → 3 ≤ p.kind ∧ p.kind ≤ 7) := by
  by_cases hm : MayP p
  · refine ⟨hm, fun hf => ?_⟩
    have hk := hm.fits.2
    rw [typeP_yes hm, if_neg (by omega)] at h
    split at h
    · omega
    · split at h
      · omega
      · omega
  · rw [typeP_no hm] at h; omega
theorem evB_bd (p : PV) (vr : Int) : evB p vr = 13 ∨ evB p vr = 16 ∨ evB p vr = 19 ∨ evB p vr = 22 ∨ evB p vr = 25 := by
  unfold evB
  split
  · split
    · exact .inl rfl
    · exact .inr (.inl rfl)
  · split
    · exact .inr (.inr (.inl rfl))
    · split
      · exact .inr (.inr (.inr (.inl rfl)))
      · exact .inr (.inr (.inr (.inr rfl)))
/-- each unit of type 2 is one event of the line -/
theorem event_bd {p : PV} (h : typeP p = 2) (st vr va vs : Int) : 8 ≤ eventP p st vr va vs ∧ eventP p st vr va vs ≤ 28 := by
  have hb := evB_bd p vr
  unfold eventP
  rw [if_neg (by omega)]
  split
  · unfold evU
    split
    · decide
    · split
      · decide
      · split
        · decide
        · split <;> decide
  · split
    · split <;> decide
    · split
      · decide
      · unfold evT
        split
        · omega
        · split <;> omega
/-- what its place among three says -/
theorem event_three {p : PV} (h : typeP p = 2) {st vr va vs : Int} (h8 : 8 ≤ st) (h13 : 13 ≤ eventP p st vr va vs) (h28 : eventP p st vr va vs ≠ 28) :
    ((eventP p st vr va vs - 13) % 3 = 1 ↔ asksP p = true) ∧ ((eventP p st vr va vs - 13) % 3 = 2 → p.resp = true ∧ p.poll = true ∧ 11 ≤ st) := by
  have hb := evB_bd p vr
  by_cases hf : p.form = 2
  · have e : eventP p st vr va vs = evU p := by unfold eventP; rw [if_neg (by omega), if_pos hf]
    rw [e] at h13
    unfold evU at h13
    exfalso
    split at h13
    · omega
    · split at h13
      · omega
      · split at h13
        · omega
        · split at h13 <;> omega
  · have e : eventP p st vr va vs = if wrongP p va vs = true then 28 else evT p st vr := by unfold eventP; rw [if_neg (by omega), if_neg hf, if_neg (by omega)]
    by_cases hw : wrongP p va vs = true
    · rw [e, if_pos hw] at h28; exact absurd rfl h28
    · rw [e, if_neg hw]
      unfold evT
      by_cases ha : asksP p = true
      · rw [if_pos ha]
        exact ⟨⟨fun _ => ha, fun _ => by omega⟩, fun h => by omega⟩
      · rw [if_neg ha]
        by_cases hF : p.resp = true ∧ p.poll = true ∧ 11 ≤ st
        · rw [if_pos hF]
          exact ⟨⟨fun h => by omega, fun h => absurd h ha⟩, fun _ => hF⟩
        · rw [if_neg hF]
          exact ⟨⟨fun h => by omega, fun h => absurd h ha⟩, fun h => by omega⟩
/-- all numbers up together -/
def upP (p : PV) (u : Int) : PV := ⟨p.to, p.frm, p.resp, p.form, p.kind, if p.form = 0 then (p.ns + u) % 128 else p.ns, (p.nr + u) % 128, p.poll, p.info⟩
theorem may_up {p : PV} (h : MayP p) (hf : p.form ≠ 2) (u : Int) : MayP (upP p u) := by
  obtain ⟨⟨h1, h2, h3, h4, h5⟩, hk⟩ := h
  refine ⟨⟨h1, h2, ?_, ?_, h5⟩, ?_⟩
  · show 0 ≤ (if p.form = 0 then (p.ns + u) % 128 else p.ns) ∧ (if p.form = 0 then (p.ns + u) % 128 else p.ns) ≤ 127
    split <;> omega
  · show 0 ≤ (p.nr + u) % 128 ∧ (p.nr + u) % 128 ≤ 127
    omega
  · rcases hk with ⟨a, b, c⟩ | ⟨a, b, c, d, e⟩ | ⟨a, _⟩
    · exact .inl ⟨a, b, c⟩
    · refine .inr (.inl ⟨a, b, ?_, d, e⟩)
      show (if p.form = 0 then (p.ns + u) % 128 else p.ns) = 0
      rw [if_neg (by omega)]; exact c
    · exact absurd a hf
theorem event_up {p : PV} (h : MayP p) (hf : p.form ≠ 2) (st vr va vs u : Int) : eventP (upP p u) st ((vr + u) % 128) ((va + u) % 128) ((vs + u) % 128) = eventP p st vr va vs := by
  have hm := may_up h hf u
  have t1 : typeP (upP p u) = 2 := by rw [typeP_yes hm, if_pos (show (upP p u).form ≠ 2 from hf)]
  have t2 : typeP p = 2 := by rw [typeP_yes h, if_pos hf]
  have hw : wrongP (upP p u) ((va + u) % 128) ((vs + u) % 128) = wrongP p va vs := by
    unfold wrongP
    show (p.form != 2 && !inR ((p.nr + u) % 128) ((va + u) % 128) ((vs + u) % 128)) = _
    rw [inR_up]
  have hns := h.1.2.2.1
  have hb : evB (upP p u) ((vr + u) % 128) = evB p vr := by
    unfold evB
    by_cases f0 : p.form = 0
    · rw [if_pos f0, if_pos (show (upP p u).form = 0 from f0)]
      show (if (if p.form = 0 then (p.ns + u) % 128 else p.ns) = (vr + u) % 128 % 128 then (13 : Int) else 16) = _
      rw [if_pos f0]
      by_cases e : p.ns = vr % 128
      · rw [if_pos e, if_pos (by omega)]
      · rw [if_neg e, if_neg (by omega)]
    · rw [if_neg f0, if_neg (show ¬ (upP p u).form = 0 from f0)]; rfl
  have ht : evT (upP p u) st ((vr + u) % 128) = evT p st vr := by
    unfold evT
    rw [hb]; rfl
  unfold eventP
  rw [t1, t2, hw, ht]; rfl
end Go.Proofs.Ytihbnphgjpohpaa
