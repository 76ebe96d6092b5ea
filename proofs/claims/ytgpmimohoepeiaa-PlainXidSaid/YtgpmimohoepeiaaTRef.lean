/- What a unit is to a connection, plainly: its type, whether it asks, whether its N(R) may not be, which event it is. No program is named here. What stepsUp, Asks, mark, Wrong answer: the program's and the document's. What the document's own Type answers. -/
import Derived.WalkKit
import Derived.Test.YtgpmimohoepeiaaUMath
import Derived.Test.YtgpmimohoepeiaaNMath
import Derived.Laws.Bits128
import Derived.Test.YtgpmimohoepeiaaUMem
import Derived.Test.YtgpmimohoepeiaaURMay
namespace Go.Proofs.Ytgpmimohoepeiaa
open Go.RowKit

open Classical in
/-- of which type? -/
noncomputable def typeP (p : PV) : Int := if MayP p then (if p.form ≠ 2 then 2 else if p.kind = 0 ∨ p.kind = 1 ∨ p.kind = 2 then 1 else if p.kind = 8 ∨ p.kind = 9 then 3 else 2) else 0
def asksP (p : PV) : Bool := !p.resp && p.poll
def wrongP (p : PV) (va vs : Int) : Bool := p.form != 2 && !inR p.nr va vs
/-- U: which one -/
def evU (p : PV) : Int := if p.kind = 3 then 8 else if p.kind = 4 then 9 else if p.kind = 5 then 10 else if p.kind = 6 then 11 else 12
/-- I and S in order: the first of three -/
def evB (p : PV) (vr : Int) : Int := if p.form = 0 then (if p.ns = vr % 128 then 13 else 16) else if p.kind = 0 then 19 else if p.kind = 1 then 22 else 25
def evT (p : PV) (st vr : Int) : Int := if asksP p = true then evB p vr + 1 else if p.resp = true ∧ p.poll = true ∧ 11 ≤ st then evB p vr + 2 else evB p vr
noncomputable def eventP (p : PV) (st vr va vs : Int) : Int :=
  if typeP p ≠ 2 then -1 else if p.form = 2 then evU p else if st < 8 then (if asksP p = true then 20 else 19) else if wrongP p va vs = true then 28 else evT p st vr
theorem typeP_no {p : PV} (h : ¬ MayP p) : typeP p = 0 := by unfold typeP; rw [if_neg h]
theorem typeP_yes {p : PV} (h : MayP p) : typeP p = (if p.form ≠ 2 then 2 else if p.kind = 0 ∨ p.kind = 1 ∨ p.kind = 2 then 1 else if p.kind = 8 ∨ p.kind = 9 then 3 else 2) := by unfold typeP; rw [if_pos h]
theorem typeP_2 {p : PV} (h : typeP p = 2) : MayP p ∧ (p.form = 2 → 3 ≤ p.kind ∧ p.kind ≤ 7) := by
  by_cases hm : MayP p
  · refine ⟨hm, fun hf => ?_⟩
    have hk := hm.fits.2
    rw [typeP_yes hm, if_neg (by omega)] at h
    split at h
    · omega
    · split at h
      · omega
      · omega
  · rw [typeP_no hm] at h; omega
theorem evB_bd (p : PV) (vr : Int) : evB p vr = 13 ∨ evB p vr = 16 ∨ evB p vr = 19 ∨ evB p vr = 22 ∨ evB p vr = 25 := by
  unfold evB
  split
  · split
    · exact .inl rfl
    · exact .inr (.inl rfl)
  · split
    · exact .inr (.inr (.inl rfl))
    · split
      · exact .inr (.inr (.inr (.inl rfl)))
      · exact .inr (.inr (.inr (.inr rfl)))
/-- each unit of type 2 is one event of the line -/
theorem event_bd {p : PV} (h : typeP p = 2) (st vr va vs : Int) : 8 ≤ eventP p st vr va vs ∧ eventP p st vr va vs ≤ 28 := by
  have hb := evB_bd p vr
  unfold eventP
  rw [if_neg (by omega)]
  split
  · unfold evU
    split
    · decide
    · split
      · decide
      · split
        · decide
        · split <;> decide
  · split
    · split <;> decide
    · split
      · decide
      · unfold evT
        split
        · omega
        · split <;> omega
/-- what its place among three says -/
theorem event_three {p : PV} (h : typeP p = 2) {st vr va vs : Int} (h8 : 8 ≤ st) (h13 : 13 ≤ eventP p st vr va vs) (h28 : eventP p st vr va vs ≠ 28) :
    ((eventP p st vr va vs - 13) % 3 = 1 ↔ asksP p = true) ∧ ((eventP p st vr va vs - 13) % 3 = 2 → p.resp = true ∧ p.poll = true ∧ 11 ≤ st) := by
  have hb := evB_bd p vr
  by_cases hf : p.form = 2
  · have e : eventP p st vr va vs = evU p := by unfold eventP; rw [if_neg (by omega), if_pos hf]
    rw [e] at h13
    unfold evU at h13
    exfalso
    split at h13
    · omega
    · split at h13
      · omega
      · split at h13
        · omega
        · split at h13 <;> omega
  · have e : eventP p st vr va vs = if wrongP p va vs = true then 28 else evT p st vr := by unfold eventP; rw [if_neg (by omega), if_neg hf, if_neg (by omega)]
    by_cases hw : wrongP p va vs = true
    · rw [e, if_pos hw] at h28; exact absurd rfl h28
    · rw [e, if_neg hw]
      unfold evT
      by_cases ha : asksP p = true
      · rw [if_pos ha]
        exact ⟨⟨fun _ => ha, fun _ => by omega⟩, fun h => by omega⟩
      · rw [if_neg ha]
        by_cases hF : p.resp = true ∧ p.poll = true ∧ 11 ≤ st
        · rw [if_pos hF]
          exact ⟨⟨fun h => by omega, fun h => absurd h ha⟩, fun _ => hF⟩
        · rw [if_neg hF]
          exact ⟨⟨fun h => by omega, fun h => absurd h ha⟩, fun h => by omega⟩
/-- all numbers up together -/
def upP (p : PV) (u : Int) : PV := ⟨p.to, p.frm, p.resp, p.form, p.kind, if p.form = 0 then (p.ns + u) % 128 else p.ns, (p.nr + u) % 128, p.poll, p.info⟩
theorem may_up {p : PV} (h : MayP p) (hf : p.form ≠ 2) (u : Int) : MayP (upP p u) := by
  obtain ⟨⟨h1, h2, h3, h4, h5⟩, hk⟩ := h
  refine ⟨⟨h1, h2, ?_, ?_, h5⟩, ?_⟩
  · show 0 ≤ (if p.form = 0 then (p.ns + u) % 128 else p.ns) ∧ (if p.form = 0 then (p.ns + u) % 128 else p.ns) ≤ 127
    split <;> omega
  · show 0 ≤ (p.nr + u) % 128 ∧ (p.nr + u) % 128 ≤ 127
    omega
  · rcases hk with ⟨a, b, c⟩ | ⟨a, b, c, d, e⟩ | ⟨a, _⟩
    · exact .inl ⟨a, b, c⟩
    · refine .inr (.inl ⟨a, b, ?_, d, e⟩)
      show (if p.form = 0 then (p.ns + u) % 128 else p.ns) = 0
      rw [if_neg (by omega)]; exact c
    · exact absurd a hf
theorem event_up {p : PV} (h : MayP p) (hf : p.form ≠ 2) (st vr va vs u : Int) : eventP (upP p u) st ((vr + u) % 128) ((va + u) % 128) ((vs + u) % 128) = eventP p st vr va vs := by
  have hm := may_up h hf u
  have t1 : typeP (upP p u) = 2 := by rw [typeP_yes hm, if_pos (show (upP p u).form ≠ 2 from hf)]
  have t2 : typeP p = 2 := by rw [typeP_yes h, if_pos hf]
  have hw : wrongP (upP p u) ((va + u) % 128) ((vs + u) % 128) = wrongP p va vs := by
    unfold wrongP
    show (p.form != 2 && !inR ((p.nr + u) % 128) ((va + u) % 128) ((vs + u) % 128)) = _
    rw [inR_up]
  have hns := h.1.2.2.1
  have hb : evB (upP p u) ((vr + u) % 128) = evB p vr := by
    unfold evB
    by_cases f0 : p.form = 0
    · rw [if_pos f0, if_pos (show (upP p u).form = 0 from f0)]
      show (if (if p.form = 0 then (p.ns + u) % 128 else p.ns) = (vr + u) % 128 % 128 then (13 : Int) else 16) = _
      rw [if_pos f0]
      by_cases e : p.ns = vr % 128
      · rw [if_pos e, if_pos (by omega)]
      · rw [if_neg e, if_neg (by omega)]
    · rw [if_neg f0, if_neg (show ¬ (upP p u).form = 0 from f0)]; rfl
  have ht : evT (upP p u) st ((vr + u) % 128) = evT p st vr := by
    unfold evT
    rw [hb]; rfl
  unfold eventP
  rw [t1, t2, hw, ht]; rfl
end Go.Proofs.Ytgpmimohoepeiaa

namespace Go.Proofs.Ytgpmimohoepeiaa
open Go.RowKit
set_option linter.unusedVariables false
set_option linter.unusedSimpArgs false

theorem and_ring (a b : Int) : bits BinOp.and IntKind.i64 (wrap64 (b - a)) 127 = dist a b := by
  rw [Go.i64_and127]
  unfold dist wrap64
  omega
/-- how far behind the plain one an event stands -/
def markP (p : PV) (st : Int) : Int := if asksP p = true then 1 else if p.poll = true ∧ 11 ≤ st then 2 else 0
theorem wrongP_u {p : PV} (h : p.form = 2) (va vs : Int) : wrongP p va vs = false := by unfold wrongP; rw [h]; rfl
theorem wrongP_n {p : PV} (h : p.form ≠ 2) (va vs : Int) : wrongP p va vs = decide (dist va vs < dist va p.nr) := by
  unfold wrongP inR
  rw [show (p.form != 2) = true by simp [h], Bool.true_and, ← decide_not]
  exact decide_eq_decide.2 (by omega)
end Go.Proofs.Ytgpmimohoepeiaa

namespace Go.Proofs.Ytgpmimohoepeiaa
open Go.RowKit
set_option linter.unusedVariables false
set_option linter.unusedSimpArgs false

set_option maxHeartbeats 1600000 in
theorem ref_type_any (p : PV) (A : Option Addr) (c : Nat) (w : World) :
    Calls Try.prog 40 #[.agg #[.int .i64 p.to, .int .i64 p.frm, .bool p.resp, .int .i64 p.form, .int .i64 p.kind, .int .i64 p.ns, .int .i64 p.nr, .bool p.poll, .slice A p.info.length c]] w fun e w' => e = .returned (.int .i64 (typeP p)) ∧ Below w.heap.size w w' := by
  obtain ⟨w1, hw1⟩ : ∃ w1, Hid (w1 = w.alloc (.cells #[.int .i64 p.to, .int .i64 p.frm, .bool p.resp, .int .i64 p.form, .int .i64 p.kind, .int .i64 p.ns, .int .i64 p.nr, .bool p.poll, .slice A p.info.length c] 29)) := ⟨_, cover rfl⟩
  have hs1 : w.heap.size < w1.heap.size := by rw [hw1.out]; simp
  have H1 : Hid (Below w.heap.size w w1) := cover (by rw [hw1.out]; exact (Below.refl _ _).alloc (Nat.le_refl _) _)
  have G1 : Hid (w1.heap[w.heap.size]? = some (.cells #[.int .i64 p.to, .int .i64 p.frm, .bool p.resp, .int .i64 p.form, .int .i64 p.kind, .int .i64 p.ns, .int .i64 p.nr, .bool p.poll, .slice A p.info.length c] 29 (0, 0))) := cover (by rw [hw1.out]; exact heap_alloc_new _ _)
  obtain ⟨p0, p1, p2, p3, p4, p5, p6, p7, p8⟩ := pdu_cells G1.out
  go_enter Try.func40, Try.ntmps40
  go_wp2_with fail
  rw [← hw1.out]
  refine (ref_may_any p A c w1).mono ?_
  rintro e w2 ⟨rfl, hb2⟩
  have H2 := cover (H1.out.trans (hb2.mono (by omega)))
  have G2 := cover ((hb2.block _ (by omega)).trans G1.out)
  clear hb2 p0 p1 p2 p3 p4 p5 p6 p7 p8
  obtain ⟨p0, p1, p2, p3, p4, p5, p6, p7, p8⟩ := pdu_cells G2.out
  rcases hm : mayB p with _ | _
  · have HT : Hid (typeP p = 0) := cover (typeP_no (fun h => by rw [mayB_yes h] at hm; cases hm))
    clear hm
    go_wp2
    go_ret
    exact ⟨ret_int HT.out.symm, H2.out⟩
  have HT := cover (typeP_yes (mayB_iff.1 hm))
  clear hm
  by_cases hf : p.form = 2
  · rw [if_neg (by omega)] at HT
    rw [hf] at p3
    clear hf
    by_cases k0 : p.kind = 0
    · rw [if_pos (.inl k0)] at HT
      rw [k0] at p4
      clear k0
      go_wp2
      go_ret
      exact ⟨ret_int HT.out.symm, H2.out⟩
    by_cases k1 : p.kind = 1
    · rw [if_pos (.inr (.inl k1))] at HT
      rw [k1] at p4
      clear k0 k1
      go_wp2
      go_ret
      exact ⟨ret_int HT.out.symm, H2.out⟩
    by_cases k2 : p.kind = 2
    · rw [if_pos (.inr (.inr k2))] at HT
      rw [k2] at p4
      clear k0 k1 k2
      go_wp2
      go_ret
      exact ⟨ret_int HT.out.symm, H2.out⟩
    rw [if_neg (by omega)] at HT
    by_cases k8 : p.kind = 8
    · rw [if_pos (.inl k8)] at HT
      rw [k8] at p4
      clear k0 k1 k2 k8
      go_wp2
      go_ret
      exact ⟨ret_int HT.out.symm, H2.out⟩
    by_cases k9 : p.kind = 9
    · rw [if_pos (.inr k9)] at HT
      rw [k9] at p4
      clear k0 k1 k2 k8 k9
      go_wp2
      go_ret
      exact ⟨ret_int HT.out.symm, H2.out⟩
    rw [if_neg (by omega)] at HT
    have b0 : (p.kind == 0) = false := beq_eq_false_iff_ne.2 k0
    have b1 : (p.kind == 1) = false := beq_eq_false_iff_ne.2 k1
    have b2 : (p.kind == 2) = false := beq_eq_false_iff_ne.2 k2
    have b8 : (p.kind == 8) = false := beq_eq_false_iff_ne.2 k8
    have b9 : (p.kind == 9) = false := beq_eq_false_iff_ne.2 k9
    clear k0 k1 k2 k8 k9
    go_wp2
    go_ret
    exact ⟨ret_int HT.out.symm, H2.out⟩
  · rw [if_pos hf] at HT
    go_wp2
    go_ret
    exact ⟨ret_int HT.out.symm, H2.out⟩
end Go.Proofs.Ytgpmimohoepeiaa
