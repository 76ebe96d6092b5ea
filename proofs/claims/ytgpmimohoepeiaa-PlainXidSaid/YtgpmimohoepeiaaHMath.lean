/- Type 1, plainly: what is asked, whom a unit concerns, what users are told, what is sent back. No program is named here. -/
import Derived.WalkKit
import Derived.Test.YtgpmimohoepeiaaUMath
import Derived.Test.YtgpmimohoepeiaaGMath
import Derived.Test.YtgpmimohoepeiaaSMath
namespace Go.Proofs.Ytgpmimohoepeiaa
open Go.RowKit
set_option linter.unusedVariables false

/-- an address -/
structure A6 where
  a0 : Int
  a1 : Int
  a2 : Int
  a3 : Int
  a4 : Int
  a5 : Int
theorem A6.ext' {p q : A6} (h0 : p.a0 = q.a0) (h1 : p.a1 = q.a1) (h2 : p.a2 = q.a2) (h3 : p.a3 = q.a3) (h4 : p.a4 = q.a4) (h5 : p.a5 = q.a5) : p = q := by
  cases p; cases q; simp at *; exact ⟨h0, h1, h2, h3, h4, h5⟩
/-- what a user is told -/
structure IV where
  kind : Int
  sap : Int
  far : Int
  peer : A6
  b : List Int
  st : Int
/-- what may be asked: to whom at least; what came of it (1: argument, 3: long) -/
def askP (q : PV) (lo : Int) (b : List Int) : PV × Int := if OkSap q.frm ∧ lo ≤ q.to ∧ q.to ≤ 255 then (if 1024 < b.length then (zPV, 3) else ({ q with info := b }, 0)) else (zPV, 1)
def uiQ (frm to : Int) : PV := ⟨to, frm, false, 2, 0, 0, 0, false, []⟩
def xidQ (frm to : Int) : PV := ⟨to, frm, false, 2, 1, 0, 0, true, []⟩
def testQ (frm to : Int) : PV := ⟨to, frm, false, 2, 2, 0, 0, true, []⟩
/-- an exchange -/
def askX (frm to wd : Int) : PV × Int := if 0 ≤ wd ∧ wd ≤ 127 then askP (xidQ frm to) 0 [129, 7, 2 * wd] else (zPV, 1)
/-- may it be, without what stands behind? -/
theorem may_bare {q : PV} (hf : q.form = 2) (hk : 0 ≤ q.kind ∧ q.kind ≤ 2) (hr : q.resp = false) (hs : q.ns = 0) (hn : q.nr = 0) (hi : q.info = []) : MayP q ↔ (0 ≤ q.to ∧ q.to ≤ 255) ∧ (0 ≤ q.frm ∧ q.frm ≤ 254 ∧ q.frm % 2 = 0) := by
  unfold MayP MayN MayF MayU
  rw [hf, hr, hs, hn, hi]
  simp
  omega
theorem sap_bare {n : Int} : OkSap n ↔ n ≠ 0 ∧ 0 ≤ n ∧ n ≤ 254 ∧ n % 2 = 0 := by unfold OkSap; omega
/-- is it of type 1? -/
def IsOne (p : PV) : Prop := MayP p ∧ p.form = 2 ∧ p.kind ≤ 2
theorem IsOne.kinds {p : PV} (h : IsOne p) : p.kind = 0 ∨ p.kind = 1 ∨ p.kind = 2 := by
  have := h.1.fits.2
  have := h.2
  omega
/-- what a class takes; the station itself takes all -/
def typS (c : Int) : Int := if c = 1 then 1 else if c = 2 then 3 else if c = 3 then 5 else 7
/-- whom a command concerns -/
def askedS (l : List SV) (p : PV) : List Int := if p.frm = 0 ∧ p.to ≠ 0 then [] else (if p.to = 0 ∨ p.to = 255 then [0] else []) ++ hearS l p.to
/-- whom a response concerns -/
def askerS (l : List SV) (p : PV) : List Int := if clsS l p.to = 0 then [] else [p.to]
def indV (k : Int) (pe : A6) (p : PV) (sap : Int) : IV := ⟨k, sap, p.frm, pe, p.info, 0⟩
def ansV (l : List SV) (p : PV) (sap : Int) : PV := ⟨p.frm, sap, true, 2, p.kind, 0, 0, p.poll, if p.kind = 1 then [129, typS (clsS l sap), 128] else p.info⟩
open Classical in
/-- what users are told -/
noncomputable def toldP (l : List SV) (pe : A6) (p : PV) : List IV :=
  if IsOne p then (if p.kind = 0 then (hearS l p.to).map (indV 1 pe p) else if p.resp = true then (askerS l p).map (indV (p.kind + 1) pe p) else []) else []
open Classical in
/-- what is sent back -/
noncomputable def sentP (l : List SV) (p : PV) : List PV :=
  if IsOne p ∧ p.kind ≠ 0 ∧ p.resp = false then (askedS l p).map (ansV l p) else []
theorem toldP_no {l : List SV} {pe : A6} {p : PV} (h : ¬ IsOne p) : toldP l pe p = [] := by unfold toldP; rw [if_neg h]
theorem toldP_ui {l : List SV} {pe : A6} {p : PV} (h : IsOne p) (hk : p.kind = 0) : toldP l pe p = (hearS l p.to).map (indV 1 pe p) := by unfold toldP; rw [if_pos h, if_pos hk]
theorem toldP_resp {l : List SV} {pe : A6} {p : PV} (h : IsOne p) (hk : p.kind ≠ 0) (hr : p.resp = true) : toldP l pe p = (askerS l p).map (indV (p.kind + 1) pe p) := by unfold toldP; rw [if_pos h, if_neg hk, if_pos hr]
theorem toldP_cmd {l : List SV} {pe : A6} {p : PV} (hk : p.kind ≠ 0) (hr : p.resp = false) : toldP l pe p = [] := by
  unfold toldP
  by_cases h : IsOne p
  · rw [if_pos h, if_neg hk, if_neg (by rw [hr]; decide)]
  · rw [if_neg h]
theorem sentP_no {l : List SV} {p : PV} (h : ¬ IsOne p) : sentP l p = [] := by unfold sentP; rw [if_neg (fun h' => h h'.1)]
theorem sentP_ui {l : List SV} {p : PV} (hk : p.kind = 0) : sentP l p = [] := by unfold sentP; rw [if_neg (fun h' => h'.2.1 hk)]
theorem sentP_resp {l : List SV} {p : PV} (hr : p.resp = true) : sentP l p = [] := by unfold sentP; rw [if_neg (fun h' => by rw [hr] at h'; cases h'.2.2)]
theorem sentP_cmd {l : List SV} {p : PV} (h : IsOne p) (hk : p.kind ≠ 0) (hr : p.resp = false) : sentP l p = (askedS l p).map (ansV l p) := by unfold sentP; rw [if_pos ⟨h, hk, hr⟩]
theorem ui_resp {p : PV} (h : IsOne p) (hk : p.kind = 0) : p.resp = false := by
  have hf := h.1.2
  unfold MayF MayU at hf
  rcases hf with hf | hf | hf
  · have := h.2.1; omega
  · have := h.2.1; omega
  · rcases hf.2.2.2 with h | h | h | h | h | h | h
    · exact h.2
    all_goals omega
theorem hear_bound {l : List SV} (h : InS l) {n x : Int} (hx : x ∈ hearS l n) : 2 ≤ x ∧ x ≤ 254 := by
  have := ok_has h (hear_active hx)
  unfold OkSap at this; omega
theorem hear_len16 {l : List SV} (h : InS l) (n : Int) : (hearS l n).length ≤ 16 := Nat.le_trans (hear_len l n) h.room
theorem asked_len {l : List SV} (h : InS l) (p : PV) : (askedS l p).length ≤ 17 := by
  unfold askedS
  have := hear_len16 h p.to
  split
  · simp
  · split <;> simp <;> omega
theorem asker_len (l : List SV) (p : PV) : (askerS l p).length ≤ 1 := by unfold askerS; split <;> simp
theorem askP_yes {q : PV} {lo : Int} {b : List Int} (h : OkSap q.frm ∧ lo ≤ q.to ∧ q.to ≤ 255) (hb : b.length ≤ 1024) : askP q lo b = ({ q with info := b }, 0) := by unfold askP; rw [if_pos h, if_neg (by omega)]
theorem askP_no {q : PV} {lo : Int} {b : List Int} (h : ¬ (OkSap q.frm ∧ lo ≤ q.to ∧ q.to ≤ 255)) : askP q lo b = (zPV, 1) := by unfold askP; rw [if_neg h]
theorem askP_long {q : PV} {lo : Int} {b : List Int} (h : OkSap q.frm ∧ lo ≤ q.to ∧ q.to ≤ 255) (hb : 1024 < b.length) : askP q lo b = (zPV, 3) := by unfold askP; rw [if_pos h, if_pos hb]
theorem typ_small (c : Int) : 0 ≤ typS c ∧ typS c ≤ 7 := by unfold typS; split <;> (try split) <;> (try split) <;> omega
end Go.Proofs.Ytgpmimohoepeiaa
