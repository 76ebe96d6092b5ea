/- Units of the link, plainly: which may be, their bytes, what bytes are: no program is named here. -/
import Derived.WalkKit
import Derived.Test.YtefbmhkchlhgnaaOMath
namespace Go.Proofs.Ytefbmhkchlhgnaa
open Go.RowKit

/-- a unit: to whom, from whom, a response?, format, kind, N(S), N(R), P/F, what stands behind -/
structure PV where
  to : Int
  frm : Int
  resp : Bool
  form : Int
  kind : Int
  ns : Int
  nr : Int
  poll : Bool
  info : List Int
theorem PV.ext' {p q : PV} (h1 : p.to = q.to) (h2 : p.frm = q.frm) (h3 : p.resp = q.resp) (h4 : p.form = q.form) (h5 : p.kind = q.kind) (h6 : p.ns = q.ns) (h7 : p.nr = q.nr) (h8 : p.poll = q.poll) (h9 : p.info = q.info) : p = q := by
  cases p; cases q; simp at *; exact ⟨h1, h2, h3, h4, h5, h6, h7, h8, h9⟩
def zPV : PV := ⟨0, 0, false, 0, 0, 0, 0, false, []⟩
def fl (b : Bool) : Int := if b then 1 else 0
theorem fl_le (b : Bool) : 0 ≤ fl b ∧ fl b ≤ 1 := by cases b <;> decide
def codeI (k : Int) : Int := if k = 0 then 3 else if k = 1 then 175 else if k = 2 then 227 else if k = 3 then 111 else if k = 4 then 67 else if k = 5 then 99 else if k = 6 then 15 else if k = 7 then 135 else if k = 8 then 103 else if k = 9 then 231 else 0
/-- of U: what each kind asks for -/
def MayU (p : PV) : Prop :=
  (p.kind = 0 ∧ p.resp = false) ∨ p.kind = 1 ∨ p.kind = 2 ∨ ((p.kind = 3 ∨ p.kind = 4) ∧ p.resp = false ∧ p.info.length = 4 ∧ p.to % 2 = 0) ∨
  ((p.kind = 5 ∨ p.kind = 6) ∧ p.resp = true ∧ p.info.length = 4 ∧ p.to % 2 = 0) ∨ (p.kind = 7 ∧ p.resp = true ∧ p.info.length = 5 ∧ p.to % 2 = 0) ∨ ((p.kind = 8 ∨ p.kind = 9) ∧ p.to % 2 = 0)
/-- of each format -/
def MayF (p : PV) : Prop :=
  (p.form = 0 ∧ p.kind = 0 ∧ p.to % 2 = 0) ∨ (p.form = 1 ∧ (0 ≤ p.kind ∧ p.kind ≤ 2) ∧ p.ns = 0 ∧ p.info.length = 0 ∧ p.to % 2 = 0) ∨ (p.form = 2 ∧ p.ns = 0 ∧ p.nr = 0 ∧ MayU p)
def MayN (p : PV) : Prop := (0 ≤ p.to ∧ p.to ≤ 255) ∧ (0 ≤ p.frm ∧ p.frm ≤ 254 ∧ p.frm % 2 = 0) ∧ (0 ≤ p.ns ∧ p.ns ≤ 127) ∧ (0 ≤ p.nr ∧ p.nr ≤ 127) ∧ p.info.length ≤ 1040
/-- may it be? -/
def MayP (p : PV) : Prop := MayN p ∧ MayF p
/-- its control field -/
def ctl (p : PV) : List Int := if p.form = 0 then [2 * p.ns, 2 * p.nr + fl p.poll] else if p.form = 1 then [1 + 4 * p.kind, 2 * p.nr + fl p.poll] else [codeI p.kind + 16 * fl p.poll]
/-- its bytes -/
def encP (p : PV) : List Int := p.to :: (p.frm + fl p.resp) :: (ctl p ++ p.info)
/-- which kind has this code -/
def kindOf (c : Int) : Int := if c = 3 then 0 else if c = 175 then 1 else if c = 227 then 2 else if c = 111 then 3 else if c = 67 then 4 else if c = 99 then 5 else if c = 15 then 6 else if c = 135 then 7 else if c = 103 then 8 else if c = 231 then 9 else -1
def bit16 (c : Int) : Int := c / 16 % 2
/-- what bytes of I or S read as -/
def candI (x0 x1 c x3 : Int) (r : List Int) : PV := ⟨x0, x1 - x1 % 2, decide (x1 % 2 = 1), 0, 0, c / 2, x3 / 2, decide (x3 % 2 = 1), r⟩
def candS (x0 x1 c x3 : Int) (r : List Int) : PV := ⟨x0, x1 - x1 % 2, decide (x1 % 2 = 1), 1, c / 4, 0, x3 / 2, decide (x3 % 2 = 1), r⟩
def candU (x0 x1 c : Int) (r : List Int) : PV := ⟨x0, x1 - x1 % 2, decide (x1 % 2 = 1), 2, kindOf (c - 16 * bit16 c), 0, 0, decide (bit16 c = 1), r⟩
open Classical in
noncomputable def orForm (p : PV) : PV × Int := if MayP p then (p, 0) else (zPV, 4)
/-- what bytes are, or what is wrong -/
noncomputable def decR : List Int → PV × Int
  | x0 :: x1 :: c :: r =>
    if c % 4 = 3 then orForm (candU x0 x1 c r)
    else match r with
      | [] => (zPV, 2)
      | x3 :: r => if c % 2 = 0 then orForm (candI x0 x1 c x3 r) else if 9 < c then (zPV, 4) else orForm (candS x0 x1 c x3 r)
  | _ => (zPV, 2)
theorem decR_3 (x0 x1 c x3 : Int) (r : List Int) : decR (x0 :: x1 :: c :: x3 :: r) = if c % 4 = 3 then orForm (candU x0 x1 c (x3 :: r)) else if c % 2 = 0 then orForm (candI x0 x1 c x3 r) else if 9 < c then (zPV, 4) else orForm (candS x0 x1 c x3 r) := rfl
theorem decR_2 (x0 x1 c : Int) : decR [x0, x1, c] = if c % 4 = 3 then orForm (candU x0 x1 c []) else (zPV, 2) := rfl
theorem decR_u {x0 x1 c : Int} {r : List Int} (h : c % 4 = 3) : decR (x0 :: x1 :: c :: r) = orForm (candU x0 x1 c r) := by
  cases r with
  | nil => rw [decR_2, if_pos h]
  | cons x3 r => rw [decR_3, if_pos h]
theorem orForm_yes {p : PV} (h : MayP p) : orForm p = (p, 0) := by simp [orForm, h]
theorem orForm_no {p : PV} (h : ¬ MayP p) : orForm p = (zPV, 4) := by simp [orForm, h]
theorem codeI_U {k : Int} (h0 : 0 ≤ k) (h9 : k ≤ 9) : codeI k % 4 = 3 ∧ bit16 (codeI k) = 0 ∧ 0 ≤ codeI k ∧ codeI k ≤ 231 ∧ kindOf (codeI k) = k ∧ bit16 (codeI k + 16) = 1 ∧ (codeI k + 16) % 4 = 3 := by
  obtain ⟨n, rfl⟩ : ∃ n : Nat, k = (n : Int) := ⟨k.toNat, by omega⟩
  have hn : n ≤ 9 := by omega
  match n, hn with
  | 0, _ | 1, _ | 2, _ | 3, _ | 4, _ | 5, _ | 6, _ | 7, _ | 8, _ | 9, _ => decide
theorem MayU.range {p : PV} (h : MayU p) : 0 ≤ p.kind ∧ p.kind ≤ 9 := by
  rcases h with h | h | h | h | h | h | h <;> omega
theorem resp_back {x : Int} (b : Bool) (h : x % 2 = 0) : (x + fl b) - (x + fl b) % 2 = x ∧ decide ((x + fl b) % 2 = 1) = b := by
  cases b
  · simp only [fl]; refine ⟨by simp; omega, by simp; omega⟩
  · simp only [fl]; refine ⟨by simp; omega, by simp; omega⟩
theorem poll_back (n : Int) (b : Bool) : (2 * n + fl b) / 2 = n ∧ decide ((2 * n + fl b) % 2 = 1) = b := by
  cases b
  · simp only [fl]; refine ⟨by simp, by simp⟩
  · simp only [fl]; refine ⟨by simp; omega, decide_eq_true (by simp)⟩
/-- what a unit that may be keeps, whatever stands behind it -/
def Fits (p : PV) : Prop := p.frm % 2 = 0 ∧ ((p.form = 0 ∧ p.kind = 0) ∨ (p.form = 1 ∧ (0 ≤ p.kind ∧ p.kind ≤ 2) ∧ p.ns = 0) ∨ (p.form = 2 ∧ p.ns = 0 ∧ p.nr = 0 ∧ (0 ≤ p.kind ∧ p.kind ≤ 9)))
theorem MayP.fits {p : PV} (h : MayP p) : Fits p := by
  obtain ⟨⟨_, ⟨_, _, h2⟩, _, _, _⟩, hf⟩ := h
  refine ⟨h2, ?_⟩
  rcases hf with ⟨f0, f1, _⟩ | ⟨f0, f1, f2, _⟩ | ⟨f0, f1, f2, f3⟩
  · exact .inl ⟨f0, f1⟩
  · exact .inr (.inl ⟨f0, f1, f2⟩)
  · exact .inr (.inr ⟨f0, f1, f2, f3.range⟩)
/-- what is written so is read so, if it may be -/
theorem dec_any {p : PV} (hm : Fits p) : decR (encP p) = orForm p := by
  obtain ⟨h2, hf⟩ := hm
  obtain ⟨r1, r2⟩ := resp_back p.resp h2
  obtain ⟨q1, q2⟩ := poll_back p.nr p.poll
  rcases hf with ⟨f0, f1⟩ | ⟨f0, f1, f2⟩ | ⟨f0, f1, f2, f3⟩
  · have e : encP p = p.to :: (p.frm + fl p.resp) :: (2 * p.ns) :: (2 * p.nr + fl p.poll) :: p.info := by unfold encP ctl; rw [if_pos f0]; rfl
    rw [e]
    rw [decR_3, if_neg (by omega)]
    rw [if_pos (by omega)]
    have e2 : candI p.to (p.frm + fl p.resp) (2 * p.ns) (2 * p.nr + fl p.poll) p.info = p := PV.ext' rfl r1 r2 f0.symm f1.symm (by show 2 * p.ns / 2 = _; omega) q1 q2 rfl
    rw [e2]
  · have e : encP p = p.to :: (p.frm + fl p.resp) :: (1 + 4 * p.kind) :: (2 * p.nr + fl p.poll) :: p.info := by unfold encP ctl; rw [if_neg (by omega), if_pos f0]; rfl
    rw [e]
    rw [decR_3, if_neg (by omega)]
    rw [if_neg (by omega), if_neg (by omega)]
    have e2 : candS p.to (p.frm + fl p.resp) (1 + 4 * p.kind) (2 * p.nr + fl p.poll) p.info = p := PV.ext' rfl r1 r2 f0.symm (by show (1 + 4 * p.kind) / 4 = _; omega) f2.symm q1 q2 rfl
    rw [e2]
  · have e : encP p = p.to :: (p.frm + fl p.resp) :: (codeI p.kind + 16 * fl p.poll) :: p.info := by unfold encP ctl; rw [if_neg (by omega), if_neg (by omega)]; rfl
    obtain ⟨k1, k2, k3, k4, k5, k6, k7⟩ := codeI_U f3.1 f3.2
    rw [e]
    have c4 : (codeI p.kind + 16 * fl p.poll) % 4 = 3 := by have := fl_le p.poll; omega
    rw [decR_u c4]
    have hb : bit16 (codeI p.kind + 16 * fl p.poll) = fl p.poll := by
      cases hp : p.poll
      · simp only [fl]; simp; exact k2
      · simp only [fl]; simp; exact k6
    have e2 : candU p.to (p.frm + fl p.resp) (codeI p.kind + 16 * fl p.poll) p.info = p := PV.ext' rfl r1 r2 f0.symm (by
        show kindOf (codeI p.kind + 16 * fl p.poll - 16 * bit16 (codeI p.kind + 16 * fl p.poll)) = _
        rw [hb, show codeI p.kind + 16 * fl p.poll - 16 * fl p.poll = codeI p.kind by omega]; exact k5) f1.symm f2.symm (by
        show decide (bit16 (codeI p.kind + 16 * fl p.poll) = 1) = _
        rw [hb]; cases p.poll <;> decide) rfl
    rw [e2]
/-- what is written is read as it was -/
theorem dec_enc {p : PV} (hm : MayP p) : decR (encP p) = (p, 0) := (dec_any hm.fits).trans (orForm_yes hm)
theorem kindOf_code {c : Int} (h : 0 ≤ kindOf c) : codeI (kindOf c) = c := by
  by_cases a : c = 3 ∨ c = 175 ∨ c = 227 ∨ c = 111 ∨ c = 67 ∨ c = 99 ∨ c = 15 ∨ c = 135 ∨ c = 103 ∨ c = 231
  · rcases a with a | a | a | a | a | a | a | a | a | a <;> subst a <;> decide
  · exfalso
    have : kindOf c = -1 := by
      unfold kindOf
      rw [if_neg (by omega), if_neg (by omega), if_neg (by omega), if_neg (by omega), if_neg (by omega), if_neg (by omega), if_neg (by omega), if_neg (by omega), if_neg (by omega), if_neg (by omega)]
    omega
theorem orForm_some {p q : PV} (h : orForm p = (q, 0)) : q = p ∧ MayP p := by
  by_cases hm : MayP p
  · rw [orForm_yes hm] at h; injection h with h; exact ⟨h.symm, hm⟩
  · rw [orForm_no hm] at h; injection h with _ h; omega
/-- bytes that are one are written as they were -/
theorem enc_dec {b : List Int} (hb : Bts b) {p : PV} (h : decR b = (p, 0)) : MayP p ∧ encP p = b := by
  match b, hb, h with
  | [], _, h | [_], _, h | [_, _], _, h => simp [decR] at h
  | x0 :: x1 :: c :: r, hb, h =>
    have h1 := hb x1 (by simp)
    have hc := hb c (by simp)
    have hx1 : x1 - x1 % 2 + fl (decide (x1 % 2 = 1)) = x1 := by
      by_cases h2 : x1 % 2 = 1
      · rw [decide_eq_true h2]; simp only [fl]; simp; omega
      · rw [decide_eq_false h2]; simp only [fl]; simp; omega
    by_cases h4 : c % 4 = 3
    · rw [decR_u h4] at h
      obtain ⟨rfl, hm⟩ := orForm_some h
      refine ⟨hm, ?_⟩
      have hu : MayU (candU x0 x1 c r) := by
        rcases hm.2 with hf | hf | hf
        · exact absurd hf.1 (by show ¬ (2 : Int) = 0; decide)
        · exact absurd hf.1 (by show ¬ (2 : Int) = 1; decide)
        · exact hf.2.2.2
      have hk := kindOf_code (c := c - 16 * bit16 c) hu.range.1
      have hbit : 16 * fl (decide (bit16 c = 1)) = 16 * bit16 c := by
        have : bit16 c = 0 ∨ bit16 c = 1 := by unfold bit16; omega
        rcases this with h0 | h0 <;> rw [h0] <;> decide
      unfold encP ctl
      rw [if_neg (by show ¬ (2 : Int) = 0; decide), if_neg (by show ¬ (2 : Int) = 1; decide)]
      show x0 :: (x1 - x1 % 2 + fl (decide (x1 % 2 = 1))) :: (codeI (kindOf (c - 16 * bit16 c)) + 16 * fl (decide (bit16 c = 1))) :: r = _
      rw [hx1, hk, hbit, show c - 16 * bit16 c + 16 * bit16 c = c by omega]
    · match r, h with
      | [], h => rw [decR_2, if_neg h4] at h; injection h with _ h; omega
      | x3 :: r, h =>
        have h3 := hb x3 (by simp)
        have hx3 : 2 * (x3 / 2) + fl (decide (x3 % 2 = 1)) = x3 := by
          by_cases h2 : x3 % 2 = 1
          · rw [decide_eq_true h2]; simp only [fl]; simp; omega
          · rw [decide_eq_false h2]; simp only [fl]; simp; omega
        rw [decR_3, if_neg h4] at h
        by_cases hc2 : c % 2 = 0
        · rw [if_pos hc2] at h
          obtain ⟨rfl, hm⟩ := orForm_some h
          refine ⟨hm, ?_⟩
          unfold encP ctl
          rw [if_pos (show (candI x0 x1 c x3 r).form = 0 from rfl)]
          show x0 :: (x1 - x1 % 2 + fl (decide (x1 % 2 = 1))) :: (2 * (c / 2)) :: (2 * (x3 / 2) + fl (decide (x3 % 2 = 1))) :: r = _
          rw [hx1, hx3, show 2 * (c / 2) = c by omega]
        · rw [if_neg hc2] at h
          by_cases h9 : 9 < c
          · rw [if_pos h9] at h; injection h with _ h; omega
          · rw [if_neg h9] at h
            obtain ⟨rfl, hm⟩ := orForm_some h
            refine ⟨hm, ?_⟩
            unfold encP ctl
            rw [if_neg (by show ¬ (1 : Int) = 0; decide), if_pos (show (candS x0 x1 c x3 r).form = 1 from rfl)]
            show x0 :: (x1 - x1 % 2 + fl (decide (x1 % 2 = 1))) :: (1 + 4 * (c / 4)) :: (2 * (x3 / 2) + fl (decide (x3 % 2 = 1))) :: r = _
            rw [hx1, hx3, show 1 + 4 * (c / 4) = c by omega]
/-- unlike units have unlike bytes -/
theorem enc_inj {p q : PV} (hp : MayP p) (hq : MayP q) (h : encP p = encP q) : p = q := by
  have := (dec_enc hp).symm.trans ((congrArg decR h).trans (dec_enc hq))
  injection this
/-- turned from a response to none, or back -/
theorem may_resp {p : PV} (h : MayP p) : MayP { p with resp := !p.resp } ↔ (p.form ≠ 2 ∨ p.kind = 1 ∨ p.kind = 2 ∨ p.kind = 8 ∨ p.kind = 9) := by
  obtain ⟨hn, hf⟩ := h
  constructor
  · rintro ⟨_, hg⟩
    rcases hf with hf | hf | ⟨f0, _, _, hu⟩
    · left; omega
    · left; omega
    · right
      rcases hg with hg | hg | ⟨_, _, _, hv⟩
      · exact absurd hg.1 (by show ¬ p.form = 0; omega)
      · exact absurd hg.1 (by show ¬ p.form = 1; omega)
      · unfold MayU at hu hv
        simp only [] at hv
        cases hr : p.resp <;> rw [hr] at hu hv <;> simp at hu hv <;> omega
  · intro hk
    refine ⟨hn, ?_⟩
    rcases hf with hf | hf | ⟨f0, f1, f2, hu⟩
    · exact .inl hf
    · exact .inr (.inl hf)
    · refine .inr (.inr ⟨f0, f1, f2, ?_⟩)
      unfold MayU at hu ⊢
      simp only []
      rcases hk with hk | hk | hk | hk | hk
      · exact absurd f0 hk
      · exact .inr (.inl hk)
      · exact .inr (.inr (.inl hk))
      · refine .inr (.inr (.inr (.inr (.inr (.inr ⟨.inl hk, ?_⟩))))); omega
      · refine .inr (.inr (.inr (.inr (.inr (.inr ⟨.inr hk, ?_⟩))))); omega
theorem may_poll {p : PV} (h : MayP p) (b : Bool) : MayP { p with poll := b } := h
theorem may_ns {p : PV} (h : MayP p) : MayP { p with ns := p.ns + 1 } ↔ (p.form = 0 ∧ p.ns < 127) := by
  obtain ⟨⟨h1, h2, h3, h4, h5⟩, hf⟩ := h
  constructor
  · rintro ⟨⟨_, _, g3, _, _⟩, hg⟩
    have g3 : 0 ≤ p.ns + 1 ∧ p.ns + 1 ≤ 127 := g3
    rcases hf with hf | hf | hf
    · exact ⟨hf.1, by omega⟩
    · rcases hg with hg | hg | hg
      · exact absurd (show p.form = 0 from hg.1) (by omega)
      · exact absurd (show p.ns + 1 = 0 from hg.2.2.1) (by omega)
      · exact absurd (show p.form = 2 from hg.1) (by omega)
    · rcases hg with hg | hg | hg
      · exact absurd (show p.form = 0 from hg.1) (by omega)
      · exact absurd (show p.form = 1 from hg.1) (by omega)
      · exact absurd (show p.ns + 1 = 0 from hg.2.1) (by omega)
  · rintro ⟨f0, f1⟩
    refine ⟨⟨h1, h2, (by show 0 ≤ p.ns + 1 ∧ p.ns + 1 ≤ 127; omega), h4, h5⟩, .inl ?_⟩
    rcases hf with hf | hf | hf
    · exact hf
    · omega
    · omega
/-- what goes to all is one of three -/
theorem may_odd {p : PV} (h : MayP p) (ho : p.to % 2 = 1) : p.form = 2 ∧ (p.kind = 0 ∨ p.kind = 1 ∨ p.kind = 2) := by
  obtain ⟨_, hf⟩ := h
  rcases hf with hf | hf | ⟨f0, _, _, hu⟩
  · omega
  · omega
  · refine ⟨f0, ?_⟩; unfold MayU at hu; omega
/-- how long what stands before is -/
def headN (p : PV) : Nat := if p.form = 2 then 3 else 4
theorem head_len {p : PV} (h : Fits p) : (ctl p).length + 2 = headN p := by
  unfold ctl headN
  rcases h.2 with h | h | h
  · rw [if_pos h.1, if_neg (by omega)]; rfl
  · rw [if_neg (by omega), if_pos h.1, if_neg (by omega)]; rfl
  · rw [if_neg (by omega), if_neg (by omega), if_pos h.1]; rfl
theorem enc_len {p : PV} (h : Fits p) : (encP p).length = headN p + p.info.length := by
  have := head_len h
  unfold encP
  simp only [List.length_cons, List.length_append]; omega
theorem ctl_with (p : PV) (r : List Int) : ctl { p with info := r } = ctl p := rfl
/-- a beginning of one that may be -/
theorem dec_cut {p : PV} (h : MayP p) {k : Nat} (hk : headN p ≤ k) : decR ((encP p).take k) = orForm { p with info := p.info.take (k - headN p) } := by
  have hf := h.fits
  have hl := head_len hf
  have e : (encP p).take k = encP { p with info := p.info.take (k - headN p) } := by
    obtain ⟨m, rfl⟩ : ∃ m, k = (ctl p).length + m + 2 := ⟨k - headN p, by omega⟩
    unfold encP
    rw [ctl_with]
    show p.to :: (p.frm + fl p.resp) :: (ctl p ++ p.info).take ((ctl p).length + m) = _
    rw [List.take_length_add_append, show (ctl p).length + m + 2 - headN p = m by omega]; rfl
  rw [e]
  exact dec_any hf
theorem dec_short {p : PV} (h : MayP p) {k : Nat} (hk : k < headN p) : decR ((encP p).take k) = (zPV, 2) := by
  have hf := h.fits.2
  unfold encP
  match k, hk with
  | 0, _ => rfl
  | 1, _ => rfl
  | 2, _ => rfl
  | 3, hk =>
    unfold headN at hk
    rcases hf with hf | hf | hf
    · unfold ctl; rw [if_pos hf.1]
      show decR [p.to, p.frm + fl p.resp, 2 * p.ns] = _
      rw [decR_2, if_neg (by omega)]
    · unfold ctl; rw [if_neg (by omega), if_pos hf.1]
      show decR [p.to, p.frm + fl p.resp, 1 + 4 * p.kind] = _
      rw [decR_2, if_neg (by omega)]
    · rw [if_pos hf.1] at hk; omega
  | n + 4, hk => unfold headN at hk; split at hk <;> omega
/-- turned round -/
theorem may_swap {p : PV} (h : MayP p) : MayP { p with to := p.frm, frm := p.to } ↔ p.to % 2 = 0 := by
  obtain ⟨⟨h1, h2, h3, h4, h5⟩, hf⟩ := h
  constructor
  · rintro ⟨⟨_, g2, _⟩, _⟩; exact g2.2.2
  · intro he
    refine ⟨⟨(by show 0 ≤ p.frm ∧ p.frm ≤ 255; omega), (by show 0 ≤ p.to ∧ p.to ≤ 254 ∧ p.to % 2 = 0; omega), h3, h4, h5⟩, ?_⟩
    rcases hf with hf | hf | ⟨f0, f1, f2, hu⟩
    · exact .inl ⟨hf.1, hf.2.1, h2.2.2⟩
    · exact .inr (.inl ⟨hf.1, hf.2.1, hf.2.2.1, hf.2.2.2.1, h2.2.2⟩)
    · refine .inr (.inr ⟨f0, f1, f2, ?_⟩)
      have hfe := h2.2.2
      rcases hu with a | a | a | ⟨a, b, c, _⟩ | ⟨a, b, c, _⟩ | ⟨a, b, c, _⟩ | ⟨a, _⟩
      · exact .inl a
      · exact .inr (.inl a)
      · exact .inr (.inr (.inl a))
      · exact .inr (.inr (.inr (.inl ⟨a, b, c, hfe⟩)))
      · exact .inr (.inr (.inr (.inr (.inl ⟨a, b, c, hfe⟩))))
      · exact .inr (.inr (.inr (.inr (.inr (.inl ⟨a, b, c, hfe⟩)))))
      · exact .inr (.inr (.inr (.inr (.inr (.inr ⟨a, hfe⟩)))))
end Go.Proofs.Ytefbmhkchlhgnaa
