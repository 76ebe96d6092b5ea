/- A hearing's plan: whom the unit concerns, and what is done for each. -/
import Derived.Test.YtgpmimohoepeiaaUMay
import Derived.Test.YtgpmimohoepeiaaHEach
namespace Go.Proofs.Ytgpmimohoepeiaa
open Go.RowKit
set_option linter.unusedVariables false
set_option linter.unusedSimpArgs false

/-- a closure that tells -/
def TellIn (w : World) (dv : Value) (hb : Nat) (k : Int) : Prop := ∃ b1 b2, dv = .func (.func 67) #[] #[ptr b1, ptr b2] ∧ w.heap[b1]? = some (.cells #[ptr hb] 72 (0, 0)) ∧ w.heap[b2]? = some (.cells #[.int .i64 k] 3 (0, 0))
/-- a closure that answers -/
def AnsIn (w : World) (dv : Value) (hb : Nat) (f : Value) : Prop := ∃ b1 b2, dv = .func (.func 70) #[] #[ptr b1, ptr b2] ∧ w.heap[b1]? = some (.cells #[ptr hb] 72 (0, 0)) ∧ w.heap[b2]? = some (.cells #[f] 104 (0, 0))
theorem tell_any (hb : Nat) (k : Int) (w : World) : Calls Try.prog 47 #[ptr hb, .int .i64 k] w fun e w' => ∃ dv, e = .returned dv ∧ Hid (TellIn w' dv hb k ∧ Below w.heap.size w w') := by
  have hmf : ∀ (fn : Fn) (first cap : Array Value) (w : World), (Instr.makeFunc fn first cap).run Try.prog w = .ok (.func fn first cap) w := fun _ _ _ _ => rfl
  have HN : Hid (TellIn ((w.alloc (.cells #[ptr hb] 72)).alloc (.cells #[.int .i64 k] 3)) (.func (.func 67) #[] #[ptr w.heap.size, ptr (w.heap.size + 1)]) hb k ∧ Below w.heap.size w ((w.alloc (.cells #[ptr hb] 72)).alloc (.cells #[.int .i64 k] 3))) :=
    cover ⟨⟨_, _, rfl, heap_alloc2_old _ _ _, heap_alloc2_new _ _ _⟩, ((Below.refl _ _).alloc (Nat.le_refl _) _).alloc (by simp) _⟩
  go_enter Try.func47, Try.ntmps47
  go_wp2
  go_ret
  exact ⟨_, rfl, HN⟩
theorem answer_any (hb : Nat) (fn : Fn) (ba lb : Array Value) (w : World) : Calls Try.prog 49 #[ptr hb, .func fn ba lb] w fun e w' => ∃ dv, e = .returned dv ∧ Hid (AnsIn w' dv hb (.func fn ba lb) ∧ Below w.heap.size w w') := by
  have hmf : ∀ (fn : Fn) (first cap : Array Value) (w : World), (Instr.makeFunc fn first cap).run Try.prog w = .ok (.func fn first cap) w := fun _ _ _ _ => rfl
  have HN : Hid (AnsIn ((w.alloc (.cells #[ptr hb] 72)).alloc (.cells #[.func fn ba lb] 104)) (.func (.func 70) #[] #[ptr w.heap.size, ptr (w.heap.size + 1)]) hb (.func fn ba lb) ∧ Below w.heap.size w ((w.alloc (.cells #[ptr hb] 72)).alloc (.cells #[.func fn ba lb] 104))) :=
    cover ⟨⟨_, _, rfl, heap_alloc2_old _ _ _, heap_alloc2_new _ _ _⟩, ((Below.refl _ _).alloc (Nat.le_refl _) _).alloc (by simp) _⟩
  go_enter Try.func49, Try.ntmps49
  go_wp2
  go_ret
  exact ⟨_, rfl, HN⟩
theorem either_any {w : World} {hb s : Nat} {pe : A6} {p : PV} {Ap : Option Addr} {cp : Nat} {T S : Value} (h : HdIn w hb s pe p Ap cp T S) (c r : Value) :
    Calls Try.prog 48 #[ptr hb, c, r] w fun e w' => e = .returned (.tuple #[.func (.func (if p.resp = true then 68 else 69)) #[ptr hb] #[], if p.resp = true then r else c]) ∧ w = w' := by
  have hmf : ∀ (fn : Fn) (first cap : Array Value) (w : World), (Instr.makeFunc fn first cap).run Try.prog w = .ok (.func fn first cap) w := fun _ _ _ _ => rfl
  obtain ⟨_, _, _, _, c9, _⟩ := hd_cells h
  clear h
  cases hr : p.resp
  · rw [hr] at c9
    go_enter Try.func48, Try.ntmps48
    go_wp2
    go_ret2
    exact ⟨rfl, rfl⟩
  · rw [hr] at c9
    go_enter Try.func48, Try.ntmps48
    go_wp2
    go_ret2
    exact ⟨rfl, rfl⟩
abbrev fHearers (hb : Nat) : Value := .func (.func 46) #[ptr hb] #[]
abbrev fAsker (hb : Nat) : Value := .func (.func 68) #[ptr hb] #[]
abbrev fAsked (hb : Nat) : Value := .func (.func 69) #[ptr hb] #[]
abbrev fClass (hb : Nat) : Value := .func (.func 50) #[ptr hb] #[]
abbrev fEcho (hb : Nat) : Value := .func (.func 51) #[ptr hb] #[]
/-- what a plan says -/
def PlanIs (w : World) (it dv : Value) (hb : Nat) (p : PV) : Prop :=
  (¬ IsOne p ∧ it = .func (.func 52) #[] #[] ∧ dv = .nilFunc) ∨
  (IsOne p ∧ p.kind = 0 ∧ it = fHearers hb ∧ TellIn w dv hb 1) ∨
  (IsOne p ∧ p.kind ≠ 0 ∧ p.resp = true ∧ it = fAsker hb ∧ TellIn w dv hb (p.kind + 1)) ∨
  (IsOne p ∧ p.kind = 1 ∧ p.resp = false ∧ it = fAsked hb ∧ AnsIn w dv hb (fClass hb)) ∨
  (IsOne p ∧ p.kind = 2 ∧ p.resp = false ∧ it = fAsked hb ∧ AnsIn w dv hb (fEcho hb))
def PlanOut (w : World) (hb : Nat) (p : PV) (e : Ending) (w' : World) : Prop := ∃ it dv, e = .returned (.tuple #[it, dv]) ∧ Hid (Below w.heap.size w w' ∧ PlanIs w' it dv hb p)
theorem TellIn.below {w w' : World} {dv : Value} {hb : Nat} {k : Int} (h : TellIn w dv hb k) (hb' : Below w.heap.size w w') : TellIn w' dv hb k := by
  obtain ⟨b1, b2, e, h1, h2⟩ := h
  exact ⟨b1, b2, e, (hb'.block _ (block_lt h1)).trans h1, (hb'.block _ (block_lt h2)).trans h2⟩
theorem AnsIn.below {w w' : World} {dv f : Value} {hb : Nat} (h : AnsIn w dv hb f) (hb' : Below w.heap.size w w') : AnsIn w' dv hb f := by
  obtain ⟨b1, b2, e, h1, h2⟩ := h
  exact ⟨b1, b2, e, (hb'.block _ (block_lt h1)).trans h1, (hb'.block _ (block_lt h2)).trans h2⟩
set_option maxRecDepth 100000 in
set_option maxHeartbeats 3200000 in
theorem plan_any {w : World} {hb s : Nat} {pe : A6} {p : PV} {Ap : Option Addr} {cp : Nat} {T S : Value} (h : HdIn w hb s pe p Ap cp T S) :
    Calls Try.prog 34 #[ptr hb] w (PlanOut w hb p) := by
  have hmf : ∀ (fn : Fn) (first cap : Array Value) (w : World), (Instr.makeFunc fn first cap).run Try.prog w = .ok (.func fn first cap) w := fun _ _ _ _ => rfl
  have hl := block_lt h
  have HD := cover h
  obtain ⟨_, _, c7, c8, c9, c10, c11, c12, c13, c14, c15, _⟩ := hd_cells h
  by_cases hf : p.form = 2
  case neg =>
    have hfb : (p.form == 2) = false := by simpa using hf
    have HN : Hid (PlanOut w hb p (.returned (.tuple #[.func (.func 52) #[] #[], .nilFunc])) w) := cover ⟨_, _, rfl, cover ⟨Below.refl _ _, .inl ⟨fun h1 => hf h1.2.1, rfl, rfl⟩⟩⟩
    clear h hf
    go_enter Try.func34, Try.ntmps34
    go_wp2
    go_ret2
    exact HN.out
  have hfb : (p.form == 2) = true := by simpa using hf
  have HF := cover hf
  have HM := cover (may_any p Ap cp w)
  have HD1 : Hid (∀ w1, Below w.heap.size w w1 → HdIn w1 hb s pe p Ap cp T S) := cover fun w1 hb1 => (hb1.block _ hl).trans HD.out
  by_cases hm : MayP p
  case neg =>
    rw [mayB_no hm] at HM
    have HN : Hid (∀ w1, Below w.heap.size w w1 → PlanOut w hb p (.returned (.tuple #[.func (.func 52) #[] #[], .nilFunc])) w1) := cover fun w1 hb1 => ⟨_, _, rfl, cover ⟨hb1, .inl ⟨fun h1 => hm h1.1, rfl, rfl⟩⟩⟩
    clear h hf hm HD1 HD
    go_enter Try.func34, Try.ntmps34
    go_wp2_with fail
    refine HM.out.mono ?_
    rintro e w1 ⟨rfl, hb1⟩
    have HN1 := cover (HN.out w1 hb1)
    clear HN HM hb1 c7 c8 c9 c10 c11 c12 c13 c14 c15
    go_wp2
    go_ret2
    exact HN1.out
  rw [mayB_yes hm] at HM
  have HMP := cover hm
  clear h hf hm HD
  by_cases hk0 : p.kind = 0
  · have HO : Hid (IsOne p) := cover ⟨HMP.out, HF.out, by omega⟩
    have HK := cover hk0
    have hkb : (p.kind == 0) = true := by simpa using hk0
    clear hk0
    go_enter Try.func34, Try.ntmps34
    go_wp2_with fail
    refine HM.out.mono ?_
    rintro e w1 ⟨rfl, hb1⟩
    have h1 := HD1.out w1 hb1
    have HB1 := cover hb1
    clear c7 c8 c9 c10 c11 c12 c13 c14 c15 HM hb1
    obtain ⟨_, _, c7, c8, c9, c10, c11, c12, c13, c14, c15, _⟩ := hd_cells h1
    clear h1
    go_wp2_with fail
    refine (tell_any hb 1 w1).mono ?_
    rintro e w2 ⟨dv, rfl, h2⟩
    have HN : Hid (PlanOut w hb p (.returned (.tuple #[fHearers hb, dv])) w2) := cover ⟨_, _, rfl, cover ⟨HB1.out.trans (h2.out.2.mono HB1.out.size), .inr (.inl ⟨HO.out, HK.out, rfl, h2.out.1⟩)⟩⟩
    clear c7 c8 c9 c10 c11 c12 c13 c14 c15 HD1 h2
    go_wp2
    go_ret2
    exact HN.out
  have hkb0 : (p.kind == 0) = false := by simpa using hk0
  by_cases hk1 : p.kind = 1
  · have HO : Hid (IsOne p) := cover ⟨HMP.out, HF.out, by omega⟩
    have HK := cover hk1
    have hkb : (p.kind == 1) = true := by simpa using hk1
    clear hk0 hk1
    go_enter Try.func34, Try.ntmps34
    go_wp2_with fail
    refine HM.out.mono ?_
    rintro e w1 ⟨rfl, hb1⟩
    have h1 := HD1.out w1 hb1
    have HB1 := cover hb1
    clear c7 c8 c9 c10 c11 c12 c13 c14 c15 HM hb1
    obtain ⟨_, _, c7, c8, c9, c10, c11, c12, c13, c14, c15, _⟩ := hd_cells h1
    clear h1
    go_wp2_with fail
    refine (answer_any hb _ _ _ w1).mono ?_
    rintro e w2 ⟨cv, rfl, h2⟩
    go_wp2_with fail
    refine (tell_any hb 2 w2).mono ?_
    rintro e w3 ⟨dv, rfl, h3⟩
    have HB3 : Hid (Below w.heap.size w w3) := cover ((HB1.out.trans (h2.out.2.mono HB1.out.size)).trans (h3.out.2.mono (Nat.le_trans HB1.out.size h2.out.2.size)))
    have s4 := either_any (HD1.out w3 HB3.out) cv dv
    have HCL := cover (h2.out.1.below h3.out.2)
    have HT := cover h3.out.1
    clear c7 c8 c9 c10 c11 c12 c13 c14 c15 HD1 h2 h3
    go_wp2_with fail
    refine s4.mono ?_
    rintro e w4 ⟨rfl, rfl⟩
    clear s4
    cases hr : p.resp
    · have HN : Hid (PlanOut w hb p (.returned (.tuple #[fAsked hb, cv])) w3) := cover ⟨_, _, rfl, cover ⟨HB3.out, .inr (.inr (.inr (.inl ⟨HO.out, HK.out, hr, rfl, HCL.out⟩)))⟩⟩
      clear hr
      go_wp2
      go_ret2
      exact HN.out
    · have HN : Hid (PlanOut w hb p (.returned (.tuple #[fAsker hb, dv])) w3) := cover ⟨_, _, rfl, cover ⟨HB3.out, .inr (.inr (.inl ⟨HO.out, by rw [HK.out]; decide, hr, rfl, by rw [HK.out]; exact HT.out⟩))⟩⟩
      clear hr
      go_wp2
      go_ret2
      exact HN.out
  have hkb1 : (p.kind == 1) = false := by simpa using hk1
  by_cases hk2 : p.kind = 2
  · have HO : Hid (IsOne p) := cover ⟨HMP.out, HF.out, by omega⟩
    have HK := cover hk2
    have hkb : (p.kind == 2) = true := by simpa using hk2
    clear hk0 hk1 hk2
    go_enter Try.func34, Try.ntmps34
    go_wp2_with fail
    refine HM.out.mono ?_
    rintro e w1 ⟨rfl, hb1⟩
    have h1 := HD1.out w1 hb1
    have HB1 := cover hb1
    clear c7 c8 c9 c10 c11 c12 c13 c14 c15 HM hb1
    obtain ⟨_, _, c7, c8, c9, c10, c11, c12, c13, c14, c15, _⟩ := hd_cells h1
    clear h1
    go_wp2_with fail
    refine (answer_any hb _ _ _ w1).mono ?_
    rintro e w2 ⟨cv, rfl, h2⟩
    go_wp2_with fail
    refine (tell_any hb 3 w2).mono ?_
    rintro e w3 ⟨dv, rfl, h3⟩
    have HB3 : Hid (Below w.heap.size w w3) := cover ((HB1.out.trans (h2.out.2.mono HB1.out.size)).trans (h3.out.2.mono (Nat.le_trans HB1.out.size h2.out.2.size)))
    have s4 := either_any (HD1.out w3 HB3.out) cv dv
    have HCL := cover (h2.out.1.below h3.out.2)
    have HT := cover h3.out.1
    clear c7 c8 c9 c10 c11 c12 c13 c14 c15 HD1 h2 h3
    go_wp2_with fail
    refine s4.mono ?_
    rintro e w4 ⟨rfl, rfl⟩
    clear s4
    cases hr : p.resp
    · have HN : Hid (PlanOut w hb p (.returned (.tuple #[fAsked hb, cv])) w3) := cover ⟨_, _, rfl, cover ⟨HB3.out, .inr (.inr (.inr (.inr ⟨HO.out, HK.out, hr, rfl, HCL.out⟩)))⟩⟩
      clear hr
      go_wp2
      go_ret2
      exact HN.out
    · have HN : Hid (PlanOut w hb p (.returned (.tuple #[fAsker hb, dv])) w3) := cover ⟨_, _, rfl, cover ⟨HB3.out, .inr (.inr (.inl ⟨HO.out, by rw [HK.out]; decide, hr, rfl, by rw [HK.out]; exact HT.out⟩))⟩⟩
      clear hr
      go_wp2
      go_ret2
      exact HN.out
  have hkb2 : (p.kind == 2) = false := by simpa using hk2
  have HN : Hid (∀ w1, Below w.heap.size w w1 → PlanOut w hb p (.returned (.tuple #[.func (.func 52) #[] #[], .nilFunc])) w1) := cover fun w1 hb1 => ⟨_, _, rfl, cover ⟨hb1, .inl ⟨fun h1 => by have := h1.kinds; omega, rfl, rfl⟩⟩⟩
  clear hk0 hk1 hk2
  go_enter Try.func34, Try.ntmps34
  go_wp2_with fail
  refine HM.out.mono ?_
  rintro e w1 ⟨rfl, hb1⟩
  have h1 := HD1.out w1 hb1
  have HN1 := cover (HN.out w1 hb1)
  clear c7 c8 c9 c10 c11 c12 c13 c14 c15 HM hb1 HN
  obtain ⟨_, _, c7, c8, c9, c10, c11, c12, c13, c14, c15, _⟩ := hd_cells h1
  clear h1
  go_wp2
  go_ret2
  exact HN1.out
end Go.Proofs.Ytgpmimohoepeiaa
