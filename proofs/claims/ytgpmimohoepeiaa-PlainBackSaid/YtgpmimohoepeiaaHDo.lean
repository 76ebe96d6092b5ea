/- A hearing in memory: what has been told, what has been sent so far; what its two closures do. -/
import Derived.Test.YtgpmimohoepeiaaFHeld
import Derived.Test.YtgpmimohoepeiaaOClone
import Derived.Test.YtgpmimohoepeiaaGPClass
import Derived.Test.YtgpmimohoepeiaaHMem
namespace Go.Proofs.Ytgpmimohoepeiaa
open Go.RowKit
set_option linter.unusedVariables false
set_option linter.unusedSimpArgs false

theorem KeepO.imp {p q : Obj → Prop} {a b : World} (h : KeepO p a b) (hi : ∀ o, p o → q o) : KeepO q a b := fun k o hk hq => h k o hk (fun hp => hq (hi o hp))
/-- the kinds of blocks that a hearing's closures may turn -/
def isHearO : Obj → Prop := fun o => isTyO 74 o ∨ isTyO 60 o ∨ isTyO 29 o
theorem hear_ne {t : TypeId} (h1 : t ≠ 74) (h2 : t ≠ 60) (h3 : t ≠ 29) (cur : Array Value) (fr : Nat × Nat) : ¬ isHearO (.cells cur t fr) := by
  rintro (h | h | h)
  · exact ty_ne h1 _ _ h
  · exact ty_ne h2 _ _ h
  · exact ty_ne h3 _ _ h
/-- the block of a hearing -/
abbrev HdIn (w : World) (hb s : Nat) (pe : A6) (p : PV) (Ap : Option Addr) (cp : Nat) (T S : Value) : Prop :=
  w.heap[hb]? = some (.cells #[ptr s, .int .u8 pe.a0, .int .u8 pe.a1, .int .u8 pe.a2, .int .u8 pe.a3, .int .u8 pe.a4, .int .u8 pe.a5, .int .i64 p.to, .int .i64 p.frm, .bool p.resp, .int .i64 p.form, .int .i64 p.kind, .int .i64 p.ns, .int .i64 p.nr, .bool p.poll, .slice Ap p.info.length cp, T, S] 74 (0, 0))
/-- a hearing: what has been told and sent so far -/
structure HrIn (B : Nat) (w0 w : World) (hb s : Nat) (pe : A6) (p : PV) (Ap : Option Addr) (cp : Nat) (T S : Value) (us : List IU) (vs : List PU) : Prop where
  hd : HdIn w hb s pe p Ap cp T S
  told : OwnIs B w T us
  toldI : ∀ u ∈ us, InfI w u
  sent : OwnPs B w S vs
  sentI : ∀ u ∈ vs, InfP w u
  bel : Below B w0 w
  inf : Row w B Ap p.info.length p.info
  hB : B ≤ hb
section
variable {B : Nat} {w0 w w' : World} {hb s : Nat} {pe : A6} {p : PV} {Ap : Option Addr} {cp : Nat} {T S : Value} {us : List IU} {vs : List PU}
theorem HrIn.size (h : HrIn B w0 w hb s pe p Ap cp T S us vs) : B ≤ w.heap.size := by
  have := block_lt h.hd; have := h.hB; omega
theorem HrIn.keep {q : Obj → Prop} (h : HrIn B w0 w hb s pe p Ap cp T S us vs) (k : KeepO q w w') (hq : ∀ cur t fr, ¬ q (.cells cur t fr)) (hb' : Below B w w') : HrIn B w0 w' hb s pe p Ap cp T S us vs :=
  ⟨k _ _ h.hd (hq _ _ _), own_typed h.told k (fun _ _ => hq _ _ _), fun u hu => own_typed (h.toldI u hu) k (fun _ _ => hq _ _ _), own_typed h.sent k (fun _ _ => hq _ _ _), fun u hu => own_typed (h.sentI u hu) k (fun _ _ => hq _ _ _), h.bel.trans hb', h.inf.below hb', h.hB⟩
theorem HrIn.below (h : HrIn B w0 w hb s pe p Ap cp T S us vs) (hb' : Below w.heap.size w w') : HrIn B w0 w' hb s pe p Ap cp T S us vs :=
  h.keep (q := fun _ => False) (KeepO.of_below hb') (fun _ _ _ h => h) (hb'.mono h.size)
/-- one more is told -/
theorem HrIn.tell {v5 : Value} {x : IU} (h : HrIn B w0 w hb s pe p Ap cp T S us vs) (ho : OwnIs B w' v5 (us ++ [x])) (hx : InfI w' x) (k : KeepO (isTyO 60) w w') (hb' : Below B w w') :
    HrIn B w0 (w'.setCell ⟨hb, 16, none⟩ v5) hb s pe p Ap cp v5 S (us ++ [x]) vs ∧ KeepO isHearO w (w'.setCell ⟨hb, 16, none⟩ v5) := by
  have h5 := k _ _ h.hd (ty_ne (by decide) _ _)
  have kS := KeepO.set h5 16 v5
  have n1 : ∀ {t : TypeId}, t ≠ 74 → ∀ cur fr, ¬ isTyO 74 (.cells cur t fr) := fun ht cur fr => ty_ne ht _ _
  have n2 : ∀ {t : TypeId}, t ≠ 60 → ∀ cur fr, ¬ isTyO 60 (.cells cur t fr) := fun ht cur fr => ty_ne ht _ _
  have hbS : Below B w (w'.setCell ⟨hb, 16, none⟩ v5) := hb'.setCell h.hB v5
  refine ⟨⟨?_, own_typed ho kS (n1 (by decide)), fun u hu => ?_, own_typed (own_typed h.sent k (n2 (by decide))) kS (n1 (by decide)), fun u hu => own_typed (own_typed (h.sentI u hu) k (n2 (by decide))) kS (n1 (by decide)), h.bel.trans hbS, h.inf.below hbS, h.hB⟩, ?_⟩
  · unfold HdIn; rw [set_block h5]; rfl
  · rcases List.mem_append.1 hu with hu | hu
    · exact own_typed (own_typed (h.toldI u hu) k (n2 (by decide))) kS (n1 (by decide))
    · obtain rfl : u = x := by simpa using hu
      exact own_typed hx kS (n1 (by decide))
  · exact (k.imp (fun o ho => .inr (.inl ho))).trans (kS.imp (fun o ho => .inl ho))
/-- one more is sent -/
theorem HrIn.send {v5 : Value} {x : PU} (h : HrIn B w0 w hb s pe p Ap cp T S us vs) (ho : OwnPs B w' v5 (vs ++ [x])) (hx : InfP w' x) (k : KeepO (isTyO 29) w w') (hb' : Below B w w') :
    HrIn B w0 (w'.setCell ⟨hb, 17, none⟩ v5) hb s pe p Ap cp T v5 us (vs ++ [x]) ∧ KeepO isHearO w (w'.setCell ⟨hb, 17, none⟩ v5) := by
  have h5 := k _ _ h.hd (ty_ne (by decide) _ _)
  have kS := KeepO.set h5 17 v5
  have n1 : ∀ {t : TypeId}, t ≠ 74 → ∀ cur fr, ¬ isTyO 74 (.cells cur t fr) := fun ht cur fr => ty_ne ht _ _
  have n2 : ∀ {t : TypeId}, t ≠ 29 → ∀ cur fr, ¬ isTyO 29 (.cells cur t fr) := fun ht cur fr => ty_ne ht _ _
  have hbS : Below B w (w'.setCell ⟨hb, 17, none⟩ v5) := hb'.setCell h.hB v5
  refine ⟨⟨?_, own_typed (own_typed h.told k (n2 (by decide))) kS (n1 (by decide)), fun u hu => own_typed (own_typed (h.toldI u hu) k (n2 (by decide))) kS (n1 (by decide)), own_typed ho kS (n1 (by decide)), fun u hu => ?_, h.bel.trans hbS, h.inf.below hbS, h.hB⟩, ?_⟩
  · unfold HdIn; rw [set_block h5]; rfl
  · rcases List.mem_append.1 hu with hu | hu
    · exact own_typed (own_typed (h.sentI u hu) k (n2 (by decide))) kS (n1 (by decide))
    · obtain rfl : u = x := by simpa using hu
      exact own_typed hx kS (n1 (by decide))
  · exact (k.imp (fun o ho => .inr (.inr ho))).trans (kS.imp (fun o ho => .inl ho))
/-- its cells -/
theorem hd_cells (h : HdIn w hb s pe p Ap cp T S) : w.cell? ⟨hb, 0, none⟩ = some (ptr s) ∧ (w.cell? ⟨hb, 1, none⟩ = some (.int .u8 pe.a0) ∧ w.cell? ⟨hb, 2, none⟩ = some (.int .u8 pe.a1) ∧ w.cell? ⟨hb, 3, none⟩ = some (.int .u8 pe.a2) ∧ w.cell? ⟨hb, 4, none⟩ = some (.int .u8 pe.a3) ∧ w.cell? ⟨hb, 5, none⟩ = some (.int .u8 pe.a4) ∧ w.cell? ⟨hb, 6, none⟩ = some (.int .u8 pe.a5)) ∧
    w.cell? ⟨hb, 7, none⟩ = some (.int .i64 p.to) ∧ w.cell? ⟨hb, 8, none⟩ = some (.int .i64 p.frm) ∧ w.cell? ⟨hb, 9, none⟩ = some (.bool p.resp) ∧ w.cell? ⟨hb, 10, none⟩ = some (.int .i64 p.form) ∧ w.cell? ⟨hb, 11, none⟩ = some (.int .i64 p.kind) ∧ w.cell? ⟨hb, 12, none⟩ = some (.int .i64 p.ns) ∧ w.cell? ⟨hb, 13, none⟩ = some (.int .i64 p.nr) ∧ w.cell? ⟨hb, 14, none⟩ = some (.bool p.poll) ∧ w.cell? ⟨hb, 15, none⟩ = some (.slice Ap p.info.length cp) ∧
    w.cell? ⟨hb, 16, none⟩ = some T ∧ w.cell? ⟨hb, 17, none⟩ = some S ∧ ∀ o, w.frozen? ⟨hb, o, none⟩ = false := by
  refine ⟨?_, ⟨?_, ?_, ?_, ?_, ?_, ?_⟩, ?_, ?_, ?_, ?_, ?_, ?_, ?_, ?_, ?_, ?_, ?_, fun o => by simp [World.frozen?, h]⟩
  all_goals (rw [cell_of_row w hb _ _ _ _ h]; rfl)
end
set_option maxRecDepth 100000 in
set_option maxHeartbeats 3200000 in
/-- a user is told -/
theorem tell1_any {B : Nat} {w0 w : World} {hb s : Nat} {pe : A6} {p : PV} {Ap : Option Addr} {cp : Nat} {T S : Value} {us : List IU} {vs : List PU} (h : HrIn B w0 w hb s pe p Ap cp T S us vs) {b1 b2 : Nat} {k : Int} (hb1 : w.heap[b1]? = some (.cells #[ptr hb] 72 (0, 0))) (hb2 : w.heap[b2]? = some (.cells #[.int .i64 k] 3 (0, 0))) (hl : us.length ≤ 1000) (hpl : p.info.length ≤ 140737488355328) (x : Int) :
    Calls Try.prog 67 #[.int .i64 x, ptr b1, ptr b2] w fun e w' => (∃ v, e = .returned v) ∧ Hid (∃ T' A c, HrIn B w0 w' hb s pe p Ap cp T' S (us ++ [(indV k pe p x, A, c)]) vs ∧ KeepO isHearO w w') := by
  obtain ⟨L, hL⟩ : ∃ L, L = p.info.length := ⟨_, rfl⟩
  have HL := cover hL
  have HS : Hid (∀ W', KeepO (isTyO 60) w W' → Below B w W' → (fun W' : World => W'.cell? ⟨b1, 0, none⟩ = some (ptr hb) ∧ W'.cell? ⟨b2, 0, none⟩ = some (.int .i64 k) ∧ W'.cell? ⟨hb, 8, none⟩ = some (.int .i64 p.frm) ∧ (W'.cell? ⟨hb, 1, none⟩ = some (.int .u8 pe.a0) ∧ W'.cell? ⟨hb, 2, none⟩ = some (.int .u8 pe.a1) ∧ W'.cell? ⟨hb, 3, none⟩ = some (.int .u8 pe.a2) ∧ W'.cell? ⟨hb, 4, none⟩ = some (.int .u8 pe.a3) ∧ W'.cell? ⟨hb, 5, none⟩ = some (.int .u8 pe.a4) ∧ W'.cell? ⟨hb, 6, none⟩ = some (.int .u8 pe.a5)) ∧ W'.cell? ⟨hb, 15, none⟩ = some (.slice Ap L cp) ∧ W'.cell? ⟨hb, 16, none⟩ = some T ∧ KeepO (isTyO 60) w W' ∧ Below B w W') W') := cover fun W' hk hb' => by
    obtain ⟨_, c1, _, c8, _, _, _, _, _, _, c15, c16, _, _⟩ := hd_cells (show HdIn W' hb s pe p Ap cp T S from hk _ _ h.hd (ty_ne (by decide) _ _))
    have e1 := hk _ _ hb1 (ty_ne (by decide) _ _)
    have e2 := hk _ _ hb2 (ty_ne (by decide) _ _)
    exact ⟨by rw [cell_of_row _ _ _ _ _ _ e1]; rfl, by rw [cell_of_row _ _ _ _ _ _ e2]; rfl, c8, c1, by rw [hL]; exact c15, c16, hk, hb'⟩
  have HC : Hid (∀ W', Below B w W' → Calls Try.prog 45 #[.slice Ap L cp] W' (GivesB W' p.info)) := cover fun W' hb' => by
    rw [hL]
    exact clone_any Ap p.info.length cp B p.info W' (h.inf.below hb') (Nat.le_trans h.size hb'.size) (by rw [← hL]; omega)
  have hb0 : Below w.heap.size w w.drew := (Below.refl _ _).drew
  have h3 : (fun W' : World => W'.cell? ⟨b1, 0, none⟩ = some (ptr hb) ∧ W'.cell? ⟨b2, 0, none⟩ = some (.int .i64 k) ∧ W'.cell? ⟨hb, 8, none⟩ = some (.int .i64 p.frm) ∧ (W'.cell? ⟨hb, 1, none⟩ = some (.int .u8 pe.a0) ∧ W'.cell? ⟨hb, 2, none⟩ = some (.int .u8 pe.a1) ∧ W'.cell? ⟨hb, 3, none⟩ = some (.int .u8 pe.a2) ∧ W'.cell? ⟨hb, 4, none⟩ = some (.int .u8 pe.a3) ∧ W'.cell? ⟨hb, 5, none⟩ = some (.int .u8 pe.a4) ∧ W'.cell? ⟨hb, 6, none⟩ = some (.int .u8 pe.a5)) ∧ W'.cell? ⟨hb, 15, none⟩ = some (.slice Ap L cp) ∧ W'.cell? ⟨hb, 16, none⟩ = some T ∧ KeepO (isTyO 60) w W' ∧ Below B w W') w.drew := HS.out _ (KeepO.of_below hb0) (hb0.mono h.size)
  have HH := cover h
  have mixed : Try.prog.follows .mixedOrders = true := by kernel_rfl
  have hbB : Below B w w.drew := hb0.mono h.size
  clear h hb1 hb2 hL
  go_enter Try.func67, Try.ntmps67
  go_wp2_with fail
  refine (wpIn_wide (n := 0)).1 ?_
  refine held_begin (fun W' : World => W'.cell? ⟨b1, 0, none⟩ = some (ptr hb) ∧ W'.cell? ⟨b2, 0, none⟩ = some (.int .i64 k) ∧ W'.cell? ⟨hb, 8, none⟩ = some (.int .i64 p.frm) ∧ (W'.cell? ⟨hb, 1, none⟩ = some (.int .u8 pe.a0) ∧ W'.cell? ⟨hb, 2, none⟩ = some (.int .u8 pe.a1) ∧ W'.cell? ⟨hb, 3, none⟩ = some (.int .u8 pe.a2) ∧ W'.cell? ⟨hb, 4, none⟩ = some (.int .u8 pe.a3) ∧ W'.cell? ⟨hb, 5, none⟩ = some (.int .u8 pe.a4) ∧ W'.cell? ⟨hb, 6, none⟩ = some (.int .u8 pe.a5)) ∧ W'.cell? ⟨hb, 15, none⟩ = some (.slice Ap L cp) ∧ W'.cell? ⟨hb, 16, none⟩ = some T ∧ KeepO (isTyO 60) w W' ∧ Below B w W') 27 mixed ?_
  refine hold_take 0 _ rfl (by kernel_rfl) (by kernel_rfl) (by kernel_rfl) (by kernel_rfl) (by kernel_rfl) (fun _ _ _ h => h) (by rfl) (fun _ => rfl) h3 (fun w' hS => by obtain ⟨q0, q1, q2, ⟨q3, q4, q5, q6, q7, q8⟩, q9, q10, q11, q12⟩ := hS; go_simp; rfl) ?_
  simp only [Act.put, List.setIfInBounds_toArray, List.set_cons_zero, List.set_cons_succ]
  refine hold_take 1 _ rfl (by kernel_rfl) (by kernel_rfl) (by kernel_rfl) (by kernel_rfl) (by kernel_rfl) (fun _ _ _ h => h) (by rfl) (fun _ => rfl) h3 (fun w' hS => by obtain ⟨q0, q1, q2, ⟨q3, q4, q5, q6, q7, q8⟩, q9, q10, q11, q12⟩ := hS; go_simp; rfl) ?_
  simp only [Act.put, List.setIfInBounds_toArray, List.set_cons_zero, List.set_cons_succ]
  refine hold_take 2 _ rfl (by kernel_rfl) (by kernel_rfl) (by kernel_rfl) (by kernel_rfl) (by kernel_rfl) (fun _ _ _ h => h) (by rfl) (fun _ => rfl) h3 (fun w' hS => by obtain ⟨q0, q1, q2, ⟨q3, q4, q5, q6, q7, q8⟩, q9, q10, q11, q12⟩ := hS; go_simp; rfl) ?_
  simp only [Act.put, List.setIfInBounds_toArray, List.set_cons_zero, List.set_cons_succ]
  refine hold_take 3 _ rfl (by kernel_rfl) (by kernel_rfl) (by kernel_rfl) (by kernel_rfl) (by kernel_rfl) (fun _ _ _ h => h) (by rfl) (fun _ => rfl) h3 (fun w' hS => by obtain ⟨q0, q1, q2, ⟨q3, q4, q5, q6, q7, q8⟩, q9, q10, q11, q12⟩ := hS; go_simp; rfl) ?_
  simp only [Act.put, List.setIfInBounds_toArray, List.set_cons_zero, List.set_cons_succ]
  refine hold_take 4 _ rfl (by kernel_rfl) (by kernel_rfl) (by kernel_rfl) (by kernel_rfl) (by kernel_rfl) (fun _ _ _ h => h) (by rfl) (fun _ => rfl) h3 (fun w' hS => by obtain ⟨q0, q1, q2, ⟨q3, q4, q5, q6, q7, q8⟩, q9, q10, q11, q12⟩ := hS; go_simp; rfl) ?_
  simp only [Act.put, List.setIfInBounds_toArray, List.set_cons_zero, List.set_cons_succ]
  refine hold_take 5 _ rfl (by kernel_rfl) (by kernel_rfl) (by kernel_rfl) (by kernel_rfl) (by kernel_rfl) (fun _ _ _ h => h) (by rfl) (fun _ => rfl) h3 (fun w' hS => by obtain ⟨q0, q1, q2, ⟨q3, q4, q5, q6, q7, q8⟩, q9, q10, q11, q12⟩ := hS; go_simp; rfl) ?_
  simp only [Act.put, List.setIfInBounds_toArray, List.set_cons_zero, List.set_cons_succ]
  refine hold_take 6 _ rfl (by kernel_rfl) (by kernel_rfl) (by kernel_rfl) (by kernel_rfl) (by kernel_rfl) (fun _ _ _ h => h) (by rfl) (fun _ => rfl) h3 (fun w' hS => by obtain ⟨q0, q1, q2, ⟨q3, q4, q5, q6, q7, q8⟩, q9, q10, q11, q12⟩ := hS; go_simp; rfl) ?_
  simp only [Act.put, List.setIfInBounds_toArray, List.set_cons_zero, List.set_cons_succ]
  refine hold_take 7 _ rfl (by kernel_rfl) (by kernel_rfl) (by kernel_rfl) (by kernel_rfl) (by kernel_rfl) (fun _ _ _ h => h) (by rfl) (fun _ => rfl) h3 (fun w' hS => by obtain ⟨q0, q1, q2, ⟨q3, q4, q5, q6, q7, q8⟩, q9, q10, q11, q12⟩ := hS; go_simp; rfl) ?_
  simp only [Act.put, List.setIfInBounds_toArray, List.set_cons_zero, List.set_cons_succ]
  refine hold_take 8 _ rfl (by kernel_rfl) (by kernel_rfl) (by kernel_rfl) (by kernel_rfl) (by kernel_rfl) (fun _ _ _ h => h) (by rfl) (fun _ => rfl) h3 (fun w' hS => by obtain ⟨q0, q1, q2, ⟨q3, q4, q5, q6, q7, q8⟩, q9, q10, q11, q12⟩ := hS; go_simp; rfl) ?_
  simp only [Act.put, List.setIfInBounds_toArray, List.set_cons_zero, List.set_cons_succ]
  refine hold_take 9 _ rfl (by kernel_rfl) (by kernel_rfl) (by kernel_rfl) (by kernel_rfl) (by kernel_rfl) (fun _ _ _ h => h) (by rfl) (fun _ => rfl) h3 (fun w' hS => by obtain ⟨q0, q1, q2, ⟨q3, q4, q5, q6, q7, q8⟩, q9, q10, q11, q12⟩ := hS; go_simp; rfl) ?_
  simp only [Act.put, List.setIfInBounds_toArray, List.set_cons_zero, List.set_cons_succ]
  refine hold_take 10 _ rfl (by kernel_rfl) (by kernel_rfl) (by kernel_rfl) (by kernel_rfl) (by kernel_rfl) (fun _ _ _ h => h) (by rfl) (fun _ => rfl) h3 (fun w' hS => by obtain ⟨q0, q1, q2, ⟨q3, q4, q5, q6, q7, q8⟩, q9, q10, q11, q12⟩ := hS; go_simp; rfl) ?_
  simp only [Act.put, List.setIfInBounds_toArray, List.set_cons_zero, List.set_cons_succ]
  refine hold_take 11 _ rfl (by kernel_rfl) (by kernel_rfl) (by kernel_rfl) (by kernel_rfl) (by kernel_rfl) (fun _ _ _ h => h) (by rfl) (fun _ => rfl) h3 (fun w' hS => by obtain ⟨q0, q1, q2, ⟨q3, q4, q5, q6, q7, q8⟩, q9, q10, q11, q12⟩ := hS; go_simp; rfl) ?_
  simp only [Act.put, List.setIfInBounds_toArray, List.set_cons_zero, List.set_cons_succ]
  refine hold_take 12 _ rfl (by kernel_rfl) (by kernel_rfl) (by kernel_rfl) (by kernel_rfl) (by kernel_rfl) (fun _ _ _ h => h) (by rfl) (fun _ => rfl) h3 (fun w' hS => by obtain ⟨q0, q1, q2, ⟨q3, q4, q5, q6, q7, q8⟩, q9, q10, q11, q12⟩ := hS; go_simp; rfl) ?_
  simp only [Act.put, List.setIfInBounds_toArray, List.set_cons_zero, List.set_cons_succ]
  refine hold_take 13 _ rfl (by kernel_rfl) (by kernel_rfl) (by kernel_rfl) (by kernel_rfl) (by kernel_rfl) (fun _ _ _ h => h) (by rfl) (fun _ => rfl) h3 (fun w' hS => by obtain ⟨q0, q1, q2, ⟨q3, q4, q5, q6, q7, q8⟩, q9, q10, q11, q12⟩ := hS; go_simp; rfl) ?_
  simp only [Act.put, List.setIfInBounds_toArray, List.set_cons_zero, List.set_cons_succ]
  refine hold_take 14 _ rfl (by kernel_rfl) (by kernel_rfl) (by kernel_rfl) (by kernel_rfl) (by kernel_rfl) (fun _ _ _ h => h) (by rfl) (fun _ => rfl) h3 (fun w' hS => by obtain ⟨q0, q1, q2, ⟨q3, q4, q5, q6, q7, q8⟩, q9, q10, q11, q12⟩ := hS; go_simp; rfl) ?_
  simp only [Act.put, List.setIfInBounds_toArray, List.set_cons_zero, List.set_cons_succ]
  refine hold_take 15 _ rfl (by kernel_rfl) (by kernel_rfl) (by kernel_rfl) (by kernel_rfl) (by kernel_rfl) (fun _ _ _ h => h) (by rfl) (fun _ => rfl) h3 (fun w' hS => by obtain ⟨q0, q1, q2, ⟨q3, q4, q5, q6, q7, q8⟩, q9, q10, q11, q12⟩ := hS; go_simp; rfl) ?_
  simp only [Act.put, List.setIfInBounds_toArray, List.set_cons_zero, List.set_cons_succ]
  refine hold_take 16 _ rfl (by kernel_rfl) (by kernel_rfl) (by kernel_rfl) (by kernel_rfl) (by kernel_rfl) (fun _ _ _ h => h) (by rfl) (fun _ => rfl) h3 (fun w' hS => by obtain ⟨q0, q1, q2, ⟨q3, q4, q5, q6, q7, q8⟩, q9, q10, q11, q12⟩ := hS; go_simp; rfl) ?_
  simp only [Act.put, List.setIfInBounds_toArray, List.set_cons_zero, List.set_cons_succ]
  refine hold_take 17 _ rfl (by kernel_rfl) (by kernel_rfl) (by kernel_rfl) (by kernel_rfl) (by kernel_rfl) (fun _ _ _ h => h) (by rfl) (fun _ => rfl) h3 (fun w' hS => by obtain ⟨q0, q1, q2, ⟨q3, q4, q5, q6, q7, q8⟩, q9, q10, q11, q12⟩ := hS; go_simp; rfl) ?_
  simp only [Act.put, List.setIfInBounds_toArray, List.set_cons_zero, List.set_cons_succ]
  refine hold_take 18 _ rfl (by kernel_rfl) (by kernel_rfl) (by kernel_rfl) (by kernel_rfl) (by kernel_rfl) (fun _ _ _ h => h) (by rfl) (fun _ => rfl) h3 (fun w' hS => by obtain ⟨q0, q1, q2, ⟨q3, q4, q5, q6, q7, q8⟩, q9, q10, q11, q12⟩ := hS; go_simp; rfl) ?_
  simp only [Act.put, List.setIfInBounds_toArray, List.set_cons_zero, List.set_cons_succ]
  refine hold_take 19 _ rfl (by kernel_rfl) (by kernel_rfl) (by kernel_rfl) (by kernel_rfl) (by kernel_rfl) (fun _ _ _ h => h) (by rfl) (fun _ => rfl) h3 (fun w' hS => by obtain ⟨q0, q1, q2, ⟨q3, q4, q5, q6, q7, q8⟩, q9, q10, q11, q12⟩ := hS; go_simp; rfl) ?_
  simp only [Act.put, List.setIfInBounds_toArray, List.set_cons_zero, List.set_cons_succ]
  refine hold_take 20 _ rfl (by kernel_rfl) (by kernel_rfl) (by kernel_rfl) (by kernel_rfl) (by kernel_rfl) (fun _ _ _ h => h) (by rfl) (fun _ => rfl) h3 (fun w' hS => by obtain ⟨q0, q1, q2, ⟨q3, q4, q5, q6, q7, q8⟩, q9, q10, q11, q12⟩ := hS; go_simp; rfl) ?_
  simp only [Act.put, List.setIfInBounds_toArray, List.set_cons_zero, List.set_cons_succ]
  refine hold_one 21 (by kernel_rfl) rfl (by rfl) fun K hK => ?_
  go_simp
  refine ⟨trivial, rfl, (callsIn_wide.2 (HC.out _ hbB)).mono ?_⟩
  rintro e w3 ⟨A3, c3, rfl, ho3, hb3⟩
  have hB3 : Below w.heap.size w w3 := hb0.trans (hb3.mono hb0.size)
  have HO3 := cover ho3
  refine hK _ _ (.inr (HS.out _ (KeepO.of_below hB3) (hB3.mono HH.out.size))) ?_
  clear hK K ho3 hb3
  refine hold_one 22 (by kernel_rfl) rfl (by rfl) fun K hK => ?_
  go_simp
  refine hK _ _ (.inr (HS.out _ (KeepO.of_below hB3) (hB3.mono HH.out.size))) ?_
  clear hK K
  refine hold_one 23 (by kernel_rfl) rfl (by rfl) fun K hK => ?_
  obtain ⟨z, hz⟩ : ∃ z, z = w3.heap.size := ⟨_, rfl⟩
  obtain ⟨wz, hwz⟩ : ∃ wz, wz = w3.alloc (.cells #[.int .i64 k, .int .i64 x, .int .i64 p.frm, .int .u8 pe.a0, .int .u8 pe.a1, .int .u8 pe.a2, .int .u8 pe.a3, .int .u8 pe.a4, .int .u8 pe.a5, .slice A3 p.info.length c3, .int .i64 0] 60) := ⟨_, rfl⟩
  have hmz : Below w3.heap.size w3 wz := by rw [hwz]; exact (Below.refl _ _).alloc (Nat.le_refl _) _
  have hBz : Below w.heap.size w wz := hB3.trans (hmz.mono hB3.size)
  have hnz : wz.heap[z]? = some (.cells #[.int .i64 k, .int .i64 x, .int .i64 p.frm, .int .u8 pe.a0, .int .u8 pe.a1, .int .u8 pe.a2, .int .u8 pe.a3, .int .u8 pe.a4, .int .u8 pe.a5, .slice A3 p.info.length c3, .int .i64 0] 60 (0, 0)) := by rw [hwz, hz]; exact heap_alloc_new _ _
  have hoz : InfI wz (indV k pe p x, A3, c3) := own_base (ownB_below HO3.out hmz) (Nat.zero_le _)
  refine run_in (fun c h => by cases h) (fun _ _ => trivial) (v := .slice (some ⟨z, 0, none⟩) 1 1) (w' := wz) (by rw [hwz, hz]; go_simp) ?_
  refine hK _ _ (.inr (HS.out _ (KeepO.of_below hBz) (hBz.mono HH.out.size))) ?_
  clear hK K hwz hz
  simp only [Act.put, List.setIfInBounds_toArray, List.set_cons_zero, List.set_cons_succ]
  refine hold_one 24 (by kernel_rfl) rfl (by rfl) fun K hK => ?_
  obtain ⟨v5, w5, hr5, ho5, hg5⟩ := OwnIs.app (own_blocks HH.out.told hBz) (Nat.le_trans HH.out.size hBz.size) (indV k pe p x, A3, c3) hnz (by omega) 32
  have hoT := own_blocks HH.out.told hBz
  obtain ⟨A5, cp5, rfl, _⟩ := own_shape ho5
  obtain ⟨n5, hn5⟩ : ∃ n5, n5 = (us ++ [(indV k pe p x, A3, c3)]).length := ⟨_, rfl⟩
  rw [← hn5] at ho5 hr5
  have HN5 := cover hn5
  clear hn5
  have k5 : KeepO (isTyO 60) w w5 := (KeepO.of_below hBz).trans (KeepO.grown hoT hg5)
  have hB5 : Below B w w5 := below_grown (hBz.mono HH.out.size) (Nat.le_trans HH.out.size hBz.size) hoT hg5
  have hi5 : InfI w5 (indV k pe p x, A3, c3) := own_typed hoz (KeepO.grown hoT hg5) (fun _ _ => ty_ne (by decide) _ _)
  have HN := cover (HH.out.tell (v5 := .slice A5 n5 cp5) (by rw [HN5.out] at ho5 ⊢; exact ho5) hi5 k5 hB5)
  have hf5 : w5.frozen? ⟨hb, 16, none⟩ = false := by
    have hh := k5 _ _ HH.out.hd (ty_ne (by decide) _ _)
    simp [World.frozen?, hh]
  have hS5 : (fun W' : World => W'.cell? ⟨b1, 0, none⟩ = some (ptr hb) ∧ W'.cell? ⟨b2, 0, none⟩ = some (.int .i64 k) ∧ W'.cell? ⟨hb, 8, none⟩ = some (.int .i64 p.frm) ∧ (W'.cell? ⟨hb, 1, none⟩ = some (.int .u8 pe.a0) ∧ W'.cell? ⟨hb, 2, none⟩ = some (.int .u8 pe.a1) ∧ W'.cell? ⟨hb, 3, none⟩ = some (.int .u8 pe.a2) ∧ W'.cell? ⟨hb, 4, none⟩ = some (.int .u8 pe.a3) ∧ W'.cell? ⟨hb, 5, none⟩ = some (.int .u8 pe.a4) ∧ W'.cell? ⟨hb, 6, none⟩ = some (.int .u8 pe.a5)) ∧ W'.cell? ⟨hb, 15, none⟩ = some (.slice Ap L cp) ∧ W'.cell? ⟨hb, 16, none⟩ = some T ∧ KeepO (isTyO 60) w W' ∧ Below B w W') w5 := HS.out _ k5 hB5
  have hc5 : w5.cell? ⟨hb, 16, none⟩ = some T := hS5.2.2.2.2.2.1
  refine run_in (fun c h => by cases h) (fun _ _ => trivial) (v := .slice A5 n5 cp5) (w' := w5) (appends_exec _ _ _ _ rfl T (.slice (some ⟨z, 0, none⟩) 1 1) (by go_simp) (by go_simp) hr5) ?_
  refine hK _ _ (.inr hS5) ?_
  clear hK K hr5 hoT ho5 hi5 k5 hB5 hg5 hnz hoz hBz hmz HS HC HO3 HH
  simp only [Act.put, List.setIfInBounds_toArray, List.set_cons_zero, List.set_cons_succ]
  refine hold_one 25 (by kernel_rfl) rfl (by rfl) fun K hK => ?_
  go_simp
  refine hK _ _ (.inr hS5) ?_
  clear hK K
  refine hold_one 26 (by kernel_rfl) rfl (by rfl) fun K hK => ?_
  go_simp
  refine hK _ _ (.inr hS5) ?_
  clear hK K
  refine hold_one 27 (by kernel_rfl) rfl (by rfl) fun K hK => ?_
  go_simp
  refine hK _ _ (.inl rfl) (held_done (by kernel_rfl) ?_ _)
  clear hK K hS5 h3 hb0 hbB hB3
  go_wp2_with fail
  exact ⟨rfl, _, results_none rfl _ _ _, ⟨_, rfl⟩, _, A3, c3, HN.out⟩
set_option maxHeartbeats 1600000 in
theorem echo_any {B : Nat} {w0 w : World} {hb s : Nat} {pe : A6} {p : PV} {Ap : Option Addr} {cp : Nat} {T S : Value} {us : List IU} {vs : List PU} (h : HrIn B w0 w hb s pe p Ap cp T S us vs) (hpl : p.info.length ≤ 140737488355328) (x : Int) :
    Calls Try.prog 51 #[ptr hb, .int .i64 x] w (GivesB w p.info) := by
  obtain ⟨_, _, _, _, _, _, _, _, _, _, c15, _, _, _⟩ := hd_cells h.hd
  have HC := cover (clone_any Ap p.info.length cp B p.info w h.inf h.size hpl)
  obtain ⟨L, hL⟩ : ∃ L, L = p.info.length := ⟨_, rfl⟩
  rw [← hL] at c15 HC
  have HL := cover hL
  clear h hpl hL
  go_enter Try.func51, Try.ntmps51
  go_wp2_with fail
  refine HC.out.mono ?_
  rintro e w3 ⟨A3, c3, rfl, ho3, hb3⟩
  go_wp2
  go_ret
  exact ⟨A3, c3, rfl, ho3, hb3⟩
theorem types_any (c : Int) (w : World) : Calls Try.prog 71 #[.int .i64 c] w fun e w' => e = .returned (.int .i64 (typS c)) ∧ w = w' := by
  have HT : Hid (typS c = if c = 1 then 1 else if c = 2 then 3 else if c = 3 then 5 else 7) := cover rfl
  by_cases h1 : c = 1
  · subst h1
    go_enter Try.func71, Try.ntmps71
    go_wp2
    go_ret
    exact ⟨rfl, rfl⟩
  by_cases h2 : c = 2
  · subst h2
    go_enter Try.func71, Try.ntmps71
    go_wp2
    go_ret
    exact ⟨rfl, rfl⟩
  by_cases h3 : c = 3
  · subst h3
    go_enter Try.func71, Try.ntmps71
    go_wp2
    go_ret
    exact ⟨rfl, rfl⟩
  have HT7 : Hid (typS c = 7) := cover (by rw [HT.out, if_neg h1, if_neg h2, if_neg h3])
  clear HT
  go_enter Try.func71, Try.ntmps71
  go_wp2
  go_ret
  exact ⟨ret_int HT7.out.symm, rfl⟩
theorem put_types (t : Int) (ht : 0 ≤ t ∧ t ≤ 7) : putC ⟨129, t, 64⟩ = ([129, t, 128], 0) := by
  unfold putC
  rw [if_pos (by unfold OkC; simp only; omega)]
  rfl
set_option maxHeartbeats 1600000 in
theorem class_any2 {B Bs : Nat} {w0 w : World} {hb s : Nat} {l : List SV} {pe : A6} {p : PV} {Ap : Option Addr} {cp : Nat} {T S : Value} {us : List IU} {vs : List PU} (h : HrIn B w0 w hb s pe p Ap cp T S us vs) (hs : SHas Bs w s l) {x : Int} (hx : I64 x) :
    Calls Try.prog 50 #[ptr hb, .int .i64 x] w (GivesB w [129, typS (clsS l x), 128]) := by
  obtain ⟨c0, _⟩ := hd_cells h.hd
  have s1 := class_has hs hx
  obtain ⟨c, hc⟩ : ∃ c, c = clsS l x := ⟨_, rfl⟩
  rw [← hc] at s1 ⊢
  have s2 := types_any c w
  obtain ⟨t, ht⟩ : ∃ t, t = typS c := ⟨_, rfl⟩
  have htb : 0 ≤ t ∧ t ≤ 7 := by rw [ht]; exact typ_small c
  rw [← ht] at s2 ⊢
  have s3 := putClass_any ⟨129, t, 64⟩ w
  rw [put_types t htb] at s3
  clear h hs hx hc ht htb
  go_enter Try.func50, Try.ntmps50
  go_wp2_with fail
  refine s1.mono ?_
  rintro e w1 ⟨rfl, rfl⟩
  go_wp2_with fail
  refine s2.mono ?_
  rintro e w1 ⟨rfl, rfl⟩
  go_wp2_with fail
  refine s3.mono ?_
  rintro e w3 ⟨A3, c3, rfl, ho3, hb3⟩
  have HO := cover (And.intro ho3 hb3)
  clear ho3 hb3 s1 s2 s3
  go_wp2
  go_ret
  exact ⟨A3, c3, rfl, HO.out.1, HO.out.2⟩
set_option maxRecDepth 100000 in
set_option maxHeartbeats 3200000 in
theorem answer_echo {B Bs : Nat} {w0 w : World} {hb s : Nat} {l : List SV} {pe : A6} {p : PV} {Ap : Option Addr} {cp : Nat} {T S : Value} {us : List IU} {vs : List PU} (h : HrIn B w0 w hb s pe p Ap cp T S us vs)  {b1 b2 : Nat} (hb1 : w.heap[b1]? = some (.cells #[ptr hb] 72 (0, 0))) (hb2 : w.heap[b2]? = some (.cells #[.func (.func 51) #[ptr hb] #[]] 104 (0, 0))) (hl : vs.length ≤ 1000) (hpl : p.info.length ≤ 140737488355328) {x : Int} (hx : I64 x) :
    Calls Try.prog 70 #[.int .i64 x, ptr b1, ptr b2] w fun e w' => (∃ v, e = .returned v) ∧ Hid (∃ S' A c, HrIn B w0 w' hb s pe p Ap cp T S' us (vs ++ [(⟨p.frm, x, true, 2, p.kind, 0, 0, p.poll, p.info⟩, A, c)]) ∧ KeepO isHearO w w') := by
  obtain ⟨inf, hinf⟩ : ∃ inf, inf = p.info := ⟨_, rfl⟩
  have HS : Hid (∀ W', KeepO (isTyO 29) w W' → Below B w W' → (fun W' : World => W'.cell? ⟨b1, 0, none⟩ = some (ptr hb) ∧ W'.cell? ⟨b2, 0, none⟩ = some (.func (.func 51) #[ptr hb] #[]) ∧ W'.cell? ⟨hb, 8, none⟩ = some (.int .i64 p.frm) ∧ W'.cell? ⟨hb, 11, none⟩ = some (.int .i64 p.kind) ∧ W'.cell? ⟨hb, 14, none⟩ = some (.bool p.poll) ∧ W'.cell? ⟨hb, 17, none⟩ = some S ∧ KeepO (isTyO 29) w W' ∧ Below B w W') W') := cover fun W' hk hb' => by
    obtain ⟨_, _, _, c8, _, _, c11, _, _, c14, _, _, c17, _⟩ := hd_cells (show HdIn W' hb s pe p Ap cp T S from hk _ _ h.hd (ty_ne (by decide) _ _))
    have e1 := hk _ _ hb1 (ty_ne (by decide) _ _)
    have e2 := hk _ _ hb2 (ty_ne (by decide) _ _)
    exact ⟨by rw [cell_of_row _ _ _ _ _ _ e1]; rfl, by rw [cell_of_row _ _ _ _ _ _ e2]; rfl, c8, c11, c14, c17, hk, hb'⟩
  have hb0 : Below w.heap.size w w.drew := (Below.refl _ _).drew
  have HC : Hid (Calls Try.prog 51 #[ptr hb, .int .i64 x] w.drew (GivesB w.drew inf)) := cover (by rw [hinf]; exact echo_any (h.below hb0) hpl x)
  have h3 : (fun W' : World => W'.cell? ⟨b1, 0, none⟩ = some (ptr hb) ∧ W'.cell? ⟨b2, 0, none⟩ = some (.func (.func 51) #[ptr hb] #[]) ∧ W'.cell? ⟨hb, 8, none⟩ = some (.int .i64 p.frm) ∧ W'.cell? ⟨hb, 11, none⟩ = some (.int .i64 p.kind) ∧ W'.cell? ⟨hb, 14, none⟩ = some (.bool p.poll) ∧ W'.cell? ⟨hb, 17, none⟩ = some S ∧ KeepO (isTyO 29) w W' ∧ Below B w W') w.drew := HS.out _ (KeepO.of_below hb0) (hb0.mono h.size)
  have HH := cover h
  have mixed : Try.prog.follows .mixedOrders = true := by kernel_rfl
  rw [← hinf]
  clear h hb1 hb2 hinf hx
  go_enter Try.func70, Try.ntmps70
  go_wp2_with fail
  refine (wpIn_wide (n := 0)).1 ?_
  refine held_begin (fun W' : World => W'.cell? ⟨b1, 0, none⟩ = some (ptr hb) ∧ W'.cell? ⟨b2, 0, none⟩ = some (.func (.func 51) #[ptr hb] #[]) ∧ W'.cell? ⟨hb, 8, none⟩ = some (.int .i64 p.frm) ∧ W'.cell? ⟨hb, 11, none⟩ = some (.int .i64 p.kind) ∧ W'.cell? ⟨hb, 14, none⟩ = some (.bool p.poll) ∧ W'.cell? ⟨hb, 17, none⟩ = some S ∧ KeepO (isTyO 29) w W' ∧ Below B w W') 29 mixed ?_
  refine hold_take 0 _ rfl (by kernel_rfl) (by kernel_rfl) (by kernel_rfl) (by kernel_rfl) (by kernel_rfl) (fun _ _ _ h => h) (by rfl) (fun _ => rfl) h3 (fun w' hS => by obtain ⟨q0, q1, q2, q3, q4, q5, q6, q7⟩ := hS; go_simp; rfl) ?_
  simp only [Act.put, List.setIfInBounds_toArray, List.set_cons_zero, List.set_cons_succ]
  refine hold_take 1 _ rfl (by kernel_rfl) (by kernel_rfl) (by kernel_rfl) (by kernel_rfl) (by kernel_rfl) (fun _ _ _ h => h) (by rfl) (fun _ => rfl) h3 (fun w' hS => by obtain ⟨q0, q1, q2, q3, q4, q5, q6, q7⟩ := hS; go_simp; rfl) ?_
  simp only [Act.put, List.setIfInBounds_toArray, List.set_cons_zero, List.set_cons_succ]
  refine hold_take 2 _ rfl (by kernel_rfl) (by kernel_rfl) (by kernel_rfl) (by kernel_rfl) (by kernel_rfl) (fun _ _ _ h => h) (by rfl) (fun _ => rfl) h3 (fun w' hS => by obtain ⟨q0, q1, q2, q3, q4, q5, q6, q7⟩ := hS; go_simp; rfl) ?_
  simp only [Act.put, List.setIfInBounds_toArray, List.set_cons_zero, List.set_cons_succ]
  refine hold_take 3 _ rfl (by kernel_rfl) (by kernel_rfl) (by kernel_rfl) (by kernel_rfl) (by kernel_rfl) (fun _ _ _ h => h) (by rfl) (fun _ => rfl) h3 (fun w' hS => by obtain ⟨q0, q1, q2, q3, q4, q5, q6, q7⟩ := hS; go_simp; rfl) ?_
  simp only [Act.put, List.setIfInBounds_toArray, List.set_cons_zero, List.set_cons_succ]
  refine hold_take 4 _ rfl (by kernel_rfl) (by kernel_rfl) (by kernel_rfl) (by kernel_rfl) (by kernel_rfl) (fun _ _ _ h => h) (by rfl) (fun _ => rfl) h3 (fun w' hS => by obtain ⟨q0, q1, q2, q3, q4, q5, q6, q7⟩ := hS; go_simp; rfl) ?_
  simp only [Act.put, List.setIfInBounds_toArray, List.set_cons_zero, List.set_cons_succ]
  refine hold_take 5 _ rfl (by kernel_rfl) (by kernel_rfl) (by kernel_rfl) (by kernel_rfl) (by kernel_rfl) (fun _ _ _ h => h) (by rfl) (fun _ => rfl) h3 (fun w' hS => by obtain ⟨q0, q1, q2, q3, q4, q5, q6, q7⟩ := hS; go_simp; rfl) ?_
  simp only [Act.put, List.setIfInBounds_toArray, List.set_cons_zero, List.set_cons_succ]
  refine hold_take 6 _ rfl (by kernel_rfl) (by kernel_rfl) (by kernel_rfl) (by kernel_rfl) (by kernel_rfl) (fun _ _ _ h => h) (by rfl) (fun _ => rfl) h3 (fun w' hS => by obtain ⟨q0, q1, q2, q3, q4, q5, q6, q7⟩ := hS; go_simp; rfl) ?_
  simp only [Act.put, List.setIfInBounds_toArray, List.set_cons_zero, List.set_cons_succ]
  refine hold_take 7 _ rfl (by kernel_rfl) (by kernel_rfl) (by kernel_rfl) (by kernel_rfl) (by kernel_rfl) (fun _ _ _ h => h) (by rfl) (fun _ => rfl) h3 (fun w' hS => by obtain ⟨q0, q1, q2, q3, q4, q5, q6, q7⟩ := hS; go_simp; rfl) ?_
  simp only [Act.put, List.setIfInBounds_toArray, List.set_cons_zero, List.set_cons_succ]
  refine hold_take 8 _ rfl (by kernel_rfl) (by kernel_rfl) (by kernel_rfl) (by kernel_rfl) (by kernel_rfl) (fun _ _ _ h => h) (by rfl) (fun _ => rfl) h3 (fun w' hS => by obtain ⟨q0, q1, q2, q3, q4, q5, q6, q7⟩ := hS; go_simp; rfl) ?_
  simp only [Act.put, List.setIfInBounds_toArray, List.set_cons_zero, List.set_cons_succ]
  refine hold_take 9 _ rfl (by kernel_rfl) (by kernel_rfl) (by kernel_rfl) (by kernel_rfl) (by kernel_rfl) (fun _ _ _ h => h) (by rfl) (fun _ => rfl) h3 (fun w' hS => by obtain ⟨q0, q1, q2, q3, q4, q5, q6, q7⟩ := hS; go_simp; rfl) ?_
  simp only [Act.put, List.setIfInBounds_toArray, List.set_cons_zero, List.set_cons_succ]
  refine hold_take 10 _ rfl (by kernel_rfl) (by kernel_rfl) (by kernel_rfl) (by kernel_rfl) (by kernel_rfl) (fun _ _ _ h => h) (by rfl) (fun _ => rfl) h3 (fun w' hS => by obtain ⟨q0, q1, q2, q3, q4, q5, q6, q7⟩ := hS; go_simp; rfl) ?_
  simp only [Act.put, List.setIfInBounds_toArray, List.set_cons_zero, List.set_cons_succ]
  refine hold_take 11 _ rfl (by kernel_rfl) (by kernel_rfl) (by kernel_rfl) (by kernel_rfl) (by kernel_rfl) (fun _ _ _ h => h) (by rfl) (fun _ => rfl) h3 (fun w' hS => by obtain ⟨q0, q1, q2, q3, q4, q5, q6, q7⟩ := hS; go_simp; rfl) ?_
  simp only [Act.put, List.setIfInBounds_toArray, List.set_cons_zero, List.set_cons_succ]
  refine hold_take 12 _ rfl (by kernel_rfl) (by kernel_rfl) (by kernel_rfl) (by kernel_rfl) (by kernel_rfl) (fun _ _ _ h => h) (by rfl) (fun _ => rfl) h3 (fun w' hS => by obtain ⟨q0, q1, q2, q3, q4, q5, q6, q7⟩ := hS; go_simp; rfl) ?_
  simp only [Act.put, List.setIfInBounds_toArray, List.set_cons_zero, List.set_cons_succ]
  refine hold_take 13 _ rfl (by kernel_rfl) (by kernel_rfl) (by kernel_rfl) (by kernel_rfl) (by kernel_rfl) (fun _ _ _ h => h) (by rfl) (fun _ => rfl) h3 (fun w' hS => by obtain ⟨q0, q1, q2, q3, q4, q5, q6, q7⟩ := hS; go_simp; rfl) ?_
  simp only [Act.put, List.setIfInBounds_toArray, List.set_cons_zero, List.set_cons_succ]
  refine hold_take 14 _ rfl (by kernel_rfl) (by kernel_rfl) (by kernel_rfl) (by kernel_rfl) (by kernel_rfl) (fun _ _ _ h => h) (by rfl) (fun _ => rfl) h3 (fun w' hS => by obtain ⟨q0, q1, q2, q3, q4, q5, q6, q7⟩ := hS; go_simp; rfl) ?_
  simp only [Act.put, List.setIfInBounds_toArray, List.set_cons_zero, List.set_cons_succ]
  refine hold_take 15 _ rfl (by kernel_rfl) (by kernel_rfl) (by kernel_rfl) (by kernel_rfl) (by kernel_rfl) (fun _ _ _ h => h) (by rfl) (fun _ => rfl) h3 (fun w' hS => by obtain ⟨q0, q1, q2, q3, q4, q5, q6, q7⟩ := hS; go_simp; rfl) ?_
  simp only [Act.put, List.setIfInBounds_toArray, List.set_cons_zero, List.set_cons_succ]
  refine hold_take 16 _ rfl (by kernel_rfl) (by kernel_rfl) (by kernel_rfl) (by kernel_rfl) (by kernel_rfl) (fun _ _ _ h => h) (by rfl) (fun _ => rfl) h3 (fun w' hS => by obtain ⟨q0, q1, q2, q3, q4, q5, q6, q7⟩ := hS; go_simp; rfl) ?_
  simp only [Act.put, List.setIfInBounds_toArray, List.set_cons_zero, List.set_cons_succ]
  refine hold_take 17 _ rfl (by kernel_rfl) (by kernel_rfl) (by kernel_rfl) (by kernel_rfl) (by kernel_rfl) (fun _ _ _ h => h) (by rfl) (fun _ => rfl) h3 (fun w' hS => by obtain ⟨q0, q1, q2, q3, q4, q5, q6, q7⟩ := hS; go_simp; rfl) ?_
  simp only [Act.put, List.setIfInBounds_toArray, List.set_cons_zero, List.set_cons_succ]
  refine hold_take 18 _ rfl (by kernel_rfl) (by kernel_rfl) (by kernel_rfl) (by kernel_rfl) (by kernel_rfl) (fun _ _ _ h => h) (by rfl) (fun _ => rfl) h3 (fun w' hS => by obtain ⟨q0, q1, q2, q3, q4, q5, q6, q7⟩ := hS; go_simp; rfl) ?_
  simp only [Act.put, List.setIfInBounds_toArray, List.set_cons_zero, List.set_cons_succ]
  refine hold_take 19 _ rfl (by kernel_rfl) (by kernel_rfl) (by kernel_rfl) (by kernel_rfl) (by kernel_rfl) (fun _ _ _ h => h) (by rfl) (fun _ => rfl) h3 (fun w' hS => by obtain ⟨q0, q1, q2, q3, q4, q5, q6, q7⟩ := hS; go_simp; rfl) ?_
  simp only [Act.put, List.setIfInBounds_toArray, List.set_cons_zero, List.set_cons_succ]
  refine hold_take 20 _ rfl (by kernel_rfl) (by kernel_rfl) (by kernel_rfl) (by kernel_rfl) (by kernel_rfl) (fun _ _ _ h => h) (by rfl) (fun _ => rfl) h3 (fun w' hS => by obtain ⟨q0, q1, q2, q3, q4, q5, q6, q7⟩ := hS; go_simp; rfl) ?_
  simp only [Act.put, List.setIfInBounds_toArray, List.set_cons_zero, List.set_cons_succ]
  refine hold_take 21 _ rfl (by kernel_rfl) (by kernel_rfl) (by kernel_rfl) (by kernel_rfl) (by kernel_rfl) (fun _ _ _ h => h) (by rfl) (fun _ => rfl) h3 (fun w' hS => by obtain ⟨q0, q1, q2, q3, q4, q5, q6, q7⟩ := hS; go_simp; rfl) ?_
  simp only [Act.put, List.setIfInBounds_toArray, List.set_cons_zero, List.set_cons_succ]
  refine hold_take 22 _ rfl (by kernel_rfl) (by kernel_rfl) (by kernel_rfl) (by kernel_rfl) (by kernel_rfl) (fun _ _ _ h => h) (by rfl) (fun _ => rfl) h3 (fun w' hS => by obtain ⟨q0, q1, q2, q3, q4, q5, q6, q7⟩ := hS; go_simp; rfl) ?_
  simp only [Act.put, List.setIfInBounds_toArray, List.set_cons_zero, List.set_cons_succ]
  refine hold_one 23 (by kernel_rfl) rfl (by rfl) fun K hK => ?_
  go_simp
  refine ⟨trivial, rfl, (callsIn_wide.2 HC.out).mono ?_⟩
  rintro e w3 ⟨A3, c3, rfl, ho3, hb3⟩
  have hB3 : Below w.heap.size w w3 := hb0.trans (hb3.mono hb0.size)
  obtain ⟨m3, hm3⟩ : ∃ m3, m3 = inf.length := ⟨_, rfl⟩
  have HO3 := cover ho3
  rw [← hm3] at HO3 ⊢
  have HM3 := cover hm3
  refine hK _ _ (.inr (HS.out _ (KeepO.of_below hB3) (hB3.mono HH.out.size))) ?_
  clear hK K ho3 hb3 hm3
  refine hold_one 24 (by kernel_rfl) rfl (by rfl) fun K hK => ?_
  go_simp
  refine hK _ _ (.inr (HS.out _ (KeepO.of_below hB3) (hB3.mono HH.out.size))) ?_
  clear hK K
  refine hold_one 25 (by kernel_rfl) rfl (by rfl) fun K hK => ?_
  obtain ⟨z, hz⟩ : ∃ z, z = w3.heap.size := ⟨_, rfl⟩
  obtain ⟨wz, hwz⟩ : ∃ wz, wz = w3.alloc (.cells #[.int .i64 p.frm, .int .i64 x, .bool true, .int .i64 2, .int .i64 p.kind, .int .i64 0, .int .i64 0, .bool p.poll, .slice A3 m3 c3] 29) := ⟨_, rfl⟩
  have hmz : Below w3.heap.size w3 wz := by rw [hwz]; exact (Below.refl _ _).alloc (Nat.le_refl _) _
  have hBz : Below w.heap.size w wz := hB3.trans (hmz.mono hB3.size)
  have hnz : wz.heap[z]? = some (.cells #[.int .i64 p.frm, .int .i64 x, .bool true, .int .i64 2, .int .i64 p.kind, .int .i64 0, .int .i64 0, .bool p.poll, .slice A3 m3 c3] 29 (0, 0)) := by rw [hwz, hz]; exact heap_alloc_new _ _
  have hoz : InfP wz ((⟨p.frm, x, true, 2, p.kind, 0, 0, p.poll, inf⟩ : PV), A3, c3) := own_base (ownB_below (by rw [HM3.out] at HO3; exact HO3.out) hmz) (Nat.zero_le _)
  refine run_in (fun c h => by cases h) (fun _ _ => trivial) (v := .slice (some ⟨z, 0, none⟩) 1 1) (w' := wz) (by rw [hwz, hz]; go_simp) ?_
  refine hK _ _ (.inr (HS.out _ (KeepO.of_below hBz) (hBz.mono HH.out.size))) ?_
  clear hK K hwz hz
  simp only [Act.put, List.setIfInBounds_toArray, List.set_cons_zero, List.set_cons_succ]
  refine hold_one 26 (by kernel_rfl) rfl (by rfl) fun K hK => ?_
  obtain ⟨v5, w5, hr5, ho5, hg5⟩ := OwnPs.app (own_blocks HH.out.sent hBz) (Nat.le_trans HH.out.size hBz.size) ((⟨p.frm, x, true, 2, p.kind, 0, 0, p.poll, inf⟩ : PV), A3, c3) (by rw [HM3.out] at hnz; exact hnz) (by omega) 33
  have hoT := own_blocks HH.out.sent hBz
  obtain ⟨A5, cp5, rfl, _⟩ := own_shape ho5
  obtain ⟨n5, hn5⟩ : ∃ n5, n5 = (vs ++ [((⟨p.frm, x, true, 2, p.kind, 0, 0, p.poll, inf⟩ : PV), A3, c3)]).length := ⟨_, rfl⟩
  rw [← hn5] at ho5 hr5
  have HN5 := cover hn5
  clear hn5
  have k5 : KeepO (isTyO 29) w w5 := (KeepO.of_below hBz).trans (KeepO.grown hoT hg5)
  have hB5 : Below B w w5 := below_grown (hBz.mono HH.out.size) (Nat.le_trans HH.out.size hBz.size) hoT hg5
  have hi5 : InfP w5 ((⟨p.frm, x, true, 2, p.kind, 0, 0, p.poll, inf⟩ : PV), A3, c3) := own_typed hoz (KeepO.grown hoT hg5) (fun _ _ => ty_ne (by decide) _ _)
  have HN := cover (HH.out.send (v5 := .slice A5 n5 cp5) (by rw [HN5.out] at ho5 ⊢; exact ho5) hi5 k5 hB5)
  have hf5 : w5.frozen? ⟨hb, 17, none⟩ = false := by
    have hh := k5 _ _ HH.out.hd (ty_ne (by decide) _ _)
    simp [World.frozen?, hh]
  have hS5 : (fun W' : World => W'.cell? ⟨b1, 0, none⟩ = some (ptr hb) ∧ W'.cell? ⟨b2, 0, none⟩ = some (.func (.func 51) #[ptr hb] #[]) ∧ W'.cell? ⟨hb, 8, none⟩ = some (.int .i64 p.frm) ∧ W'.cell? ⟨hb, 11, none⟩ = some (.int .i64 p.kind) ∧ W'.cell? ⟨hb, 14, none⟩ = some (.bool p.poll) ∧ W'.cell? ⟨hb, 17, none⟩ = some S ∧ KeepO (isTyO 29) w W' ∧ Below B w W') w5 := HS.out _ k5 hB5
  have hc5 : w5.cell? ⟨hb, 17, none⟩ = some S := hS5.2.2.2.2.2.1
  refine run_in (fun c h => by cases h) (fun _ _ => trivial) (v := .slice A5 n5 cp5) (w' := w5) (appends_exec _ _ _ _ rfl S (.slice (some ⟨z, 0, none⟩) 1 1) (by go_simp) (by go_simp) hr5) ?_
  refine hK _ _ (.inr hS5) ?_
  clear hK K hr5 hoT ho5 hi5 k5 hB5 hg5 hnz hoz hBz hmz HS HC HO3 HH
  simp only [Act.put, List.setIfInBounds_toArray, List.set_cons_zero, List.set_cons_succ]
  refine hold_one 27 (by kernel_rfl) rfl (by rfl) fun K hK => ?_
  go_simp
  refine hK _ _ (.inr hS5) ?_
  clear hK K
  refine hold_one 28 (by kernel_rfl) rfl (by rfl) fun K hK => ?_
  go_simp
  refine hK _ _ (.inr hS5) ?_
  clear hK K
  refine hold_one 29 (by kernel_rfl) rfl (by rfl) fun K hK => ?_
  go_simp
  refine hK _ _ (.inl rfl) (held_done (by kernel_rfl) ?_ _)
  clear hK K hS5 h3 hb0 hB3
  go_wp2_with fail
  exact ⟨rfl, _, results_none rfl _ _ _, ⟨_, rfl⟩, _, A3, c3, HN.out⟩
set_option maxRecDepth 100000 in
set_option maxHeartbeats 3200000 in
theorem answer_class {B Bs : Nat} {w0 w : World} {hb s : Nat} {l : List SV} {pe : A6} {p : PV} {Ap : Option Addr} {cp : Nat} {T S : Value} {us : List IU} {vs : List PU} (h : HrIn B w0 w hb s pe p Ap cp T S us vs) (hs : SHas Bs w s l) {b1 b2 : Nat} (hb1 : w.heap[b1]? = some (.cells #[ptr hb] 72 (0, 0))) (hb2 : w.heap[b2]? = some (.cells #[.func (.func 50) #[ptr hb] #[]] 104 (0, 0))) (hl : vs.length ≤ 1000) (hpl : p.info.length ≤ 140737488355328) {x : Int} (hx : I64 x) :
    Calls Try.prog 70 #[.int .i64 x, ptr b1, ptr b2] w fun e w' => (∃ v, e = .returned v) ∧ Hid (∃ S' A c, HrIn B w0 w' hb s pe p Ap cp T S' us (vs ++ [(⟨p.frm, x, true, 2, p.kind, 0, 0, p.poll, [129, typS (clsS l x), 128]⟩, A, c)]) ∧ KeepO isHearO w w') := by
  obtain ⟨inf, hinf⟩ : ∃ inf, inf = [129, typS (clsS l x), 128] := ⟨_, rfl⟩
  have HS : Hid (∀ W', KeepO (isTyO 29) w W' → Below B w W' → (fun W' : World => W'.cell? ⟨b1, 0, none⟩ = some (ptr hb) ∧ W'.cell? ⟨b2, 0, none⟩ = some (.func (.func 50) #[ptr hb] #[]) ∧ W'.cell? ⟨hb, 8, none⟩ = some (.int .i64 p.frm) ∧ W'.cell? ⟨hb, 11, none⟩ = some (.int .i64 p.kind) ∧ W'.cell? ⟨hb, 14, none⟩ = some (.bool p.poll) ∧ W'.cell? ⟨hb, 17, none⟩ = some S ∧ KeepO (isTyO 29) w W' ∧ Below B w W') W') := cover fun W' hk hb' => by
    obtain ⟨_, _, _, c8, _, _, c11, _, _, c14, _, _, c17, _⟩ := hd_cells (show HdIn W' hb s pe p Ap cp T S from hk _ _ h.hd (ty_ne (by decide) _ _))
    have e1 := hk _ _ hb1 (ty_ne (by decide) _ _)
    have e2 := hk _ _ hb2 (ty_ne (by decide) _ _)
    exact ⟨by rw [cell_of_row _ _ _ _ _ _ e1]; rfl, by rw [cell_of_row _ _ _ _ _ _ e2]; rfl, c8, c11, c14, c17, hk, hb'⟩
  have hb0 : Below w.heap.size w w.drew := (Below.refl _ _).drew
  have HC : Hid (Calls Try.prog 50 #[ptr hb, .int .i64 x] w.drew (GivesB w.drew inf)) := cover (by rw [hinf]; exact class_any2 (h.below hb0) (hs.below hb0) hx)
  have h3 : (fun W' : World => W'.cell? ⟨b1, 0, none⟩ = some (ptr hb) ∧ W'.cell? ⟨b2, 0, none⟩ = some (.func (.func 50) #[ptr hb] #[]) ∧ W'.cell? ⟨hb, 8, none⟩ = some (.int .i64 p.frm) ∧ W'.cell? ⟨hb, 11, none⟩ = some (.int .i64 p.kind) ∧ W'.cell? ⟨hb, 14, none⟩ = some (.bool p.poll) ∧ W'.cell? ⟨hb, 17, none⟩ = some S ∧ KeepO (isTyO 29) w W' ∧ Below B w W') w.drew := HS.out _ (KeepO.of_below hb0) (hb0.mono h.size)
  have HH := cover h
  have mixed : Try.prog.follows .mixedOrders = true := by kernel_rfl
  rw [← hinf]
  clear h hb1 hb2 hinf hx
  go_enter Try.func70, Try.ntmps70
  go_wp2_with fail
  refine (wpIn_wide (n := 0)).1 ?_
  refine held_begin (fun W' : World => W'.cell? ⟨b1, 0, none⟩ = some (ptr hb) ∧ W'.cell? ⟨b2, 0, none⟩ = some (.func (.func 50) #[ptr hb] #[]) ∧ W'.cell? ⟨hb, 8, none⟩ = some (.int .i64 p.frm) ∧ W'.cell? ⟨hb, 11, none⟩ = some (.int .i64 p.kind) ∧ W'.cell? ⟨hb, 14, none⟩ = some (.bool p.poll) ∧ W'.cell? ⟨hb, 17, none⟩ = some S ∧ KeepO (isTyO 29) w W' ∧ Below B w W') 29 mixed ?_
  refine hold_take 0 _ rfl (by kernel_rfl) (by kernel_rfl) (by kernel_rfl) (by kernel_rfl) (by kernel_rfl) (fun _ _ _ h => h) (by rfl) (fun _ => rfl) h3 (fun w' hS => by obtain ⟨q0, q1, q2, q3, q4, q5, q6, q7⟩ := hS; go_simp; rfl) ?_
  simp only [Act.put, List.setIfInBounds_toArray, List.set_cons_zero, List.set_cons_succ]
  refine hold_take 1 _ rfl (by kernel_rfl) (by kernel_rfl) (by kernel_rfl) (by kernel_rfl) (by kernel_rfl) (fun _ _ _ h => h) (by rfl) (fun _ => rfl) h3 (fun w' hS => by obtain ⟨q0, q1, q2, q3, q4, q5, q6, q7⟩ := hS; go_simp; rfl) ?_
  simp only [Act.put, List.setIfInBounds_toArray, List.set_cons_zero, List.set_cons_succ]
  refine hold_take 2 _ rfl (by kernel_rfl) (by kernel_rfl) (by kernel_rfl) (by kernel_rfl) (by kernel_rfl) (fun _ _ _ h => h) (by rfl) (fun _ => rfl) h3 (fun w' hS => by obtain ⟨q0, q1, q2, q3, q4, q5, q6, q7⟩ := hS; go_simp; rfl) ?_
  simp only [Act.put, List.setIfInBounds_toArray, List.set_cons_zero, List.set_cons_succ]
  refine hold_take 3 _ rfl (by kernel_rfl) (by kernel_rfl) (by kernel_rfl) (by kernel_rfl) (by kernel_rfl) (fun _ _ _ h => h) (by rfl) (fun _ => rfl) h3 (fun w' hS => by obtain ⟨q0, q1, q2, q3, q4, q5, q6, q7⟩ := hS; go_simp; rfl) ?_
  simp only [Act.put, List.setIfInBounds_toArray, List.set_cons_zero, List.set_cons_succ]
  refine hold_take 4 _ rfl (by kernel_rfl) (by kernel_rfl) (by kernel_rfl) (by kernel_rfl) (by kernel_rfl) (fun _ _ _ h => h) (by rfl) (fun _ => rfl) h3 (fun w' hS => by obtain ⟨q0, q1, q2, q3, q4, q5, q6, q7⟩ := hS; go_simp; rfl) ?_
  simp only [Act.put, List.setIfInBounds_toArray, List.set_cons_zero, List.set_cons_succ]
  refine hold_take 5 _ rfl (by kernel_rfl) (by kernel_rfl) (by kernel_rfl) (by kernel_rfl) (by kernel_rfl) (fun _ _ _ h => h) (by rfl) (fun _ => rfl) h3 (fun w' hS => by obtain ⟨q0, q1, q2, q3, q4, q5, q6, q7⟩ := hS; go_simp; rfl) ?_
  simp only [Act.put, List.setIfInBounds_toArray, List.set_cons_zero, List.set_cons_succ]
  refine hold_take 6 _ rfl (by kernel_rfl) (by kernel_rfl) (by kernel_rfl) (by kernel_rfl) (by kernel_rfl) (fun _ _ _ h => h) (by rfl) (fun _ => rfl) h3 (fun w' hS => by obtain ⟨q0, q1, q2, q3, q4, q5, q6, q7⟩ := hS; go_simp; rfl) ?_
  simp only [Act.put, List.setIfInBounds_toArray, List.set_cons_zero, List.set_cons_succ]
  refine hold_take 7 _ rfl (by kernel_rfl) (by kernel_rfl) (by kernel_rfl) (by kernel_rfl) (by kernel_rfl) (fun _ _ _ h => h) (by rfl) (fun _ => rfl) h3 (fun w' hS => by obtain ⟨q0, q1, q2, q3, q4, q5, q6, q7⟩ := hS; go_simp; rfl) ?_
  simp only [Act.put, List.setIfInBounds_toArray, List.set_cons_zero, List.set_cons_succ]
  refine hold_take 8 _ rfl (by kernel_rfl) (by kernel_rfl) (by kernel_rfl) (by kernel_rfl) (by kernel_rfl) (fun _ _ _ h => h) (by rfl) (fun _ => rfl) h3 (fun w' hS => by obtain ⟨q0, q1, q2, q3, q4, q5, q6, q7⟩ := hS; go_simp; rfl) ?_
  simp only [Act.put, List.setIfInBounds_toArray, List.set_cons_zero, List.set_cons_succ]
  refine hold_take 9 _ rfl (by kernel_rfl) (by kernel_rfl) (by kernel_rfl) (by kernel_rfl) (by kernel_rfl) (fun _ _ _ h => h) (by rfl) (fun _ => rfl) h3 (fun w' hS => by obtain ⟨q0, q1, q2, q3, q4, q5, q6, q7⟩ := hS; go_simp; rfl) ?_
  simp only [Act.put, List.setIfInBounds_toArray, List.set_cons_zero, List.set_cons_succ]
  refine hold_take 10 _ rfl (by kernel_rfl) (by kernel_rfl) (by kernel_rfl) (by kernel_rfl) (by kernel_rfl) (fun _ _ _ h => h) (by rfl) (fun _ => rfl) h3 (fun w' hS => by obtain ⟨q0, q1, q2, q3, q4, q5, q6, q7⟩ := hS; go_simp; rfl) ?_
  simp only [Act.put, List.setIfInBounds_toArray, List.set_cons_zero, List.set_cons_succ]
  refine hold_take 11 _ rfl (by kernel_rfl) (by kernel_rfl) (by kernel_rfl) (by kernel_rfl) (by kernel_rfl) (fun _ _ _ h => h) (by rfl) (fun _ => rfl) h3 (fun w' hS => by obtain ⟨q0, q1, q2, q3, q4, q5, q6, q7⟩ := hS; go_simp; rfl) ?_
  simp only [Act.put, List.setIfInBounds_toArray, List.set_cons_zero, List.set_cons_succ]
  refine hold_take 12 _ rfl (by kernel_rfl) (by kernel_rfl) (by kernel_rfl) (by kernel_rfl) (by kernel_rfl) (fun _ _ _ h => h) (by rfl) (fun _ => rfl) h3 (fun w' hS => by obtain ⟨q0, q1, q2, q3, q4, q5, q6, q7⟩ := hS; go_simp; rfl) ?_
  simp only [Act.put, List.setIfInBounds_toArray, List.set_cons_zero, List.set_cons_succ]
  refine hold_take 13 _ rfl (by kernel_rfl) (by kernel_rfl) (by kernel_rfl) (by kernel_rfl) (by kernel_rfl) (fun _ _ _ h => h) (by rfl) (fun _ => rfl) h3 (fun w' hS => by obtain ⟨q0, q1, q2, q3, q4, q5, q6, q7⟩ := hS; go_simp; rfl) ?_
  simp only [Act.put, List.setIfInBounds_toArray, List.set_cons_zero, List.set_cons_succ]
  refine hold_take 14 _ rfl (by kernel_rfl) (by kernel_rfl) (by kernel_rfl) (by kernel_rfl) (by kernel_rfl) (fun _ _ _ h => h) (by rfl) (fun _ => rfl) h3 (fun w' hS => by obtain ⟨q0, q1, q2, q3, q4, q5, q6, q7⟩ := hS; go_simp; rfl) ?_
  simp only [Act.put, List.setIfInBounds_toArray, List.set_cons_zero, List.set_cons_succ]
  refine hold_take 15 _ rfl (by kernel_rfl) (by kernel_rfl) (by kernel_rfl) (by kernel_rfl) (by kernel_rfl) (fun _ _ _ h => h) (by rfl) (fun _ => rfl) h3 (fun w' hS => by obtain ⟨q0, q1, q2, q3, q4, q5, q6, q7⟩ := hS; go_simp; rfl) ?_
  simp only [Act.put, List.setIfInBounds_toArray, List.set_cons_zero, List.set_cons_succ]
  refine hold_take 16 _ rfl (by kernel_rfl) (by kernel_rfl) (by kernel_rfl) (by kernel_rfl) (by kernel_rfl) (fun _ _ _ h => h) (by rfl) (fun _ => rfl) h3 (fun w' hS => by obtain ⟨q0, q1, q2, q3, q4, q5, q6, q7⟩ := hS; go_simp; rfl) ?_
  simp only [Act.put, List.setIfInBounds_toArray, List.set_cons_zero, List.set_cons_succ]
  refine hold_take 17 _ rfl (by kernel_rfl) (by kernel_rfl) (by kernel_rfl) (by kernel_rfl) (by kernel_rfl) (fun _ _ _ h => h) (by rfl) (fun _ => rfl) h3 (fun w' hS => by obtain ⟨q0, q1, q2, q3, q4, q5, q6, q7⟩ := hS; go_simp; rfl) ?_
  simp only [Act.put, List.setIfInBounds_toArray, List.set_cons_zero, List.set_cons_succ]
  refine hold_take 18 _ rfl (by kernel_rfl) (by kernel_rfl) (by kernel_rfl) (by kernel_rfl) (by kernel_rfl) (fun _ _ _ h => h) (by rfl) (fun _ => rfl) h3 (fun w' hS => by obtain ⟨q0, q1, q2, q3, q4, q5, q6, q7⟩ := hS; go_simp; rfl) ?_
  simp only [Act.put, List.setIfInBounds_toArray, List.set_cons_zero, List.set_cons_succ]
  refine hold_take 19 _ rfl (by kernel_rfl) (by kernel_rfl) (by kernel_rfl) (by kernel_rfl) (by kernel_rfl) (fun _ _ _ h => h) (by rfl) (fun _ => rfl) h3 (fun w' hS => by obtain ⟨q0, q1, q2, q3, q4, q5, q6, q7⟩ := hS; go_simp; rfl) ?_
  simp only [Act.put, List.setIfInBounds_toArray, List.set_cons_zero, List.set_cons_succ]
  refine hold_take 20 _ rfl (by kernel_rfl) (by kernel_rfl) (by kernel_rfl) (by kernel_rfl) (by kernel_rfl) (fun _ _ _ h => h) (by rfl) (fun _ => rfl) h3 (fun w' hS => by obtain ⟨q0, q1, q2, q3, q4, q5, q6, q7⟩ := hS; go_simp; rfl) ?_
  simp only [Act.put, List.setIfInBounds_toArray, List.set_cons_zero, List.set_cons_succ]
  refine hold_take 21 _ rfl (by kernel_rfl) (by kernel_rfl) (by kernel_rfl) (by kernel_rfl) (by kernel_rfl) (fun _ _ _ h => h) (by rfl) (fun _ => rfl) h3 (fun w' hS => by obtain ⟨q0, q1, q2, q3, q4, q5, q6, q7⟩ := hS; go_simp; rfl) ?_
  simp only [Act.put, List.setIfInBounds_toArray, List.set_cons_zero, List.set_cons_succ]
  refine hold_take 22 _ rfl (by kernel_rfl) (by kernel_rfl) (by kernel_rfl) (by kernel_rfl) (by kernel_rfl) (fun _ _ _ h => h) (by rfl) (fun _ => rfl) h3 (fun w' hS => by obtain ⟨q0, q1, q2, q3, q4, q5, q6, q7⟩ := hS; go_simp; rfl) ?_
  simp only [Act.put, List.setIfInBounds_toArray, List.set_cons_zero, List.set_cons_succ]
  refine hold_one 23 (by kernel_rfl) rfl (by rfl) fun K hK => ?_
  go_simp
  refine ⟨trivial, rfl, (callsIn_wide.2 HC.out).mono ?_⟩
  rintro e w3 ⟨A3, c3, rfl, ho3, hb3⟩
  have hB3 : Below w.heap.size w w3 := hb0.trans (hb3.mono hb0.size)
  obtain ⟨m3, hm3⟩ : ∃ m3, m3 = inf.length := ⟨_, rfl⟩
  have HO3 := cover ho3
  rw [← hm3] at HO3 ⊢
  have HM3 := cover hm3
  refine hK _ _ (.inr (HS.out _ (KeepO.of_below hB3) (hB3.mono HH.out.size))) ?_
  clear hK K ho3 hb3 hm3
  refine hold_one 24 (by kernel_rfl) rfl (by rfl) fun K hK => ?_
  go_simp
  refine hK _ _ (.inr (HS.out _ (KeepO.of_below hB3) (hB3.mono HH.out.size))) ?_
  clear hK K
  refine hold_one 25 (by kernel_rfl) rfl (by rfl) fun K hK => ?_
  obtain ⟨z, hz⟩ : ∃ z, z = w3.heap.size := ⟨_, rfl⟩
  obtain ⟨wz, hwz⟩ : ∃ wz, wz = w3.alloc (.cells #[.int .i64 p.frm, .int .i64 x, .bool true, .int .i64 2, .int .i64 p.kind, .int .i64 0, .int .i64 0, .bool p.poll, .slice A3 m3 c3] 29) := ⟨_, rfl⟩
  have hmz : Below w3.heap.size w3 wz := by rw [hwz]; exact (Below.refl _ _).alloc (Nat.le_refl _) _
  have hBz : Below w.heap.size w wz := hB3.trans (hmz.mono hB3.size)
  have hnz : wz.heap[z]? = some (.cells #[.int .i64 p.frm, .int .i64 x, .bool true, .int .i64 2, .int .i64 p.kind, .int .i64 0, .int .i64 0, .bool p.poll, .slice A3 m3 c3] 29 (0, 0)) := by rw [hwz, hz]; exact heap_alloc_new _ _
  have hoz : InfP wz ((⟨p.frm, x, true, 2, p.kind, 0, 0, p.poll, inf⟩ : PV), A3, c3) := own_base (ownB_below (by rw [HM3.out] at HO3; exact HO3.out) hmz) (Nat.zero_le _)
  refine run_in (fun c h => by cases h) (fun _ _ => trivial) (v := .slice (some ⟨z, 0, none⟩) 1 1) (w' := wz) (by rw [hwz, hz]; go_simp) ?_
  refine hK _ _ (.inr (HS.out _ (KeepO.of_below hBz) (hBz.mono HH.out.size))) ?_
  clear hK K hwz hz
  simp only [Act.put, List.setIfInBounds_toArray, List.set_cons_zero, List.set_cons_succ]
  refine hold_one 26 (by kernel_rfl) rfl (by rfl) fun K hK => ?_
  obtain ⟨v5, w5, hr5, ho5, hg5⟩ := OwnPs.app (own_blocks HH.out.sent hBz) (Nat.le_trans HH.out.size hBz.size) ((⟨p.frm, x, true, 2, p.kind, 0, 0, p.poll, inf⟩ : PV), A3, c3) (by rw [HM3.out] at hnz; exact hnz) (by omega) 33
  have hoT := own_blocks HH.out.sent hBz
  obtain ⟨A5, cp5, rfl, _⟩ := own_shape ho5
  obtain ⟨n5, hn5⟩ : ∃ n5, n5 = (vs ++ [((⟨p.frm, x, true, 2, p.kind, 0, 0, p.poll, inf⟩ : PV), A3, c3)]).length := ⟨_, rfl⟩
  rw [← hn5] at ho5 hr5
  have HN5 := cover hn5
  clear hn5
  have k5 : KeepO (isTyO 29) w w5 := (KeepO.of_below hBz).trans (KeepO.grown hoT hg5)
  have hB5 : Below B w w5 := below_grown (hBz.mono HH.out.size) (Nat.le_trans HH.out.size hBz.size) hoT hg5
  have hi5 : InfP w5 ((⟨p.frm, x, true, 2, p.kind, 0, 0, p.poll, inf⟩ : PV), A3, c3) := own_typed hoz (KeepO.grown hoT hg5) (fun _ _ => ty_ne (by decide) _ _)
  have HN := cover (HH.out.send (v5 := .slice A5 n5 cp5) (by rw [HN5.out] at ho5 ⊢; exact ho5) hi5 k5 hB5)
  have hf5 : w5.frozen? ⟨hb, 17, none⟩ = false := by
    have hh := k5 _ _ HH.out.hd (ty_ne (by decide) _ _)
    simp [World.frozen?, hh]
  have hS5 : (fun W' : World => W'.cell? ⟨b1, 0, none⟩ = some (ptr hb) ∧ W'.cell? ⟨b2, 0, none⟩ = some (.func (.func 50) #[ptr hb] #[]) ∧ W'.cell? ⟨hb, 8, none⟩ = some (.int .i64 p.frm) ∧ W'.cell? ⟨hb, 11, none⟩ = some (.int .i64 p.kind) ∧ W'.cell? ⟨hb, 14, none⟩ = some (.bool p.poll) ∧ W'.cell? ⟨hb, 17, none⟩ = some S ∧ KeepO (isTyO 29) w W' ∧ Below B w W') w5 := HS.out _ k5 hB5
  have hc5 : w5.cell? ⟨hb, 17, none⟩ = some S := hS5.2.2.2.2.2.1
  refine run_in (fun c h => by cases h) (fun _ _ => trivial) (v := .slice A5 n5 cp5) (w' := w5) (appends_exec _ _ _ _ rfl S (.slice (some ⟨z, 0, none⟩) 1 1) (by go_simp) (by go_simp) hr5) ?_
  refine hK _ _ (.inr hS5) ?_
  clear hK K hr5 hoT ho5 hi5 k5 hB5 hg5 hnz hoz hBz hmz HS HC HO3 HH
  simp only [Act.put, List.setIfInBounds_toArray, List.set_cons_zero, List.set_cons_succ]
  refine hold_one 27 (by kernel_rfl) rfl (by rfl) fun K hK => ?_
  go_simp
  refine hK _ _ (.inr hS5) ?_
  clear hK K
  refine hold_one 28 (by kernel_rfl) rfl (by rfl) fun K hK => ?_
  go_simp
  refine hK _ _ (.inr hS5) ?_
  clear hK K
  refine hold_one 29 (by kernel_rfl) rfl (by rfl) fun K hK => ?_
  go_simp
  refine hK _ _ (.inl rfl) (held_done (by kernel_rfl) ?_ _)
  clear hK K hS5 h3 hb0 hB3
  go_wp2_with fail
  exact ⟨rfl, _, results_none rfl _ _ _, ⟨_, rfl⟩, _, A3, c3, HN.out⟩
end Go.Proofs.Ytgpmimohoepeiaa
