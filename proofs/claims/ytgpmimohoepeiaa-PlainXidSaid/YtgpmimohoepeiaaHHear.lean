/- What Hear hands back: what users are told, what is sent back. -/
import Derived.WalkSmall
import Derived.Test.YtgpmimohoepeiaaHPlan
namespace Go.Proofs.Ytgpmimohoepeiaa
open Go.RowKit Go.Shelf
set_option linter.unusedVariables false
set_option linter.unusedSimpArgs false
attribute [local go_sem] Oper.semAt_some

theorem run_store_fn {P : Program} {w : World} (a : Addr) (m : Mode) (fn : Fn) (first captured : Array Value) : (store a (.func fn first captured) m).run P w = stored P w a (.func fn first captured) m := run_store P w a _ m rfl
theorem run_store_nofn {P : Program} {w : World} (a : Addr) (m : Mode) : (store a .nilFunc m).run P w = stored P w a .nilFunc m := run_store P w a _ m rfl
attribute [local go_sem] run_store_fn run_store_nofn
/-- Hear has answered -/
def HearOut (told : List IV) (sent : List PV) (w : World) (e : Ending) (w' : World) : Prop :=
  ∃ A c A' c', e = .returned (.tuple #[.slice A told.length c, .slice A' sent.length c']) ∧ Hid (IndsIn w.heap.size w' (.slice A told.length c) told ∧ PdusIn w.heap.size w' (.slice A' sent.length c') sent ∧ Below w.heap.size w w')
def isLoopO : Obj → Prop := fun o => ∀ cur t fr, o ≠ .cells cur t fr
theorem loop_ne (cur : Array Value) (t : TypeId) (fr : Nat × Nat) : ¬ isLoopO (.cells cur t fr) := fun h => h _ _ _ rfl
theorem keep_put {w : World} {l : Nat} {o0 : Obj} (h : w.heap[l]? = some o0) (h0 : isLoopO o0) (o : Obj) : KeepO isLoopO w (w.putObj l o) := fun k ob hk hp => by
  by_cases e : k = l
  · subst e; rw [h] at hk; exact absurd (by rw [← Option.some.inj hk]; exact h0) hp
  · rw [World.putObj_heap_other e]; exact hk
theorem hear_ctl {o : Obj} (h : isLoopO o) : ¬ isHearO o := by
  rintro (⟨_, _, e⟩ | ⟨_, _, e⟩ | ⟨_, _, e⟩) <;> exact h _ _ _ e
theorem deferred_ctl (x : Option (List Deferred)) : isLoopO (.deferred x) := fun _ _ _ h => by cases h
/-- a hearing that goes on: those in T have been dealt with -/
structure HSt (B : Nat) (w0 : World) (hb s : Nat) (pe : A6) (p : PV) (Ap : Option Addr) (cp : Nat) (tl : List Int → List IV) (sl : List Int → List PV) (T : List Int) (W : World) : Prop where
  ex : ∃ To So us vs, HrIn B w0 W hb s pe p Ap cp To So us vs ∧ us.map (·.1) = tl T ∧ vs.map (·.1) = sl T
section
variable {B : Nat} {w0 W W' : World} {hb s : Nat} {pe : A6} {p : PV} {Ap : Option Addr} {cp : Nat} {tl : List Int → List IV} {sl : List Int → List PV} {T : List Int}
theorem HSt.keep {q : Obj → Prop} (h : HSt B w0 hb s pe p Ap cp tl sl T W) (k : KeepO q W W') (hq : ∀ cur t fr, ¬ q (.cells cur t fr)) (hb' : Below B W W') : HSt B w0 hb s pe p Ap cp tl sl T W' := by
  obtain ⟨To, So, us, vs, h1, h2, h3⟩ := h.ex
  exact ⟨To, So, us, vs, h1.keep k hq hb', h2, h3⟩
theorem HSt.below (h : HSt B w0 hb s pe p Ap cp tl sl T W) (hb' : Below W.heap.size W W') : HSt B w0 hb s pe p Ap cp tl sl T W' := by
  obtain ⟨To, So, us, vs, h1, h2, h3⟩ := h.ex
  exact ⟨To, So, us, vs, h1.below hb', h2, h3⟩
theorem HSt.out (h : HSt B w0 hb s pe p Ap cp tl sl T W) : ∃ A c A' c', HdIn W hb s pe p Ap cp (.slice A (tl T).length c) (.slice A' (sl T).length c') ∧ IndsIn B W (.slice A (tl T).length c) (tl T) ∧ PdusIn B W (.slice A' (sl T).length c') (sl T) ∧ Below B w0 W := by
  obtain ⟨To, So, us, vs, h1, h2, h3⟩ := h.ex
  have k1 : IndsIn B W To (tl T) := ⟨us, h2, h1.told, h1.toldI⟩
  have k2 : PdusIn B W So (sl T) := ⟨vs, h3, h1.sent, h1.sentI⟩
  obtain ⟨A, c, e1⟩ := k1.shape
  obtain ⟨A', c', e2⟩ := k2.shape
  subst e1 e2
  exact ⟨A, c, A', c', h1.hd, k1, k2, h1.bel⟩
end
/-- at the head of a round -/
structure HAt (B : Nat) (w0 : World) (hb s : Nat) (pe : A6) (p : PV) (Ap : Option Addr) (cp : Nat) (tl : List Int → List IV) (sl : List Int → List PV) (z : Nat) (dv : Value) (b1 b2 : Nat) (x2 : Obj) (Rc : Obj) (T : List Int) (A : World) : Prop where
  st : HSt B w0 hb s pe p Ap cp tl sl T A
  dc : A.heap[z]? = some (.cells #[dv] 77 (0, 0))
  c1 : A.heap[b1]? = some (.cells #[ptr hb] 72 (0, 0))
  c2 : A.heap[b2]? = some x2
  dfr : A.heap[z + 1]? = some (.deferred (some []))
  rcd : A.heap[z + 2]? = some Rc
section
variable {B : Nat} {w0 A A' : World} {hb s : Nat} {pe : A6} {p : PV} {Ap : Option Addr} {cp : Nat} {tl : List Int → List IV} {sl : List Int → List PV} {z b1 b2 : Nat} {dv : Value} {x2 Rc : Obj} {T : List Int}
theorem HAt.below (h : HAt B w0 hb s pe p Ap cp tl sl z dv b1 b2 x2 Rc T A) (hb' : Below A.heap.size A A') : HAt B w0 hb s pe p Ap cp tl sl z dv b1 b2 x2 Rc T A' :=
  ⟨h.st.below hb', (hb'.block _ (block_lt h.dc)).trans h.dc, (hb'.block _ (block_lt h.c1)).trans h.c1, (hb'.block _ (block_lt h.c2)).trans h.c2, (hb'.block _ (block_lt h.dfr)).trans h.dfr, (hb'.block _ (block_lt h.rcd)).trans h.rcd⟩
theorem HAt.jok {Bs : Nat} {l : List SV} (hs : SHas Bs w0 s l) (hB : B = w0.heap.size) : JOk (fun T A => HAt B w0 hb s pe p Ap cp tl sl z dv b1 b2 x2 Rc T A) hb s Bs l pe p Ap cp :=
  ⟨fun T A A' h hb' => h.below hb', fun T A h => by
    obtain ⟨_, _, _, _, h1, _, _, h2⟩ := h.st.out
    exact ⟨⟨_, _, h1⟩, hs.below (by rw [← hB]; exact h2)⟩⟩
end
/-- a walk over those whom a unit concerns -/
structure ItOk (it : Value) (who : List Int) (hb s Bs : Nat) (l : List SV) (pe : A6) (p : PV) (Ap : Option Addr) (cp : Nat) : Prop where
  ex : ∃ gf ba, it = .func (.func gf) ba #[] ∧ (∀ args w, (callFunc gf args).run Try.prog w = .ok (.enter gf args) w) ∧ ∀ n lp J W, JOk J hb s Bs l pe p Ap cp → YOk J lp → J [] W → CallsIn Fence.wide n Try.prog gf (ba ++ #[.func (.yield lp) #[] #[]] ++ #[]) W fun e W' => (∃ v, e = .returned v) ∧ J who W'
theorem it_hearers {hb s Bs : Nat} {l : List SV} {pe : A6} {p : PV} {Ap : Option Addr} {cp : Nat} (hto : I64 p.to) : ItOk (fHearers hb) (hearS l p.to) hb s Bs l pe p Ap cp :=
  ⟨_, _, rfl, enters_of Try.func46 (by kernel_rfl) rfl, fun n lp J W hJ hY h0 => hearers_in lp hJ hY (T0 := []) h0 (by simp) hto⟩
theorem it_asker {hb s Bs : Nat} {l : List SV} {pe : A6} {p : PV} {Ap : Option Addr} {cp : Nat} (hto : I64 p.to) : ItOk (fAsker hb) (askerS l p) hb s Bs l pe p Ap cp :=
  ⟨_, _, rfl, enters_of Try.func68 (by kernel_rfl) rfl, fun n lp J W hJ hY h0 => asker_in lp hJ hY (T0 := []) h0 (by simp) hto⟩
theorem it_asked {hb s Bs : Nat} {l : List SV} {pe : A6} {p : PV} {Ap : Option Addr} {cp : Nat} (hto : I64 p.to) : ItOk (fAsked hb) (askedS l p) hb s Bs l pe p Ap cp :=
  ⟨_, _, rfl, enters_of Try.func69 (by kernel_rfl) rfl, fun n lp J W hJ hY h0 => asked_in lp hJ hY (T0 := []) h0 (by simp) hto⟩
/-- one round of the walk, whatever is done: the state behind it -/
def DoOk (B : Nat) (w0 : World) (hb s : Nat) (pe : A6) (p : PV) (Ap : Option Addr) (cp : Nat) (tl : List Int → List IV) (sl : List Int → List PV) (df : FuncId) (b1 b2 : Nat) (x2 : Obj) : Prop :=
  ∀ T x A, HSt B w0 hb s pe p Ap cp tl sl T A → A.heap[b1]? = some (.cells #[ptr hb] 72 (0, 0)) → A.heap[b2]? = some x2 → T.length ≤ 40 → (0 ≤ x ∧ x ≤ 255) →
    Calls Try.prog df #[.int .i64 x, ptr b1, ptr b2] A fun e W' => (∃ v, e = .returned v) ∧ Hid (HSt B w0 hb s pe p Ap cp tl sl (T ++ [x]) W' ∧ KeepO isHearO A W')
theorem do_tell {B : Nat} {w0 : World} {hb s : Nat} {pe : A6} {p : PV} {Ap : Option Addr} {cp : Nat} (k : Int) (b1 b2 : Nat) (hpl : p.info.length ≤ 140737488355328) :
    DoOk B w0 hb s pe p Ap cp (fun T => T.map (indV k pe p)) (fun _ => []) 67 b1 b2 (.cells #[.int .i64 k] 3 (0, 0)) := by
  intro T x A h h1 h2 hl hx
  obtain ⟨To, So, us, vs, k1, k2, k3⟩ := h.ex
  refine (tell1_any k1 h1 h2 (by have := congrArg List.length k2; simp at this; omega) hpl x).mono ?_
  rintro e W' ⟨hv, HO⟩
  obtain ⟨T', A', c, m1, m2⟩ := HO.out
  exact ⟨hv, cover ⟨⟨_, _, _, _, m1, by rw [List.map_append, k2, List.map_append]; rfl, k3⟩, m2⟩⟩
theorem do_echo {B : Nat} {w0 : World} {hb s : Nat} {pe : A6} {p : PV} {Ap : Option Addr} {cp : Nat} (l : List SV) (b1 b2 : Nat) (hpl : p.info.length ≤ 140737488355328) (hk : p.kind = 2) :
    DoOk B w0 hb s pe p Ap cp (fun _ => []) (fun T => T.map (ansV l p)) 70 b1 b2 (.cells #[fEcho hb] 104 (0, 0)) := by
  intro T x A h h1 h2 hl hx
  obtain ⟨To, So, us, vs, k1, k2, k3⟩ := h.ex
  refine (answer_echo (Bs := 0) (l := l) k1 h1 h2 (by have := congrArg List.length k3; simp at this; omega) hpl (i64_of (by omega))).mono ?_
  rintro e W' ⟨hv, HO⟩
  obtain ⟨T', A', c, m1, m2⟩ := HO.out
  refine ⟨hv, cover ⟨⟨_, _, _, _, m1, k2, ?_⟩, m2⟩⟩
  rw [List.map_append, k3, List.map_append]
  have e : ansV l p x = ⟨p.frm, x, true, 2, p.kind, 0, 0, p.poll, p.info⟩ := by unfold ansV; rw [if_neg (by omega)]
  rw [List.map_cons, List.map_nil, List.map_cons, List.map_nil, e]
theorem do_class {B Bs : Nat} {w0 : World} {hb s : Nat} {pe : A6} {p : PV} {Ap : Option Addr} {cp : Nat} {l : List SV} (hs : SHas Bs w0 s l) (hB : B = w0.heap.size) (b1 b2 : Nat) (hpl : p.info.length ≤ 140737488355328) (hk : p.kind = 1) :
    DoOk B w0 hb s pe p Ap cp (fun _ => []) (fun T => T.map (ansV l p)) 70 b1 b2 (.cells #[fClass hb] 104 (0, 0)) := by
  intro T x A h h1 h2 hl hx
  obtain ⟨To, So, us, vs, k1, k2, k3⟩ := h.ex
  refine (answer_class (l := l) k1 (hs.below (by rw [← hB]; exact k1.bel)) h1 h2 (by have := congrArg List.length k3; simp at this; omega) hpl (i64_of (by omega))).mono ?_
  rintro e W' ⟨hv, HO⟩
  obtain ⟨T', A', c, m1, m2⟩ := HO.out
  refine ⟨hv, cover ⟨⟨_, _, _, _, m1, k2, ?_⟩, m2⟩⟩
  rw [List.map_append, k3, List.map_append]
  have e : ansV l p x = ⟨p.frm, x, true, 2, p.kind, 0, 0, p.poll, [129, typS (clsS l x), 128]⟩ := by unfold ansV; rw [if_pos hk]
  rw [List.map_cons, List.map_nil, List.map_cons, List.map_nil, e]
set_option maxRecDepth 100000 in
set_option maxHeartbeats 3200000 in
theorem hear_go {Bs : Nat} {w : World} {s : Nat} {l : List SV} (h : SHas Bs w s l) (pe : A6) (p : PV) (Ap : Option Addr) (cp : Nat) (hr : Row w w.heap.size Ap p.info.length p.info) (hpl : p.info.length ≤ 140737488355328) :
    Calls Try.prog 13 #[ptr s, .agg #[.int .u8 pe.a0, .int .u8 pe.a1, .int .u8 pe.a2, .int .u8 pe.a3, .int .u8 pe.a4, .int .u8 pe.a5], .agg #[.int .i64 p.to, .int .i64 p.frm, .bool p.resp, .int .i64 p.form, .int .i64 p.kind, .int .i64 p.ns, .int .i64 p.nr, .bool p.poll, .slice Ap p.info.length cp]] w (HearOut (toldP l pe p) (sentP l p) w) := by
  obtain ⟨b, hb⟩ : ∃ b, w.heap.size = b := ⟨_, rfl⟩
  have HB := cover hb
  obtain ⟨w1, hw1⟩ : ∃ w1, w1 = (w.alloc (.cells #[.int .u8 pe.a0, .int .u8 pe.a1, .int .u8 pe.a2, .int .u8 pe.a3, .int .u8 pe.a4, .int .u8 pe.a5] 37)).alloc (.cells #[.int .i64 p.to, .int .i64 p.frm, .bool p.resp, .int .i64 p.form, .int .i64 p.kind, .int .i64 p.ns, .int .i64 p.nr, .bool p.poll, .slice Ap p.info.length cp] 29) := ⟨_, rfl⟩
  have hb1 : Below b w w1 := by rw [hw1, ← hb]; exact ((Below.refl _ _).alloc (Nat.le_refl _) _).alloc (by simp) _
  have hs1 : w1.heap.size = b + 2 := by rw [hw1]; simp [hb]
  have g0 : w1.heap[b]? = some (.cells #[.int .u8 pe.a0, .int .u8 pe.a1, .int .u8 pe.a2, .int .u8 pe.a3, .int .u8 pe.a4, .int .u8 pe.a5] 37 (0, 0)) := by rw [hw1, ← hb]; exact heap_alloc2_old _ _ _
  have g1 : w1.heap[b + 1]? = some (.cells #[.int .i64 p.to, .int .i64 p.frm, .bool p.resp, .int .i64 p.form, .int .i64 p.kind, .int .i64 p.ns, .int .i64 p.nr, .bool p.poll, .slice Ap p.info.length cp] 29 (0, 0)) := by rw [hw1, ← hb]; exact heap_alloc2_new _ _ _
  have a0 : w1.cell? ⟨b, 0, none⟩ = some (.int .u8 pe.a0) := by rw [cell_of_row _ _ _ _ _ _ g0]; rfl
  have a1 : w1.cell? ⟨b, 1, none⟩ = some (.int .u8 pe.a1) := by rw [cell_of_row _ _ _ _ _ _ g0]; rfl
  have a2 : w1.cell? ⟨b, 2, none⟩ = some (.int .u8 pe.a2) := by rw [cell_of_row _ _ _ _ _ _ g0]; rfl
  have a3 : w1.cell? ⟨b, 3, none⟩ = some (.int .u8 pe.a3) := by rw [cell_of_row _ _ _ _ _ _ g0]; rfl
  have a4 : w1.cell? ⟨b, 4, none⟩ = some (.int .u8 pe.a4) := by rw [cell_of_row _ _ _ _ _ _ g0]; rfl
  have a5 : w1.cell? ⟨b, 5, none⟩ = some (.int .u8 pe.a5) := by rw [cell_of_row _ _ _ _ _ _ g0]; rfl
  obtain ⟨p0, p1, p2, p3, p4, p5, p6, p7, p8⟩ := pdu_cells g1
  obtain ⟨w2, hw2⟩ : ∃ w2, w2 = w1.alloc (.cells #[ptr s, .int .u8 pe.a0, .int .u8 pe.a1, .int .u8 pe.a2, .int .u8 pe.a3, .int .u8 pe.a4, .int .u8 pe.a5, .int .i64 p.to, .int .i64 p.frm, .bool p.resp, .int .i64 p.form, .int .i64 p.kind, .int .i64 p.ns, .int .i64 p.nr, .bool p.poll, .slice Ap p.info.length cp, .slice none 0 0, .slice none 0 0] 74) := ⟨_, rfl⟩
  have hb2 : Below b w w2 := by rw [hw2]; exact hb1.alloc (by omega) _
  have hd2 : HdIn w2 (b + 2) s pe p Ap cp (.slice none 0 0) (.slice none 0 0) := by
    unfold HdIn; rw [hw2, ← hs1]; exact heap_alloc_new _ _
  have hs2 : w2.heap.size = b + 3 := by rw [hw2]; simp [hs1]
  have HP := cover (plan_any hd2)
  have HD2 := cover hd2
  have HH := cover h
  have HR := cover hr
  have mixed : Try.prog.follows .mixedOrders = true := by kernel_rfl
  have HW2 := cover hw2
  clear h hr g0 g1 hb1 hw2
  refine (callsIn_wide (n := 9)).1 ?_
  refine callsIn_of_wp_marks Try.func13 rfl trivial ?_ rfl
  simp only [Try.ntmps13, List.size_toArray, List.length_cons, List.length_nil, Nat.reduceAdd, Nat.reduceSub, Array.replicate_succ, Array.replicate_zero, List.push_toArray, List.append_toArray, List.nil_append, List.cons_append]
  gi_upto_region 1 with fail
  rw [← hw1]
  clear hw1
  gi_upto_region 2 with fail
  rw [← HW2.out]
  clear a0 a1 a2 a3 a4 a5 p0 p1 p2 p3 p4 p5 p6 p7 p8 HW2
  gi_wp2_with fail
  refine ⟨trivial, (callsIn_wide.2 HP.out).mono ?_⟩
  rintro e w4 ⟨it, dv, rfl, HO⟩
  have hb4 : Below b w w4 := hb2.trans (HO.out.1.mono (by omega))
  have hd4 : HdIn w4 (b + 2) s pe p Ap cp (.slice none 0 0) (.slice none 0 0) := (HO.out.1.block _ (by omega)).trans HD2.out
  obtain ⟨z, hz⟩ : ∃ z, w4.heap.size = z := ⟨_, rfl⟩
  have hbz : b + 3 ≤ z := by rw [← hz, ← hs2]; exact HO.out.1.size
  have HZ := cover hz
  have HPI := cover HO.out.2
  have HD4 := cover hd4
  have HB4 := cover hb4
  have hnz : (w4.alloc (.cells #[.nilFunc] 77)).heap[z]? = some (.cells #[.nilFunc] 77 (0, 0)) := by rw [← hz]; exact heap_alloc_new _ _
  have hcz : (w4.alloc (.cells #[.nilFunc] 77)).cell? ⟨z, 0, none⟩ = some .nilFunc := by rw [cell_of_row _ _ _ _ _ _ hnz]; rfl
  have hfz : (w4.alloc (.cells #[.nilFunc] 77)).frozen? ⟨z, 0, none⟩ = false := by simp [World.frozen?, hnz]
  have HNZ := cover hnz
  clear HO hb2 HP HD2 hs1 hs2 hd2 hd4 hb4 hnz
  rcases HPI.out with ⟨hno, rfl, rfl⟩ | hpi
  · have htl : ([] : List IV) = toldP l pe p := (toldP_no hno).symm
    have hsl : ([] : List PV) = sentP l p := (sentP_no hno).symm
    obtain ⟨w5, hw5⟩ : ∃ w5, w5 = w4.alloc (.cells #[.nilFunc] 77) := ⟨_, rfl⟩
    have hz5 : w5.heap.size = z + 1 := by rw [hw5]; simp [HZ.out]
    have hb5 : Below w4.heap.size w4 w5 := by rw [hw5]; exact (Below.refl _ _).alloc (Nat.le_refl _) _
    have hdc5 : w5.heap[z]? = some (.cells #[.nilFunc] 77 (0, 0)) := by rw [hw5, ← HZ.out]; exact heap_alloc_new _ _
    have hst5 : HSt b w (b + 2) s pe p Ap cp (fun _ => []) (fun _ => []) [] w5 := HSt.below ⟨_, _, [], [], ⟨HD4.out, World.ownsRow_nil _ _ _ _, (fun u hu => by cases hu), World.ownsRow_nil _ _ _ _, (fun u hu => by cases hu), HB4.out, by have := HR.out; rw [HB.out] at this; exact this.below HB4.out, by omega⟩, rfl, rfl⟩ hb5
    clear hdc5 hno
    gi_wp2_with fail
    rw [← hw5]
    clear hw5 hcz hfz
    refine range_outer rfl (by omega) (gf := 52) (ba := #[]) (lb := #[]) rfl trivial (enters_of Try.func52 (by kernel_rfl) rfl)
      (fun A => HSt b w (b + 2) s pe p Ap cp (fun _ => []) (fun _ => []) [] A ∧ ∃ o, A.heap[z + 1 + 1]? = some o ∧ isLoopO o) (fun cd A => False) ?hit ?hdone ?hstop
    case hit =>
      intro fn Rc W2 hF hRc hW2
      rw [hz5] at hRc ⊢
      have hb2 : Below w5.heap.size w5 W2 := by rw [hW2]; exact ((Below.refl _ _).alloc (Nat.le_refl _) _).alloc (by simp) _
      have hdf2 : W2.heap[z + 1]? = some (.deferred (some [])) := by
        rw [hW2, Below.heap_alloc _ _ _ (by simp; omega), ← hz5]; exact World.alloc_heap_new w5 _
      have hrc2 : W2.heap[z + 1 + 1]? = some (Rc .ready none) := by
        have := World.alloc_heap_new (w5.alloc (.deferred (some []))) (Rc .ready none)
        rw [World.size_alloc, hz5] at this; rw [hW2]; exact this
      have hst2 := hst5.below hb2
      have hctl : ∀ st pe, isLoopO (Rc st pe) := fun st pe => by rw [hRc]; intro _ _ _ h; cases h
      clear hW2
      refine (nobody_in (z + 1 + 1) W2).mono ?_
      rintro e W' ⟨⟨v, rfl⟩, rfl⟩
      exact ⟨⟨v, rfl⟩, hdf2, .inl ⟨hrc2, hst2, _, hrc2, hctl _ _⟩⟩
    case hdone =>
      rintro o A ⟨hA, o0, hl0, hc0⟩ hd
      rw [hz5] at hd ⊢
      have kp1 := keep_put hl0 hc0 o
      have hA1 := hA.keep kp1 loop_ne (below_put (Below.refl _ _) (by omega) _)
      have hd1 : (A.putObj (z + 1 + 1) o).heap[z + 1]? = some (.deferred (some [])) := (World.putObj_heap_other (by omega)).trans hd
      obtain ⟨A1, hA1e⟩ : ∃ A1, A1 = A.putObj (z + 1 + 1) o := ⟨_, rfl⟩
      rw [← hA1e] at hA1 hd1 ⊢
      have kp2 := keep_put (w := A1.drew) hd1 (deferred_ctl _) (.deferred none)
      have hA2 := (hA1.below (Below.refl _ _).drew).keep kp2 loop_ne (below_put (Below.refl _ _) (by omega) _)
      obtain ⟨Ai, ci, Ap', cp', h1, h2, h3, h4⟩ := hA2.out
      have h1' : HdIn A1.drew (b + 2) s pe p Ap cp (.slice Ai ([] : List IV).length ci) (.slice Ap' ([] : List PV).length cp') := by
        unfold HdIn at h1 ⊢
        rw [World.putObj_heap_other (by omega)] at h1
        exact h1
      obtain ⟨_, _, _, _, _, _, _, _, _, _, _, q16, q17, _⟩ := hd_cells h1'
      have HO : Hid (HearOut (toldP l pe p) (sentP l p) w (.returned (.tuple #[.slice Ai ([] : List IV).length ci, .slice Ap' ([] : List PV).length cp'])) (A1.drew.putObj (z + 1) (.deferred none))) :=
        cover ⟨Ai, ci, Ap', cp', by rw [← htl, ← hsl], cover (by rw [HB.out, ← htl, ← hsl]; exact ⟨h2, h3, h4⟩)⟩
      have hd2 : A1.drew.heap[z + 1]? = some (.deferred (some [])) := hd1
      have HD2 := cover hd2
      obtain ⟨n1, hn1⟩ : ∃ n1, n1 = ([] : List IV).length := ⟨_, rfl⟩
      obtain ⟨n2, hn2⟩ : ∃ n2, n2 = ([] : List PV).length := ⟨_, rfl⟩
      rw [← hn1, ← hn2] at HO
      rw [← hn1] at q16
      rw [← hn2] at q17
      clear hA hl0 hc0 hd kp1 hA1 hd1 kp2 hA2 h1 h2 h3 h4 h1' hA1e htl hsl hn1 hn2 hd2
      gi_wp2_with fail
      refine wpIn_mono (Q := fun e a W5 => e = .normal ∧ a.tmps.getD 6 undef = .slice Ai n1 ci ∧ a.tmps.getD 7 undef = .slice Ap' n2 cp' ∧ a.defers = [{ target := .collected (z + 1), args := #[] }] ∧ W5 = A1.drew) ?region ?rest
      case region =>
        refine held_begin (fun W' : World => W'.cell? ⟨b + 2, 16, none⟩ = some (.slice Ai n1 ci) ∧ W'.cell? ⟨b + 2, 17, none⟩ = some (.slice Ap' n2 cp') ∧ W' = A1.drew) 99 mixed ?_
        have h3 : (fun W' : World => W'.cell? ⟨b + 2, 16, none⟩ = some (.slice Ai n1 ci) ∧ W'.cell? ⟨b + 2, 17, none⟩ = some (.slice Ap' n2 cp') ∧ W' = A1.drew) A1.drew := ⟨q16, q17, rfl⟩
        refine hold_take 0 _ rfl (by kernel_rfl) (by kernel_rfl) (by kernel_rfl) (by kernel_rfl) (by kernel_rfl) (fun _ _ _ h => by cases h.1) (by rfl) (fun _ => rfl) h3 (fun w' hS => by obtain ⟨q0, q1, q2⟩ := hS; go_simp; rfl) ?_
        simp only [Act.put, List.setIfInBounds_toArray, List.set_cons_zero, List.set_cons_succ]
        refine hold_take 1 _ rfl (by kernel_rfl) (by kernel_rfl) (by kernel_rfl) (by kernel_rfl) (by kernel_rfl) (fun _ _ _ h => by cases h.1) (by rfl) (fun _ => rfl) h3 (fun w' hS => by obtain ⟨q0, q1, q2⟩ := hS; go_simp; rfl) ?_
        simp only [Act.put, List.setIfInBounds_toArray, List.set_cons_zero, List.set_cons_succ]
        refine hold_take 2 _ rfl (by kernel_rfl) (by kernel_rfl) (by kernel_rfl) (by kernel_rfl) (by kernel_rfl) (fun _ _ _ h => by cases h.1) (by rfl) (fun _ => rfl) h3 (fun w' hS => by obtain ⟨q0, q1, q2⟩ := hS; go_simp; rfl) ?_
        simp only [Act.put, List.setIfInBounds_toArray, List.set_cons_zero, List.set_cons_succ]
        refine hold_take 3 _ rfl (by kernel_rfl) (by kernel_rfl) (by kernel_rfl) (by kernel_rfl) (by kernel_rfl) (fun _ _ _ h => by cases h.1) (by rfl) (fun _ => rfl) h3 (fun w' hS => by obtain ⟨q0, q1, q2⟩ := hS; go_simp; rfl) ?_
        simp only [Act.put, List.setIfInBounds_toArray, List.set_cons_zero, List.set_cons_succ]
        refine hold_take 4 _ rfl (by kernel_rfl) (by kernel_rfl) (by kernel_rfl) (by kernel_rfl) (by kernel_rfl) (fun _ _ _ h => by cases h.1) (by rfl) (fun _ => rfl) h3 (fun w' hS => by obtain ⟨q0, q1, q2⟩ := hS; go_simp; rfl) ?_
        simp only [Act.put, List.setIfInBounds_toArray, List.set_cons_zero, List.set_cons_succ]
        refine hold_take 5 _ rfl (by kernel_rfl) (by kernel_rfl) (by kernel_rfl) (by kernel_rfl) (by kernel_rfl) (fun _ _ _ h => by cases h.1) (by rfl) (fun _ => rfl) h3 (fun w' hS => by obtain ⟨q0, q1, q2⟩ := hS; go_simp; rfl) ?_
        simp only [Act.put, List.setIfInBounds_toArray, List.set_cons_zero, List.set_cons_succ]
        refine hold_take 6 _ rfl (by kernel_rfl) (by kernel_rfl) (by kernel_rfl) (by kernel_rfl) (by kernel_rfl) (fun _ _ _ h => by cases h.1) (by rfl) (fun _ => rfl) h3 (fun w' hS => by obtain ⟨q0, q1, q2⟩ := hS; go_simp; rfl) ?_
        simp only [Act.put, List.setIfInBounds_toArray, List.set_cons_zero, List.set_cons_succ]
        refine hold_take 7 _ rfl (by kernel_rfl) (by kernel_rfl) (by kernel_rfl) (by kernel_rfl) (by kernel_rfl) (fun _ _ _ h => by cases h.1) (by rfl) (fun _ => rfl) h3 (fun w' hS => by obtain ⟨q0, q1, q2⟩ := hS; go_simp; rfl) ?_
        simp only [Act.put, List.setIfInBounds_toArray, List.set_cons_zero, List.set_cons_succ]
        refine hold_take 8 _ rfl (by kernel_rfl) (by kernel_rfl) (by kernel_rfl) (by kernel_rfl) (by kernel_rfl) (fun _ _ _ h => by cases h.1) (by rfl) (fun _ => rfl) h3 (fun w' hS => by obtain ⟨q0, q1, q2⟩ := hS; go_simp; rfl) ?_
        simp only [Act.put, List.setIfInBounds_toArray, List.set_cons_zero, List.set_cons_succ]
        refine hold_take 9 _ rfl (by kernel_rfl) (by kernel_rfl) (by kernel_rfl) (by kernel_rfl) (by kernel_rfl) (fun _ _ _ h => by cases h.1) (by rfl) (fun _ => rfl) h3 (fun w' hS => by obtain ⟨q0, q1, q2⟩ := hS; go_simp; rfl) ?_
        simp only [Act.put, List.setIfInBounds_toArray, List.set_cons_zero, List.set_cons_succ]
        exact held_done (by kernel_rfl) ⟨rfl, rfl, rfl, rfl, rfl⟩ _
      case rest =>
        rintro e ⟨tm, dfs⟩ W5 ⟨rfl, h6, h7, hdf, rfl⟩
        simp only at h6 h7 hdf
        subst hdf
        have H67 := cover (And.intro h6 h7)
        clear q16 q17 h6 h7
        gi_wp2
        refine ⟨by simp, .inl ⟨_, _, rfl, run_takeDeferred HD2.out, ?_⟩⟩
        exact ⟨_, results_tmp2 (t := 6) (u := 7) rfl _ _ _, by rw [H67.out.1, H67.out.2]; exact HO.out⟩
    case hstop => exact fun o cd A h => h.elim
  · have hto : I64 p.to := by
      rcases hpi with ⟨h1, _⟩ | ⟨h1, _⟩ | ⟨h1, _⟩ | ⟨h1, _⟩
      all_goals exact i64_of (by have := h1.1.1.1; omega)
    obtain ⟨who, tl, sl, df, b1, b2, x2, gf, ba, hdv, hitv, eg, HIT', HDO', hb1', hb2', htl0, hsl0, htl, hsl, hx2, hx3⟩ : ∃ (who : List Int) (tl : List Int → List IV) (sl : List Int → List PV) (df : FuncId) (b1 b2 : Nat) (x2 : Obj) (gf : FuncId) (ba : Array Value), dv = .func (.func df) #[] #[ptr b1, ptr b2] ∧ it = .func (.func gf) ba #[] ∧ (∀ args w, (callFunc gf args).run Try.prog w = .ok (.enter gf args) w) ∧
        (∀ n lp J W, JOk J (b + 2) s Bs l pe p Ap cp → YOk J lp → J [] W → CallsIn Fence.wide n Try.prog gf (ba ++ #[.func (.yield lp) #[] #[]] ++ #[]) W fun e W' => (∃ v, e = .returned v) ∧ J who W') ∧ DoOk b w (b + 2) s pe p Ap cp tl sl df b1 b2 x2 ∧
        w4.heap[b1]? = some (.cells #[ptr (b + 2)] 72 (0, 0)) ∧ w4.heap[b2]? = some x2 ∧ tl [] = [] ∧ sl [] = [] ∧ tl who = toldP l pe p ∧ sl who = sentP l p ∧ ¬ isLoopO x2 ∧ ¬ isHearO x2 ∧ (∀ args w, (callFunc df args).run Try.prog w = .ok (.enter df args) w) := by
      rcases hpi with ⟨h1, h2, rfl, d1, d2, rfl, e1, e2⟩ | ⟨h1, h2, h3, rfl, d1, d2, rfl, e1, e2⟩ | ⟨h1, h2, h3, rfl, d1, d2, rfl, e1, e2⟩ | ⟨h1, h2, h3, rfl, d1, d2, rfl, e1, e2⟩
      · obtain ⟨gf, ba, k1, k2, k3⟩ := (it_hearers (hb := b + 2) (s := s) (Bs := Bs) (l := l) (pe := pe) (Ap := Ap) (cp := cp) hto).ex
        exact ⟨_, _, _, _, _, _, _, gf, ba, rfl, k1, k2, k3, do_tell 1 _ _ hpl, e1, e2, rfl, rfl, (toldP_ui h1 h2).symm, (sentP_ui h2).symm, loop_ne _ _ _, hear_ne (by decide) (by decide) (by decide) _ _, enters_of Try.func67 (by kernel_rfl) rfl⟩
      · obtain ⟨gf, ba, k1, k2, k3⟩ := (it_asker (hb := b + 2) (s := s) (Bs := Bs) (l := l) (pe := pe) (Ap := Ap) (cp := cp) hto).ex
        exact ⟨_, _, _, _, _, _, _, gf, ba, rfl, k1, k2, k3, do_tell (p.kind + 1) _ _ hpl, e1, e2, rfl, rfl, (toldP_resp h1 h2 h3).symm, (sentP_resp h3).symm, loop_ne _ _ _, hear_ne (by decide) (by decide) (by decide) _ _, enters_of Try.func67 (by kernel_rfl) rfl⟩
      · obtain ⟨gf, ba, k1, k2, k3⟩ := (it_asked (hb := b + 2) (s := s) (Bs := Bs) (l := l) (pe := pe) (Ap := Ap) (cp := cp) hto).ex
        exact ⟨_, _, _, _, _, _, _, gf, ba, rfl, k1, k2, k3, do_class HH.out HB.out.symm _ _ hpl h2, e1, e2, rfl, rfl, (toldP_cmd (by omega) h3).symm, (sentP_cmd h1 (by omega) h3).symm, loop_ne _ _ _, hear_ne (by decide) (by decide) (by decide) _ _, enters_of Try.func70 (by kernel_rfl) rfl⟩
      · obtain ⟨gf, ba, k1, k2, k3⟩ := (it_asked (hb := b + 2) (s := s) (Bs := Bs) (l := l) (pe := pe) (Ap := Ap) (cp := cp) hto).ex
        exact ⟨_, _, _, _, _, _, _, gf, ba, rfl, k1, k2, k3, do_echo l _ _ hpl h2, e1, e2, rfl, rfl, (toldP_cmd (by omega) h3).symm, (sentP_cmd h1 (by omega) h3).symm, loop_ne _ _ _, hear_ne (by decide) (by decide) (by decide) _ _, enters_of Try.func70 (by kernel_rfl) rfl⟩
    subst hdv hitv
    obtain ⟨hx3, eg2⟩ := hx3
    have HIT := cover HIT'
    have HDO := cover HDO'
    clear HIT' HDO'
    obtain ⟨w5, hw5⟩ : ∃ w5, w5 = w4.alloc (.cells #[.func (.func df) #[] #[ptr b1, ptr b2]] 77) := ⟨_, rfl⟩
    have hz5 : w5.heap.size = z + 1 := by rw [hw5]; simp [HZ.out]
    have hb5 : Below w4.heap.size w4 w5 := by rw [hw5]; exact (Below.refl _ _).alloc (Nat.le_refl _) _
    have hdc5 : w5.heap[z]? = some (.cells #[.func (.func df) #[] #[ptr b1, ptr b2]] 77 (0, 0)) := by rw [hw5, ← HZ.out]; exact heap_alloc_new _ _
    have hst5 : HSt b w (b + 2) s pe p Ap cp tl sl [] w5 := HSt.below ⟨_, _, [], [], ⟨HD4.out, World.ownsRow_nil _ _ _ _, (fun u hu => by cases hu), World.ownsRow_nil _ _ _ _, (fun u hu => by cases hu), HB4.out, by have := HR.out; rw [HB.out] at this; exact this.below HB4.out, by omega⟩, htl0.symm, hsl0.symm⟩ hb5
    replace hb1' := (hb5.block _ (block_lt hb1')).trans hb1'
    replace hb2' := (hb5.block _ (block_lt hb2')).trans hb2'
    have HEG := cover eg
    clear htl0 hsl0 eg
    gi_wp2_with fail
    rw [← hw5]
    clear hw5 hcz hfz
    refine range_outer rfl (by omega) (gf := gf) (ba := ba) (lb := #[]) rfl trivial HEG.out
      (fun A => HSt b w (b + 2) s pe p Ap cp tl sl who A ∧ ∃ o, A.heap[z + 1 + 1]? = some o ∧ isLoopO o) (fun cd A => False) ?hit ?hdone ?hstop
    case hit =>
      intro fn Rc W2 hF hRc hW2
      rw [hz5] at hRc ⊢
      have hb2 : Below w5.heap.size w5 W2 := by rw [hW2]; exact ((Below.refl _ _).alloc (Nat.le_refl _) _).alloc (by simp) _
      have hdf2 : W2.heap[z + 1]? = some (.deferred (some [])) := by
        rw [hW2, Below.heap_alloc _ _ _ (by simp; omega), ← hz5]; exact World.alloc_heap_new w5 _
      have hrc2 : W2.heap[z + 1 + 1]? = some (Rc .ready none) := by
        have := World.alloc_heap_new (w5.alloc (.deferred (some []))) (Rc .ready none)
        rw [World.size_alloc, hz5] at this; rw [hW2]; exact this
      have hst2 := hst5.below hb2
      have hctl : ∀ st pe, isLoopO (Rc st pe) := fun st pe => by rw [hRc]; intro _ _ _ h; cases h
      clear hW2
      refine (HIT.out _ (z + 1 + 1) (fun T A => HAt b w (b + 2) s pe p Ap cp tl sl z (.func (.func df) #[] #[ptr b1, ptr b2]) b1 b2 x2 (Rc .ready none) T A) W2 (HAt.jok HH.out HB.out.symm) ?hY ?h0).mono ?_
      case h0 => exact ⟨hst2, (hb2.block _ (by omega)).trans hdc5, (hb2.block _ (block_lt hb1')).trans hb1', (hb2.block _ (block_lt hb2')).trans hb2', hdf2, hrc2⟩
      case hY =>
        intro T x A hA hl hx mm
        refine yield_any (k := 8) ?_ mm
        refine round_own Rc (fun c _ W' => c = true ∧ HAt b w (b + 2) s pe p Ap cp tl sl z (.func (.func df) #[] #[ptr b1, ptr b2]) b1 b2 x2 (Rc .ready none) (T ++ [x]) W' ∧ IntK A W') hRc hF hA.rcd rfl ?walk ?conv
        case conv =>
          rintro c _ W' ⟨rfl, h1, h2⟩
          exact ⟨rfl, h1, h2⟩
        case walk =>
          clear hRc
          gi_wp2
          refine ⟨hA.rcd, ?_⟩
          obtain ⟨A4, hA4⟩ : ∃ A4, A4 = A.putObj (z + 1 + 1) (Rc .busy none) := ⟨_, rfl⟩
          rw [← hA4]
          have hKp : KeepO isLoopO A A4 := by rw [hA4]; exact keep_put hA.rcd (hctl _ _) _
          have hBp : Below b A A4 := by rw [hA4]; exact below_put (Below.refl _ _) (by omega) _
          have h4 := hA.st.keep hKp loop_ne hBp
          have d4 := hKp _ _ hA.dc (loop_ne _ _ _)
          have e1 := hKp _ _ hA.c1 (loop_ne _ _ _)
          have e2 := hKp _ _ hA.c2 hx2
          have r4 : A4.heap[z + 1 + 1]? = some (Rc .busy none) := by rw [hA4]; exact World.putObj_heap_same (block_lt hA.rcd)
          have f4 : A4.heap[z + 1]? = some (.deferred (some [])) := by rw [hA4, World.putObj_heap_other (by omega)]; exact hA.dfr
          have hdc : A4.cell? ⟨z, 0, none⟩ = some (.func (.func df) #[] #[ptr b1, ptr b2]) := by rw [cell_of_row _ _ _ _ _ _ d4]; rfl
          have HC := cover (HDO.out T x A4 h4 e1 e2 hl hx)
          have HX : Hid (∀ W5, HSt b w (b + 2) s pe p Ap cp tl sl (T ++ [x]) W5 → KeepO isHearO A4 W5 → W5.heap[z + 1 + 1]? = some (Rc .busy none) ∧ HAt b w (b + 2) s pe p Ap cp tl sl z (.func (.func df) #[] #[ptr b1, ptr b2]) b1 b2 x2 (Rc .ready none) (T ++ [x]) (W5.putObj (z + 1 + 1) (Rc .ready none)) ∧ IntK A (W5.putObj (z + 1 + 1) (Rc .ready none))) := cover fun W5 g1 g2 => by
            have r5 := g2 _ _ r4 (hear_ctl (hctl _ _))
            have k5 := keep_put r5 (hctl _ _) (Rc .ready none)
            refine ⟨r5, ⟨g1.keep k5 loop_ne (below_put (Below.refl _ _) (by omega) _), k5 _ _ (g2 _ _ d4 (hear_ne (by decide) (by decide) (by decide) _ _)) (loop_ne _ _ _), k5 _ _ (g2 _ _ e1 (hear_ne (by decide) (by decide) (by decide) _ _)) (loop_ne _ _ _), k5 _ _ (g2 _ _ e2 hx3) hx2, ?_, World.putObj_heap_same (block_lt r5)⟩, fun k cur fr hk => ?_⟩
            · rw [World.putObj_heap_other (by omega)]; exact g2 _ _ f4 (hear_ctl (deferred_ctl _))
            · exact k5 _ _ (g2 _ _ (hKp _ _ hk (loop_ne _ _ _)) (hear_ne (by decide) (by decide) (by decide) _ _)) (loop_ne _ _ _)
          clear hA4 hKp hBp h4 d4 e1 e2 r4 f4 hA
          gi_wp2_with fail
          refine ⟨trivial, (callsIn_wide.2 HC.out).mono ?_⟩
          rintro e W5 ⟨⟨v, rfl⟩, HO⟩
          have HFin := cover (HX.out W5 HO.out.1 HO.out.2)
          clear HX HO HC hdc
          gi_wp2
          exact ⟨HFin.out.1, rfl, HFin.out.2⟩
      rintro e W' ⟨⟨v, rfl⟩, hA⟩
      exact ⟨⟨v, rfl⟩, hA.dfr, .inl ⟨hA.rcd, hA.st, _, hA.rcd, hctl _ _⟩⟩
    case hdone =>
      rintro o A ⟨hA, o0, hl0, hc0⟩ hd
      rw [hz5] at hd ⊢
      have kp1 := keep_put hl0 hc0 o
      have hA1 := hA.keep kp1 loop_ne (below_put (Below.refl _ _) (by omega) _)
      have hd1 : (A.putObj (z + 1 + 1) o).heap[z + 1]? = some (.deferred (some [])) := (World.putObj_heap_other (by omega)).trans hd
      obtain ⟨A1, hA1e⟩ : ∃ A1, A1 = A.putObj (z + 1 + 1) o := ⟨_, rfl⟩
      rw [← hA1e] at hA1 hd1 ⊢
      have kp2 := keep_put (w := A1.drew) hd1 (deferred_ctl _) (.deferred none)
      have hA2 := (hA1.below (Below.refl _ _).drew).keep kp2 loop_ne (below_put (Below.refl _ _) (by omega) _)
      obtain ⟨Ai, ci, Ap', cp', h1, h2, h3, h4⟩ := hA2.out
      have h1' : HdIn A1.drew (b + 2) s pe p Ap cp (.slice Ai (tl who).length ci) (.slice Ap' (sl who).length cp') := by
        unfold HdIn at h1 ⊢
        rw [World.putObj_heap_other (by omega)] at h1
        exact h1
      obtain ⟨_, _, _, _, _, _, _, _, _, _, _, q16, q17, _⟩ := hd_cells h1'
      have HO : Hid (HearOut (toldP l pe p) (sentP l p) w (.returned (.tuple #[.slice Ai (tl who).length ci, .slice Ap' (sl who).length cp'])) (A1.drew.putObj (z + 1) (.deferred none))) :=
        cover ⟨Ai, ci, Ap', cp', by rw [← htl, ← hsl], cover (by rw [HB.out, ← htl, ← hsl]; exact ⟨h2, h3, h4⟩)⟩
      have hd2 : A1.drew.heap[z + 1]? = some (.deferred (some [])) := hd1
      have HD2 := cover hd2
      obtain ⟨n1, hn1⟩ : ∃ n1, n1 = (tl who).length := ⟨_, rfl⟩
      obtain ⟨n2, hn2⟩ : ∃ n2, n2 = (sl who).length := ⟨_, rfl⟩
      rw [← hn1, ← hn2] at HO
      rw [← hn1] at q16
      rw [← hn2] at q17
      clear hA hl0 hc0 hd kp1 hA1 hd1 kp2 hA2 h1 h2 h3 h4 h1' hA1e htl hsl hn1 hn2 hd2
      gi_wp2_with fail
      refine wpIn_mono (Q := fun e a W5 => e = .normal ∧ a.tmps.getD 6 undef = .slice Ai n1 ci ∧ a.tmps.getD 7 undef = .slice Ap' n2 cp' ∧ a.defers = [{ target := .collected (z + 1), args := #[] }] ∧ W5 = A1.drew) ?region ?rest
      case region =>
        refine held_begin (fun W' : World => W'.cell? ⟨b + 2, 16, none⟩ = some (.slice Ai n1 ci) ∧ W'.cell? ⟨b + 2, 17, none⟩ = some (.slice Ap' n2 cp') ∧ W' = A1.drew) 99 mixed ?_
        have h3 : (fun W' : World => W'.cell? ⟨b + 2, 16, none⟩ = some (.slice Ai n1 ci) ∧ W'.cell? ⟨b + 2, 17, none⟩ = some (.slice Ap' n2 cp') ∧ W' = A1.drew) A1.drew := ⟨q16, q17, rfl⟩
        refine hold_take 0 _ rfl (by kernel_rfl) (by kernel_rfl) (by kernel_rfl) (by kernel_rfl) (by kernel_rfl) (fun _ _ _ h => by cases h.1) (by rfl) (fun _ => rfl) h3 (fun w' hS => by obtain ⟨q0, q1, q2⟩ := hS; go_simp; rfl) ?_
        simp only [Act.put, List.setIfInBounds_toArray, List.set_cons_zero, List.set_cons_succ]
        refine hold_take 1 _ rfl (by kernel_rfl) (by kernel_rfl) (by kernel_rfl) (by kernel_rfl) (by kernel_rfl) (fun _ _ _ h => by cases h.1) (by rfl) (fun _ => rfl) h3 (fun w' hS => by obtain ⟨q0, q1, q2⟩ := hS; go_simp; rfl) ?_
        simp only [Act.put, List.setIfInBounds_toArray, List.set_cons_zero, List.set_cons_succ]
        refine hold_take 2 _ rfl (by kernel_rfl) (by kernel_rfl) (by kernel_rfl) (by kernel_rfl) (by kernel_rfl) (fun _ _ _ h => by cases h.1) (by rfl) (fun _ => rfl) h3 (fun w' hS => by obtain ⟨q0, q1, q2⟩ := hS; go_simp; rfl) ?_
        simp only [Act.put, List.setIfInBounds_toArray, List.set_cons_zero, List.set_cons_succ]
        refine hold_take 3 _ rfl (by kernel_rfl) (by kernel_rfl) (by kernel_rfl) (by kernel_rfl) (by kernel_rfl) (fun _ _ _ h => by cases h.1) (by rfl) (fun _ => rfl) h3 (fun w' hS => by obtain ⟨q0, q1, q2⟩ := hS; go_simp; rfl) ?_
        simp only [Act.put, List.setIfInBounds_toArray, List.set_cons_zero, List.set_cons_succ]
        refine hold_take 4 _ rfl (by kernel_rfl) (by kernel_rfl) (by kernel_rfl) (by kernel_rfl) (by kernel_rfl) (fun _ _ _ h => by cases h.1) (by rfl) (fun _ => rfl) h3 (fun w' hS => by obtain ⟨q0, q1, q2⟩ := hS; go_simp; rfl) ?_
        simp only [Act.put, List.setIfInBounds_toArray, List.set_cons_zero, List.set_cons_succ]
        refine hold_take 5 _ rfl (by kernel_rfl) (by kernel_rfl) (by kernel_rfl) (by kernel_rfl) (by kernel_rfl) (fun _ _ _ h => by cases h.1) (by rfl) (fun _ => rfl) h3 (fun w' hS => by obtain ⟨q0, q1, q2⟩ := hS; go_simp; rfl) ?_
        simp only [Act.put, List.setIfInBounds_toArray, List.set_cons_zero, List.set_cons_succ]
        refine hold_take 6 _ rfl (by kernel_rfl) (by kernel_rfl) (by kernel_rfl) (by kernel_rfl) (by kernel_rfl) (fun _ _ _ h => by cases h.1) (by rfl) (fun _ => rfl) h3 (fun w' hS => by obtain ⟨q0, q1, q2⟩ := hS; go_simp; rfl) ?_
        simp only [Act.put, List.setIfInBounds_toArray, List.set_cons_zero, List.set_cons_succ]
        refine hold_take 7 _ rfl (by kernel_rfl) (by kernel_rfl) (by kernel_rfl) (by kernel_rfl) (by kernel_rfl) (fun _ _ _ h => by cases h.1) (by rfl) (fun _ => rfl) h3 (fun w' hS => by obtain ⟨q0, q1, q2⟩ := hS; go_simp; rfl) ?_
        simp only [Act.put, List.setIfInBounds_toArray, List.set_cons_zero, List.set_cons_succ]
        refine hold_take 8 _ rfl (by kernel_rfl) (by kernel_rfl) (by kernel_rfl) (by kernel_rfl) (by kernel_rfl) (fun _ _ _ h => by cases h.1) (by rfl) (fun _ => rfl) h3 (fun w' hS => by obtain ⟨q0, q1, q2⟩ := hS; go_simp; rfl) ?_
        simp only [Act.put, List.setIfInBounds_toArray, List.set_cons_zero, List.set_cons_succ]
        refine hold_take 9 _ rfl (by kernel_rfl) (by kernel_rfl) (by kernel_rfl) (by kernel_rfl) (by kernel_rfl) (fun _ _ _ h => by cases h.1) (by rfl) (fun _ => rfl) h3 (fun w' hS => by obtain ⟨q0, q1, q2⟩ := hS; go_simp; rfl) ?_
        simp only [Act.put, List.setIfInBounds_toArray, List.set_cons_zero, List.set_cons_succ]
        exact held_done (by kernel_rfl) ⟨rfl, rfl, rfl, rfl, rfl⟩ _
      case rest =>
        rintro e ⟨tm, dfs⟩ W5 ⟨rfl, h6, h7, hdf, rfl⟩
        simp only at h6 h7 hdf
        subst hdf
        have H67 := cover (And.intro h6 h7)
        clear q16 q17 h6 h7
        gi_wp2
        refine ⟨by simp, .inl ⟨_, _, rfl, run_takeDeferred HD2.out, ?_⟩⟩
        exact ⟨_, results_tmp2 (t := 6) (u := 7) rfl _ _ _, by rw [H67.out.1, H67.out.2]; exact HO.out⟩
    case hstop => exact fun o cd A h => h.elim
end Go.Proofs.Ytgpmimohoepeiaa
