/- What Same answers, the program's and the document's. -/
import Derived.Deep.CutBlock
import Derived.Deep.DeepCutAuto
import Derived.Test.YtbhdncbnjlgigaaUMem
import Derived.Test.YtbhdncbnjlgigaaOSame
import Derived.Test.YtbhdncbnjlgigaaOEqual
namespace Go.Proofs.Ytbhdncbnjlgigaa
open Go.RowKit
set_option linter.unusedVariables false

/-- are two units the same? -/
noncomputable def eqB (p q : PV) : Bool := @decide (p = q) (Classical.propDecidable _)
theorem eqB_iff {p q : PV} : eqB p q = true ↔ p = q := by simp [eqB]
theorem eqB_no {p q : PV} (h : p ≠ q) : eqB p q = false := by simp [eqB, h]
theorem eqB_refl (p : PV) : eqB p p = true := eqB_iff.2 rfl
theorem eqB_last {p q : PV} (h1 : p.to = q.to) (h2 : p.frm = q.frm) (h3 : p.resp = q.resp) (h4 : p.form = q.form) (h5 : p.kind = q.kind) (h6 : p.ns = q.ns) (h7 : p.nr = q.nr) (h8 : p.poll = q.poll) : eqB p q = decide (p.info = q.info) := by
  by_cases h : p.info = q.info
  · rw [decide_eq_true h]; exact eqB_iff.2 (PV.ext' h1 h2 h3 h4 h5 h6 h7 h8 h)
  · rw [decide_eq_false h]; exact eqB_no (fun e => h (congrArg PV.info e))
theorem two_laid (w : World) (a b : Array Value) (S T : TypeId) : ∃ w2, Hid (w2 = (w.alloc (.cells a S)).alloc (.cells b T)) ∧ Hid (w2.heap[w.heap.size]? = some (.cells a S (0, 0))) ∧ Hid (w2.heap[w.heap.size + 1]? = some (.cells b T (0, 0))) ∧ Hid (Below w.heap.size w w2) ∧ Hid (w2.heap.size = w.heap.size + 2) :=
  ⟨_, cover rfl, cover (heap_alloc2_old _ _ _), cover (heap_alloc2_new _ _ _), cover (((Below.refl _ _).alloc (Nat.le_refl _) _).alloc (by simp) _), cover (by simp)⟩

set_option maxHeartbeats 3200000 in
theorem ref_pduSame_any (p q : PV) (A A' : Option Addr) (c c' B B' : Nat) (w : World) (h1 : Row w B A p.info.length p.info) (h2 : Row w B' A' q.info.length q.info) (hB : B ≤ w.heap.size) (hB' : B' ≤ w.heap.size) (hmax : p.info.length ≤ 9223372036854775807) :
    Calls Try.prog 14 #[.agg #[.int .i64 p.to, .int .i64 p.frm, .bool p.resp, .int .i64 p.form, .int .i64 p.kind, .int .i64 p.ns, .int .i64 p.nr, .bool p.poll, .slice A p.info.length c], .agg #[.int .i64 q.to, .int .i64 q.frm, .bool q.resp, .int .i64 q.form, .int .i64 q.kind, .int .i64 q.ns, .int .i64 q.nr, .bool q.poll, .slice A' q.info.length c']] w fun e w' => e = .returned (.bool (eqB p q)) ∧ Below w.heap.size w w' := by
  obtain ⟨w2, hw2, G1, G2, H2, hs2⟩ := two_laid w #[.int .i64 p.to, .int .i64 p.frm, .bool p.resp, .int .i64 p.form, .int .i64 p.kind, .int .i64 p.ns, .int .i64 p.nr, .bool p.poll, .slice A p.info.length c] #[.int .i64 q.to, .int .i64 q.frm, .bool q.resp, .int .i64 q.form, .int .i64 q.kind, .int .i64 q.ns, .int .i64 q.nr, .bool q.poll, .slice A' q.info.length c'] 30 30
  obtain ⟨p0, p1, p2, p3, p4, p5, p6, p7, p8⟩ := pdu_cells G1.out
  obtain ⟨q0, q1, q2, q3, q4, q5, q6, q7, q8⟩ := pdu_cells G2.out
  have R1 := cover (h1.below (H2.out.mono hB))
  have R2 := cover (h2.below (H2.out.mono hB'))
  clear h1 h2 G1 G2
  go_enter Try.func14, Try.ntmps14
  go_upto_region 1 with fail
  rw [← hw2.out]
  clear hw2
  by_cases e0 : p.to = q.to
  case neg =>
    have HE : Hid (eqB p q = false) := cover (eqB_no (fun e => e0 (congrArg PV.to e)))
    go_wp2_with fail
    go_ret
    exact ⟨ret_bool HE.out.symm, H2.out⟩
  by_cases e1 : p.frm = q.frm
  case neg =>
    have HE : Hid (eqB p q = false) := cover (eqB_no (fun e => e1 (congrArg PV.frm e)))
    go_wp2_with fail
    go_ret
    exact ⟨ret_bool HE.out.symm, H2.out⟩
  by_cases e2 : p.resp = q.resp
  case neg =>
    have HE : Hid (eqB p q = false) := cover (eqB_no (fun e => e2 (congrArg PV.resp e)))
    go_wp2_with fail
    go_ret
    exact ⟨ret_bool HE.out.symm, H2.out⟩
  by_cases e3 : p.form = q.form
  case neg =>
    have HE : Hid (eqB p q = false) := cover (eqB_no (fun e => e3 (congrArg PV.form e)))
    go_wp2_with fail
    go_ret
    exact ⟨ret_bool HE.out.symm, H2.out⟩
  by_cases e4 : p.kind = q.kind
  case neg =>
    have HE : Hid (eqB p q = false) := cover (eqB_no (fun e => e4 (congrArg PV.kind e)))
    go_wp2_with fail
    go_ret
    exact ⟨ret_bool HE.out.symm, H2.out⟩
  by_cases e5 : p.ns = q.ns
  case neg =>
    have HE : Hid (eqB p q = false) := cover (eqB_no (fun e => e5 (congrArg PV.ns e)))
    go_wp2_with fail
    go_ret
    exact ⟨ret_bool HE.out.symm, H2.out⟩
  by_cases e6 : p.nr = q.nr
  case neg =>
    have HE : Hid (eqB p q = false) := cover (eqB_no (fun e => e6 (congrArg PV.nr e)))
    go_wp2_with fail
    go_ret
    exact ⟨ret_bool HE.out.symm, H2.out⟩
  by_cases e7 : p.poll = q.poll
  case neg =>
    have HE : Hid (eqB p q = false) := cover (eqB_no (fun e => e7 (congrArg PV.poll e)))
    go_wp2_with fail
    go_ret
    exact ⟨ret_bool HE.out.symm, H2.out⟩
  have HE : Hid (eqB p q = decide (p.info = q.info)) := cover (eqB_last e0 e1 e2 e3 e4 e5 e6 e7)
  by_cases hl : p.info.length = q.info.length
  · have HC := cover (fun W (x : Row W B A p.info.length p.info) (y : Row W B' A' q.info.length q.info) => same_any A A' p.info.length c c' B B' p.info q.info W x (by rw [hl]; exact y) hmax)
    rw [hl] at HC p8
    go_wp2_with fail
    refine (HC.out w2 (by rw [← hl]; exact R1.out) R2.out).mono ?_
    rintro e w3 ⟨rfl, d, rfl⟩
    go_wp2
    go_ret
    exact ⟨ret_bool HE.out.symm, below_drewN H2.out d⟩
  · have HL := cover hl
    clear hl
    go_wp2_with fail
    refine (same_len A A' p.info.length c q.info.length c' w2 HL.out).mono ?_
    rintro e w3 ⟨rfl, d, rfl⟩
    go_wp2
    go_ret
    exact ⟨ret_bool (by rw [HE.out, decide_eq_false (fun e => HL.out (congrArg List.length e))]), below_drewN H2.out d⟩

set_option maxHeartbeats 3200000 in
theorem pduSame_any (p q : PV) (A A' : Option Addr) (c c' B B' : Nat) (w : World) (h1 : Row w B A p.info.length p.info) (h2 : Row w B' A' q.info.length q.info) (hB : B ≤ w.heap.size) (hB' : B' ≤ w.heap.size) (b1 : Bts p.info) (b2 : Bts q.info) :
    Calls Try.prog 28 #[.agg #[.int .i64 p.to, .int .i64 p.frm, .bool p.resp, .int .i64 p.form, .int .i64 p.kind, .int .i64 p.ns, .int .i64 p.nr, .bool p.poll, .slice A p.info.length c], .agg #[.int .i64 q.to, .int .i64 q.frm, .bool q.resp, .int .i64 q.form, .int .i64 q.kind, .int .i64 q.ns, .int .i64 q.nr, .bool q.poll, .slice A' q.info.length c']] w fun e w' => e = .returned (.bool (eqB p q)) ∧ Below w.heap.size w w' := by
  obtain ⟨w2, hw2, G1, G2, H2, hs2⟩ := two_laid w #[.int .i64 p.to, .int .i64 p.frm, .bool p.resp, .int .i64 p.form, .int .i64 p.kind, .int .i64 p.ns, .int .i64 p.nr, .bool p.poll, .slice A p.info.length c] #[.int .i64 q.to, .int .i64 q.frm, .bool q.resp, .int .i64 q.form, .int .i64 q.kind, .int .i64 q.ns, .int .i64 q.nr, .bool q.poll, .slice A' q.info.length c'] 30 30
  obtain ⟨p0, p1, p2, p3, p4, p5, p6, p7, p8⟩ := pdu_cells G1.out
  obtain ⟨q0, q1, q2, q3, q4, q5, q6, q7, q8⟩ := pdu_cells G2.out
  have R1 := cover (h1.below (H2.out.mono hB))
  have R2 := cover (h2.below (H2.out.mono hB'))
  clear h1 h2 G1 G2
  go_enter Try.func28, Try.ntmps28
  go_upto_region 1 with fail
  rw [← hw2.out]
  clear hw2
  by_cases e0 : p.to = q.to
  case neg =>
    have HE : Hid (eqB p q = false) := cover (eqB_no (fun e => e0 (congrArg PV.to e)))
    go_wp2_with fail
    go_ret
    exact ⟨ret_bool HE.out.symm, H2.out⟩
  by_cases e1 : p.frm = q.frm
  case neg =>
    have HE : Hid (eqB p q = false) := cover (eqB_no (fun e => e1 (congrArg PV.frm e)))
    go_wp2_with fail
    go_ret
    exact ⟨ret_bool HE.out.symm, H2.out⟩
  by_cases e2 : p.resp = q.resp
  case neg =>
    have HE : Hid (eqB p q = false) := cover (eqB_no (fun e => e2 (congrArg PV.resp e)))
    go_wp2_with fail
    go_ret
    exact ⟨ret_bool HE.out.symm, H2.out⟩
  by_cases e3 : p.form = q.form
  case neg =>
    have HE : Hid (eqB p q = false) := cover (eqB_no (fun e => e3 (congrArg PV.form e)))
    go_wp2_with fail
    go_ret
    exact ⟨ret_bool HE.out.symm, H2.out⟩
  by_cases e4 : p.kind = q.kind
  case neg =>
    have HE : Hid (eqB p q = false) := cover (eqB_no (fun e => e4 (congrArg PV.kind e)))
    go_wp2_with fail
    go_ret
    exact ⟨ret_bool HE.out.symm, H2.out⟩
  by_cases e5 : p.ns = q.ns
  case neg =>
    have HE : Hid (eqB p q = false) := cover (eqB_no (fun e => e5 (congrArg PV.ns e)))
    go_wp2_with fail
    go_ret
    exact ⟨ret_bool HE.out.symm, H2.out⟩
  by_cases e6 : p.nr = q.nr
  case neg =>
    have HE : Hid (eqB p q = false) := cover (eqB_no (fun e => e6 (congrArg PV.nr e)))
    go_wp2_with fail
    go_ret
    exact ⟨ret_bool HE.out.symm, H2.out⟩
  by_cases e7 : p.poll = q.poll
  case neg =>
    have HE : Hid (eqB p q = false) := cover (eqB_no (fun e => e7 (congrArg PV.poll e)))
    go_wp2_with fail
    go_ret
    exact ⟨ret_bool HE.out.symm, H2.out⟩
  have HE : Hid (eqB p q = decide (p.info = q.info)) := cover (eqB_last e0 e1 e2 e3 e4 e5 e6 e7)
  go_wp2_with fail
  refine (equal_any A A' p.info.length q.info.length c c' B B' p.info q.info w2 R1.out R2.out b1 b2).mono ?_
  rintro e w3 ⟨rfl, rfl⟩
  go_wp2
  go_ret
  exact ⟨ret_bool HE.out.symm, H2.out⟩
end Go.Proofs.Ytbhdncbnjlgigaa
