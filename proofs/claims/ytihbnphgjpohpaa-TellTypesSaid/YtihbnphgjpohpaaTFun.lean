/- What stepsUp, Asks, mark, Wrong answer: the program's and the document's. -/
import Derived.Laws.Bits128
import Derived.Test.YtihbnphgjpohpaaUMem
import Derived.Test.YtihbnphgjpohpaaTMath
namespace Go.Proofs.Ytihbnphgjpohpaa
open Go.RowKit
set_option linter.unusedVariables false
set_option linter.unusedSimpArgs false

theorem and_ring (a b : Int) : bits BinOp.and IntKind.i64 (wrap64 (b - a)) 127 = dist a b := by
  rw [Go.i64_and127]
  unfold dist wrap64
  omega
theorem stepsUp_any (a b : Int) (w : World) : Calls Try.prog 21 #[.int .i64 a, .int .i64 b] w fun e w' => e = .returned (.int .i64 (dist a b)) ∧ w' = w := by
  have H := cover (and_ring a b)
  go_enter Try.func21, Try.ntmps21
  go_wp2
  go_ret
  exact ⟨ret_int H.out, rfl⟩
theorem dist_any (a b : Int) (w : World) : Calls Try.prog 27 #[.int .i64 a, .int .i64 b] w fun e w' => e = .returned (.int .i64 (dist a b)) ∧ w' = w := by
  obtain ⟨_, -, l1, u1⟩ := tmod_128 a
  obtain ⟨_, -, l2, u2⟩ := tmod_128 b
  obtain ⟨_, -, l3, u3⟩ := tmod_128 (b.tmod 128 - a.tmod 128)
  have H : Hid (((b.tmod 128 - a.tmod 128).tmod 128 + 128) % 128 = dist a b) := cover (by rw [← dist_go a b]; exact (Int.tmod_eq_emod_of_nonneg (by omega)).symm)
  go_enter Try.func27, Try.ntmps27
  go_wp2
  go_ret
  exact ⟨ret_int H.out, rfl⟩
theorem add_any (a n : Int) (w : World) : Calls Try.prog 23 #[.int .i64 a, .int .i64 n] w fun e w' => e = .returned (.int .i64 ((a + n) % 128)) ∧ w' = w := by
  obtain ⟨_, -, l1, u1⟩ := tmod_128 a
  obtain ⟨_, -, l2, u2⟩ := tmod_128 n
  obtain ⟨_, -, l3, u3⟩ := tmod_128 (a.tmod 128 + n.tmod 128)
  have H : Hid (((a.tmod 128 + n.tmod 128).tmod 128 + 128) % 128 = (a + n) % 128) := cover (by rw [← add_go a n]; exact (Int.tmod_eq_emod_of_nonneg (by omega)).symm)
  go_enter Try.func23, Try.ntmps23
  go_wp2
  go_ret
  exact ⟨ret_int H.out, rfl⟩
theorem in_any (x a b : Int) (w : World) : Calls Try.prog 22 #[.int .i64 x, .int .i64 a, .int .i64 b] w fun e w' => e = .returned (.bool (inR x a b)) ∧ w' = w := by
  go_enter Try.func22, Try.ntmps22
  go_wp2_with fail
  refine (dist_any a x w).mono ?_
  rintro e w' ⟨rfl, rfl⟩
  go_wp2_with fail
  refine (dist_any a b w').mono ?_
  rintro e w' ⟨rfl, rfl⟩
  go_wp2
  go_ret
  exact ⟨rfl, rfl⟩
theorem asks_any (p : PV) (A : Option Addr) (c : Nat) (w : World) :
    Calls Try.prog 13 #[.agg #[.int .i64 p.to, .int .i64 p.frm, .bool p.resp, .int .i64 p.form, .int .i64 p.kind, .int .i64 p.ns, .int .i64 p.nr, .bool p.poll, .slice A p.info.length c]] w fun e w' => e = .returned (.bool (asksP p)) ∧ Below w.heap.size w w' := by
  have H1 : Hid (Below w.heap.size w (w.alloc (.cells #[.int .i64 p.to, .int .i64 p.frm, .bool p.resp, .int .i64 p.form, .int .i64 p.kind, .int .i64 p.ns, .int .i64 p.nr, .bool p.poll, .slice A p.info.length c] 26))) := cover ((Below.refl _ _).alloc (Nat.le_refl _) _)
  rcases hp : p.poll with _ | _ <;> rcases hr : p.resp with _ | _ <;>
    (have HA := cover (show asksP p = (!p.resp && p.poll) from rfl)
     rw [hp, hr] at HA
     rw [hp, hr] at H1
     go_enter Try.func13, Try.ntmps13
     go_wp2
     go_ret
     exact ⟨ret_bool HA.out.symm, H1.out⟩)
theorem ref_asks_any (p : PV) (A : Option Addr) (c : Nat) (w : World) :
    Calls Try.prog 14 #[.agg #[.int .i64 p.to, .int .i64 p.frm, .bool p.resp, .int .i64 p.form, .int .i64 p.kind, .int .i64 p.ns, .int .i64 p.nr, .bool p.poll, .slice A p.info.length c]] w fun e w' => e = .returned (.bool (asksP p)) ∧ Below w.heap.size w w' := by
  have H1 : Hid (Below w.heap.size w (w.alloc (.cells #[.int .i64 p.to, .int .i64 p.frm, .bool p.resp, .int .i64 p.form, .int .i64 p.kind, .int .i64 p.ns, .int .i64 p.nr, .bool p.poll, .slice A p.info.length c] 26))) := cover ((Below.refl _ _).alloc (Nat.le_refl _) _)
  rcases hp : p.poll with _ | _ <;> rcases hr : p.resp with _ | _ <;>
    (have HA := cover (show asksP p = (!p.resp && p.poll) from rfl)
     rw [hp, hr] at HA
     rw [hp, hr] at H1
     go_enter Try.func14, Try.ntmps14
     go_wp2
     go_ret
     exact ⟨ret_bool HA.out.symm, H1.out⟩)
/-- how far behind the plain one an event stands -/
def markP (p : PV) (st : Int) : Int := if asksP p = true then 1 else if p.poll = true ∧ 11 ≤ st then 2 else 0
theorem mark_any (p : PV) (st : Int) (A : Option Addr) (c : Nat) (w : World) :
    Calls Try.prog 20 #[.agg #[.int .i64 p.to, .int .i64 p.frm, .bool p.resp, .int .i64 p.form, .int .i64 p.kind, .int .i64 p.ns, .int .i64 p.nr, .bool p.poll, .slice A p.info.length c], .int .i64 st] w fun e w' => e = .returned (.int .i64 (markP p st)) ∧ Below w.heap.size w w' := by
  obtain ⟨w1, hw1⟩ : ∃ w1, Hid (w1 = w.alloc (.cells #[.int .i64 p.to, .int .i64 p.frm, .bool p.resp, .int .i64 p.form, .int .i64 p.kind, .int .i64 p.ns, .int .i64 p.nr, .bool p.poll, .slice A p.info.length c] 26)) := ⟨_, cover rfl⟩
  have hs1 : w.heap.size < w1.heap.size := by rw [hw1.out]; simp
  have H1 : Hid (Below w.heap.size w w1) := cover (by rw [hw1.out]; exact (Below.refl _ _).alloc (Nat.le_refl _) _)
  have G1 : Hid (w1.heap[w.heap.size]? = some (.cells #[.int .i64 p.to, .int .i64 p.frm, .bool p.resp, .int .i64 p.form, .int .i64 p.kind, .int .i64 p.ns, .int .i64 p.nr, .bool p.poll, .slice A p.info.length c] 26 (0, 0))) := cover (by rw [hw1.out]; exact heap_alloc_new _ _)
  obtain ⟨p0, p1, p2, p3, p4, p5, p6, p7, p8⟩ := pdu_cells G1.out
  go_enter Try.func20, Try.ntmps20
  go_wp2_with fail
  rw [← hw1.out]
  refine (asks_any p A c w1).mono ?_
  rintro e w2 ⟨rfl, hb2⟩
  have H2 := cover (H1.out.trans (hb2.mono (by omega)))
  have G2 := cover ((hb2.block _ (by omega)).trans G1.out)
  clear hb2 p0 p1 p2 p3 p4 p5 p6 p7 p8
  obtain ⟨p0, p1, p2, p3, p4, p5, p6, p7, p8⟩ := pdu_cells G2.out
  rcases ha : asksP p with _ | _
  · have HA := cover ha
    clear ha
    rcases hp : p.poll with _ | _
    · have HP := cover hp
      rw [hp] at p7
      clear hp
      go_wp2
      go_ret
      exact ⟨ret_int (by unfold markP; rw [HA.out, HP.out, if_neg (by decide), if_neg (by rintro ⟨e, _⟩; cases e)]), H2.out⟩
    · have HP := cover hp
      rw [hp] at p7
      clear hp
      by_cases h11 : 11 ≤ st
      · go_wp2
        go_ret
        exact ⟨ret_int (by unfold markP; rw [HA.out, HP.out, if_neg (by decide), if_pos ⟨rfl, h11⟩]), H2.out⟩
      · go_wp2
        go_ret
        exact ⟨ret_int (by unfold markP; rw [HA.out, HP.out, if_neg (by decide), if_neg (by rintro ⟨_, e⟩; omega)]), H2.out⟩
  · have HA := cover ha
    clear ha
    go_wp2
    go_ret
    exact ⟨ret_int (by unfold markP; rw [HA.out, if_pos rfl]), H2.out⟩
theorem wrongP_u {p : PV} (h : p.form = 2) (va vs : Int) : wrongP p va vs = false := by unfold wrongP; rw [h]; rfl
theorem wrongP_n {p : PV} (h : p.form ≠ 2) (va vs : Int) : wrongP p va vs = decide (dist va vs < dist va p.nr) := by
  unfold wrongP inR
  rw [show (p.form != 2) = true by simp [h], Bool.true_and, ← decide_not]
  exact decide_eq_decide.2 (by omega)
theorem wrong_any (p : PV) (va vs : Int) (A : Option Addr) (c : Nat) (w : World) :
    Calls Try.prog 15 #[.agg #[.int .i64 p.to, .int .i64 p.frm, .bool p.resp, .int .i64 p.form, .int .i64 p.kind, .int .i64 p.ns, .int .i64 p.nr, .bool p.poll, .slice A p.info.length c], .int .i64 va, .int .i64 vs] w fun e w' => e = .returned (.bool (wrongP p va vs)) ∧ Below w.heap.size w w' := by
  obtain ⟨w1, hw1⟩ : ∃ w1, Hid (w1 = w.alloc (.cells #[.int .i64 p.to, .int .i64 p.frm, .bool p.resp, .int .i64 p.form, .int .i64 p.kind, .int .i64 p.ns, .int .i64 p.nr, .bool p.poll, .slice A p.info.length c] 26)) := ⟨_, cover rfl⟩
  have hs1 : w.heap.size < w1.heap.size := by rw [hw1.out]; simp
  have H1 : Hid (Below w.heap.size w w1) := cover (by rw [hw1.out]; exact (Below.refl _ _).alloc (Nat.le_refl _) _)
  have G1 : Hid (w1.heap[w.heap.size]? = some (.cells #[.int .i64 p.to, .int .i64 p.frm, .bool p.resp, .int .i64 p.form, .int .i64 p.kind, .int .i64 p.ns, .int .i64 p.nr, .bool p.poll, .slice A p.info.length c] 26 (0, 0))) := cover (by rw [hw1.out]; exact heap_alloc_new _ _)
  obtain ⟨p0, p1, p2, p3, p4, p5, p6, p7, p8⟩ := pdu_cells G1.out
  by_cases h2 : p.form = 2
  · have HW := cover (wrongP_u h2 va vs)
    rw [hw1.out, h2] at H1
    go_enter Try.func15, Try.ntmps15
    go_wp2
    go_ret
    exact ⟨ret_bool HW.out.symm, H1.out⟩
  · have HW := cover (wrongP_n h2 va vs)
    go_enter Try.func15, Try.ntmps15
    go_wp2_with fail
    rw [← hw1.out]
    refine (stepsUp_any va p.nr w1).mono ?_
    rintro e w' ⟨rfl, rfl⟩
    go_wp2_with fail
    refine (stepsUp_any va vs w').mono ?_
    rintro e w' ⟨rfl, rfl⟩
    go_wp2
    go_ret
    exact ⟨ret_bool (by rw [HW.out, show (p.form != 2) = true by simp [h2], Bool.true_and]), H1.out⟩
theorem ref_wrong_any (p : PV) (va vs : Int) (A : Option Addr) (c : Nat) (w : World) :
    Calls Try.prog 16 #[.agg #[.int .i64 p.to, .int .i64 p.frm, .bool p.resp, .int .i64 p.form, .int .i64 p.kind, .int .i64 p.ns, .int .i64 p.nr, .bool p.poll, .slice A p.info.length c], .int .i64 va, .int .i64 vs] w fun e w' => e = .returned (.bool (wrongP p va vs)) ∧ Below w.heap.size w w' := by
  obtain ⟨w1, hw1⟩ : ∃ w1, Hid (w1 = w.alloc (.cells #[.int .i64 p.to, .int .i64 p.frm, .bool p.resp, .int .i64 p.form, .int .i64 p.kind, .int .i64 p.ns, .int .i64 p.nr, .bool p.poll, .slice A p.info.length c] 26)) := ⟨_, cover rfl⟩
  have hs1 : w.heap.size < w1.heap.size := by rw [hw1.out]; simp
  have H1 : Hid (Below w.heap.size w w1) := cover (by rw [hw1.out]; exact (Below.refl _ _).alloc (Nat.le_refl _) _)
  have G1 : Hid (w1.heap[w.heap.size]? = some (.cells #[.int .i64 p.to, .int .i64 p.frm, .bool p.resp, .int .i64 p.form, .int .i64 p.kind, .int .i64 p.ns, .int .i64 p.nr, .bool p.poll, .slice A p.info.length c] 26 (0, 0))) := cover (by rw [hw1.out]; exact heap_alloc_new _ _)
  obtain ⟨p0, p1, p2, p3, p4, p5, p6, p7, p8⟩ := pdu_cells G1.out
  by_cases h2 : p.form = 2
  · have HW := cover (wrongP_u h2 va vs)
    rw [hw1.out, h2] at H1
    go_enter Try.func16, Try.ntmps16
    go_wp2
    go_ret
    exact ⟨ret_bool HW.out.symm, H1.out⟩
  · have HW : Hid (wrongP p va vs = !inR p.nr va vs) := cover (by unfold wrongP; rw [show (p.form != 2) = true by simp [h2], Bool.true_and])
    go_enter Try.func16, Try.ntmps16
    go_wp2_with fail
    rw [← hw1.out]
    refine (in_any p.nr va vs w1).mono ?_
    rintro e w' ⟨rfl, rfl⟩
    go_wp2
    go_ret
    exact ⟨ret_bool (by rw [HW.out, show (p.form != 2) = true by simp [h2], Bool.true_and]), H1.out⟩
end Go.Proofs.Ytihbnphgjpohpaa
