/- What the document's own Type answers. -/
import Derived.Test.YtihbnphgjpohpaaURMay
import Derived.Test.YtihbnphgjpohpaaTFun
namespace Go.Proofs.Ytihbnphgjpohpaa
open Go.RowKit
set_option linter.unusedVariables false
set_option linter.unusedSimpArgs false

set_option maxHeartbeats 1600000 in
theorem ref_type_any (p : PV) (A : Option Addr) (c : Nat) (w : World) :
    Calls Try.prog 12 #[.agg #[.int .i64 p.to, .int .i64 p.frm, .bool p.resp, .int .i64 p.form, .int .i64 p.kind, .int .i64 p.ns, .int .i64 p.nr, .bool p.poll, .slice A p.info.length c]] w fun e w' => e = .returned (.int .i64 (typeP p)) ∧ Below w.heap.size w w' := by
  obtain ⟨w1, hw1⟩ : ∃ w1, Hid (w1 = w.alloc (.cells #[.int .i64 p.to, .int .i64 p.frm, .bool p.resp, .int .i64 p.form, .int .i64 p.kind, .int .i64 p.ns, .int .i64 p.nr, .bool p.poll, .slice A p.info.length c] 26)) := ⟨_, cover rfl⟩
  have hs1 : w.heap.size < w1.heap.size := by rw [hw1.out]; simp
  have H1 : Hid (Below w.heap.size w w1) := cover (by rw [hw1.out]; exact (Below.refl _ _).alloc (Nat.le_refl _) _)
  have G1 : Hid (w1.heap[w.heap.size]? = some (.cells #[.int .i64 p.to, .int .i64 p.frm, .bool p.resp, .int .i64 p.form, .int .i64 p.kind, .int .i64 p.ns, .int .i64 p.nr, .bool p.poll, .slice A p.info.length c] 26 (0, 0))) := cover (by rw [hw1.out]; exact heap_alloc_new _ _)
  obtain ⟨p0, p1, p2, p3, p4, p5, p6, p7, p8⟩ := pdu_cells G1.out
  go_enter Try.func12, Try.ntmps12
  go_wp2_with fail
  rw [← hw1.out]
  refine (ref_may_any p A c w1).mono ?_
  rintro e w2 ⟨rfl, hb2⟩
  have H2 := cover (H1.out.trans (hb2.mono (by omega)))
  have G2 := cover ((hb2.block _ (by omega)).trans G1.out)
  clear hb2 p0 p1 p2 p3 p4 p5 p6 p7 p8
  obtain ⟨p0, p1, p2, p3, p4, p5, p6, p7, p8⟩ := pdu_cells G2.out
  rcases hm : mayB p with _ | _
  · have HT : Hid (typeP p = 0) := cover (typeP_no (fun h => by rw [mayB_yes h] at hm; cases hm))
    clear hm
    go_wp2
    go_ret
    exact ⟨ret_int HT.out.symm, H2.out⟩
  have HT := cover (typeP_yes (mayB_iff.1 hm))
  clear hm
  by_cases hf : p.form = 2
  · rw [if_neg (by omega)] at HT
    rw [hf] at p3
    clear hf
    by_cases k0 : p.kind = 0
    · rw [if_pos (.inl k0)] at HT
      rw [k0] at p4
      clear k0
      go_wp2
      go_ret
      exact ⟨ret_int HT.out.symm, H2.out⟩
    by_cases k1 : p.kind = 1
    · rw [if_pos (.inr (.inl k1))] at HT
      rw [k1] at p4
      clear k0 k1
      go_wp2
      go_ret
      exact ⟨ret_int HT.out.symm, H2.out⟩
    by_cases k2 : p.kind = 2
    · rw [if_pos (.inr (.inr k2))] at HT
      rw [k2] at p4
      clear k0 k1 k2
      go_wp2
      go_ret
      exact ⟨ret_int HT.out.symm, H2.out⟩
    rw [if_neg (by omega)] at HT
    by_cases k8 : p.kind = 8
    · rw [if_pos (.inl k8)] at HT
      rw [k8] at p4
      clear k0 k1 k2 k8
      go_wp2
      go_ret
      exact ⟨ret_int HT.out.symm, H2.out⟩
    by_cases k9 : p.kind = 9
    · rw [if_pos (.inr k9)] at HT
      rw [k9] at p4
      clear k0 k1 k2 k8 k9
      go_wp2
      go_ret
      exact ⟨ret_int HT.out.symm, H2.out⟩
    rw [if_neg (by omega)] at HT
    have b0 : (p.kind == 0) = false := beq_eq_false_iff_ne.2 k0
    have b1 : (p.kind == 1) = false := beq_eq_false_iff_ne.2 k1
    have b2 : (p.kind == 2) = false := beq_eq_false_iff_ne.2 k2
    have b8 : (p.kind == 8) = false := beq_eq_false_iff_ne.2 k8
    have b9 : (p.kind == 9) = false := beq_eq_false_iff_ne.2 k9
    clear k0 k1 k2 k8 k9
    go_wp2
    go_ret
    exact ⟨ret_int HT.out.symm, H2.out⟩
  · rw [if_pos hf] at HT
    go_wp2
    go_ret
    exact ⟨ret_int HT.out.symm, H2.out⟩
end Go.Proofs.Ytihbnphgjpohpaa
