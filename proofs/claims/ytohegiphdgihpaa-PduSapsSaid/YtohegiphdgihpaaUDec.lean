/- What Decode hands back. -/
import Derived.Test.YtohegiphdgihpaaURd
import Derived.Test.YtohegiphdgihpaaUEnc
namespace Go.Proofs.Ytohegiphdgihpaa
open Go.RowKit
set_option linter.unusedVariables false
set_option linter.unusedSimpArgs false

/-- Decode has answered: the unit and what was wrong -/
def DecU (d : PV × Int) (w : World) (e : Ending) (w' : World) : Prop :=
  ∃ A c, e = .returned (.tuple #[.agg #[.int .i64 d.1.to, .int .i64 d.1.frm, .bool d.1.resp, .int .i64 d.1.form, .int .i64 d.1.kind, .int .i64 d.1.ns, .int .i64 d.1.nr, .bool d.1.poll, .slice A d.1.info.length c], .int .i64 d.2]) ∧ OwnB w' w.heap.size (.slice A d.1.info.length c) d.1.info ∧ Below w.heap.size w w'
theorem DecU.zero {w w' : World} {d : PV × Int} {k : Int} (h : d = (zPV, k)) (hb : Below w.heap.size w w') : DecU d w (.returned (.tuple #[.agg zp, .int .i64 k])) w' := by
  subst h
  exact ⟨none, 0, rfl, OwnB.nil _ _, hb⟩

set_option maxHeartbeats 1600000 in
theorem dec_any_u (A : Option Addr) (n c B : Nat) (l : List Int) (w : World) (hr : Row w B A n l) (hB : B ≤ w.heap.size) (hb : Bts l) (hmax : n ≤ 140737488355328) :
    Calls Try.prog 11 #[.slice A n c] w (DecU (decR l) w) := by
  obtain rfl : l.length = n := hr.len
  obtain ⟨w1, hw1⟩ : ∃ w1, Hid (w1 = w.alloc (.cells zp 25)) := ⟨_, cover rfl⟩
  have hs1 : w1.heap.size = w.heap.size + 1 := by rw [hw1.out]; simp
  have H1 : Hid (Below w.heap.size w w1) := cover (by rw [hw1.out]; exact (Below.refl _ _).alloc (Nat.le_refl _) _)
  have G1 : Hid (w1.heap[w.heap.size]? = some (.cells zp 25 (0, 0))) := cover (by rw [hw1.out]; exact heap_alloc_new _ _)
  have R1 := cover (hr.below (H1.out.mono hB))
  have HB := cover hb
  clear hr hb
  go_enter Try.func11, Try.ntmps11
  go_wp2_with fail
  rw [← hw1.out]
  refine (new_any A l.length c B l w1 R1.out (by omega) hmax).mono ?_
  rintro e w2 ⟨g, rfl, hrd, hg, hb2⟩
  have hs2 := hb2.size
  have H2 := cover (H1.out.trans (hb2.mono (by omega)))
  have G2 := cover ((hb2.block w.heap.size (by omega)).trans G1.out)
  have HRD := cover hrd
  clear hb2 hrd
  go_wp2_with fail
  refine (read_any g g l w2 HRD.out HB.out hmax).mono ?_
  rintro e w3 ⟨q, A3, c3, ok, rfl, ho3, hon3, hd⟩
  have H3 := cover (below_only H2.out hon3 (by omega) (by omega))
  have G3 := cover (only_keeps G2.out hon3 (by omega))
  have hs3 := hon3.size
  have HO3 := cover ho3
  clear ho3 hon3
  obtain ⟨w4, hw4⟩ : ∃ w4, Hid (w4 = (w3.alloc (.cells zp 25)).setRow w3.heap.size #[.int .i64 q.to, .int .i64 q.frm, .bool q.resp, .int .i64 q.form, .int .i64 q.kind, .int .i64 q.ns, .int .i64 q.nr, .bool q.poll, .slice A3 q.info.length c3]) := ⟨_, cover rfl⟩
  have G4 : Hid (w4.heap[w3.heap.size]? = some (.cells #[.int .i64 q.to, .int .i64 q.frm, .bool q.resp, .int .i64 q.form, .int .i64 q.kind, .int .i64 q.ns, .int .i64 q.nr, .bool q.poll, .slice A3 q.info.length c3] 25 (0, 0))) := cover (by rw [hw4.out]; exact setRow_heap _ _ _ _ _ _ (heap_alloc_new _ _))
  have hb4 : Below w3.heap.size w3 w4 := by rw [hw4.out]; exact Go.below_setRow ((Below.refl _ _).alloc (Nat.le_refl _) _) (Nat.le_refl _) _
  have hs4 := hb4.size
  have H4 := cover (H3.out.trans (hb4.mono (by omega)))
  have G4a := cover ((hb4.block w.heap.size (by omega)).trans G3.out)
  have HO4 := cover (ownB_below HO3.out hb4)
  clear hb4
  rcases ok with _ | _
  · have HD : Hid (decR l = (zPV, 2)) := cover hd.out
    go_wp2_with (first
      | (refine wpList_store_row rfl _ _ _ rfl w3.heap.size #[.int .i64 q.to, .int .i64 q.frm, .bool q.resp, .int .i64 q.form, .int .i64 q.kind, .int .i64 q.ns, .int .i64 q.nr, .bool q.poll, .slice A3 q.info.length c3] rfl rfl 25 zp (heap_alloc_new _ _) pdu_size rfl (pdu_one _ _ _ _ _ _ _ _ _ _ _) ?_; rw [← hw4.out])
      | (refine wpList_store_row rfl _ _ _ rfl w.heap.size zp rfl rfl 25 zp G4a.out pdu_size rfl zp_one ?_))
    exact bodyPost_ret (v := .tuple #[.agg zp, .int .i64 2]) (results_cell_and (by rfl) _ _ w.heap.size _ zp (0, 0) _ (.int .i64 2) rfl (setRow_heap _ _ _ _ _ _ G4a.out) rfl Try.underlying25 rfl pdu_size) rfl (DecU.zero HD.out (Go.below_setRow H4.out (Nat.le_refl _) _))
  · have HD0 : Hid (decR l = orForm q) := cover hd.out
    go_wp2_with (first
      | (refine wpList_store_row rfl _ _ _ rfl w3.heap.size #[.int .i64 q.to, .int .i64 q.frm, .bool q.resp, .int .i64 q.form, .int .i64 q.kind, .int .i64 q.ns, .int .i64 q.nr, .bool q.poll, .slice A3 q.info.length c3] rfl rfl 25 zp (heap_alloc_new _ _) pdu_size rfl (pdu_one _ _ _ _ _ _ _ _ _ _ _) ?_; rw [← hw4.out])
      | (refine wpList_load_row rfl _ _ rfl w3.heap.size rfl 25 #[.int .i64 q.to, .int .i64 q.frm, .bool q.resp, .int .i64 q.form, .int .i64 q.kind, .int .i64 q.ns, .int .i64 q.nr, .bool q.poll, .slice A3 q.info.length c3] (0, 0) _ G4.out Try.underlying25 rfl pdu_size ?_))
    refine (may_any q A3 c3 w4).mono ?_
    rintro e w5 ⟨rfl, hb5⟩
    have hs5 := hb5.size
    have H5 := cover (H4.out.trans (hb5.mono (by omega)))
    have G5 := cover ((hb5.block w3.heap.size (by have := block_lt G4.out; omega)).trans G4.out)
    have G5a := cover ((hb5.block w.heap.size (by omega)).trans G4a.out)
    have HO5 := cover (ownB_below HO4.out hb5)
    clear hb5
    rcases hm : mayB q with _ | _
    · have HD : Hid (decR l = (zPV, 4)) := cover (by rw [HD0.out]; exact orForm_no (fun h => by rw [mayB_yes h] at hm; cases hm))
      clear hm
      go_wp2_with (refine wpList_store_row rfl _ _ _ rfl w.heap.size zp rfl rfl 25 zp G5a.out pdu_size rfl zp_one ?_)
      exact bodyPost_ret (v := .tuple #[.agg zp, .int .i64 4]) (results_cell_and (by rfl) _ _ w.heap.size _ zp (0, 0) _ (.int .i64 4) rfl (setRow_heap _ _ _ _ _ _ G5a.out) rfl Try.underlying25 rfl pdu_size) rfl (DecU.zero HD.out (Go.below_setRow H5.out (Nat.le_refl _) _))
    · have HD : Hid (decR l = (q, 0)) := cover (by rw [HD0.out]; exact orForm_yes (mayB_iff.1 hm))
      clear hm
      go_wp2_with (first
        | (refine wpList_load_row rfl _ _ rfl w3.heap.size rfl 25 #[.int .i64 q.to, .int .i64 q.frm, .bool q.resp, .int .i64 q.form, .int .i64 q.kind, .int .i64 q.ns, .int .i64 q.nr, .bool q.poll, .slice A3 q.info.length c3] (0, 0) _ G5.out Try.underlying25 rfl pdu_size ?_)
        | (refine wpList_store_row rfl _ _ _ rfl w.heap.size #[.int .i64 q.to, .int .i64 q.frm, .bool q.resp, .int .i64 q.form, .int .i64 q.kind, .int .i64 q.ns, .int .i64 q.nr, .bool q.poll, .slice A3 q.info.length c3] rfl rfl 25 zp G5a.out pdu_size rfl (pdu_one _ _ _ _ _ _ _ _ _ _ _) ?_))
      exact bodyPost_ret (v := .tuple #[.agg #[.int .i64 q.to, .int .i64 q.frm, .bool q.resp, .int .i64 q.form, .int .i64 q.kind, .int .i64 q.ns, .int .i64 q.nr, .bool q.poll, .slice A3 q.info.length c3], .int .i64 0]) (results_cell_and (by rfl) _ _ w.heap.size _ #[.int .i64 q.to, .int .i64 q.frm, .bool q.resp, .int .i64 q.form, .int .i64 q.kind, .int .i64 q.ns, .int .i64 q.nr, .bool q.poll, .slice A3 q.info.length c3] (0, 0) _ (.int .i64 0) rfl (setRow_heap _ _ _ _ _ _ G5a.out) rfl Try.underlying25 rfl pdu_size) rfl
        ⟨A3, c3, by rw [HD.out], by rw [HD.out]; exact (ownB_keep HO5.out (fun i hi => setRow_other _ _ _ _ (by omega))).mono (by omega), Go.below_setRow H5.out (Nat.le_refl _) _⟩
end Go.Proofs.Ytohegiphdgihpaa
