/- What PutReason hands back, the program's and the document's. -/
import Derived.Test.YtkidacfodpoapaaFNet
import Derived.Test.YtkidacfodpoapaaGPClass
import Derived.Test.YtkidacfodpoapaaURMay
namespace Go.Proofs.Ytkidacfodpoapaa
open Go.RowKit
set_option linter.unusedVariables false
set_option linter.unusedSimpArgs false

theorem reason_cells {w : World} {g : Nat} {r : RsV} {T : TypeId} {fr : Nat × Nat} (h : w.heap[g]? = some (.cells #[.int .i64 r.ctl, .int .i64 r.vs, .int .i64 r.vr, .bool r.rsp, .bool r.w, .bool r.x, .bool r.y, .bool r.z, .bool r.v] T fr)) : (World.cell? w ⟨g, 0, none⟩ = some (.int .i64 r.ctl) ∧ World.cell? w ⟨g, 1, none⟩ = some (.int .i64 r.vs) ∧ World.cell? w ⟨g, 2, none⟩ = some (.int .i64 r.vr) ∧ World.cell? w ⟨g, 3, none⟩ = some (.bool r.rsp) ∧ World.cell? w ⟨g, 4, none⟩ = some (.bool r.w) ∧ World.cell? w ⟨g, 5, none⟩ = some (.bool r.x) ∧ World.cell? w ⟨g, 6, none⟩ = some (.bool r.y) ∧ World.cell? w ⟨g, 7, none⟩ = some (.bool r.z) ∧ World.cell? w ⟨g, 8, none⟩ = some (.bool r.v)) := by
  refine ⟨?_, ?_, ?_, ?_, ?_, ?_, ?_, ?_, ?_⟩
  all_goals (rw [cell_of_row w g _ _ _ _ h]; rfl)
theorem reason_below {w w' : World} {B g : Nat} {r : RsV} (h : (World.cell? w ⟨g, 0, none⟩ = some (.int .i64 r.ctl) ∧ World.cell? w ⟨g, 1, none⟩ = some (.int .i64 r.vs) ∧ World.cell? w ⟨g, 2, none⟩ = some (.int .i64 r.vr) ∧ World.cell? w ⟨g, 3, none⟩ = some (.bool r.rsp) ∧ World.cell? w ⟨g, 4, none⟩ = some (.bool r.w) ∧ World.cell? w ⟨g, 5, none⟩ = some (.bool r.x) ∧ World.cell? w ⟨g, 6, none⟩ = some (.bool r.y) ∧ World.cell? w ⟨g, 7, none⟩ = some (.bool r.z) ∧ World.cell? w ⟨g, 8, none⟩ = some (.bool r.v))) (hb : Below B w w') (hg : g < B) : (World.cell? w' ⟨g, 0, none⟩ = some (.int .i64 r.ctl) ∧ World.cell? w' ⟨g, 1, none⟩ = some (.int .i64 r.vs) ∧ World.cell? w' ⟨g, 2, none⟩ = some (.int .i64 r.vr) ∧ World.cell? w' ⟨g, 3, none⟩ = some (.bool r.rsp) ∧ World.cell? w' ⟨g, 4, none⟩ = some (.bool r.w) ∧ World.cell? w' ⟨g, 5, none⟩ = some (.bool r.x) ∧ World.cell? w' ⟨g, 6, none⟩ = some (.bool r.y) ∧ World.cell? w' ⟨g, 7, none⟩ = some (.bool r.z) ∧ World.cell? w' ⟨g, 8, none⟩ = some (.bool r.v)) := by
  obtain ⟨p0, p1, p2, p3, p4, p5, p6, p7, p8⟩ := h
  exact ⟨(hb.cell (p := ⟨g, 0, none⟩) hg).trans p0, (hb.cell (p := ⟨g, 1, none⟩) hg).trans p1, (hb.cell (p := ⟨g, 2, none⟩) hg).trans p2, (hb.cell (p := ⟨g, 3, none⟩) hg).trans p3, (hb.cell (p := ⟨g, 4, none⟩) hg).trans p4, (hb.cell (p := ⟨g, 5, none⟩) hg).trans p5, (hb.cell (p := ⟨g, 6, none⟩) hg).trans p6, (hb.cell (p := ⟨g, 7, none⟩) hg).trans p7, (hb.cell (p := ⟨g, 8, none⟩) hg).trans p8⟩
theorem op_of {ops : Array Oper} {i : Nat} {o o' : Oper} {rest : List Oper} (h : ops[i]? = some o) (h2 : ops.toList.drop i = o' :: rest) : o = o' := by
  rw [of_drop h2] at h; injection h with h; exact h.symm
theorem FlagsAt.below {w w' : World} {B : Nat} {ad : Addr} {fs : List Bool} (h : FlagsAt w ad fs) (hb : Below B w w') (hg : ad.block < B) : FlagsAt w' ad fs := fun k b hk => (hb.cell (by rw [addr_add_block]; exact hg)).trans (h k b hk)
/-- a literal of flags -/
theorem FlagsAt.made (w : World) (fs : List Bool) (cs : Array Value) (t : TypeId) (h : cs = (fs.map Value.bool).toArray) : FlagsAt (w.alloc (.cells cs t)) ⟨w.heap.size, 0, none⟩ fs := by
  intro k b hk
  have ha : (⟨w.heap.size, 0, none⟩ : Addr).add k = ⟨w.heap.size, k, none⟩ := by
    unfold Addr.add; split <;> simp_all
  subst h
  rw [ha, cell_of_row _ _ k _ _ (0, 0) (heap_alloc_new w _)]
  simp [hk]
/-- what the operations of PutReason's region yield -/
def VR (r : RsV) (B : Nat) : Nat → Value → World → Prop
  | 2, v, W => ∃ A c, v = .slice A 2 c ∧ OwnB W B (.slice A 2 c) [r.ctl / 256, r.ctl % 256]
  | 6, v, W => ∃ g, v = .slice (some ⟨g, 0, none⟩) 1 1 ∧ g < W.heap.size ∧ FlagsAt W ⟨g, 0, none⟩ [false]
  | 7, v, W => v = .int .u8 (2 * r.vs)
  | 13, v, W => ∃ g, v = .slice (some ⟨g, 0, none⟩) 1 1 ∧ g < W.heap.size ∧ FlagsAt W ⟨g, 0, none⟩ [r.rsp]
  | 14, v, W => v = .int .u8 (2 * r.vr + fl r.rsp)
  | 25, v, W => ∃ g, v = .slice (some ⟨g, 0, none⟩) 5 5 ∧ g < W.heap.size ∧ FlagsAt W ⟨g, 0, none⟩ [r.w, r.x, r.y, r.z, r.v]
  | 26, v, W => v = .int .u8 (bitsR r)
  | _, _, _ => True
theorem VR.stable {r : RsV} {B : Nat} (i : Nat) (v : Value) (w w' : World) (hb : Below w.heap.size w w') (h : VR r B i v w) : VR r B i v w' := by
  unfold VR at h ⊢
  split at h
  · obtain ⟨A, c, e, ho⟩ := h; exact ⟨A, c, e, ownB_below ho hb⟩
  · obtain ⟨g, e, hg, hf⟩ := h; exact ⟨g, e, Nat.lt_of_lt_of_le hg hb.size, hf.below hb hg⟩
  · exact h
  · obtain ⟨g, e, hg, hf⟩ := h; exact ⟨g, e, Nat.lt_of_lt_of_le hg hb.size, hf.below hb hg⟩
  · exact h
  · obtain ⟨g, e, hg, hf⟩ := h; exact ⟨g, e, Nat.lt_of_lt_of_le hg hb.size, hf.below hb hg⟩
  · exact h
  · trivial

set_option maxHeartbeats 3200000 in
theorem putReason_yes (r : RsV) (w : World) (hok : OkR r) :
    Calls Try.prog 14 #[.agg #[.int .i64 r.ctl, .int .i64 r.vs, .int .i64 r.vr, .bool r.rsp, .bool r.w, .bool r.x, .bool r.y, .bool r.z, .bool r.v]] w (GivesE (putRs r) w) := by
  obtain ⟨w1, hw1⟩ : ∃ w1, Hid (w1 = w.alloc (.cells #[.int .i64 r.ctl, .int .i64 r.vs, .int .i64 r.vr, .bool r.rsp, .bool r.w, .bool r.x, .bool r.y, .bool r.z, .bool r.v] 30)) := ⟨_, cover rfl⟩
  have H1 : Hid (Below w.heap.size w w1) := cover (by rw [hw1.out]; exact (Below.refl _ _).alloc (Nat.le_refl _) _)
  have hgp : w1.heap[w.heap.size]? = some (.cells #[.int .i64 r.ctl, .int .i64 r.vs, .int .i64 r.vr, .bool r.rsp, .bool r.w, .bool r.x, .bool r.y, .bool r.z, .bool r.v] 30 (0, 0)) := by rw [hw1.out]; exact heap_alloc_new _ _
  have hs1 : w.heap.size < w1.heap.size := block_lt hgp
  have C1 := cover (reason_cells hgp)
  clear hgp
  have HE : Hid (putRs r = (encRs r, 0)) := cover (by unfold putRs; rw [if_pos hok])
  have HOK := cover hok
  obtain ⟨d0, d1, d2⟩ := hok
  have D0 := cover (decide_eq_true d0)
  have D1 := cover (decide_eq_true d1)
  have D2 := cover (decide_eq_true d2)
  have v1 := w8 (x := r.vs) ⟨d1.1, by omega⟩
  have v2 := w8 (x := r.vr) ⟨d2.1, by omega⟩
  clear d0 d1 d2
  obtain ⟨c0, c1, c2, c3, c4, c5, c6, c7, c8⟩ := C1.out
  go_enter Try.func14, Try.ntmps14
  go_upto_region 1 with fail
  rw [← hw1.out]
  go_wp2_with (go_at_call 28; first | (refine (fits_any r.ctl 65535 w1).mono ?_; rw [D0.out]; rintro e w' ⟨rfl, rfl⟩) | (refine (fits_any r.vs 127 w').mono ?_; rw [D1.out]; rintro e w2 ⟨rfl, rfl⟩) | (refine (fits_any r.vr 127 w2).mono ?_; rw [D2.out]; rintro e w3 ⟨rfl, rfl⟩))
  clear c0 c1 c2 c3 c4 c5 c6 c7 c8 D0 D1 D2
  have mixed : Try.prog.follows .mixedOrders = true := by kernel_rfl
  refine (wpIn_wide (n := 0)).1 ?_
  refine held_begin (fun W' : World => (World.cell? W' ⟨w.heap.size, 0, none⟩ = some (.int .i64 r.ctl) ∧ World.cell? W' ⟨w.heap.size, 1, none⟩ = some (.int .i64 r.vs) ∧ World.cell? W' ⟨w.heap.size, 2, none⟩ = some (.int .i64 r.vr) ∧ World.cell? W' ⟨w.heap.size, 3, none⟩ = some (.bool r.rsp) ∧ World.cell? W' ⟨w.heap.size, 4, none⟩ = some (.bool r.w) ∧ World.cell? W' ⟨w.heap.size, 5, none⟩ = some (.bool r.x) ∧ World.cell? W' ⟨w.heap.size, 6, none⟩ = some (.bool r.y) ∧ World.cell? W' ⟨w.heap.size, 7, none⟩ = some (.bool r.z) ∧ World.cell? W' ⟨w.heap.size, 8, none⟩ = some (.bool r.v)) ∧ Below w3.heap.size w3 W') 99 mixed ?_
  have HS0 : (fun W' : World => (World.cell? W' ⟨w.heap.size, 0, none⟩ = some (.int .i64 r.ctl) ∧ World.cell? W' ⟨w.heap.size, 1, none⟩ = some (.int .i64 r.vs) ∧ World.cell? W' ⟨w.heap.size, 2, none⟩ = some (.int .i64 r.vr) ∧ World.cell? W' ⟨w.heap.size, 3, none⟩ = some (.bool r.rsp) ∧ World.cell? W' ⟨w.heap.size, 4, none⟩ = some (.bool r.w) ∧ World.cell? W' ⟨w.heap.size, 5, none⟩ = some (.bool r.x) ∧ World.cell? W' ⟨w.heap.size, 6, none⟩ = some (.bool r.y) ∧ World.cell? W' ⟨w.heap.size, 7, none⟩ = some (.bool r.z) ∧ World.cell? W' ⟨w.heap.size, 8, none⟩ = some (.bool r.v)) ∧ Below w3.heap.size w3 W') w3.drew := ⟨C1.out, (Below.refl _ _).drew⟩
  refine hold_take 0 _ rfl (by kernel_rfl) (by kernel_rfl) (by kernel_rfl) (by kernel_rfl) (by kernel_rfl) (fun _ _ _ h => h) (by rfl) (fun _ => rfl) HS0 (fun w' hS => by obtain ⟨⟨q0, q1, q2, q3, q4, q5, q6, q7, q8⟩, hbel⟩ := hS; go_simp; rfl) ?_
  simp only [Act.put, List.setIfInBounds_toArray, List.set_cons_zero, List.set_cons_succ]
  refine hold_take 1 _ rfl (by kernel_rfl) (by kernel_rfl) (by kernel_rfl) (by kernel_rfl) (by kernel_rfl) (fun _ _ _ h => h) (by rfl) (fun _ => rfl) HS0 (fun w' hS => by obtain ⟨⟨q0, q1, q2, q3, q4, q5, q6, q7, q8⟩, hbel⟩ := hS; go_simp; rfl) ?_
  simp only [Act.put, List.setIfInBounds_toArray, List.set_cons_zero, List.set_cons_succ]
  refine hold_take 3 _ rfl (by kernel_rfl) (by kernel_rfl) (by kernel_rfl) (by kernel_rfl) (by kernel_rfl) (fun _ _ _ h => h) (by rfl) (fun _ => rfl) HS0 (fun w' hS => by obtain ⟨⟨q0, q1, q2, q3, q4, q5, q6, q7, q8⟩, hbel⟩ := hS; go_simp; rfl) ?_
  simp only [Act.put, List.setIfInBounds_toArray, List.set_cons_zero, List.set_cons_succ]
  refine hold_take 4 _ rfl (by kernel_rfl) (by kernel_rfl) (by kernel_rfl) (by kernel_rfl) (by kernel_rfl) (fun _ _ _ h => h) (by rfl) (fun _ => rfl) HS0 (fun w' hS => by obtain ⟨⟨q0, q1, q2, q3, q4, q5, q6, q7, q8⟩, hbel⟩ := hS; go_simp; rfl) ?_
  simp only [Act.put, List.setIfInBounds_toArray, List.set_cons_zero, List.set_cons_succ]
  refine hold_take 5 _ rfl (by kernel_rfl) (by kernel_rfl) (by kernel_rfl) (by kernel_rfl) (by kernel_rfl) (fun _ _ _ h => h) (by rfl) (fun _ => rfl) HS0 (fun w' hS => by obtain ⟨⟨q0, q1, q2, q3, q4, q5, q6, q7, q8⟩, hbel⟩ := hS; go_simp; rfl) ?_
  simp only [Act.put, List.setIfInBounds_toArray, List.set_cons_zero, List.set_cons_succ]
  refine hold_take 8 _ rfl (by kernel_rfl) (by kernel_rfl) (by kernel_rfl) (by kernel_rfl) (by kernel_rfl) (fun _ _ _ h => h) (by rfl) (fun _ => rfl) HS0 (fun w' hS => by obtain ⟨⟨q0, q1, q2, q3, q4, q5, q6, q7, q8⟩, hbel⟩ := hS; go_simp; rfl) ?_
  simp only [Act.put, List.setIfInBounds_toArray, List.set_cons_zero, List.set_cons_succ]
  refine hold_take 9 _ rfl (by kernel_rfl) (by kernel_rfl) (by kernel_rfl) (by kernel_rfl) (by kernel_rfl) (fun _ _ _ h => h) (by rfl) (fun _ => rfl) HS0 (fun w' hS => by obtain ⟨⟨q0, q1, q2, q3, q4, q5, q6, q7, q8⟩, hbel⟩ := hS; go_simp; rfl) ?_
  simp only [Act.put, List.setIfInBounds_toArray, List.set_cons_zero, List.set_cons_succ]
  refine hold_take 10 _ rfl (by kernel_rfl) (by kernel_rfl) (by kernel_rfl) (by kernel_rfl) (by kernel_rfl) (fun _ _ _ h => h) (by rfl) (fun _ => rfl) HS0 (fun w' hS => by obtain ⟨⟨q0, q1, q2, q3, q4, q5, q6, q7, q8⟩, hbel⟩ := hS; go_simp; rfl) ?_
  simp only [Act.put, List.setIfInBounds_toArray, List.set_cons_zero, List.set_cons_succ]
  refine hold_take 11 _ rfl (by kernel_rfl) (by kernel_rfl) (by kernel_rfl) (by kernel_rfl) (by kernel_rfl) (fun _ _ _ h => h) (by rfl) (fun _ => rfl) HS0 (fun w' hS => by obtain ⟨⟨q0, q1, q2, q3, q4, q5, q6, q7, q8⟩, hbel⟩ := hS; go_simp; rfl) ?_
  simp only [Act.put, List.setIfInBounds_toArray, List.set_cons_zero, List.set_cons_succ]
  refine hold_take 12 _ rfl (by kernel_rfl) (by kernel_rfl) (by kernel_rfl) (by kernel_rfl) (by kernel_rfl) (fun _ _ _ h => h) (by rfl) (fun _ => rfl) HS0 (fun w' hS => by obtain ⟨⟨q0, q1, q2, q3, q4, q5, q6, q7, q8⟩, hbel⟩ := hS; go_simp; rfl) ?_
  simp only [Act.put, List.setIfInBounds_toArray, List.set_cons_zero, List.set_cons_succ]
  refine hold_take 15 _ rfl (by kernel_rfl) (by kernel_rfl) (by kernel_rfl) (by kernel_rfl) (by kernel_rfl) (fun _ _ _ h => h) (by rfl) (fun _ => rfl) HS0 (fun w' hS => by obtain ⟨⟨q0, q1, q2, q3, q4, q5, q6, q7, q8⟩, hbel⟩ := hS; go_simp; rfl) ?_
  simp only [Act.put, List.setIfInBounds_toArray, List.set_cons_zero, List.set_cons_succ]
  refine hold_take 16 _ rfl (by kernel_rfl) (by kernel_rfl) (by kernel_rfl) (by kernel_rfl) (by kernel_rfl) (fun _ _ _ h => h) (by rfl) (fun _ => rfl) HS0 (fun w' hS => by obtain ⟨⟨q0, q1, q2, q3, q4, q5, q6, q7, q8⟩, hbel⟩ := hS; go_simp; rfl) ?_
  simp only [Act.put, List.setIfInBounds_toArray, List.set_cons_zero, List.set_cons_succ]
  refine hold_take 17 _ rfl (by kernel_rfl) (by kernel_rfl) (by kernel_rfl) (by kernel_rfl) (by kernel_rfl) (fun _ _ _ h => h) (by rfl) (fun _ => rfl) HS0 (fun w' hS => by obtain ⟨⟨q0, q1, q2, q3, q4, q5, q6, q7, q8⟩, hbel⟩ := hS; go_simp; rfl) ?_
  simp only [Act.put, List.setIfInBounds_toArray, List.set_cons_zero, List.set_cons_succ]
  refine hold_take 18 _ rfl (by kernel_rfl) (by kernel_rfl) (by kernel_rfl) (by kernel_rfl) (by kernel_rfl) (fun _ _ _ h => h) (by rfl) (fun _ => rfl) HS0 (fun w' hS => by obtain ⟨⟨q0, q1, q2, q3, q4, q5, q6, q7, q8⟩, hbel⟩ := hS; go_simp; rfl) ?_
  simp only [Act.put, List.setIfInBounds_toArray, List.set_cons_zero, List.set_cons_succ]
  refine hold_take 19 _ rfl (by kernel_rfl) (by kernel_rfl) (by kernel_rfl) (by kernel_rfl) (by kernel_rfl) (fun _ _ _ h => h) (by rfl) (fun _ => rfl) HS0 (fun w' hS => by obtain ⟨⟨q0, q1, q2, q3, q4, q5, q6, q7, q8⟩, hbel⟩ := hS; go_simp; rfl) ?_
  simp only [Act.put, List.setIfInBounds_toArray, List.set_cons_zero, List.set_cons_succ]
  refine hold_take 20 _ rfl (by kernel_rfl) (by kernel_rfl) (by kernel_rfl) (by kernel_rfl) (by kernel_rfl) (fun _ _ _ h => h) (by rfl) (fun _ => rfl) HS0 (fun w' hS => by obtain ⟨⟨q0, q1, q2, q3, q4, q5, q6, q7, q8⟩, hbel⟩ := hS; go_simp; rfl) ?_
  simp only [Act.put, List.setIfInBounds_toArray, List.set_cons_zero, List.set_cons_succ]
  refine hold_take 21 _ rfl (by kernel_rfl) (by kernel_rfl) (by kernel_rfl) (by kernel_rfl) (by kernel_rfl) (fun _ _ _ h => h) (by rfl) (fun _ => rfl) HS0 (fun w' hS => by obtain ⟨⟨q0, q1, q2, q3, q4, q5, q6, q7, q8⟩, hbel⟩ := hS; go_simp; rfl) ?_
  simp only [Act.put, List.setIfInBounds_toArray, List.set_cons_zero, List.set_cons_succ]
  refine hold_take 22 _ rfl (by kernel_rfl) (by kernel_rfl) (by kernel_rfl) (by kernel_rfl) (by kernel_rfl) (fun _ _ _ h => h) (by rfl) (fun _ => rfl) HS0 (fun w' hS => by obtain ⟨⟨q0, q1, q2, q3, q4, q5, q6, q7, q8⟩, hbel⟩ := hS; go_simp; rfl) ?_
  simp only [Act.put, List.setIfInBounds_toArray, List.set_cons_zero, List.set_cons_succ]
  refine hold_take 23 _ rfl (by kernel_rfl) (by kernel_rfl) (by kernel_rfl) (by kernel_rfl) (by kernel_rfl) (fun _ _ _ h => h) (by rfl) (fun _ => rfl) HS0 (fun w' hS => by obtain ⟨⟨q0, q1, q2, q3, q4, q5, q6, q7, q8⟩, hbel⟩ := hS; go_simp; rfl) ?_
  simp only [Act.put, List.setIfInBounds_toArray, List.set_cons_zero, List.set_cons_succ]
  refine hold_take 24 _ rfl (by kernel_rfl) (by kernel_rfl) (by kernel_rfl) (by kernel_rfl) (by kernel_rfl) (fun _ _ _ h => h) (by rfl) (fun _ => rfl) HS0 (fun w' hS => by obtain ⟨⟨q0, q1, q2, q3, q4, q5, q6, q7, q8⟩, hbel⟩ := hS; go_simp; rfl) ?_
  simp only [Act.put, List.setIfInBounds_toArray, List.set_cons_zero, List.set_cons_succ]
  refine net_law (k := 4) [(2, 22), (6, 26), (7, 27), (13, 33), (14, 34), (25, 45), (26, 46)] (VR r w3.heap.size) (fun a b => Below a.heap.size a b) _
    #[true, true, true, true, true, true, true, true, true, true, true, true, true, true, true, true, true, true, true, true, true, true, true, true, true, true, true, false, false, false, false] _ _ (by kernel_rfl) HS0 VR.stable ?_ ?_
  · intro x hx o ho u W hSW hd
    have hsW := hSW.2.size
    have keep : ∀ W', Below W.heap.size W W' → (fun W' : World => (World.cell? W' ⟨w.heap.size, 0, none⟩ = some (.int .i64 r.ctl) ∧ World.cell? W' ⟨w.heap.size, 1, none⟩ = some (.int .i64 r.vs) ∧ World.cell? W' ⟨w.heap.size, 2, none⟩ = some (.int .i64 r.vr) ∧ World.cell? W' ⟨w.heap.size, 3, none⟩ = some (.bool r.rsp) ∧ World.cell? W' ⟨w.heap.size, 4, none⟩ = some (.bool r.w) ∧ World.cell? W' ⟨w.heap.size, 5, none⟩ = some (.bool r.x) ∧ World.cell? W' ⟨w.heap.size, 6, none⟩ = some (.bool r.y) ∧ World.cell? W' ⟨w.heap.size, 7, none⟩ = some (.bool r.z) ∧ World.cell? W' ⟨w.heap.size, 8, none⟩ = some (.bool r.v)) ∧ Below w3.heap.size w3 W') W' := fun W' hb => ⟨reason_below hSW.1 hb (by omega), hSW.2.trans (hb.mono hsW)⟩
    simp only [List.mem_cons, List.not_mem_nil, or_false] at hx
    rcases hx with rfl | rfl | rfl | rfl | rfl | rfl | rfl
    · obtain rfl := op_of ho rfl
      simp only [upd, List.foldl_cons, List.foldl_nil, List.setIfInBounds_toArray, List.set_cons_zero, List.set_cons_succ]
      go_simp
      refine ⟨trivial, rfl, (callsIn_wide.2 (put_yes r.ctl 2 W (by decide) (by decide) HOK.out.1.1 (by have := HOK.out.1.2; simp; omega))).mono ?_⟩
      rw [low_ctl HOK.out.1.1 HOK.out.1.2]
      rintro e w' ⟨A, c, rfl, ho2, hb⟩
      exact ⟨keep _ hb, ⟨A, c, rfl, ho2.mono hsW⟩, hb⟩
    · obtain rfl := op_of ho rfl
      simp only [upd, List.foldl_cons, List.foldl_nil, List.setIfInBounds_toArray, List.set_cons_zero, List.set_cons_succ]
      go_simp
      have hb := (Below.refl W.heap.size W).alloc (Nat.le_refl _) (.cells #[.bool false] 4)
      exact ⟨keep _ hb, ⟨_, rfl, by simp, FlagsAt.made W [false] _ _ rfl⟩, hb⟩
    · obtain rfl := op_of ho rfl
      simp only [upd, List.foldl_cons, List.foldl_nil, List.setIfInBounds_toArray, List.set_cons_zero, List.set_cons_succ]
      obtain ⟨g, hg, hgl, hf⟩ : VR r w3.heap.size 6 (u 26) W := hd (6, 26) (by simp) (by kernel_rfl)
      rw [hg]
      go_simp
      refine ⟨trivial, rfl, (callsIn_wide.2 (fold_one r.vs g false W ⟨HOK.out.2.1.1, HOK.out.2.1.2⟩ (hf 0 false rfl))).mono ?_⟩
      rintro e w' ⟨rfl, rfl⟩
      exact ⟨hSW, by show Value.int IntKind.u8 (2 * r.vs + fl false) = _; simp [fl], Below.refl _ _⟩
    · obtain rfl := op_of ho rfl
      simp only [upd, List.foldl_cons, List.foldl_nil, List.setIfInBounds_toArray, List.set_cons_zero, List.set_cons_succ]
      go_simp
      have hb := (Below.refl W.heap.size W).alloc (Nat.le_refl _) (.cells #[.bool r.rsp] 4)
      exact ⟨keep _ hb, ⟨_, rfl, by simp, FlagsAt.made W [r.rsp] _ _ rfl⟩, hb⟩
    · obtain rfl := op_of ho rfl
      simp only [upd, List.foldl_cons, List.foldl_nil, List.setIfInBounds_toArray, List.set_cons_zero, List.set_cons_succ]
      obtain ⟨g, hg, hgl, hf⟩ : VR r w3.heap.size 13 (u 33) W := hd (13, 33) (by simp) (by kernel_rfl)
      rw [hg]
      go_simp
      refine ⟨trivial, rfl, (callsIn_wide.2 (fold_one r.vr g r.rsp W ⟨HOK.out.2.2.1, HOK.out.2.2.2⟩ (hf 0 r.rsp rfl))).mono ?_⟩
      rintro e w' ⟨rfl, rfl⟩
      exact ⟨hSW, rfl, Below.refl _ _⟩
    · obtain rfl := op_of ho rfl
      simp only [upd, List.foldl_cons, List.foldl_nil, List.setIfInBounds_toArray, List.set_cons_zero, List.set_cons_succ]
      go_simp
      have hb := (Below.refl W.heap.size W).alloc (Nat.le_refl _) (.cells #[.bool r.w, .bool r.x, .bool r.y, .bool r.z, .bool r.v] 4)
      exact ⟨keep _ hb, ⟨_, rfl, by simp, FlagsAt.made W [r.w, r.x, r.y, r.z, r.v] _ _ rfl⟩, hb⟩
    · obtain rfl := op_of ho rfl
      simp only [upd, List.foldl_cons, List.foldl_nil, List.setIfInBounds_toArray, List.set_cons_zero, List.set_cons_succ]
      obtain ⟨g, hg, hgl, hf⟩ : VR r w3.heap.size 25 (u 45) W := hd (25, 45) (by simp) (by kernel_rfl)
      rw [hg]
      go_simp
      refine ⟨trivial, rfl, (callsIn_wide.2 (fold_any 0 ⟨g, 0, none⟩ [r.w, r.x, r.y, r.z, r.v] 5 W (by decide) rfl (by decide) hf)).mono ?_⟩
      rintro e w' ⟨rfl, rfl⟩
      exact ⟨hSW, by rw [foldF_five]; rfl, Below.refl _ _⟩
  · intro u W hSW hV
    obtain ⟨A2, c2, e22, ho2⟩ : VR r w3.heap.size 2 (u 22) W := hV (2, 22) (by simp)
    have e27 : u 27 = .int .u8 (2 * r.vs) := hV (7, 27) (by simp)
    have e34 : u 34 = .int .u8 (2 * r.vr + fl r.rsp) := hV (14, 34) (by simp)
    have e46 : u 46 = .int .u8 (bitsR r) := hV (26, 46) (by simp)
    obtain ⟨hS1, hS2⟩ := hSW
    have HC := cover hS1
    have HB := cover hS2
    have HO := cover ho2
    clear hV hS1 hS2 ho2
    simp only [upd, List.foldl_cons, List.foldl_nil, List.setIfInBounds_toArray, List.set_cons_zero, List.set_cons_succ]
    rw [e22, e27, e34, e46]
    clear e22 e27 e34 e46
    obtain ⟨W2, hW2⟩ : ∃ W2, Hid (W2 = W.alloc (.cells #[.int .u8 (2 * r.vs), .int .u8 (2 * r.vr + fl r.rsp), .int .u8 (bitsR r)] 5)) := ⟨_, cover rfl⟩
    have hb2 : Below W.heap.size W W2 := by rw [hW2.out]; exact (Below.refl _ _).alloc (Nat.le_refl _) _
    have hsW := HB.out.size
    have hs2 : W2.heap.size = W.heap.size + 1 := by rw [hW2.out]; simp
    have HR2 : Hid (Row W2 (W.heap.size + 1) (some ⟨W.heap.size, 0, none⟩) 3 [2 * r.vs, 2 * r.vr + fl r.rsp, bitsR r]) := cover (by rw [hW2.out]; exact RowK.made W [2 * r.vs, 2 * r.vr + fl r.rsp, bitsR r] _ _ rfl)
    have HO2 := cover (ownB_below HO.out hb2)
    have HS2 : (fun W' : World => (World.cell? W' ⟨w.heap.size, 0, none⟩ = some (.int .i64 r.ctl) ∧ World.cell? W' ⟨w.heap.size, 1, none⟩ = some (.int .i64 r.vs) ∧ World.cell? W' ⟨w.heap.size, 2, none⟩ = some (.int .i64 r.vr) ∧ World.cell? W' ⟨w.heap.size, 3, none⟩ = some (.bool r.rsp) ∧ World.cell? W' ⟨w.heap.size, 4, none⟩ = some (.bool r.w) ∧ World.cell? W' ⟨w.heap.size, 5, none⟩ = some (.bool r.x) ∧ World.cell? W' ⟨w.heap.size, 6, none⟩ = some (.bool r.y) ∧ World.cell? W' ⟨w.heap.size, 7, none⟩ = some (.bool r.z) ∧ World.cell? W' ⟨w.heap.size, 8, none⟩ = some (.bool r.v)) ∧ Below w3.heap.size w3 W') W2 := ⟨reason_below HC.out hb2 (by omega), HB.out.trans (hb2.mono hsW)⟩
    refine hold_one 27 (by kernel_rfl) rfl (by rfl) fun K27 hK27 => ?_
    refine run_in (fun c h => by cases h) (fun _ _ => trivial) (v := .slice (some ⟨W.heap.size, 0, none⟩) 3 3) (w' := W2) (by rw [hW2.out]; go_simp) ?_
    refine hK27 _ _ (.inr HS2) ?_
    clear hK27 K27
    simp only [Act.put, List.setIfInBounds_toArray, List.set_cons_zero, List.set_cons_succ]
    obtain ⟨v3, w4, hr3, ho4, hg4⟩ := append_b HO2.out ⟨W.heap.size, 0, none⟩ 3 3 (W.heap.size + 1) [2 * r.vs, 2 * r.vr + fl r.rsp, bitsR r] HR2.out (by omega) (by simp) 23
    have HB4 := cover (below_grown (HS2.2) (by omega) HO2.out hg4)
    have HO4 := cover ho4
    have HS4 : (fun W' : World => (World.cell? W' ⟨w.heap.size, 0, none⟩ = some (.int .i64 r.ctl) ∧ World.cell? W' ⟨w.heap.size, 1, none⟩ = some (.int .i64 r.vs) ∧ World.cell? W' ⟨w.heap.size, 2, none⟩ = some (.int .i64 r.vr) ∧ World.cell? W' ⟨w.heap.size, 3, none⟩ = some (.bool r.rsp) ∧ World.cell? W' ⟨w.heap.size, 4, none⟩ = some (.bool r.w) ∧ World.cell? W' ⟨w.heap.size, 5, none⟩ = some (.bool r.x) ∧ World.cell? W' ⟨w.heap.size, 6, none⟩ = some (.bool r.y) ∧ World.cell? W' ⟨w.heap.size, 7, none⟩ = some (.bool r.z) ∧ World.cell? W' ⟨w.heap.size, 8, none⟩ = some (.bool r.v)) ∧ Below w3.heap.size w3 W') w4 := ⟨reason_below C1.out HB4.out hs1, HB4.out⟩
    clear ho4 hg4
    refine hold_one 28 (by kernel_rfl) rfl (by rfl) fun K28 hK28 => ?_
    refine run_in (fun c h => by cases h) (fun _ _ => trivial) (v := v3) (w' := w4) (appends_exec _ _ _ _ rfl (.slice A2 2 c2) (.slice (some ⟨W.heap.size, 0, none⟩) 3 3) (by go_simp) (by go_simp) hr3) ?_
    refine hK28 _ _ (.inr HS4) ?_
    clear hK28 K28 hr3
    simp only [Act.put, List.setIfInBounds_toArray, List.set_cons_zero, List.set_cons_succ]
    refine hold_one 29 (by kernel_rfl) rfl (by rfl) fun K29 hK29 => ?_
    go_simp
    refine hK29 _ _ (.inr HS4) ?_
    clear hK29 K29
    refine hold_one 30 (by kernel_rfl) rfl (by rfl) fun K30 hK30 => ?_
    go_simp
    refine hK30 _ _ (.inr HS4) (held_done (by kernel_rfl) ?_ _)
    clear hK30 K30
    obtain ⟨A4, c4, e4, _⟩ := own_shape HO4.out
    subst e4
    go_wp2
    go_ret2
    exact ⟨A4, c4, by rw [HE.out]; rfl, by rw [HE.out]; exact HO4.out.mono (by omega), H1.out.trans (HB4.out.mono (by omega))⟩

set_option maxHeartbeats 1600000 in
theorem putReason_any (r : RsV) (w : World) :
    Calls Try.prog 14 #[.agg #[.int .i64 r.ctl, .int .i64 r.vs, .int .i64 r.vr, .bool r.rsp, .bool r.w, .bool r.x, .bool r.y, .bool r.z, .bool r.v]] w (GivesE (putRs r) w) := by
  by_cases hok : OkR r
  case pos => exact putReason_yes r w hok
  have HE : Hid (putRs r = ([], 1)) := cover (by unfold putRs; rw [if_neg hok])
  obtain ⟨w1, hw1⟩ : ∃ w1, Hid (w1 = w.alloc (.cells #[.int .i64 r.ctl, .int .i64 r.vs, .int .i64 r.vr, .bool r.rsp, .bool r.w, .bool r.x, .bool r.y, .bool r.z, .bool r.v] 30)) := ⟨_, cover rfl⟩
  have H1 : Hid (Below w.heap.size w w1) := cover (by rw [hw1.out]; exact (Below.refl _ _).alloc (Nat.le_refl _) _)
  have hgp : w1.heap[w.heap.size]? = some (.cells #[.int .i64 r.ctl, .int .i64 r.vs, .int .i64 r.vr, .bool r.rsp, .bool r.w, .bool r.x, .bool r.y, .bool r.z, .bool r.v] 30 (0, 0)) := by rw [hw1.out]; exact heap_alloc_new _ _
  obtain ⟨c0, c1, c2, _⟩ := reason_cells hgp
  clear hgp
  by_cases d0 : 0 ≤ r.ctl ∧ r.ctl ≤ 65535
  case neg =>
    have D0 := cover (decide_eq_false d0)
    clear d0 hok
    go_enter Try.func14, Try.ntmps14
    go_upto_region 1 with fail
    rw [← hw1.out]
    go_wp2_with (go_at_call 28; refine (fits_any r.ctl 65535 w1).mono ?_; rw [D0.out]; rintro e w' ⟨rfl, rfl⟩)
    go_ret2
    exact GivesE.no HE.out H1.out
  have D0 := cover (decide_eq_true d0)
  by_cases d1 : 0 ≤ r.vs ∧ r.vs ≤ 127
  case neg =>
    have D1 := cover (decide_eq_false d1)
    clear d0 d1 hok
    go_enter Try.func14, Try.ntmps14
    go_upto_region 1 with fail
    rw [← hw1.out]
    go_wp2_with (go_at_call 28; first | (refine (fits_any r.ctl 65535 w1).mono ?_; rw [D0.out]; rintro e w' ⟨rfl, rfl⟩) | (refine (fits_any r.vs 127 w').mono ?_; rw [D1.out]; rintro e w2 ⟨rfl, rfl⟩))
    go_ret2
    exact GivesE.no HE.out H1.out
  have D1 := cover (decide_eq_true d1)
  have D2 := cover (decide_eq_false (fun d2 : 0 ≤ r.vr ∧ r.vr ≤ 127 => hok ⟨d0, d1, d2⟩))
  clear d0 d1 hok
  go_enter Try.func14, Try.ntmps14
  go_upto_region 1 with fail
  rw [← hw1.out]
  go_wp2_with (go_at_call 28; first | (refine (fits_any r.ctl 65535 w1).mono ?_; rw [D0.out]; rintro e w' ⟨rfl, rfl⟩) | (refine (fits_any r.vs 127 w').mono ?_; rw [D1.out]; rintro e w2 ⟨rfl, rfl⟩) | (refine (fits_any r.vr 127 w2).mono ?_; rw [D2.out]; rintro e w3 ⟨rfl, rfl⟩))
  go_ret2
  exact GivesE.no HE.out H1.out
end Go.Proofs.Ytkidacfodpoapaa
