/- What the document's own PutReason hands back. -/
import Derived.Test.YtkidacfodpoapaaGPReas
namespace Go.Proofs.Ytkidacfodpoapaa
open Go.RowKit
set_option linter.unusedVariables false
set_option linter.unusedSimpArgs false

set_option maxHeartbeats 3200000 in
theorem ref_putReason_any (r : RsV) (w : World) :
    Calls Try.prog 16 #[.agg #[.int .i64 r.ctl, .int .i64 r.vs, .int .i64 r.vr, .bool r.rsp, .bool r.w, .bool r.x, .bool r.y, .bool r.z, .bool r.v]] w (GivesE (putRs r) w) := by
  obtain ⟨w1, hw1⟩ : ∃ w1, Hid (w1 = w.alloc (.cells #[.int .i64 r.ctl, .int .i64 r.vs, .int .i64 r.vr, .bool r.rsp, .bool r.w, .bool r.x, .bool r.y, .bool r.z, .bool r.v] 39)) := ⟨_, cover rfl⟩
  have H1 : Hid (Below w.heap.size w w1) := cover (by rw [hw1.out]; exact (Below.refl _ _).alloc (Nat.le_refl _) _)
  have hgp : w1.heap[w.heap.size]? = some (.cells #[.int .i64 r.ctl, .int .i64 r.vs, .int .i64 r.vr, .bool r.rsp, .bool r.w, .bool r.x, .bool r.y, .bool r.z, .bool r.v] 39 (0, 0)) := by rw [hw1.out]; exact heap_alloc_new _ _
  have hs1 : w.heap.size < w1.heap.size := block_lt hgp
  have C1 := cover (reason_cells hgp)
  clear hgp
  by_cases hok : OkR r
  case neg =>
    have HE : Hid (putRs r = ([], 1)) := cover (by unfold putRs; rw [if_neg hok])
    have hno : r.ctl < 0 ∨ (0 ≤ r.ctl ∧ 65535 < r.ctl) ∨ ((0 ≤ r.ctl ∧ r.ctl ≤ 65535) ∧ r.vs < 0) ∨ ((0 ≤ r.ctl ∧ r.ctl ≤ 65535) ∧ 0 ≤ r.vs ∧ 127 < r.vs) ∨ ((0 ≤ r.ctl ∧ r.ctl ≤ 65535) ∧ (0 ≤ r.vs ∧ r.vs ≤ 127) ∧ r.vr < 0) ∨ ((0 ≤ r.ctl ∧ r.ctl ≤ 65535) ∧ (0 ≤ r.vs ∧ r.vs ≤ 127) ∧ 0 ≤ r.vr ∧ 127 < r.vr) := by
      unfold OkR at hok; omega
    clear hok
    obtain ⟨c0, c1, c2, _⟩ := C1.out
    rcases hno with h | ⟨h, h'⟩ | ⟨⟨h, h'⟩, h3⟩ | ⟨⟨h, h'⟩, h3, h4⟩ | ⟨⟨h, h'⟩, ⟨h3, h4⟩, h5⟩ | ⟨⟨h, h'⟩, ⟨h3, h4⟩, h5, h6⟩
    all_goals
      go_enter Try.func16, Try.ntmps16
      go_upto_region 1 with fail
      rw [← hw1.out]
      go_wp2
      go_ret2
      exact GivesE.no HE.out H1.out
  case pos =>
    have HE : Hid (putRs r = (encRs r, 0)) := cover (by unfold putRs; rw [if_pos hok])
    have HOK := cover hok
    obtain ⟨⟨a0, a1⟩, ⟨a2, a3⟩, ⟨a4, a5⟩⟩ := hok
    obtain ⟨c0, c1, c2, c3, c4, c5, c6, c7, c8⟩ := C1.out
    have f4 := fl_le r.w
    have f5 := fl_le r.x
    have f6 := fl_le r.y
    have f7 := fl_le r.z
    have f8 := fl_le r.v
    have HF : Hid (∀ b W, Below w1.heap.size w1 W → Calls Try.prog 38 #[.bool b] W fun e w' => e = .returned (.int .i64 (fl b)) ∧ Below w1.heap.size w1 w') :=
      cover (fun b W hb => (flag_any b W).mono fun e w' h => ⟨h.1, by rw [h.2]; exact hb⟩)
    go_enter Try.func16, Try.ntmps16
    go_upto_region 1 with fail
    rw [← hw1.out]
    go_upto_region 3 with fail
    go_region_held3 (fun W' : World => (World.cell? W' ⟨w.heap.size, 0, none⟩ = some (.int .i64 r.ctl) ∧ World.cell? W' ⟨w.heap.size, 1, none⟩ = some (.int .i64 r.vs) ∧ World.cell? W' ⟨w.heap.size, 2, none⟩ = some (.int .i64 r.vr) ∧ World.cell? W' ⟨w.heap.size, 3, none⟩ = some (.bool r.rsp) ∧ World.cell? W' ⟨w.heap.size, 4, none⟩ = some (.bool r.w) ∧ World.cell? W' ⟨w.heap.size, 5, none⟩ = some (.bool r.x) ∧ World.cell? W' ⟨w.heap.size, 6, none⟩ = some (.bool r.y) ∧ World.cell? W' ⟨w.heap.size, 7, none⟩ = some (.bool r.z) ∧ World.cell? W' ⟨w.heap.size, 8, none⟩ = some (.bool r.v)) ∧ Below w1.heap.size w1 W')
      (first | exact ⟨⟨c0, c1, c2, c3, c4, c5, c6, c7, c8⟩, (Below.refl _ _).drew⟩ | exact ⟨reason_below C1.out hbX hs1, hbX⟩)
      ((go_at_call 38; refine (HF.out _ _ ?_).mono ?_; (go_split_ands; assumption); rintro e w3 ⟨rfl, hbX⟩))
    have HSUM : Hid (IntKind.i64.wrap (IntKind.i64.wrap (IntKind.i64.wrap (IntKind.i64.wrap (fl r.w + IntKind.i64.wrap (2 * fl r.x)) + IntKind.i64.wrap (4 * fl r.y)) + IntKind.i64.wrap (8 * fl r.z)) + IntKind.i64.wrap (16 * fl r.v)) = bitsR r) := cover (by
      rw [w64 (x := 2 * fl r.x) ⟨by omega, by omega⟩, w64 (x := 4 * fl r.y) ⟨by omega, by omega⟩, w64 (x := 8 * fl r.z) ⟨by omega, by omega⟩, w64 (x := 16 * fl r.v) ⟨by omega, by omega⟩, w64 (x := fl r.w + 2 * fl r.x) ⟨by omega, by omega⟩, w64 (x := fl r.w + 2 * fl r.x + 4 * fl r.y) ⟨by omega, by omega⟩, w64 (x := fl r.w + 2 * fl r.x + 4 * fl r.y + 8 * fl r.z) ⟨by omega, by omega⟩, w64 ⟨by omega, by omega⟩]
      rfl)
    rw [HSUM.out]
    have HB3 := cover hbX
    have hs3 := hbX.size
    have C3 := cover (reason_below C1.out hbX hs1)
    have hbits : Hid (0 ≤ bitsR r ∧ bitsR r ≤ 31) := cover (bits_there r.w r.x r.y r.z r.v).1
    have f3 := fl_le r.rsp
    have v0 : IntKind.i64.wrap (2 * r.vs) = 2 * r.vs := w64 ⟨by omega, by omega⟩
    have v1 : IntKind.u8.wrap (2 * r.vs) = 2 * r.vs := w8 ⟨by omega, by omega⟩
    have v2 : IntKind.i64.wrap (2 * r.vr) = 2 * r.vr := w64 ⟨by omega, by omega⟩
    have v3 : IntKind.i64.wrap (2 * r.vr + fl r.rsp) = 2 * r.vr + fl r.rsp := w64 ⟨by omega, by omega⟩
    have v4 : IntKind.u8.wrap (2 * r.vr + fl r.rsp) = 2 * r.vr + fl r.rsp := w8 ⟨by omega, by omega⟩
    have v5 : IntKind.u8.wrap (bitsR r) = bitsR r := w8 ⟨hbits.out.1, by have := hbits.out.2; omega⟩
    clear hbX c0 c1 c2 c3 c4 c5 c6 c7 c8 HSUM f4 f5 f6 f7 f8
    go_upto_region 4 with fail
    have mixed : Try.prog.follows .mixedOrders = true := by kernel_rfl
    refine (wpIn_wide (n := 0)).1 ?_
    refine held_begin (fun W' : World => (World.cell? W' ⟨w.heap.size, 0, none⟩ = some (.int .i64 r.ctl) ∧ World.cell? W' ⟨w.heap.size, 1, none⟩ = some (.int .i64 r.vs) ∧ World.cell? W' ⟨w.heap.size, 2, none⟩ = some (.int .i64 r.vr) ∧ World.cell? W' ⟨w.heap.size, 3, none⟩ = some (.bool r.rsp) ∧ World.cell? W' ⟨w.heap.size, 4, none⟩ = some (.bool r.w) ∧ World.cell? W' ⟨w.heap.size, 5, none⟩ = some (.bool r.x) ∧ World.cell? W' ⟨w.heap.size, 6, none⟩ = some (.bool r.y) ∧ World.cell? W' ⟨w.heap.size, 7, none⟩ = some (.bool r.z) ∧ World.cell? W' ⟨w.heap.size, 8, none⟩ = some (.bool r.v)) ∧ Below w1.heap.size w1 W') 99 mixed ?_
    have HS0 : (fun W' : World => (World.cell? W' ⟨w.heap.size, 0, none⟩ = some (.int .i64 r.ctl) ∧ World.cell? W' ⟨w.heap.size, 1, none⟩ = some (.int .i64 r.vs) ∧ World.cell? W' ⟨w.heap.size, 2, none⟩ = some (.int .i64 r.vr) ∧ World.cell? W' ⟨w.heap.size, 3, none⟩ = some (.bool r.rsp) ∧ World.cell? W' ⟨w.heap.size, 4, none⟩ = some (.bool r.w) ∧ World.cell? W' ⟨w.heap.size, 5, none⟩ = some (.bool r.x) ∧ World.cell? W' ⟨w.heap.size, 6, none⟩ = some (.bool r.y) ∧ World.cell? W' ⟨w.heap.size, 7, none⟩ = some (.bool r.z) ∧ World.cell? W' ⟨w.heap.size, 8, none⟩ = some (.bool r.v)) ∧ Below w1.heap.size w1 W') w3.drew := ⟨C3.out, HB3.out.drew⟩
    refine hold_take 0 _ rfl (by kernel_rfl) (by kernel_rfl) (by kernel_rfl) (by kernel_rfl) (by kernel_rfl) (fun _ _ _ h => h) (by rfl) (fun _ => rfl) HS0 (fun w' hS => by obtain ⟨⟨q0, q1, q2, q3, q4, q5, q6, q7, q8⟩, hbel⟩ := hS; go_simp; rfl) ?_
    simp only [Act.put, List.setIfInBounds_toArray, List.set_cons_zero, List.set_cons_succ]
    refine hold_take 1 _ rfl (by kernel_rfl) (by kernel_rfl) (by kernel_rfl) (by kernel_rfl) (by kernel_rfl) (fun _ _ _ h => h) (by rfl) (fun _ => rfl) HS0 (fun w' hS => by obtain ⟨⟨q0, q1, q2, q3, q4, q5, q6, q7, q8⟩, hbel⟩ := hS; go_simp; rfl) ?_
    simp only [Act.put, List.setIfInBounds_toArray, List.set_cons_zero, List.set_cons_succ]
    refine hold_take 3 _ rfl (by kernel_rfl) (by kernel_rfl) (by kernel_rfl) (by kernel_rfl) (by kernel_rfl) (fun _ _ _ h => h) (by rfl) (fun _ => rfl) HS0 (fun w' hS => by obtain ⟨⟨q0, q1, q2, q3, q4, q5, q6, q7, q8⟩, hbel⟩ := hS; go_simp; rfl) ?_
    simp only [Act.put, List.setIfInBounds_toArray, List.set_cons_zero, List.set_cons_succ]
    refine hold_take 4 _ rfl (by kernel_rfl) (by kernel_rfl) (by kernel_rfl) (by kernel_rfl) (by kernel_rfl) (fun _ _ _ h => h) (by rfl) (fun _ => rfl) HS0 (fun w' hS => by obtain ⟨⟨q0, q1, q2, q3, q4, q5, q6, q7, q8⟩, hbel⟩ := hS; go_simp; rfl) ?_
    simp only [Act.put, List.setIfInBounds_toArray, List.set_cons_zero, List.set_cons_succ]
    refine hold_take 5 _ rfl (by kernel_rfl) (by kernel_rfl) (by kernel_rfl) (by kernel_rfl) (by kernel_rfl) (fun _ _ _ h => h) (by rfl) (fun _ => rfl) HS0 (fun w' hS => by obtain ⟨⟨q0, q1, q2, q3, q4, q5, q6, q7, q8⟩, hbel⟩ := hS; go_simp; rfl) ?_
    simp only [Act.put, List.setIfInBounds_toArray, List.set_cons_zero, List.set_cons_succ]
    refine hold_take 6 _ rfl (by kernel_rfl) (by kernel_rfl) (by kernel_rfl) (by kernel_rfl) (by kernel_rfl) (fun _ _ _ h => h) (by rfl) (fun _ => rfl) HS0 (fun w' hS => by obtain ⟨⟨q0, q1, q2, q3, q4, q5, q6, q7, q8⟩, hbel⟩ := hS; go_simp; rfl) ?_
    simp only [Act.put, List.setIfInBounds_toArray, List.set_cons_zero, List.set_cons_succ]
    refine hold_take 7 _ rfl (by kernel_rfl) (by kernel_rfl) (by kernel_rfl) (by kernel_rfl) (by kernel_rfl) (fun _ _ _ h => h) (by rfl) (fun _ => rfl) HS0 (fun w' hS => by obtain ⟨⟨q0, q1, q2, q3, q4, q5, q6, q7, q8⟩, hbel⟩ := hS; go_simp; rfl) ?_
    simp only [Act.put, List.setIfInBounds_toArray, List.set_cons_zero, List.set_cons_succ]
    refine hold_take 8 _ rfl (by kernel_rfl) (by kernel_rfl) (by kernel_rfl) (by kernel_rfl) (by kernel_rfl) (fun _ _ _ h => h) (by rfl) (fun _ => rfl) HS0 (fun w' hS => by obtain ⟨⟨q0, q1, q2, q3, q4, q5, q6, q7, q8⟩, hbel⟩ := hS; go_simp; rfl) ?_
    simp only [Act.put, List.setIfInBounds_toArray, List.set_cons_zero, List.set_cons_succ]
    refine hold_take 9 _ rfl (by kernel_rfl) (by kernel_rfl) (by kernel_rfl) (by kernel_rfl) (by kernel_rfl) (fun _ _ _ h => h) (by rfl) (fun _ => rfl) HS0 (fun w' hS => by obtain ⟨⟨q0, q1, q2, q3, q4, q5, q6, q7, q8⟩, hbel⟩ := hS; go_simp; rfl) ?_
    simp only [Act.put, List.setIfInBounds_toArray, List.set_cons_zero, List.set_cons_succ]
    refine hold_take 10 _ rfl (by kernel_rfl) (by kernel_rfl) (by kernel_rfl) (by kernel_rfl) (by kernel_rfl) (fun _ _ _ h => h) (by rfl) (fun _ => rfl) HS0 (fun w' hS => by obtain ⟨⟨q0, q1, q2, q3, q4, q5, q6, q7, q8⟩, hbel⟩ := hS; go_simp; rfl) ?_
    simp only [Act.put, List.setIfInBounds_toArray, List.set_cons_zero, List.set_cons_succ]
    refine hold_take 11 _ rfl (by kernel_rfl) (by kernel_rfl) (by kernel_rfl) (by kernel_rfl) (by kernel_rfl) (fun _ _ _ h => h) (by rfl) (fun _ => rfl) HS0 (fun w' hS => by obtain ⟨⟨q0, q1, q2, q3, q4, q5, q6, q7, q8⟩, hbel⟩ := hS; go_simp; rfl) ?_
    simp only [Act.put, List.setIfInBounds_toArray, List.set_cons_zero, List.set_cons_succ]
    refine hold_take 15 _ rfl (by kernel_rfl) (by kernel_rfl) (by kernel_rfl) (by kernel_rfl) (by kernel_rfl) (fun _ _ _ h => h) (by rfl) (fun _ => rfl) HS0 (fun w' hS => by obtain ⟨⟨q0, q1, q2, q3, q4, q5, q6, q7, q8⟩, hbel⟩ := hS; go_simp; rfl) ?_
    simp only [Act.put, List.setIfInBounds_toArray, List.set_cons_zero, List.set_cons_succ]
    refine hold_take 16 _ rfl (by kernel_rfl) (by kernel_rfl) (by kernel_rfl) (by kernel_rfl) (by kernel_rfl) (fun _ _ _ h => h) (by rfl) (fun _ => rfl) HS0 (fun w' hS => by obtain ⟨⟨q0, q1, q2, q3, q4, q5, q6, q7, q8⟩, hbel⟩ := hS; go_simp; rfl) ?_
    simp only [Act.put, List.setIfInBounds_toArray, List.set_cons_zero, List.set_cons_succ]
    refine hold_one 2 (by kernel_rfl) rfl (by rfl) fun K2 hK2 => ?_
    go_simp
    refine ⟨trivial, rfl, (callsIn_wide.2 (ref_put_yes r.ctl 2 w3.drew (by decide) (by decide) HOK.out.1.1 (by have := HOK.out.1.2; simp; omega))).mono ?_⟩
    rw [low_ctl HOK.out.1.1 HOK.out.1.2]
    rintro e w5 ⟨A5, c5, rfl, ho5, hb5⟩
    have HB5 := cover (HB3.out.drew.trans (hb5.mono hs3))
    have HS5 : (fun W' : World => (World.cell? W' ⟨w.heap.size, 0, none⟩ = some (.int .i64 r.ctl) ∧ World.cell? W' ⟨w.heap.size, 1, none⟩ = some (.int .i64 r.vs) ∧ World.cell? W' ⟨w.heap.size, 2, none⟩ = some (.int .i64 r.vr) ∧ World.cell? W' ⟨w.heap.size, 3, none⟩ = some (.bool r.rsp) ∧ World.cell? W' ⟨w.heap.size, 4, none⟩ = some (.bool r.w) ∧ World.cell? W' ⟨w.heap.size, 5, none⟩ = some (.bool r.x) ∧ World.cell? W' ⟨w.heap.size, 6, none⟩ = some (.bool r.y) ∧ World.cell? W' ⟨w.heap.size, 7, none⟩ = some (.bool r.z) ∧ World.cell? W' ⟨w.heap.size, 8, none⟩ = some (.bool r.v)) ∧ Below w1.heap.size w1 W') w5 := ⟨reason_below C1.out HB5.out hs1, HB5.out⟩
    have HO5 := cover (ho5.mono (show w1.heap.size ≤ _ from hs3))
    refine hK2 _ _ (.inr HS5) ?_
    clear hK2 K2 ho5 hb5
    try simp only [Act.put, List.setIfInBounds_toArray, List.set_cons_zero, List.set_cons_succ]
    refine hold_one 12 (by kernel_rfl) rfl (by rfl) fun K12 hK12 => ?_
    go_simp
    refine ⟨trivial, rfl, (callsIn_wide.2 (flag_any r.rsp w5)).mono ?_⟩
    rintro e w' ⟨rfl, rfl⟩
    refine hK12 _ _ (.inr HS5) ?_
    clear hK12 K12
    try simp only [Act.put, List.setIfInBounds_toArray, List.set_cons_zero, List.set_cons_succ]
    refine hold_take 13 _ rfl (by kernel_rfl) (by kernel_rfl) (by kernel_rfl) (by kernel_rfl) (by kernel_rfl) (fun _ _ _ h => h) (by rfl) (fun _ => rfl) HS5 (fun w' hS => by obtain ⟨⟨q0, q1, q2, q3, q4, q5, q6, q7, q8⟩, hbel⟩ := hS; go_simp; rfl) ?_
    simp only [Act.put, List.setIfInBounds_toArray, List.set_cons_zero, List.set_cons_succ]
    refine hold_take 14 _ rfl (by kernel_rfl) (by kernel_rfl) (by kernel_rfl) (by kernel_rfl) (by kernel_rfl) (fun _ _ _ h => h) (by rfl) (fun _ => rfl) HS5 (fun w' hS => by obtain ⟨⟨q0, q1, q2, q3, q4, q5, q6, q7, q8⟩, hbel⟩ := hS; go_simp; rfl) ?_
    simp only [Act.put, List.setIfInBounds_toArray, List.set_cons_zero, List.set_cons_succ]
    obtain ⟨W2, hW2⟩ : ∃ W2, Hid (W2 = w'.alloc (.cells #[.int .u8 (2 * r.vs), .int .u8 (2 * r.vr + fl r.rsp), .int .u8 (bitsR r)] 5)) := ⟨_, cover rfl⟩
    have hb2 : Below w'.heap.size w' W2 := by rw [hW2.out]; exact (Below.refl _ _).alloc (Nat.le_refl _) _
    have hsW := HB5.out.size
    have hs2 : W2.heap.size = w'.heap.size + 1 := by rw [hW2.out]; simp
    have HR2 : Hid (Row W2 (w'.heap.size + 1) (some ⟨w'.heap.size, 0, none⟩) 3 [2 * r.vs, 2 * r.vr + fl r.rsp, bitsR r]) := cover (by rw [hW2.out]; exact RowK.made w' [2 * r.vs, 2 * r.vr + fl r.rsp, bitsR r] _ _ rfl)
    have HO2 := cover (ownB_below HO5.out hb2)
    have HS2 : (fun W' : World => (World.cell? W' ⟨w.heap.size, 0, none⟩ = some (.int .i64 r.ctl) ∧ World.cell? W' ⟨w.heap.size, 1, none⟩ = some (.int .i64 r.vs) ∧ World.cell? W' ⟨w.heap.size, 2, none⟩ = some (.int .i64 r.vr) ∧ World.cell? W' ⟨w.heap.size, 3, none⟩ = some (.bool r.rsp) ∧ World.cell? W' ⟨w.heap.size, 4, none⟩ = some (.bool r.w) ∧ World.cell? W' ⟨w.heap.size, 5, none⟩ = some (.bool r.x) ∧ World.cell? W' ⟨w.heap.size, 6, none⟩ = some (.bool r.y) ∧ World.cell? W' ⟨w.heap.size, 7, none⟩ = some (.bool r.z) ∧ World.cell? W' ⟨w.heap.size, 8, none⟩ = some (.bool r.v)) ∧ Below w1.heap.size w1 W') W2 := ⟨reason_below C1.out (HB5.out.trans (hb2.mono hsW)) hs1, HB5.out.trans (hb2.mono hsW)⟩
    refine hold_one 17 (by kernel_rfl) rfl (by rfl) fun K27 hK27 => ?_
    refine run_in (fun c h => by cases h) (fun _ _ => trivial) (v := .slice (some ⟨w'.heap.size, 0, none⟩) 3 3) (w' := W2) (by rw [hW2.out]; go_simp) ?_
    refine hK27 _ _ (.inr HS2) ?_
    clear hK27 K27
    try simp only [Act.put, List.setIfInBounds_toArray, List.set_cons_zero, List.set_cons_succ]
    obtain ⟨v3', w4, hr3, ho4, hg4⟩ := append_b HO2.out ⟨w'.heap.size, 0, none⟩ 3 3 (w'.heap.size + 1) [2 * r.vs, 2 * r.vr + fl r.rsp, bitsR r] HR2.out (by omega) (by simp) 23
    have HB4 := cover (below_grown (HS2.2) (by omega) HO2.out hg4)
    have HO4 := cover ho4
    have HS4 : (fun W' : World => (World.cell? W' ⟨w.heap.size, 0, none⟩ = some (.int .i64 r.ctl) ∧ World.cell? W' ⟨w.heap.size, 1, none⟩ = some (.int .i64 r.vs) ∧ World.cell? W' ⟨w.heap.size, 2, none⟩ = some (.int .i64 r.vr) ∧ World.cell? W' ⟨w.heap.size, 3, none⟩ = some (.bool r.rsp) ∧ World.cell? W' ⟨w.heap.size, 4, none⟩ = some (.bool r.w) ∧ World.cell? W' ⟨w.heap.size, 5, none⟩ = some (.bool r.x) ∧ World.cell? W' ⟨w.heap.size, 6, none⟩ = some (.bool r.y) ∧ World.cell? W' ⟨w.heap.size, 7, none⟩ = some (.bool r.z) ∧ World.cell? W' ⟨w.heap.size, 8, none⟩ = some (.bool r.v)) ∧ Below w1.heap.size w1 W') w4 := ⟨reason_below C1.out HB4.out hs1, HB4.out⟩
    clear ho4 hg4
    refine hold_one 18 (by kernel_rfl) rfl (by rfl) fun K28 hK28 => ?_
    refine run_in (fun c h => by cases h) (fun _ _ => trivial) (v := v3') (w' := w4) (appends_exec _ _ _ _ rfl (.slice A5 2 c5) (.slice (some ⟨w'.heap.size, 0, none⟩) 3 3) (by go_simp) (by go_simp) hr3) ?_
    refine hK28 _ _ (.inr HS4) ?_
    clear hK28 K28 hr3
    try simp only [Act.put, List.setIfInBounds_toArray, List.set_cons_zero, List.set_cons_succ]
    refine hold_one 19 (by kernel_rfl) rfl (by rfl) fun K29 hK29 => ?_
    go_simp
    refine hK29 _ _ (.inr HS4) ?_
    clear hK29 K29
    refine hold_one 20 (by kernel_rfl) rfl (by rfl) fun K30 hK30 => ?_
    go_simp
    refine hK30 _ _ (.inr HS4) (held_done (by kernel_rfl) ?_ _)
    clear hK30 K30
    obtain ⟨A4, c4, e4, _⟩ := own_shape HO4.out
    subst e4
    go_wp2
    go_ret2
    exact ⟨A4, c4, by rw [HE.out]; rfl, by rw [HE.out]; exact HO4.out.mono (by omega), H1.out.trans (HB4.out.mono (by omega))⟩
end Go.Proofs.Ytkidacfodpoapaa
