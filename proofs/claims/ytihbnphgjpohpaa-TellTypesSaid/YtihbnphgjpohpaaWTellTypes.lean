/- The walk of TellTypes. -/
import Derived.Test.YtihbnphgjpohpaaTAwake
import Derived.Test.YtihbnphgjpohpaaTREv
import Derived.Test.YtihbnphgjpohpaaFHeld
import Derived.Deep.CutBlock
import Derived.Deep.DeepCutAuto
namespace Go.Proofs.Ytihbnphgjpohpaa
open Go.RowKit
set_option linter.unusedVariables false
set_option linter.unusedSimpArgs false

/-- of type 1? of type 3? -/
def oneB (p : PV) : Bool := p.form == 2 && (p.kind == 0 || p.kind == 1 || p.kind == 2)
def threeB (p : PV) : Bool := p.form == 2 && (p.kind == 8 || p.kind == 9)
theorem types_are {p : PV} (h : MayP p) : (typeP p == 1) = oneB p ∧ (typeP p == 3) = threeB p ∧ (typeP p == 2) = (!oneB p && !threeB p) := by
  have hk := h.fits.2
  rw [typeP_yes h]
  unfold oneB threeB
  by_cases hf : p.form = 2
  · rw [if_neg (by omega), hf]
    by_cases h1 : p.kind = 0 ∨ p.kind = 1 ∨ p.kind = 2
    · rw [if_pos h1]
      rcases h1 with h1 | h1 | h1 <;> rw [h1] <;> decide
    · rw [if_neg h1]
      have b0 : (p.kind == 0) = false := beq_eq_false_iff_ne.2 (by omega)
      have b1 : (p.kind == 1) = false := beq_eq_false_iff_ne.2 (by omega)
      have b2 : (p.kind == 2) = false := beq_eq_false_iff_ne.2 (by omega)
      by_cases h8 : p.kind = 8 ∨ p.kind = 9
      · rw [if_pos h8, b0, b1, b2]
        rcases h8 with h8 | h8 <;> rw [h8] <;> decide
      · have b8 : (p.kind == 8) = false := beq_eq_false_iff_ne.2 (by omega)
        have b9 : (p.kind == 9) = false := beq_eq_false_iff_ne.2 (by omega)
        rw [if_neg h8, b0, b1, b2, b8, b9]; decide
  · have bf : (p.form == 2) = false := beq_eq_false_iff_ne.2 hf
    rw [if_pos hf, bf]; exact ⟨rfl, rfl, rfl⟩

set_option maxHeartbeats 1600000 in
set_option maxRecDepth 100000 in
theorem walk_TellTypes (p : PV) (A : Option Addr) (c : Nat) (w : World)
    (hlc : p.info.length ≤ c) (hcm : c ≤ maxLen) (hr : Row w w.heap.size A p.info.length p.info) (hb : Bts p.info) (hn : A = none → c = 0) :
    Calls Try.prog 7 #[.agg #[.int .i64 p.to, .int .i64 p.frm, .bool p.resp, .int .i64 p.form, .int .i64 p.kind, .int .i64 p.ns, .int .i64 p.nr, .bool p.poll, .slice A p.info.length c]] w fun e w' => e = .returned (.bool true) ∧ Below w.heap.size w w' := by
  clear hr hb hn
  obtain ⟨w1, hw1⟩ : ∃ w1, Hid (w1 = w.alloc (.cells #[.int .i64 p.to, .int .i64 p.frm, .bool p.resp, .int .i64 p.form, .int .i64 p.kind, .int .i64 p.ns, .int .i64 p.nr, .bool p.poll, .slice A p.info.length c] 26)) := ⟨_, cover rfl⟩
  have hs1 : w1.heap.size = w.heap.size + 1 := by rw [hw1.out]; simp
  have H1 : Hid (Below w.heap.size w w1) := cover (by rw [hw1.out]; exact (Below.refl _ _).alloc (Nat.le_refl _) _)
  have G1 : Hid (w1.heap[w.heap.size]? = some (.cells #[.int .i64 p.to, .int .i64 p.frm, .bool p.resp, .int .i64 p.form, .int .i64 p.kind, .int .i64 p.ns, .int .i64 p.nr, .bool p.poll, .slice A p.info.length c] 26 (0, 0))) := cover (by rw [hw1.out]; exact heap_alloc_new _ _)
  go_enter Try.func7, Try.ntmps7
  go_wp2_with fail
  rw [← hw1.out]
  refine (awake_any w1).mono ?_
  rintro e w2 ⟨rfl, hb2⟩
  have hs2 := hb2.size
  have H2 := cover (H1.out.trans (hb2.mono (by omega)))
  have G2 := cover ((hb2.block _ (by omega)).trans G1.out)
  clear hb2
  obtain ⟨p0, p1, p2, p3, p4, p5, p6, p7, p8⟩ := pdu_cells G2.out
  by_cases hL : 2000 < p.info.length
  · have hLi : (2000 : Int) < (p.info.length : Int) := by omega
    go_wp2
    go_ret
    exact ⟨rfl, H2.out⟩
  have hLi : ¬ (2000 : Int) < (p.info.length : Int) := by omega
  go_wp2_with fail
  refine (type_any p A c w2).mono ?_
  rintro e w3 ⟨rfl, hb3⟩
  have hs3 := hb3.size
  have H3 := cover (H2.out.trans (hb3.mono (by omega)))
  have G3 := cover ((hb3.block _ (by omega)).trans G2.out)
  clear hb3 p0 p1 p2 p3 p4 p5 p6 p7 p8
  obtain ⟨p0, p1, p2, p3, p4, p5, p6, p7, p8⟩ := pdu_cells G3.out
  go_upto_region 6 with fail
  go_cut [4] (fun v wx => v = .bool (oneB p) ∧ Hid (w3 = wx))
  case first =>
    rcases f2 : p.form == 2 with _ | _
    · have HO : Hid (oneB p = false) := cover (by unfold oneB; rw [f2]; rfl)
      go_wp2_with fail
      go_meet
      exact ⟨by rw [HO.out], cover rfl⟩
    · rcases k0 : p.kind == 0 with _ | _
      · rcases k1 : p.kind == 1 with _ | _
        · have HO : Hid (oneB p = (p.kind == 2)) := cover (by unfold oneB; rw [f2, k0, k1]; rfl)
          go_wp2_with fail
          go_meet
          exact ⟨by rw [HO.out], cover rfl⟩
        · have HO : Hid (oneB p = true) := cover (by unfold oneB; rw [f2, k0, k1]; rfl)
          go_wp2_with fail
          go_meet
          exact ⟨by rw [HO.out], cover rfl⟩
      · have HO : Hid (oneB p = true) := cover (by unfold oneB; rw [f2, k0]; rfl)
        go_wp2_with fail
        go_meet
        exact ⟨by rw [HO.out], cover rfl⟩
  case rest =>
  obtain ⟨rfl, hw⟩ := hcut
  obtain rfl := hw.out
  clear hw
  go_upto_region 7 with fail
  go_cut [5] (fun v wx => v = .bool (threeB p) ∧ Hid (w3 = wx))
  case first =>
    rcases f2 : p.form == 2 with _ | _
    · have HO : Hid (threeB p = false) := cover (by unfold threeB; rw [f2]; rfl)
      go_wp2_with fail
      go_meet
      exact ⟨by rw [HO.out], cover rfl⟩
    · rcases k0 : p.kind == 8 with _ | _
      · have HO : Hid (threeB p = (p.kind == 9)) := cover (by unfold threeB; rw [f2, k0]; rfl)
        go_wp2_with fail
        go_meet
        exact ⟨by rw [HO.out], cover rfl⟩
      · have HO : Hid (threeB p = true) := cover (by unfold threeB; rw [f2, k0]; rfl)
        go_wp2_with fail
        go_meet
        exact ⟨by rw [HO.out], cover rfl⟩
  case rest =>
  obtain ⟨rfl, hw⟩ := hcut
  obtain rfl := hw.out
  clear hw
  go_wp2_with fail
  refine (ref_may_any p A c w3).mono ?_
  rintro e w4 ⟨rfl, hb4⟩
  have hs4 := hb4.size
  have H4 := cover (H3.out.trans (hb4.mono (by omega)))
  have G4 := cover ((hb4.block _ (by omega)).trans G3.out)
  clear hb4 p0 p1 p2 p3 p4 p5 p6 p7 p8
  obtain ⟨p0, p1, p2, p3, p4, p5, p6, p7, p8⟩ := pdu_cells G4.out
  rcases hm : mayB p with _ | _
  · have HT : Hid (typeP p = 0) := cover (typeP_no (fun h => by rw [mayB_yes h] at hm; cases hm))
    clear hm
    rw [HT.out]
    go_wp2
    go_ret
    exact ⟨rfl, H4.out⟩
  obtain ⟨e1, e2, e3⟩ := types_are (mayB_iff.1 hm)
  clear hm
  obtain ⟨t, ht⟩ : ∃ t, Hid (typeP p = t) := ⟨_, cover rfl⟩
  rw [ht.out] at e1 e2 e3 ⊢
  have E1 := cover e1
  have E2 := cover e2
  have E3 := cover e3
  clear e1 e2 e3
  have CM := cover (fun W => asks_any p A c W)
  go_upto_region 10 with fail
  obtain ⟨o, ho⟩ : ∃ o, Hid (oneB p = o) := ⟨_, cover rfl⟩
  obtain ⟨th, hth⟩ : ∃ o, Hid (threeB p = o) := ⟨_, cover rfl⟩
  rw [ho.out] at E1 E3 ⊢
  rw [hth.out] at E2 E3 ⊢
  have e1 := E1.out
  have e2 := E2.out
  have e3 := E3.out
  clear E1 E2 E3 hLi hL
  obtain ⟨ak, hak⟩ : ∃ o, Hid (asksP p = o) := ⟨_, cover rfl⟩
  have hka : ak = (!p.resp && p.poll) := hak.out.symm
  simp only [hak.out] at CM
  rcases o with _ | _
  · rcases th with _ | _
    · rcases hp : p.poll with _ | _
      · obtain rfl : ak = false := by rw [hka, hp]; cases p.resp <;> rfl
        clear hka
        simp only [hp] at CM
        have mixed : Try.prog.follows .mixedOrders = true := by kernel_rfl
        refine (wpIn_wide (n := 0)).1 ?_
        refine held_begin (fun W' : World => (World.cell? W' ⟨w.heap.size, 0, none⟩ = some (.int .i64 p.to) ∧ World.cell? W' ⟨w.heap.size, 1, none⟩ = some (.int .i64 p.frm) ∧ World.cell? W' ⟨w.heap.size, 2, none⟩ = some (.bool p.resp) ∧ World.cell? W' ⟨w.heap.size, 3, none⟩ = some (.int .i64 p.form) ∧ World.cell? W' ⟨w.heap.size, 4, none⟩ = some (.int .i64 p.kind) ∧ World.cell? W' ⟨w.heap.size, 5, none⟩ = some (.int .i64 p.ns) ∧ World.cell? W' ⟨w.heap.size, 6, none⟩ = some (.int .i64 p.nr) ∧ World.cell? W' ⟨w.heap.size, 7, none⟩ = some (.bool p.poll) ∧ World.cell? W' ⟨w.heap.size, 8, none⟩ = some (.slice A p.info.length c))) 33 mixed ?_
        have HS : (fun W' : World => (World.cell? W' ⟨w.heap.size, 0, none⟩ = some (.int .i64 p.to) ∧ World.cell? W' ⟨w.heap.size, 1, none⟩ = some (.int .i64 p.frm) ∧ World.cell? W' ⟨w.heap.size, 2, none⟩ = some (.bool p.resp) ∧ World.cell? W' ⟨w.heap.size, 3, none⟩ = some (.int .i64 p.form) ∧ World.cell? W' ⟨w.heap.size, 4, none⟩ = some (.int .i64 p.kind) ∧ World.cell? W' ⟨w.heap.size, 5, none⟩ = some (.int .i64 p.ns) ∧ World.cell? W' ⟨w.heap.size, 6, none⟩ = some (.int .i64 p.nr) ∧ World.cell? W' ⟨w.heap.size, 7, none⟩ = some (.bool p.poll) ∧ World.cell? W' ⟨w.heap.size, 8, none⟩ = some (.slice A p.info.length c))) w4.drew := ⟨p0, p1, p2, p3, p4, p5, p6, p7, p8⟩
        refine hold_take 0 _ rfl (by kernel_rfl) (by kernel_rfl) (by kernel_rfl) (by kernel_rfl) (by kernel_rfl) (fun _ _ _ h => h) (by rfl) (fun _ => rfl) HS (fun w' hS => by obtain ⟨q0, q1, q2, q3, q4, q5, q6, q7, q8⟩ := hS; go_simp; try rfl) ?_
        simp only [Act.put, List.setIfInBounds_toArray, List.set_cons_zero, List.set_cons_succ]
        refine hold_take 1 (.bool false) rfl (by kernel_rfl) (by kernel_rfl) (by kernel_rfl) (by kernel_rfl) (by kernel_rfl) (fun _ _ _ h => h) (by rfl) (fun _ => rfl) HS (fun w' hS => by obtain ⟨q0, q1, q2, q3, q4, q5, q6, q7, q8⟩ := hS; go_simp; try rfl) ?_
        simp only [Act.put, List.setIfInBounds_toArray, List.set_cons_zero, List.set_cons_succ]
        refine hold_take 2 _ rfl (by kernel_rfl) (by kernel_rfl) (by kernel_rfl) (by kernel_rfl) (by kernel_rfl) (fun _ _ _ h => h) (by rfl) (fun _ => rfl) HS (fun w' hS => by obtain ⟨q0, q1, q2, q3, q4, q5, q6, q7, q8⟩ := hS; go_simp; try rfl) ?_
        simp only [Act.put, List.setIfInBounds_toArray, List.set_cons_zero, List.set_cons_succ]
        refine hold_take 3 (.bool true) rfl (by kernel_rfl) (by kernel_rfl) (by kernel_rfl) (by kernel_rfl) (by kernel_rfl) (fun _ _ _ h => h) (by rfl) (fun _ => rfl) HS (fun w' hS => by obtain ⟨q0, q1, q2, q3, q4, q5, q6, q7, q8⟩ := hS; go_simp; try rfl) ?_
        simp only [Act.put, List.setIfInBounds_toArray, List.set_cons_zero, List.set_cons_succ]
        refine hold_take 4 _ rfl (by kernel_rfl) (by kernel_rfl) (by kernel_rfl) (by kernel_rfl) (by kernel_rfl) (fun _ _ _ h => h) (by rfl) (fun _ => rfl) HS (fun w' hS => by obtain ⟨q0, q1, q2, q3, q4, q5, q6, q7, q8⟩ := hS; go_simp; try rfl) ?_
        simp only [Act.put, List.setIfInBounds_toArray, List.set_cons_zero, List.set_cons_succ]
        refine hold_take 5 _ rfl (by kernel_rfl) (by kernel_rfl) (by kernel_rfl) (by kernel_rfl) (by kernel_rfl) (fun _ _ _ h => h) (by rfl) (fun _ => rfl) HS (fun w' hS => by obtain ⟨q0, q1, q2, q3, q4, q5, q6, q7, q8⟩ := hS; go_simp; try rfl) ?_
        simp only [Act.put, List.setIfInBounds_toArray, List.set_cons_zero, List.set_cons_succ]
        refine hold_take 6 (.bool false) rfl (by kernel_rfl) (by kernel_rfl) (by kernel_rfl) (by kernel_rfl) (by kernel_rfl) (fun _ _ _ h => h) (by rfl) (fun _ => rfl) HS (fun w' hS => by obtain ⟨q0, q1, q2, q3, q4, q5, q6, q7, q8⟩ := hS; go_simp; try rfl) ?_
        simp only [Act.put, List.setIfInBounds_toArray, List.set_cons_zero, List.set_cons_succ]
        refine hold_take 7 _ rfl (by kernel_rfl) (by kernel_rfl) (by kernel_rfl) (by kernel_rfl) (by kernel_rfl) (fun _ _ _ h => h) (by rfl) (fun _ => rfl) HS (fun w' hS => by obtain ⟨q0, q1, q2, q3, q4, q5, q6, q7, q8⟩ := hS; go_simp; try rfl) ?_
        simp only [Act.put, List.setIfInBounds_toArray, List.set_cons_zero, List.set_cons_succ]
        refine hold_take 8 (.bool true) rfl (by kernel_rfl) (by kernel_rfl) (by kernel_rfl) (by kernel_rfl) (by kernel_rfl) (fun _ _ _ h => h) (by rfl) (fun _ => rfl) HS (fun w' hS => by obtain ⟨q0, q1, q2, q3, q4, q5, q6, q7, q8⟩ := hS; go_simp; try rfl) ?_
        simp only [Act.put, List.setIfInBounds_toArray, List.set_cons_zero, List.set_cons_succ]
        refine hold_take 9 (.bool true) rfl (by kernel_rfl) (by kernel_rfl) (by kernel_rfl) (by kernel_rfl) (by kernel_rfl) (fun _ _ _ h => h) (by rfl) (fun _ => rfl) HS (fun w' hS => by obtain ⟨q0, q1, q2, q3, q4, q5, q6, q7, q8⟩ := hS; go_simp; try rfl) ?_
        simp only [Act.put, List.setIfInBounds_toArray, List.set_cons_zero, List.set_cons_succ]
        refine hold_take 10 _ rfl (by kernel_rfl) (by kernel_rfl) (by kernel_rfl) (by kernel_rfl) (by kernel_rfl) (fun _ _ _ h => h) (by rfl) (fun _ => rfl) HS (fun w' hS => by obtain ⟨q0, q1, q2, q3, q4, q5, q6, q7, q8⟩ := hS; go_simp; try rfl) ?_
        simp only [Act.put, List.setIfInBounds_toArray, List.set_cons_zero, List.set_cons_succ]
        refine hold_take 11 _ rfl (by kernel_rfl) (by kernel_rfl) (by kernel_rfl) (by kernel_rfl) (by kernel_rfl) (fun _ _ _ h => h) (by rfl) (fun _ => rfl) HS (fun w' hS => by obtain ⟨q0, q1, q2, q3, q4, q5, q6, q7, q8⟩ := hS; go_simp; try rfl) ?_
        simp only [Act.put, List.setIfInBounds_toArray, List.set_cons_zero, List.set_cons_succ]
        refine hold_take 12 (.bool true) rfl (by kernel_rfl) (by kernel_rfl) (by kernel_rfl) (by kernel_rfl) (by kernel_rfl) (fun _ _ _ h => h) (by rfl) (fun _ => rfl) HS (fun w' hS => by obtain ⟨q0, q1, q2, q3, q4, q5, q6, q7, q8⟩ := hS; go_simp; try rfl) ?_
        simp only [Act.put, List.setIfInBounds_toArray, List.set_cons_zero, List.set_cons_succ]
        refine hold_take 13 _ rfl (by kernel_rfl) (by kernel_rfl) (by kernel_rfl) (by kernel_rfl) (by kernel_rfl) (fun _ _ _ h => h) (by rfl) (fun _ => rfl) HS (fun w' hS => by obtain ⟨q0, q1, q2, q3, q4, q5, q6, q7, q8⟩ := hS; go_simp; try rfl) ?_
        simp only [Act.put, List.setIfInBounds_toArray, List.set_cons_zero, List.set_cons_succ]
        refine hold_take 14 (.bool true) rfl (by kernel_rfl) (by kernel_rfl) (by kernel_rfl) (by kernel_rfl) (by kernel_rfl) (fun _ _ _ h => h) (by rfl) (fun _ => rfl) HS (fun w' hS => by obtain ⟨q0, q1, q2, q3, q4, q5, q6, q7, q8⟩ := hS; go_simp; try rfl) ?_
        simp only [Act.put, List.setIfInBounds_toArray, List.set_cons_zero, List.set_cons_succ]
        refine hold_take 15 _ rfl (by kernel_rfl) (by kernel_rfl) (by kernel_rfl) (by kernel_rfl) (by kernel_rfl) (fun _ _ _ h => h) (by rfl) (fun _ => rfl) HS (fun w' hS => by obtain ⟨q0, q1, q2, q3, q4, q5, q6, q7, q8⟩ := hS; go_simp; try rfl) ?_
        simp only [Act.put, List.setIfInBounds_toArray, List.set_cons_zero, List.set_cons_succ]
        refine hold_take 16 _ rfl (by kernel_rfl) (by kernel_rfl) (by kernel_rfl) (by kernel_rfl) (by kernel_rfl) (fun _ _ _ h => h) (by rfl) (fun _ => rfl) HS (fun w' hS => by obtain ⟨q0, q1, q2, q3, q4, q5, q6, q7, q8⟩ := hS; go_simp; try rfl) ?_
        simp only [Act.put, List.setIfInBounds_toArray, List.set_cons_zero, List.set_cons_succ]
        refine hold_take 17 (.bool true) rfl (by kernel_rfl) (by kernel_rfl) (by kernel_rfl) (by kernel_rfl) (by kernel_rfl) (fun _ _ _ h => h) (by rfl) (fun _ => rfl) HS (fun w' hS => by obtain ⟨q0, q1, q2, q3, q4, q5, q6, q7, q8⟩ := hS; go_simp; try rfl) ?_
        simp only [Act.put, List.setIfInBounds_toArray, List.set_cons_zero, List.set_cons_succ]
        refine hold_take 18 (.bool true) rfl (by kernel_rfl) (by kernel_rfl) (by kernel_rfl) (by kernel_rfl) (by kernel_rfl) (fun _ _ _ h => h) (by rfl) (fun _ => rfl) HS (fun w' hS => by obtain ⟨q0, q1, q2, q3, q4, q5, q6, q7, q8⟩ := hS; go_simp; try rfl) ?_
        simp only [Act.put, List.setIfInBounds_toArray, List.set_cons_zero, List.set_cons_succ]
        refine hold_take 19 (.bool true) rfl (by kernel_rfl) (by kernel_rfl) (by kernel_rfl) (by kernel_rfl) (by kernel_rfl) (fun _ _ _ h => h) (by rfl) (fun _ => rfl) HS (fun w' hS => by obtain ⟨q0, q1, q2, q3, q4, q5, q6, q7, q8⟩ := hS; go_simp; try rfl) ?_
        simp only [Act.put, List.setIfInBounds_toArray, List.set_cons_zero, List.set_cons_succ]
        refine hold_take 20 (.bool true) rfl (by kernel_rfl) (by kernel_rfl) (by kernel_rfl) (by kernel_rfl) (by kernel_rfl) (fun _ _ _ h => h) (by rfl) (fun _ => rfl) HS (fun w' hS => by obtain ⟨q0, q1, q2, q3, q4, q5, q6, q7, q8⟩ := hS; go_simp; try rfl) ?_
        simp only [Act.put, List.setIfInBounds_toArray, List.set_cons_zero, List.set_cons_succ]
        refine hold_take 21 _ rfl (by kernel_rfl) (by kernel_rfl) (by kernel_rfl) (by kernel_rfl) (by kernel_rfl) (fun _ _ _ h => h) (by rfl) (fun _ => rfl) HS (fun w' hS => by obtain ⟨q0, q1, q2, q3, q4, q5, q6, q7, q8⟩ := hS; go_simp; try rfl) ?_
        simp only [Act.put, List.setIfInBounds_toArray, List.set_cons_zero, List.set_cons_succ]
        refine hold_take 22 _ rfl (by kernel_rfl) (by kernel_rfl) (by kernel_rfl) (by kernel_rfl) (by kernel_rfl) (fun _ _ _ h => h) (by rfl) (fun _ => rfl) HS (fun w' hS => by obtain ⟨q0, q1, q2, q3, q4, q5, q6, q7, q8⟩ := hS; go_simp; try rfl) ?_
        simp only [Act.put, List.setIfInBounds_toArray, List.set_cons_zero, List.set_cons_succ]
        refine hold_take 24 _ rfl (by kernel_rfl) (by kernel_rfl) (by kernel_rfl) (by kernel_rfl) (by kernel_rfl) (fun _ _ _ h => h) (by rfl) (fun _ => rfl) HS (fun w' hS => by obtain ⟨q0, q1, q2, q3, q4, q5, q6, q7, q8⟩ := hS; go_simp; try rfl) ?_
        simp only [Act.put, List.setIfInBounds_toArray, List.set_cons_zero, List.set_cons_succ]
        refine hold_take 25 (.bool false) rfl (by kernel_rfl) (by kernel_rfl) (by kernel_rfl) (by kernel_rfl) (by kernel_rfl) (fun _ _ _ h => h) (by rfl) (fun _ => rfl) HS (fun w' hS => by obtain ⟨q0, q1, q2, q3, q4, q5, q6, q7, q8⟩ := hS; go_simp; try rfl) ?_
        simp only [Act.put, List.setIfInBounds_toArray, List.set_cons_zero, List.set_cons_succ]
        refine hold_one 23 (by kernel_rfl) rfl (by rfl) fun K hK => ?_
        go_simp
        refine ⟨trivial, rfl, (callsIn_wide.2 (CM.out w4.drew)).mono ?_⟩
        rintro e w5 ⟨rfl, hb5⟩
        have hsd : w4.drew.heap.size = w4.heap.size := rfl
        have H5 := cover ((below_drewN H4.out 1).trans (hb5.mono (by omega)))
        have HS5 : (fun W' : World => (World.cell? W' ⟨w.heap.size, 0, none⟩ = some (.int .i64 p.to) ∧ World.cell? W' ⟨w.heap.size, 1, none⟩ = some (.int .i64 p.frm) ∧ World.cell? W' ⟨w.heap.size, 2, none⟩ = some (.bool p.resp) ∧ World.cell? W' ⟨w.heap.size, 3, none⟩ = some (.int .i64 p.form) ∧ World.cell? W' ⟨w.heap.size, 4, none⟩ = some (.int .i64 p.kind) ∧ World.cell? W' ⟨w.heap.size, 5, none⟩ = some (.int .i64 p.ns) ∧ World.cell? W' ⟨w.heap.size, 6, none⟩ = some (.int .i64 p.nr) ∧ World.cell? W' ⟨w.heap.size, 7, none⟩ = some (.bool p.poll) ∧ World.cell? W' ⟨w.heap.size, 8, none⟩ = some (.slice A p.info.length c))) w5 := pdu_cells ((hb5.block _ (by omega)).trans (show w4.drew.heap[w.heap.size]? = _ from G4.out))
        refine hK _ _ (.inr HS5) ?_
        clear hK K hb5 hsd
        refine hold_take 26 _ rfl (by kernel_rfl) (by kernel_rfl) (by kernel_rfl) (by kernel_rfl) (by kernel_rfl) (fun _ _ _ h => h) (by rfl) (fun _ => rfl) HS5 (fun w' hS => by obtain ⟨q0, q1, q2, q3, q4, q5, q6, q7, q8⟩ := hS; go_simp; try rfl) ?_
        simp only [Act.put, List.setIfInBounds_toArray, List.set_cons_zero, List.set_cons_succ]
        refine hold_skip 27 rfl (by kernel_rfl) (by kernel_rfl) (by kernel_rfl) (by kernel_rfl) (by kernel_rfl) (fun _ _ _ h => h) (by rfl) (fun _ => rfl) HS5 ?_
        simp only [Act.put, List.setIfInBounds_toArray, List.set_cons_zero, List.set_cons_succ]
        refine hold_skip 28 rfl (by kernel_rfl) (by kernel_rfl) (by kernel_rfl) (by kernel_rfl) (by kernel_rfl) (fun _ _ _ h => h) (by rfl) (fun _ => rfl) HS5 ?_
        simp only [Act.put, List.setIfInBounds_toArray, List.set_cons_zero, List.set_cons_succ]
        refine hold_skip 29 rfl (by kernel_rfl) (by kernel_rfl) (by kernel_rfl) (by kernel_rfl) (by kernel_rfl) (fun _ _ _ h => h) (by rfl) (fun _ => rfl) HS5 ?_
        simp only [Act.put, List.setIfInBounds_toArray, List.set_cons_zero, List.set_cons_succ]
        refine hold_take 30 (.bool false) rfl (by kernel_rfl) (by kernel_rfl) (by kernel_rfl) (by kernel_rfl) (by kernel_rfl) (fun _ _ _ h => h) (by rfl) (fun _ => rfl) HS5 (fun w' hS => by obtain ⟨q0, q1, q2, q3, q4, q5, q6, q7, q8⟩ := hS; go_simp; try rfl) ?_
        simp only [Act.put, List.setIfInBounds_toArray, List.set_cons_zero, List.set_cons_succ]
        refine hold_one 31 (by kernel_rfl) rfl (by rfl) fun K hK => ?_
        go_simp
        refine hK _ _ (.inr HS5) ?_
        clear hK K
        refine hold_one 32 (by kernel_rfl) rfl (by rfl) fun K hK => ?_
        go_simp
        refine hK _ _ (.inr HS5) ?_
        clear hK K
        refine hold_one 33 (by kernel_rfl) rfl (by rfl) fun K hK => ?_
        go_simp
        refine hK _ _ (.inl rfl) (held_done (by kernel_rfl) ?_ _)
        clear hK K
        go_wp2
        go_ret
        exact ⟨rfl, H5.out⟩
      · rcases hr : p.resp with _ | _
        · obtain rfl : ak = true := by rw [hka, hp, hr]; rfl
          clear hka
          simp only [hp, hr] at CM
          have mixed : Try.prog.follows .mixedOrders = true := by kernel_rfl
          refine (wpIn_wide (n := 0)).1 ?_
          refine held_begin (fun W' : World => (World.cell? W' ⟨w.heap.size, 0, none⟩ = some (.int .i64 p.to) ∧ World.cell? W' ⟨w.heap.size, 1, none⟩ = some (.int .i64 p.frm) ∧ World.cell? W' ⟨w.heap.size, 2, none⟩ = some (.bool p.resp) ∧ World.cell? W' ⟨w.heap.size, 3, none⟩ = some (.int .i64 p.form) ∧ World.cell? W' ⟨w.heap.size, 4, none⟩ = some (.int .i64 p.kind) ∧ World.cell? W' ⟨w.heap.size, 5, none⟩ = some (.int .i64 p.ns) ∧ World.cell? W' ⟨w.heap.size, 6, none⟩ = some (.int .i64 p.nr) ∧ World.cell? W' ⟨w.heap.size, 7, none⟩ = some (.bool p.poll) ∧ World.cell? W' ⟨w.heap.size, 8, none⟩ = some (.slice A p.info.length c))) 33 mixed ?_
          have HS : (fun W' : World => (World.cell? W' ⟨w.heap.size, 0, none⟩ = some (.int .i64 p.to) ∧ World.cell? W' ⟨w.heap.size, 1, none⟩ = some (.int .i64 p.frm) ∧ World.cell? W' ⟨w.heap.size, 2, none⟩ = some (.bool p.resp) ∧ World.cell? W' ⟨w.heap.size, 3, none⟩ = some (.int .i64 p.form) ∧ World.cell? W' ⟨w.heap.size, 4, none⟩ = some (.int .i64 p.kind) ∧ World.cell? W' ⟨w.heap.size, 5, none⟩ = some (.int .i64 p.ns) ∧ World.cell? W' ⟨w.heap.size, 6, none⟩ = some (.int .i64 p.nr) ∧ World.cell? W' ⟨w.heap.size, 7, none⟩ = some (.bool p.poll) ∧ World.cell? W' ⟨w.heap.size, 8, none⟩ = some (.slice A p.info.length c))) w4.drew := ⟨p0, p1, p2, p3, p4, p5, p6, p7, p8⟩
          refine hold_take 0 _ rfl (by kernel_rfl) (by kernel_rfl) (by kernel_rfl) (by kernel_rfl) (by kernel_rfl) (fun _ _ _ h => h) (by rfl) (fun _ => rfl) HS (fun w' hS => by obtain ⟨q0, q1, q2, q3, q4, q5, q6, q7, q8⟩ := hS; go_simp; try rfl) ?_
          simp only [Act.put, List.setIfInBounds_toArray, List.set_cons_zero, List.set_cons_succ]
          refine hold_take 1 (.bool false) rfl (by kernel_rfl) (by kernel_rfl) (by kernel_rfl) (by kernel_rfl) (by kernel_rfl) (fun _ _ _ h => h) (by rfl) (fun _ => rfl) HS (fun w' hS => by obtain ⟨q0, q1, q2, q3, q4, q5, q6, q7, q8⟩ := hS; go_simp; try rfl) ?_
          simp only [Act.put, List.setIfInBounds_toArray, List.set_cons_zero, List.set_cons_succ]
          refine hold_take 2 _ rfl (by kernel_rfl) (by kernel_rfl) (by kernel_rfl) (by kernel_rfl) (by kernel_rfl) (fun _ _ _ h => h) (by rfl) (fun _ => rfl) HS (fun w' hS => by obtain ⟨q0, q1, q2, q3, q4, q5, q6, q7, q8⟩ := hS; go_simp; try rfl) ?_
          simp only [Act.put, List.setIfInBounds_toArray, List.set_cons_zero, List.set_cons_succ]
          refine hold_take 3 (.bool true) rfl (by kernel_rfl) (by kernel_rfl) (by kernel_rfl) (by kernel_rfl) (by kernel_rfl) (fun _ _ _ h => h) (by rfl) (fun _ => rfl) HS (fun w' hS => by obtain ⟨q0, q1, q2, q3, q4, q5, q6, q7, q8⟩ := hS; go_simp; try rfl) ?_
          simp only [Act.put, List.setIfInBounds_toArray, List.set_cons_zero, List.set_cons_succ]
          refine hold_take 4 _ rfl (by kernel_rfl) (by kernel_rfl) (by kernel_rfl) (by kernel_rfl) (by kernel_rfl) (fun _ _ _ h => h) (by rfl) (fun _ => rfl) HS (fun w' hS => by obtain ⟨q0, q1, q2, q3, q4, q5, q6, q7, q8⟩ := hS; go_simp; try rfl) ?_
          simp only [Act.put, List.setIfInBounds_toArray, List.set_cons_zero, List.set_cons_succ]
          refine hold_take 5 _ rfl (by kernel_rfl) (by kernel_rfl) (by kernel_rfl) (by kernel_rfl) (by kernel_rfl) (fun _ _ _ h => h) (by rfl) (fun _ => rfl) HS (fun w' hS => by obtain ⟨q0, q1, q2, q3, q4, q5, q6, q7, q8⟩ := hS; go_simp; try rfl) ?_
          simp only [Act.put, List.setIfInBounds_toArray, List.set_cons_zero, List.set_cons_succ]
          refine hold_take 6 (.bool false) rfl (by kernel_rfl) (by kernel_rfl) (by kernel_rfl) (by kernel_rfl) (by kernel_rfl) (fun _ _ _ h => h) (by rfl) (fun _ => rfl) HS (fun w' hS => by obtain ⟨q0, q1, q2, q3, q4, q5, q6, q7, q8⟩ := hS; go_simp; try rfl) ?_
          simp only [Act.put, List.setIfInBounds_toArray, List.set_cons_zero, List.set_cons_succ]
          refine hold_take 7 _ rfl (by kernel_rfl) (by kernel_rfl) (by kernel_rfl) (by kernel_rfl) (by kernel_rfl) (fun _ _ _ h => h) (by rfl) (fun _ => rfl) HS (fun w' hS => by obtain ⟨q0, q1, q2, q3, q4, q5, q6, q7, q8⟩ := hS; go_simp; try rfl) ?_
          simp only [Act.put, List.setIfInBounds_toArray, List.set_cons_zero, List.set_cons_succ]
          refine hold_take 8 (.bool true) rfl (by kernel_rfl) (by kernel_rfl) (by kernel_rfl) (by kernel_rfl) (by kernel_rfl) (fun _ _ _ h => h) (by rfl) (fun _ => rfl) HS (fun w' hS => by obtain ⟨q0, q1, q2, q3, q4, q5, q6, q7, q8⟩ := hS; go_simp; try rfl) ?_
          simp only [Act.put, List.setIfInBounds_toArray, List.set_cons_zero, List.set_cons_succ]
          refine hold_take 9 (.bool true) rfl (by kernel_rfl) (by kernel_rfl) (by kernel_rfl) (by kernel_rfl) (by kernel_rfl) (fun _ _ _ h => h) (by rfl) (fun _ => rfl) HS (fun w' hS => by obtain ⟨q0, q1, q2, q3, q4, q5, q6, q7, q8⟩ := hS; go_simp; try rfl) ?_
          simp only [Act.put, List.setIfInBounds_toArray, List.set_cons_zero, List.set_cons_succ]
          refine hold_take 10 _ rfl (by kernel_rfl) (by kernel_rfl) (by kernel_rfl) (by kernel_rfl) (by kernel_rfl) (fun _ _ _ h => h) (by rfl) (fun _ => rfl) HS (fun w' hS => by obtain ⟨q0, q1, q2, q3, q4, q5, q6, q7, q8⟩ := hS; go_simp; try rfl) ?_
          simp only [Act.put, List.setIfInBounds_toArray, List.set_cons_zero, List.set_cons_succ]
          refine hold_take 11 _ rfl (by kernel_rfl) (by kernel_rfl) (by kernel_rfl) (by kernel_rfl) (by kernel_rfl) (fun _ _ _ h => h) (by rfl) (fun _ => rfl) HS (fun w' hS => by obtain ⟨q0, q1, q2, q3, q4, q5, q6, q7, q8⟩ := hS; go_simp; try rfl) ?_
          simp only [Act.put, List.setIfInBounds_toArray, List.set_cons_zero, List.set_cons_succ]
          refine hold_take 12 (.bool true) rfl (by kernel_rfl) (by kernel_rfl) (by kernel_rfl) (by kernel_rfl) (by kernel_rfl) (fun _ _ _ h => h) (by rfl) (fun _ => rfl) HS (fun w' hS => by obtain ⟨q0, q1, q2, q3, q4, q5, q6, q7, q8⟩ := hS; go_simp; try rfl) ?_
          simp only [Act.put, List.setIfInBounds_toArray, List.set_cons_zero, List.set_cons_succ]
          refine hold_take 13 _ rfl (by kernel_rfl) (by kernel_rfl) (by kernel_rfl) (by kernel_rfl) (by kernel_rfl) (fun _ _ _ h => h) (by rfl) (fun _ => rfl) HS (fun w' hS => by obtain ⟨q0, q1, q2, q3, q4, q5, q6, q7, q8⟩ := hS; go_simp; try rfl) ?_
          simp only [Act.put, List.setIfInBounds_toArray, List.set_cons_zero, List.set_cons_succ]
          refine hold_take 14 (.bool true) rfl (by kernel_rfl) (by kernel_rfl) (by kernel_rfl) (by kernel_rfl) (by kernel_rfl) (fun _ _ _ h => h) (by rfl) (fun _ => rfl) HS (fun w' hS => by obtain ⟨q0, q1, q2, q3, q4, q5, q6, q7, q8⟩ := hS; go_simp; try rfl) ?_
          simp only [Act.put, List.setIfInBounds_toArray, List.set_cons_zero, List.set_cons_succ]
          refine hold_take 15 _ rfl (by kernel_rfl) (by kernel_rfl) (by kernel_rfl) (by kernel_rfl) (by kernel_rfl) (fun _ _ _ h => h) (by rfl) (fun _ => rfl) HS (fun w' hS => by obtain ⟨q0, q1, q2, q3, q4, q5, q6, q7, q8⟩ := hS; go_simp; try rfl) ?_
          simp only [Act.put, List.setIfInBounds_toArray, List.set_cons_zero, List.set_cons_succ]
          refine hold_take 16 _ rfl (by kernel_rfl) (by kernel_rfl) (by kernel_rfl) (by kernel_rfl) (by kernel_rfl) (fun _ _ _ h => h) (by rfl) (fun _ => rfl) HS (fun w' hS => by obtain ⟨q0, q1, q2, q3, q4, q5, q6, q7, q8⟩ := hS; go_simp; try rfl) ?_
          simp only [Act.put, List.setIfInBounds_toArray, List.set_cons_zero, List.set_cons_succ]
          refine hold_take 17 (.bool true) rfl (by kernel_rfl) (by kernel_rfl) (by kernel_rfl) (by kernel_rfl) (by kernel_rfl) (fun _ _ _ h => h) (by rfl) (fun _ => rfl) HS (fun w' hS => by obtain ⟨q0, q1, q2, q3, q4, q5, q6, q7, q8⟩ := hS; go_simp; try rfl) ?_
          simp only [Act.put, List.setIfInBounds_toArray, List.set_cons_zero, List.set_cons_succ]
          refine hold_take 18 (.bool true) rfl (by kernel_rfl) (by kernel_rfl) (by kernel_rfl) (by kernel_rfl) (by kernel_rfl) (fun _ _ _ h => h) (by rfl) (fun _ => rfl) HS (fun w' hS => by obtain ⟨q0, q1, q2, q3, q4, q5, q6, q7, q8⟩ := hS; go_simp; try rfl) ?_
          simp only [Act.put, List.setIfInBounds_toArray, List.set_cons_zero, List.set_cons_succ]
          refine hold_take 19 (.bool true) rfl (by kernel_rfl) (by kernel_rfl) (by kernel_rfl) (by kernel_rfl) (by kernel_rfl) (fun _ _ _ h => h) (by rfl) (fun _ => rfl) HS (fun w' hS => by obtain ⟨q0, q1, q2, q3, q4, q5, q6, q7, q8⟩ := hS; go_simp; try rfl) ?_
          simp only [Act.put, List.setIfInBounds_toArray, List.set_cons_zero, List.set_cons_succ]
          refine hold_take 20 (.bool true) rfl (by kernel_rfl) (by kernel_rfl) (by kernel_rfl) (by kernel_rfl) (by kernel_rfl) (fun _ _ _ h => h) (by rfl) (fun _ => rfl) HS (fun w' hS => by obtain ⟨q0, q1, q2, q3, q4, q5, q6, q7, q8⟩ := hS; go_simp; try rfl) ?_
          simp only [Act.put, List.setIfInBounds_toArray, List.set_cons_zero, List.set_cons_succ]
          refine hold_take 21 _ rfl (by kernel_rfl) (by kernel_rfl) (by kernel_rfl) (by kernel_rfl) (by kernel_rfl) (fun _ _ _ h => h) (by rfl) (fun _ => rfl) HS (fun w' hS => by obtain ⟨q0, q1, q2, q3, q4, q5, q6, q7, q8⟩ := hS; go_simp; try rfl) ?_
          simp only [Act.put, List.setIfInBounds_toArray, List.set_cons_zero, List.set_cons_succ]
          refine hold_take 22 _ rfl (by kernel_rfl) (by kernel_rfl) (by kernel_rfl) (by kernel_rfl) (by kernel_rfl) (fun _ _ _ h => h) (by rfl) (fun _ => rfl) HS (fun w' hS => by obtain ⟨q0, q1, q2, q3, q4, q5, q6, q7, q8⟩ := hS; go_simp; try rfl) ?_
          simp only [Act.put, List.setIfInBounds_toArray, List.set_cons_zero, List.set_cons_succ]
          refine hold_take 24 _ rfl (by kernel_rfl) (by kernel_rfl) (by kernel_rfl) (by kernel_rfl) (by kernel_rfl) (fun _ _ _ h => h) (by rfl) (fun _ => rfl) HS (fun w' hS => by obtain ⟨q0, q1, q2, q3, q4, q5, q6, q7, q8⟩ := hS; go_simp; try rfl) ?_
          simp only [Act.put, List.setIfInBounds_toArray, List.set_cons_zero, List.set_cons_succ]
          refine hold_take 25 (.bool true) rfl (by kernel_rfl) (by kernel_rfl) (by kernel_rfl) (by kernel_rfl) (by kernel_rfl) (fun _ _ _ h => h) (by rfl) (fun _ => rfl) HS (fun w' hS => by obtain ⟨q0, q1, q2, q3, q4, q5, q6, q7, q8⟩ := hS; go_simp; try rfl) ?_
          simp only [Act.put, List.setIfInBounds_toArray, List.set_cons_zero, List.set_cons_succ]
          refine hold_one 23 (by kernel_rfl) rfl (by rfl) fun K hK => ?_
          go_simp
          refine ⟨trivial, rfl, (callsIn_wide.2 (CM.out w4.drew)).mono ?_⟩
          rintro e w5 ⟨rfl, hb5⟩
          have hsd : w4.drew.heap.size = w4.heap.size := rfl
          have H5 := cover ((below_drewN H4.out 1).trans (hb5.mono (by omega)))
          have HS5 : (fun W' : World => (World.cell? W' ⟨w.heap.size, 0, none⟩ = some (.int .i64 p.to) ∧ World.cell? W' ⟨w.heap.size, 1, none⟩ = some (.int .i64 p.frm) ∧ World.cell? W' ⟨w.heap.size, 2, none⟩ = some (.bool p.resp) ∧ World.cell? W' ⟨w.heap.size, 3, none⟩ = some (.int .i64 p.form) ∧ World.cell? W' ⟨w.heap.size, 4, none⟩ = some (.int .i64 p.kind) ∧ World.cell? W' ⟨w.heap.size, 5, none⟩ = some (.int .i64 p.ns) ∧ World.cell? W' ⟨w.heap.size, 6, none⟩ = some (.int .i64 p.nr) ∧ World.cell? W' ⟨w.heap.size, 7, none⟩ = some (.bool p.poll) ∧ World.cell? W' ⟨w.heap.size, 8, none⟩ = some (.slice A p.info.length c))) w5 := pdu_cells ((hb5.block _ (by omega)).trans (show w4.drew.heap[w.heap.size]? = _ from G4.out))
          refine hK _ _ (.inr HS5) ?_
          clear hK K hb5 hsd
          refine hold_take 26 _ rfl (by kernel_rfl) (by kernel_rfl) (by kernel_rfl) (by kernel_rfl) (by kernel_rfl) (fun _ _ _ h => h) (by rfl) (fun _ => rfl) HS5 (fun w' hS => by obtain ⟨q0, q1, q2, q3, q4, q5, q6, q7, q8⟩ := hS; go_simp; try rfl) ?_
          simp only [Act.put, List.setIfInBounds_toArray, List.set_cons_zero, List.set_cons_succ]
          refine hold_take 27 _ rfl (by kernel_rfl) (by kernel_rfl) (by kernel_rfl) (by kernel_rfl) (by kernel_rfl) (fun _ _ _ h => h) (by rfl) (fun _ => rfl) HS5 (fun w' hS => by obtain ⟨q0, q1, q2, q3, q4, q5, q6, q7, q8⟩ := hS; go_simp; try rfl) ?_
          simp only [Act.put, List.setIfInBounds_toArray, List.set_cons_zero, List.set_cons_succ]
          refine hold_take 28 (.bool false) rfl (by kernel_rfl) (by kernel_rfl) (by kernel_rfl) (by kernel_rfl) (by kernel_rfl) (fun _ _ _ h => h) (by rfl) (fun _ => rfl) HS5 (fun w' hS => by obtain ⟨q0, q1, q2, q3, q4, q5, q6, q7, q8⟩ := hS; go_simp; try rfl) ?_
          simp only [Act.put, List.setIfInBounds_toArray, List.set_cons_zero, List.set_cons_succ]
          refine hold_take 29 (.bool true) rfl (by kernel_rfl) (by kernel_rfl) (by kernel_rfl) (by kernel_rfl) (by kernel_rfl) (fun _ _ _ h => h) (by rfl) (fun _ => rfl) HS5 (fun w' hS => by obtain ⟨q0, q1, q2, q3, q4, q5, q6, q7, q8⟩ := hS; go_simp; try rfl) ?_
          simp only [Act.put, List.setIfInBounds_toArray, List.set_cons_zero, List.set_cons_succ]
          refine hold_take 30 (.bool true) rfl (by kernel_rfl) (by kernel_rfl) (by kernel_rfl) (by kernel_rfl) (by kernel_rfl) (fun _ _ _ h => h) (by rfl) (fun _ => rfl) HS5 (fun w' hS => by obtain ⟨q0, q1, q2, q3, q4, q5, q6, q7, q8⟩ := hS; go_simp; try rfl) ?_
          simp only [Act.put, List.setIfInBounds_toArray, List.set_cons_zero, List.set_cons_succ]
          refine hold_one 31 (by kernel_rfl) rfl (by rfl) fun K hK => ?_
          go_simp
          refine hK _ _ (.inr HS5) ?_
          clear hK K
          refine hold_one 32 (by kernel_rfl) rfl (by rfl) fun K hK => ?_
          go_simp
          refine hK _ _ (.inr HS5) ?_
          clear hK K
          refine hold_one 33 (by kernel_rfl) rfl (by rfl) fun K hK => ?_
          go_simp
          refine hK _ _ (.inl rfl) (held_done (by kernel_rfl) ?_ _)
          clear hK K
          go_wp2
          go_ret
          exact ⟨rfl, H5.out⟩
        · obtain rfl : ak = false := by rw [hka, hp, hr]; rfl
          clear hka
          simp only [hp, hr] at CM
          have mixed : Try.prog.follows .mixedOrders = true := by kernel_rfl
          refine (wpIn_wide (n := 0)).1 ?_
          refine held_begin (fun W' : World => (World.cell? W' ⟨w.heap.size, 0, none⟩ = some (.int .i64 p.to) ∧ World.cell? W' ⟨w.heap.size, 1, none⟩ = some (.int .i64 p.frm) ∧ World.cell? W' ⟨w.heap.size, 2, none⟩ = some (.bool p.resp) ∧ World.cell? W' ⟨w.heap.size, 3, none⟩ = some (.int .i64 p.form) ∧ World.cell? W' ⟨w.heap.size, 4, none⟩ = some (.int .i64 p.kind) ∧ World.cell? W' ⟨w.heap.size, 5, none⟩ = some (.int .i64 p.ns) ∧ World.cell? W' ⟨w.heap.size, 6, none⟩ = some (.int .i64 p.nr) ∧ World.cell? W' ⟨w.heap.size, 7, none⟩ = some (.bool p.poll) ∧ World.cell? W' ⟨w.heap.size, 8, none⟩ = some (.slice A p.info.length c))) 33 mixed ?_
          have HS : (fun W' : World => (World.cell? W' ⟨w.heap.size, 0, none⟩ = some (.int .i64 p.to) ∧ World.cell? W' ⟨w.heap.size, 1, none⟩ = some (.int .i64 p.frm) ∧ World.cell? W' ⟨w.heap.size, 2, none⟩ = some (.bool p.resp) ∧ World.cell? W' ⟨w.heap.size, 3, none⟩ = some (.int .i64 p.form) ∧ World.cell? W' ⟨w.heap.size, 4, none⟩ = some (.int .i64 p.kind) ∧ World.cell? W' ⟨w.heap.size, 5, none⟩ = some (.int .i64 p.ns) ∧ World.cell? W' ⟨w.heap.size, 6, none⟩ = some (.int .i64 p.nr) ∧ World.cell? W' ⟨w.heap.size, 7, none⟩ = some (.bool p.poll) ∧ World.cell? W' ⟨w.heap.size, 8, none⟩ = some (.slice A p.info.length c))) w4.drew := ⟨p0, p1, p2, p3, p4, p5, p6, p7, p8⟩
          refine hold_take 0 _ rfl (by kernel_rfl) (by kernel_rfl) (by kernel_rfl) (by kernel_rfl) (by kernel_rfl) (fun _ _ _ h => h) (by rfl) (fun _ => rfl) HS (fun w' hS => by obtain ⟨q0, q1, q2, q3, q4, q5, q6, q7, q8⟩ := hS; go_simp; try rfl) ?_
          simp only [Act.put, List.setIfInBounds_toArray, List.set_cons_zero, List.set_cons_succ]
          refine hold_take 1 (.bool false) rfl (by kernel_rfl) (by kernel_rfl) (by kernel_rfl) (by kernel_rfl) (by kernel_rfl) (fun _ _ _ h => h) (by rfl) (fun _ => rfl) HS (fun w' hS => by obtain ⟨q0, q1, q2, q3, q4, q5, q6, q7, q8⟩ := hS; go_simp; try rfl) ?_
          simp only [Act.put, List.setIfInBounds_toArray, List.set_cons_zero, List.set_cons_succ]
          refine hold_take 2 _ rfl (by kernel_rfl) (by kernel_rfl) (by kernel_rfl) (by kernel_rfl) (by kernel_rfl) (fun _ _ _ h => h) (by rfl) (fun _ => rfl) HS (fun w' hS => by obtain ⟨q0, q1, q2, q3, q4, q5, q6, q7, q8⟩ := hS; go_simp; try rfl) ?_
          simp only [Act.put, List.setIfInBounds_toArray, List.set_cons_zero, List.set_cons_succ]
          refine hold_take 3 (.bool true) rfl (by kernel_rfl) (by kernel_rfl) (by kernel_rfl) (by kernel_rfl) (by kernel_rfl) (fun _ _ _ h => h) (by rfl) (fun _ => rfl) HS (fun w' hS => by obtain ⟨q0, q1, q2, q3, q4, q5, q6, q7, q8⟩ := hS; go_simp; try rfl) ?_
          simp only [Act.put, List.setIfInBounds_toArray, List.set_cons_zero, List.set_cons_succ]
          refine hold_take 4 _ rfl (by kernel_rfl) (by kernel_rfl) (by kernel_rfl) (by kernel_rfl) (by kernel_rfl) (fun _ _ _ h => h) (by rfl) (fun _ => rfl) HS (fun w' hS => by obtain ⟨q0, q1, q2, q3, q4, q5, q6, q7, q8⟩ := hS; go_simp; try rfl) ?_
          simp only [Act.put, List.setIfInBounds_toArray, List.set_cons_zero, List.set_cons_succ]
          refine hold_take 5 _ rfl (by kernel_rfl) (by kernel_rfl) (by kernel_rfl) (by kernel_rfl) (by kernel_rfl) (fun _ _ _ h => h) (by rfl) (fun _ => rfl) HS (fun w' hS => by obtain ⟨q0, q1, q2, q3, q4, q5, q6, q7, q8⟩ := hS; go_simp; try rfl) ?_
          simp only [Act.put, List.setIfInBounds_toArray, List.set_cons_zero, List.set_cons_succ]
          refine hold_take 6 (.bool false) rfl (by kernel_rfl) (by kernel_rfl) (by kernel_rfl) (by kernel_rfl) (by kernel_rfl) (fun _ _ _ h => h) (by rfl) (fun _ => rfl) HS (fun w' hS => by obtain ⟨q0, q1, q2, q3, q4, q5, q6, q7, q8⟩ := hS; go_simp; try rfl) ?_
          simp only [Act.put, List.setIfInBounds_toArray, List.set_cons_zero, List.set_cons_succ]
          refine hold_take 7 _ rfl (by kernel_rfl) (by kernel_rfl) (by kernel_rfl) (by kernel_rfl) (by kernel_rfl) (fun _ _ _ h => h) (by rfl) (fun _ => rfl) HS (fun w' hS => by obtain ⟨q0, q1, q2, q3, q4, q5, q6, q7, q8⟩ := hS; go_simp; try rfl) ?_
          simp only [Act.put, List.setIfInBounds_toArray, List.set_cons_zero, List.set_cons_succ]
          refine hold_take 8 (.bool true) rfl (by kernel_rfl) (by kernel_rfl) (by kernel_rfl) (by kernel_rfl) (by kernel_rfl) (fun _ _ _ h => h) (by rfl) (fun _ => rfl) HS (fun w' hS => by obtain ⟨q0, q1, q2, q3, q4, q5, q6, q7, q8⟩ := hS; go_simp; try rfl) ?_
          simp only [Act.put, List.setIfInBounds_toArray, List.set_cons_zero, List.set_cons_succ]
          refine hold_take 9 (.bool true) rfl (by kernel_rfl) (by kernel_rfl) (by kernel_rfl) (by kernel_rfl) (by kernel_rfl) (fun _ _ _ h => h) (by rfl) (fun _ => rfl) HS (fun w' hS => by obtain ⟨q0, q1, q2, q3, q4, q5, q6, q7, q8⟩ := hS; go_simp; try rfl) ?_
          simp only [Act.put, List.setIfInBounds_toArray, List.set_cons_zero, List.set_cons_succ]
          refine hold_take 10 _ rfl (by kernel_rfl) (by kernel_rfl) (by kernel_rfl) (by kernel_rfl) (by kernel_rfl) (fun _ _ _ h => h) (by rfl) (fun _ => rfl) HS (fun w' hS => by obtain ⟨q0, q1, q2, q3, q4, q5, q6, q7, q8⟩ := hS; go_simp; try rfl) ?_
          simp only [Act.put, List.setIfInBounds_toArray, List.set_cons_zero, List.set_cons_succ]
          refine hold_take 11 _ rfl (by kernel_rfl) (by kernel_rfl) (by kernel_rfl) (by kernel_rfl) (by kernel_rfl) (fun _ _ _ h => h) (by rfl) (fun _ => rfl) HS (fun w' hS => by obtain ⟨q0, q1, q2, q3, q4, q5, q6, q7, q8⟩ := hS; go_simp; try rfl) ?_
          simp only [Act.put, List.setIfInBounds_toArray, List.set_cons_zero, List.set_cons_succ]
          refine hold_take 12 (.bool true) rfl (by kernel_rfl) (by kernel_rfl) (by kernel_rfl) (by kernel_rfl) (by kernel_rfl) (fun _ _ _ h => h) (by rfl) (fun _ => rfl) HS (fun w' hS => by obtain ⟨q0, q1, q2, q3, q4, q5, q6, q7, q8⟩ := hS; go_simp; try rfl) ?_
          simp only [Act.put, List.setIfInBounds_toArray, List.set_cons_zero, List.set_cons_succ]
          refine hold_take 13 _ rfl (by kernel_rfl) (by kernel_rfl) (by kernel_rfl) (by kernel_rfl) (by kernel_rfl) (fun _ _ _ h => h) (by rfl) (fun _ => rfl) HS (fun w' hS => by obtain ⟨q0, q1, q2, q3, q4, q5, q6, q7, q8⟩ := hS; go_simp; try rfl) ?_
          simp only [Act.put, List.setIfInBounds_toArray, List.set_cons_zero, List.set_cons_succ]
          refine hold_take 14 (.bool true) rfl (by kernel_rfl) (by kernel_rfl) (by kernel_rfl) (by kernel_rfl) (by kernel_rfl) (fun _ _ _ h => h) (by rfl) (fun _ => rfl) HS (fun w' hS => by obtain ⟨q0, q1, q2, q3, q4, q5, q6, q7, q8⟩ := hS; go_simp; try rfl) ?_
          simp only [Act.put, List.setIfInBounds_toArray, List.set_cons_zero, List.set_cons_succ]
          refine hold_take 15 _ rfl (by kernel_rfl) (by kernel_rfl) (by kernel_rfl) (by kernel_rfl) (by kernel_rfl) (fun _ _ _ h => h) (by rfl) (fun _ => rfl) HS (fun w' hS => by obtain ⟨q0, q1, q2, q3, q4, q5, q6, q7, q8⟩ := hS; go_simp; try rfl) ?_
          simp only [Act.put, List.setIfInBounds_toArray, List.set_cons_zero, List.set_cons_succ]
          refine hold_take 16 _ rfl (by kernel_rfl) (by kernel_rfl) (by kernel_rfl) (by kernel_rfl) (by kernel_rfl) (fun _ _ _ h => h) (by rfl) (fun _ => rfl) HS (fun w' hS => by obtain ⟨q0, q1, q2, q3, q4, q5, q6, q7, q8⟩ := hS; go_simp; try rfl) ?_
          simp only [Act.put, List.setIfInBounds_toArray, List.set_cons_zero, List.set_cons_succ]
          refine hold_take 17 (.bool true) rfl (by kernel_rfl) (by kernel_rfl) (by kernel_rfl) (by kernel_rfl) (by kernel_rfl) (fun _ _ _ h => h) (by rfl) (fun _ => rfl) HS (fun w' hS => by obtain ⟨q0, q1, q2, q3, q4, q5, q6, q7, q8⟩ := hS; go_simp; try rfl) ?_
          simp only [Act.put, List.setIfInBounds_toArray, List.set_cons_zero, List.set_cons_succ]
          refine hold_take 18 (.bool true) rfl (by kernel_rfl) (by kernel_rfl) (by kernel_rfl) (by kernel_rfl) (by kernel_rfl) (fun _ _ _ h => h) (by rfl) (fun _ => rfl) HS (fun w' hS => by obtain ⟨q0, q1, q2, q3, q4, q5, q6, q7, q8⟩ := hS; go_simp; try rfl) ?_
          simp only [Act.put, List.setIfInBounds_toArray, List.set_cons_zero, List.set_cons_succ]
          refine hold_take 19 (.bool true) rfl (by kernel_rfl) (by kernel_rfl) (by kernel_rfl) (by kernel_rfl) (by kernel_rfl) (fun _ _ _ h => h) (by rfl) (fun _ => rfl) HS (fun w' hS => by obtain ⟨q0, q1, q2, q3, q4, q5, q6, q7, q8⟩ := hS; go_simp; try rfl) ?_
          simp only [Act.put, List.setIfInBounds_toArray, List.set_cons_zero, List.set_cons_succ]
          refine hold_take 20 (.bool true) rfl (by kernel_rfl) (by kernel_rfl) (by kernel_rfl) (by kernel_rfl) (by kernel_rfl) (fun _ _ _ h => h) (by rfl) (fun _ => rfl) HS (fun w' hS => by obtain ⟨q0, q1, q2, q3, q4, q5, q6, q7, q8⟩ := hS; go_simp; try rfl) ?_
          simp only [Act.put, List.setIfInBounds_toArray, List.set_cons_zero, List.set_cons_succ]
          refine hold_take 21 _ rfl (by kernel_rfl) (by kernel_rfl) (by kernel_rfl) (by kernel_rfl) (by kernel_rfl) (fun _ _ _ h => h) (by rfl) (fun _ => rfl) HS (fun w' hS => by obtain ⟨q0, q1, q2, q3, q4, q5, q6, q7, q8⟩ := hS; go_simp; try rfl) ?_
          simp only [Act.put, List.setIfInBounds_toArray, List.set_cons_zero, List.set_cons_succ]
          refine hold_take 22 _ rfl (by kernel_rfl) (by kernel_rfl) (by kernel_rfl) (by kernel_rfl) (by kernel_rfl) (fun _ _ _ h => h) (by rfl) (fun _ => rfl) HS (fun w' hS => by obtain ⟨q0, q1, q2, q3, q4, q5, q6, q7, q8⟩ := hS; go_simp; try rfl) ?_
          simp only [Act.put, List.setIfInBounds_toArray, List.set_cons_zero, List.set_cons_succ]
          refine hold_take 24 _ rfl (by kernel_rfl) (by kernel_rfl) (by kernel_rfl) (by kernel_rfl) (by kernel_rfl) (fun _ _ _ h => h) (by rfl) (fun _ => rfl) HS (fun w' hS => by obtain ⟨q0, q1, q2, q3, q4, q5, q6, q7, q8⟩ := hS; go_simp; try rfl) ?_
          simp only [Act.put, List.setIfInBounds_toArray, List.set_cons_zero, List.set_cons_succ]
          refine hold_take 25 (.bool true) rfl (by kernel_rfl) (by kernel_rfl) (by kernel_rfl) (by kernel_rfl) (by kernel_rfl) (fun _ _ _ h => h) (by rfl) (fun _ => rfl) HS (fun w' hS => by obtain ⟨q0, q1, q2, q3, q4, q5, q6, q7, q8⟩ := hS; go_simp; try rfl) ?_
          simp only [Act.put, List.setIfInBounds_toArray, List.set_cons_zero, List.set_cons_succ]
          refine hold_one 23 (by kernel_rfl) rfl (by rfl) fun K hK => ?_
          go_simp
          refine ⟨trivial, rfl, (callsIn_wide.2 (CM.out w4.drew)).mono ?_⟩
          rintro e w5 ⟨rfl, hb5⟩
          have hsd : w4.drew.heap.size = w4.heap.size := rfl
          have H5 := cover ((below_drewN H4.out 1).trans (hb5.mono (by omega)))
          have HS5 : (fun W' : World => (World.cell? W' ⟨w.heap.size, 0, none⟩ = some (.int .i64 p.to) ∧ World.cell? W' ⟨w.heap.size, 1, none⟩ = some (.int .i64 p.frm) ∧ World.cell? W' ⟨w.heap.size, 2, none⟩ = some (.bool p.resp) ∧ World.cell? W' ⟨w.heap.size, 3, none⟩ = some (.int .i64 p.form) ∧ World.cell? W' ⟨w.heap.size, 4, none⟩ = some (.int .i64 p.kind) ∧ World.cell? W' ⟨w.heap.size, 5, none⟩ = some (.int .i64 p.ns) ∧ World.cell? W' ⟨w.heap.size, 6, none⟩ = some (.int .i64 p.nr) ∧ World.cell? W' ⟨w.heap.size, 7, none⟩ = some (.bool p.poll) ∧ World.cell? W' ⟨w.heap.size, 8, none⟩ = some (.slice A p.info.length c))) w5 := pdu_cells ((hb5.block _ (by omega)).trans (show w4.drew.heap[w.heap.size]? = _ from G4.out))
          refine hK _ _ (.inr HS5) ?_
          clear hK K hb5 hsd
          refine hold_take 26 _ rfl (by kernel_rfl) (by kernel_rfl) (by kernel_rfl) (by kernel_rfl) (by kernel_rfl) (fun _ _ _ h => h) (by rfl) (fun _ => rfl) HS5 (fun w' hS => by obtain ⟨q0, q1, q2, q3, q4, q5, q6, q7, q8⟩ := hS; go_simp; try rfl) ?_
          simp only [Act.put, List.setIfInBounds_toArray, List.set_cons_zero, List.set_cons_succ]
          refine hold_take 27 _ rfl (by kernel_rfl) (by kernel_rfl) (by kernel_rfl) (by kernel_rfl) (by kernel_rfl) (fun _ _ _ h => h) (by rfl) (fun _ => rfl) HS5 (fun w' hS => by obtain ⟨q0, q1, q2, q3, q4, q5, q6, q7, q8⟩ := hS; go_simp; try rfl) ?_
          simp only [Act.put, List.setIfInBounds_toArray, List.set_cons_zero, List.set_cons_succ]
          refine hold_take 28 (.bool true) rfl (by kernel_rfl) (by kernel_rfl) (by kernel_rfl) (by kernel_rfl) (by kernel_rfl) (fun _ _ _ h => h) (by rfl) (fun _ => rfl) HS5 (fun w' hS => by obtain ⟨q0, q1, q2, q3, q4, q5, q6, q7, q8⟩ := hS; go_simp; try rfl) ?_
          simp only [Act.put, List.setIfInBounds_toArray, List.set_cons_zero, List.set_cons_succ]
          refine hold_take 29 (.bool false) rfl (by kernel_rfl) (by kernel_rfl) (by kernel_rfl) (by kernel_rfl) (by kernel_rfl) (fun _ _ _ h => h) (by rfl) (fun _ => rfl) HS5 (fun w' hS => by obtain ⟨q0, q1, q2, q3, q4, q5, q6, q7, q8⟩ := hS; go_simp; try rfl) ?_
          simp only [Act.put, List.setIfInBounds_toArray, List.set_cons_zero, List.set_cons_succ]
          refine hold_take 30 (.bool false) rfl (by kernel_rfl) (by kernel_rfl) (by kernel_rfl) (by kernel_rfl) (by kernel_rfl) (fun _ _ _ h => h) (by rfl) (fun _ => rfl) HS5 (fun w' hS => by obtain ⟨q0, q1, q2, q3, q4, q5, q6, q7, q8⟩ := hS; go_simp; try rfl) ?_
          simp only [Act.put, List.setIfInBounds_toArray, List.set_cons_zero, List.set_cons_succ]
          refine hold_one 31 (by kernel_rfl) rfl (by rfl) fun K hK => ?_
          go_simp
          refine hK _ _ (.inr HS5) ?_
          clear hK K
          refine hold_one 32 (by kernel_rfl) rfl (by rfl) fun K hK => ?_
          go_simp
          refine hK _ _ (.inr HS5) ?_
          clear hK K
          refine hold_one 33 (by kernel_rfl) rfl (by rfl) fun K hK => ?_
          go_simp
          refine hK _ _ (.inl rfl) (held_done (by kernel_rfl) ?_ _)
          clear hK K
          go_wp2
          go_ret
          exact ⟨rfl, H5.out⟩
    · rcases hp : p.poll with _ | _
      · obtain rfl : ak = false := by rw [hka, hp]; cases p.resp <;> rfl
        clear hka
        simp only [hp] at CM
        have mixed : Try.prog.follows .mixedOrders = true := by kernel_rfl
        refine (wpIn_wide (n := 0)).1 ?_
        refine held_begin (fun W' : World => (World.cell? W' ⟨w.heap.size, 0, none⟩ = some (.int .i64 p.to) ∧ World.cell? W' ⟨w.heap.size, 1, none⟩ = some (.int .i64 p.frm) ∧ World.cell? W' ⟨w.heap.size, 2, none⟩ = some (.bool p.resp) ∧ World.cell? W' ⟨w.heap.size, 3, none⟩ = some (.int .i64 p.form) ∧ World.cell? W' ⟨w.heap.size, 4, none⟩ = some (.int .i64 p.kind) ∧ World.cell? W' ⟨w.heap.size, 5, none⟩ = some (.int .i64 p.ns) ∧ World.cell? W' ⟨w.heap.size, 6, none⟩ = some (.int .i64 p.nr) ∧ World.cell? W' ⟨w.heap.size, 7, none⟩ = some (.bool p.poll) ∧ World.cell? W' ⟨w.heap.size, 8, none⟩ = some (.slice A p.info.length c))) 33 mixed ?_
        have HS : (fun W' : World => (World.cell? W' ⟨w.heap.size, 0, none⟩ = some (.int .i64 p.to) ∧ World.cell? W' ⟨w.heap.size, 1, none⟩ = some (.int .i64 p.frm) ∧ World.cell? W' ⟨w.heap.size, 2, none⟩ = some (.bool p.resp) ∧ World.cell? W' ⟨w.heap.size, 3, none⟩ = some (.int .i64 p.form) ∧ World.cell? W' ⟨w.heap.size, 4, none⟩ = some (.int .i64 p.kind) ∧ World.cell? W' ⟨w.heap.size, 5, none⟩ = some (.int .i64 p.ns) ∧ World.cell? W' ⟨w.heap.size, 6, none⟩ = some (.int .i64 p.nr) ∧ World.cell? W' ⟨w.heap.size, 7, none⟩ = some (.bool p.poll) ∧ World.cell? W' ⟨w.heap.size, 8, none⟩ = some (.slice A p.info.length c))) w4.drew := ⟨p0, p1, p2, p3, p4, p5, p6, p7, p8⟩
        refine hold_take 0 _ rfl (by kernel_rfl) (by kernel_rfl) (by kernel_rfl) (by kernel_rfl) (by kernel_rfl) (fun _ _ _ h => h) (by rfl) (fun _ => rfl) HS (fun w' hS => by obtain ⟨q0, q1, q2, q3, q4, q5, q6, q7, q8⟩ := hS; go_simp; try rfl) ?_
        simp only [Act.put, List.setIfInBounds_toArray, List.set_cons_zero, List.set_cons_succ]
        refine hold_take 1 (.bool false) rfl (by kernel_rfl) (by kernel_rfl) (by kernel_rfl) (by kernel_rfl) (by kernel_rfl) (fun _ _ _ h => h) (by rfl) (fun _ => rfl) HS (fun w' hS => by obtain ⟨q0, q1, q2, q3, q4, q5, q6, q7, q8⟩ := hS; go_simp; try rfl) ?_
        simp only [Act.put, List.setIfInBounds_toArray, List.set_cons_zero, List.set_cons_succ]
        refine hold_take 2 _ rfl (by kernel_rfl) (by kernel_rfl) (by kernel_rfl) (by kernel_rfl) (by kernel_rfl) (fun _ _ _ h => h) (by rfl) (fun _ => rfl) HS (fun w' hS => by obtain ⟨q0, q1, q2, q3, q4, q5, q6, q7, q8⟩ := hS; go_simp; try rfl) ?_
        simp only [Act.put, List.setIfInBounds_toArray, List.set_cons_zero, List.set_cons_succ]
        refine hold_take 3 (.bool true) rfl (by kernel_rfl) (by kernel_rfl) (by kernel_rfl) (by kernel_rfl) (by kernel_rfl) (fun _ _ _ h => h) (by rfl) (fun _ => rfl) HS (fun w' hS => by obtain ⟨q0, q1, q2, q3, q4, q5, q6, q7, q8⟩ := hS; go_simp; try rfl) ?_
        simp only [Act.put, List.setIfInBounds_toArray, List.set_cons_zero, List.set_cons_succ]
        refine hold_take 4 _ rfl (by kernel_rfl) (by kernel_rfl) (by kernel_rfl) (by kernel_rfl) (by kernel_rfl) (fun _ _ _ h => h) (by rfl) (fun _ => rfl) HS (fun w' hS => by obtain ⟨q0, q1, q2, q3, q4, q5, q6, q7, q8⟩ := hS; go_simp; try rfl) ?_
        simp only [Act.put, List.setIfInBounds_toArray, List.set_cons_zero, List.set_cons_succ]
        refine hold_take 5 _ rfl (by kernel_rfl) (by kernel_rfl) (by kernel_rfl) (by kernel_rfl) (by kernel_rfl) (fun _ _ _ h => h) (by rfl) (fun _ => rfl) HS (fun w' hS => by obtain ⟨q0, q1, q2, q3, q4, q5, q6, q7, q8⟩ := hS; go_simp; try rfl) ?_
        simp only [Act.put, List.setIfInBounds_toArray, List.set_cons_zero, List.set_cons_succ]
        refine hold_take 6 (.bool true) rfl (by kernel_rfl) (by kernel_rfl) (by kernel_rfl) (by kernel_rfl) (by kernel_rfl) (fun _ _ _ h => h) (by rfl) (fun _ => rfl) HS (fun w' hS => by obtain ⟨q0, q1, q2, q3, q4, q5, q6, q7, q8⟩ := hS; go_simp; try rfl) ?_
        simp only [Act.put, List.setIfInBounds_toArray, List.set_cons_zero, List.set_cons_succ]
        refine hold_take 7 _ rfl (by kernel_rfl) (by kernel_rfl) (by kernel_rfl) (by kernel_rfl) (by kernel_rfl) (fun _ _ _ h => h) (by rfl) (fun _ => rfl) HS (fun w' hS => by obtain ⟨q0, q1, q2, q3, q4, q5, q6, q7, q8⟩ := hS; go_simp; try rfl) ?_
        simp only [Act.put, List.setIfInBounds_toArray, List.set_cons_zero, List.set_cons_succ]
        refine hold_take 8 (.bool true) rfl (by kernel_rfl) (by kernel_rfl) (by kernel_rfl) (by kernel_rfl) (by kernel_rfl) (fun _ _ _ h => h) (by rfl) (fun _ => rfl) HS (fun w' hS => by obtain ⟨q0, q1, q2, q3, q4, q5, q6, q7, q8⟩ := hS; go_simp; try rfl) ?_
        simp only [Act.put, List.setIfInBounds_toArray, List.set_cons_zero, List.set_cons_succ]
        refine hold_take 9 (.bool true) rfl (by kernel_rfl) (by kernel_rfl) (by kernel_rfl) (by kernel_rfl) (by kernel_rfl) (fun _ _ _ h => h) (by rfl) (fun _ => rfl) HS (fun w' hS => by obtain ⟨q0, q1, q2, q3, q4, q5, q6, q7, q8⟩ := hS; go_simp; try rfl) ?_
        simp only [Act.put, List.setIfInBounds_toArray, List.set_cons_zero, List.set_cons_succ]
        refine hold_take 10 _ rfl (by kernel_rfl) (by kernel_rfl) (by kernel_rfl) (by kernel_rfl) (by kernel_rfl) (fun _ _ _ h => h) (by rfl) (fun _ => rfl) HS (fun w' hS => by obtain ⟨q0, q1, q2, q3, q4, q5, q6, q7, q8⟩ := hS; go_simp; try rfl) ?_
        simp only [Act.put, List.setIfInBounds_toArray, List.set_cons_zero, List.set_cons_succ]
        refine hold_take 11 _ rfl (by kernel_rfl) (by kernel_rfl) (by kernel_rfl) (by kernel_rfl) (by kernel_rfl) (fun _ _ _ h => h) (by rfl) (fun _ => rfl) HS (fun w' hS => by obtain ⟨q0, q1, q2, q3, q4, q5, q6, q7, q8⟩ := hS; go_simp; try rfl) ?_
        simp only [Act.put, List.setIfInBounds_toArray, List.set_cons_zero, List.set_cons_succ]
        refine hold_take 12 (.bool false) rfl (by kernel_rfl) (by kernel_rfl) (by kernel_rfl) (by kernel_rfl) (by kernel_rfl) (fun _ _ _ h => h) (by rfl) (fun _ => rfl) HS (fun w' hS => by obtain ⟨q0, q1, q2, q3, q4, q5, q6, q7, q8⟩ := hS; go_simp; try rfl) ?_
        simp only [Act.put, List.setIfInBounds_toArray, List.set_cons_zero, List.set_cons_succ]
        refine hold_take 13 _ rfl (by kernel_rfl) (by kernel_rfl) (by kernel_rfl) (by kernel_rfl) (by kernel_rfl) (fun _ _ _ h => h) (by rfl) (fun _ => rfl) HS (fun w' hS => by obtain ⟨q0, q1, q2, q3, q4, q5, q6, q7, q8⟩ := hS; go_simp; try rfl) ?_
        simp only [Act.put, List.setIfInBounds_toArray, List.set_cons_zero, List.set_cons_succ]
        refine hold_take 14 (.bool true) rfl (by kernel_rfl) (by kernel_rfl) (by kernel_rfl) (by kernel_rfl) (by kernel_rfl) (fun _ _ _ h => h) (by rfl) (fun _ => rfl) HS (fun w' hS => by obtain ⟨q0, q1, q2, q3, q4, q5, q6, q7, q8⟩ := hS; go_simp; try rfl) ?_
        simp only [Act.put, List.setIfInBounds_toArray, List.set_cons_zero, List.set_cons_succ]
        refine hold_take 15 _ rfl (by kernel_rfl) (by kernel_rfl) (by kernel_rfl) (by kernel_rfl) (by kernel_rfl) (fun _ _ _ h => h) (by rfl) (fun _ => rfl) HS (fun w' hS => by obtain ⟨q0, q1, q2, q3, q4, q5, q6, q7, q8⟩ := hS; go_simp; try rfl) ?_
        simp only [Act.put, List.setIfInBounds_toArray, List.set_cons_zero, List.set_cons_succ]
        refine hold_take 16 _ rfl (by kernel_rfl) (by kernel_rfl) (by kernel_rfl) (by kernel_rfl) (by kernel_rfl) (fun _ _ _ h => h) (by rfl) (fun _ => rfl) HS (fun w' hS => by obtain ⟨q0, q1, q2, q3, q4, q5, q6, q7, q8⟩ := hS; go_simp; try rfl) ?_
        simp only [Act.put, List.setIfInBounds_toArray, List.set_cons_zero, List.set_cons_succ]
        refine hold_take 17 (.bool false) rfl (by kernel_rfl) (by kernel_rfl) (by kernel_rfl) (by kernel_rfl) (by kernel_rfl) (fun _ _ _ h => h) (by rfl) (fun _ => rfl) HS (fun w' hS => by obtain ⟨q0, q1, q2, q3, q4, q5, q6, q7, q8⟩ := hS; go_simp; try rfl) ?_
        simp only [Act.put, List.setIfInBounds_toArray, List.set_cons_zero, List.set_cons_succ]
        refine hold_take 18 (.bool false) rfl (by kernel_rfl) (by kernel_rfl) (by kernel_rfl) (by kernel_rfl) (by kernel_rfl) (fun _ _ _ h => h) (by rfl) (fun _ => rfl) HS (fun w' hS => by obtain ⟨q0, q1, q2, q3, q4, q5, q6, q7, q8⟩ := hS; go_simp; try rfl) ?_
        simp only [Act.put, List.setIfInBounds_toArray, List.set_cons_zero, List.set_cons_succ]
        refine hold_take 19 (.bool true) rfl (by kernel_rfl) (by kernel_rfl) (by kernel_rfl) (by kernel_rfl) (by kernel_rfl) (fun _ _ _ h => h) (by rfl) (fun _ => rfl) HS (fun w' hS => by obtain ⟨q0, q1, q2, q3, q4, q5, q6, q7, q8⟩ := hS; go_simp; try rfl) ?_
        simp only [Act.put, List.setIfInBounds_toArray, List.set_cons_zero, List.set_cons_succ]
        refine hold_take 20 (.bool true) rfl (by kernel_rfl) (by kernel_rfl) (by kernel_rfl) (by kernel_rfl) (by kernel_rfl) (fun _ _ _ h => h) (by rfl) (fun _ => rfl) HS (fun w' hS => by obtain ⟨q0, q1, q2, q3, q4, q5, q6, q7, q8⟩ := hS; go_simp; try rfl) ?_
        simp only [Act.put, List.setIfInBounds_toArray, List.set_cons_zero, List.set_cons_succ]
        refine hold_take 21 _ rfl (by kernel_rfl) (by kernel_rfl) (by kernel_rfl) (by kernel_rfl) (by kernel_rfl) (fun _ _ _ h => h) (by rfl) (fun _ => rfl) HS (fun w' hS => by obtain ⟨q0, q1, q2, q3, q4, q5, q6, q7, q8⟩ := hS; go_simp; try rfl) ?_
        simp only [Act.put, List.setIfInBounds_toArray, List.set_cons_zero, List.set_cons_succ]
        refine hold_take 22 _ rfl (by kernel_rfl) (by kernel_rfl) (by kernel_rfl) (by kernel_rfl) (by kernel_rfl) (fun _ _ _ h => h) (by rfl) (fun _ => rfl) HS (fun w' hS => by obtain ⟨q0, q1, q2, q3, q4, q5, q6, q7, q8⟩ := hS; go_simp; try rfl) ?_
        simp only [Act.put, List.setIfInBounds_toArray, List.set_cons_zero, List.set_cons_succ]
        refine hold_take 24 _ rfl (by kernel_rfl) (by kernel_rfl) (by kernel_rfl) (by kernel_rfl) (by kernel_rfl) (fun _ _ _ h => h) (by rfl) (fun _ => rfl) HS (fun w' hS => by obtain ⟨q0, q1, q2, q3, q4, q5, q6, q7, q8⟩ := hS; go_simp; try rfl) ?_
        simp only [Act.put, List.setIfInBounds_toArray, List.set_cons_zero, List.set_cons_succ]
        refine hold_take 25 (.bool false) rfl (by kernel_rfl) (by kernel_rfl) (by kernel_rfl) (by kernel_rfl) (by kernel_rfl) (fun _ _ _ h => h) (by rfl) (fun _ => rfl) HS (fun w' hS => by obtain ⟨q0, q1, q2, q3, q4, q5, q6, q7, q8⟩ := hS; go_simp; try rfl) ?_
        simp only [Act.put, List.setIfInBounds_toArray, List.set_cons_zero, List.set_cons_succ]
        refine hold_one 23 (by kernel_rfl) rfl (by rfl) fun K hK => ?_
        go_simp
        refine ⟨trivial, rfl, (callsIn_wide.2 (CM.out w4.drew)).mono ?_⟩
        rintro e w5 ⟨rfl, hb5⟩
        have hsd : w4.drew.heap.size = w4.heap.size := rfl
        have H5 := cover ((below_drewN H4.out 1).trans (hb5.mono (by omega)))
        have HS5 : (fun W' : World => (World.cell? W' ⟨w.heap.size, 0, none⟩ = some (.int .i64 p.to) ∧ World.cell? W' ⟨w.heap.size, 1, none⟩ = some (.int .i64 p.frm) ∧ World.cell? W' ⟨w.heap.size, 2, none⟩ = some (.bool p.resp) ∧ World.cell? W' ⟨w.heap.size, 3, none⟩ = some (.int .i64 p.form) ∧ World.cell? W' ⟨w.heap.size, 4, none⟩ = some (.int .i64 p.kind) ∧ World.cell? W' ⟨w.heap.size, 5, none⟩ = some (.int .i64 p.ns) ∧ World.cell? W' ⟨w.heap.size, 6, none⟩ = some (.int .i64 p.nr) ∧ World.cell? W' ⟨w.heap.size, 7, none⟩ = some (.bool p.poll) ∧ World.cell? W' ⟨w.heap.size, 8, none⟩ = some (.slice A p.info.length c))) w5 := pdu_cells ((hb5.block _ (by omega)).trans (show w4.drew.heap[w.heap.size]? = _ from G4.out))
        refine hK _ _ (.inr HS5) ?_
        clear hK K hb5 hsd
        refine hold_take 26 _ rfl (by kernel_rfl) (by kernel_rfl) (by kernel_rfl) (by kernel_rfl) (by kernel_rfl) (fun _ _ _ h => h) (by rfl) (fun _ => rfl) HS5 (fun w' hS => by obtain ⟨q0, q1, q2, q3, q4, q5, q6, q7, q8⟩ := hS; go_simp; try rfl) ?_
        simp only [Act.put, List.setIfInBounds_toArray, List.set_cons_zero, List.set_cons_succ]
        refine hold_skip 27 rfl (by kernel_rfl) (by kernel_rfl) (by kernel_rfl) (by kernel_rfl) (by kernel_rfl) (fun _ _ _ h => h) (by rfl) (fun _ => rfl) HS5 ?_
        simp only [Act.put, List.setIfInBounds_toArray, List.set_cons_zero, List.set_cons_succ]
        refine hold_skip 28 rfl (by kernel_rfl) (by kernel_rfl) (by kernel_rfl) (by kernel_rfl) (by kernel_rfl) (fun _ _ _ h => h) (by rfl) (fun _ => rfl) HS5 ?_
        simp only [Act.put, List.setIfInBounds_toArray, List.set_cons_zero, List.set_cons_succ]
        refine hold_skip 29 rfl (by kernel_rfl) (by kernel_rfl) (by kernel_rfl) (by kernel_rfl) (by kernel_rfl) (fun _ _ _ h => h) (by rfl) (fun _ => rfl) HS5 ?_
        simp only [Act.put, List.setIfInBounds_toArray, List.set_cons_zero, List.set_cons_succ]
        refine hold_take 30 (.bool false) rfl (by kernel_rfl) (by kernel_rfl) (by kernel_rfl) (by kernel_rfl) (by kernel_rfl) (fun _ _ _ h => h) (by rfl) (fun _ => rfl) HS5 (fun w' hS => by obtain ⟨q0, q1, q2, q3, q4, q5, q6, q7, q8⟩ := hS; go_simp; try rfl) ?_
        simp only [Act.put, List.setIfInBounds_toArray, List.set_cons_zero, List.set_cons_succ]
        refine hold_one 31 (by kernel_rfl) rfl (by rfl) fun K hK => ?_
        go_simp
        refine hK _ _ (.inr HS5) ?_
        clear hK K
        refine hold_one 32 (by kernel_rfl) rfl (by rfl) fun K hK => ?_
        go_simp
        refine hK _ _ (.inr HS5) ?_
        clear hK K
        refine hold_one 33 (by kernel_rfl) rfl (by rfl) fun K hK => ?_
        go_simp
        refine hK _ _ (.inl rfl) (held_done (by kernel_rfl) ?_ _)
        clear hK K
        go_wp2
        go_ret
        exact ⟨rfl, H5.out⟩
      · rcases hr : p.resp with _ | _
        · obtain rfl : ak = true := by rw [hka, hp, hr]; rfl
          clear hka
          simp only [hp, hr] at CM
          have mixed : Try.prog.follows .mixedOrders = true := by kernel_rfl
          refine (wpIn_wide (n := 0)).1 ?_
          refine held_begin (fun W' : World => (World.cell? W' ⟨w.heap.size, 0, none⟩ = some (.int .i64 p.to) ∧ World.cell? W' ⟨w.heap.size, 1, none⟩ = some (.int .i64 p.frm) ∧ World.cell? W' ⟨w.heap.size, 2, none⟩ = some (.bool p.resp) ∧ World.cell? W' ⟨w.heap.size, 3, none⟩ = some (.int .i64 p.form) ∧ World.cell? W' ⟨w.heap.size, 4, none⟩ = some (.int .i64 p.kind) ∧ World.cell? W' ⟨w.heap.size, 5, none⟩ = some (.int .i64 p.ns) ∧ World.cell? W' ⟨w.heap.size, 6, none⟩ = some (.int .i64 p.nr) ∧ World.cell? W' ⟨w.heap.size, 7, none⟩ = some (.bool p.poll) ∧ World.cell? W' ⟨w.heap.size, 8, none⟩ = some (.slice A p.info.length c))) 33 mixed ?_
          have HS : (fun W' : World => (World.cell? W' ⟨w.heap.size, 0, none⟩ = some (.int .i64 p.to) ∧ World.cell? W' ⟨w.heap.size, 1, none⟩ = some (.int .i64 p.frm) ∧ World.cell? W' ⟨w.heap.size, 2, none⟩ = some (.bool p.resp) ∧ World.cell? W' ⟨w.heap.size, 3, none⟩ = some (.int .i64 p.form) ∧ World.cell? W' ⟨w.heap.size, 4, none⟩ = some (.int .i64 p.kind) ∧ World.cell? W' ⟨w.heap.size, 5, none⟩ = some (.int .i64 p.ns) ∧ World.cell? W' ⟨w.heap.size, 6, none⟩ = some (.int .i64 p.nr) ∧ World.cell? W' ⟨w.heap.size, 7, none⟩ = some (.bool p.poll) ∧ World.cell? W' ⟨w.heap.size, 8, none⟩ = some (.slice A p.info.length c))) w4.drew := ⟨p0, p1, p2, p3, p4, p5, p6, p7, p8⟩
          refine hold_take 0 _ rfl (by kernel_rfl) (by kernel_rfl) (by kernel_rfl) (by kernel_rfl) (by kernel_rfl) (fun _ _ _ h => h) (by rfl) (fun _ => rfl) HS (fun w' hS => by obtain ⟨q0, q1, q2, q3, q4, q5, q6, q7, q8⟩ := hS; go_simp; try rfl) ?_
          simp only [Act.put, List.setIfInBounds_toArray, List.set_cons_zero, List.set_cons_succ]
          refine hold_take 1 (.bool false) rfl (by kernel_rfl) (by kernel_rfl) (by kernel_rfl) (by kernel_rfl) (by kernel_rfl) (fun _ _ _ h => h) (by rfl) (fun _ => rfl) HS (fun w' hS => by obtain ⟨q0, q1, q2, q3, q4, q5, q6, q7, q8⟩ := hS; go_simp; try rfl) ?_
          simp only [Act.put, List.setIfInBounds_toArray, List.set_cons_zero, List.set_cons_succ]
          refine hold_take 2 _ rfl (by kernel_rfl) (by kernel_rfl) (by kernel_rfl) (by kernel_rfl) (by kernel_rfl) (fun _ _ _ h => h) (by rfl) (fun _ => rfl) HS (fun w' hS => by obtain ⟨q0, q1, q2, q3, q4, q5, q6, q7, q8⟩ := hS; go_simp; try rfl) ?_
          simp only [Act.put, List.setIfInBounds_toArray, List.set_cons_zero, List.set_cons_succ]
          refine hold_take 3 (.bool true) rfl (by kernel_rfl) (by kernel_rfl) (by kernel_rfl) (by kernel_rfl) (by kernel_rfl) (fun _ _ _ h => h) (by rfl) (fun _ => rfl) HS (fun w' hS => by obtain ⟨q0, q1, q2, q3, q4, q5, q6, q7, q8⟩ := hS; go_simp; try rfl) ?_
          simp only [Act.put, List.setIfInBounds_toArray, List.set_cons_zero, List.set_cons_succ]
          refine hold_take 4 _ rfl (by kernel_rfl) (by kernel_rfl) (by kernel_rfl) (by kernel_rfl) (by kernel_rfl) (fun _ _ _ h => h) (by rfl) (fun _ => rfl) HS (fun w' hS => by obtain ⟨q0, q1, q2, q3, q4, q5, q6, q7, q8⟩ := hS; go_simp; try rfl) ?_
          simp only [Act.put, List.setIfInBounds_toArray, List.set_cons_zero, List.set_cons_succ]
          refine hold_take 5 _ rfl (by kernel_rfl) (by kernel_rfl) (by kernel_rfl) (by kernel_rfl) (by kernel_rfl) (fun _ _ _ h => h) (by rfl) (fun _ => rfl) HS (fun w' hS => by obtain ⟨q0, q1, q2, q3, q4, q5, q6, q7, q8⟩ := hS; go_simp; try rfl) ?_
          simp only [Act.put, List.setIfInBounds_toArray, List.set_cons_zero, List.set_cons_succ]
          refine hold_take 6 (.bool true) rfl (by kernel_rfl) (by kernel_rfl) (by kernel_rfl) (by kernel_rfl) (by kernel_rfl) (fun _ _ _ h => h) (by rfl) (fun _ => rfl) HS (fun w' hS => by obtain ⟨q0, q1, q2, q3, q4, q5, q6, q7, q8⟩ := hS; go_simp; try rfl) ?_
          simp only [Act.put, List.setIfInBounds_toArray, List.set_cons_zero, List.set_cons_succ]
          refine hold_take 7 _ rfl (by kernel_rfl) (by kernel_rfl) (by kernel_rfl) (by kernel_rfl) (by kernel_rfl) (fun _ _ _ h => h) (by rfl) (fun _ => rfl) HS (fun w' hS => by obtain ⟨q0, q1, q2, q3, q4, q5, q6, q7, q8⟩ := hS; go_simp; try rfl) ?_
          simp only [Act.put, List.setIfInBounds_toArray, List.set_cons_zero, List.set_cons_succ]
          refine hold_take 8 (.bool true) rfl (by kernel_rfl) (by kernel_rfl) (by kernel_rfl) (by kernel_rfl) (by kernel_rfl) (fun _ _ _ h => h) (by rfl) (fun _ => rfl) HS (fun w' hS => by obtain ⟨q0, q1, q2, q3, q4, q5, q6, q7, q8⟩ := hS; go_simp; try rfl) ?_
          simp only [Act.put, List.setIfInBounds_toArray, List.set_cons_zero, List.set_cons_succ]
          refine hold_take 9 (.bool true) rfl (by kernel_rfl) (by kernel_rfl) (by kernel_rfl) (by kernel_rfl) (by kernel_rfl) (fun _ _ _ h => h) (by rfl) (fun _ => rfl) HS (fun w' hS => by obtain ⟨q0, q1, q2, q3, q4, q5, q6, q7, q8⟩ := hS; go_simp; try rfl) ?_
          simp only [Act.put, List.setIfInBounds_toArray, List.set_cons_zero, List.set_cons_succ]
          refine hold_take 10 _ rfl (by kernel_rfl) (by kernel_rfl) (by kernel_rfl) (by kernel_rfl) (by kernel_rfl) (fun _ _ _ h => h) (by rfl) (fun _ => rfl) HS (fun w' hS => by obtain ⟨q0, q1, q2, q3, q4, q5, q6, q7, q8⟩ := hS; go_simp; try rfl) ?_
          simp only [Act.put, List.setIfInBounds_toArray, List.set_cons_zero, List.set_cons_succ]
          refine hold_take 11 _ rfl (by kernel_rfl) (by kernel_rfl) (by kernel_rfl) (by kernel_rfl) (by kernel_rfl) (fun _ _ _ h => h) (by rfl) (fun _ => rfl) HS (fun w' hS => by obtain ⟨q0, q1, q2, q3, q4, q5, q6, q7, q8⟩ := hS; go_simp; try rfl) ?_
          simp only [Act.put, List.setIfInBounds_toArray, List.set_cons_zero, List.set_cons_succ]
          refine hold_take 12 (.bool false) rfl (by kernel_rfl) (by kernel_rfl) (by kernel_rfl) (by kernel_rfl) (by kernel_rfl) (fun _ _ _ h => h) (by rfl) (fun _ => rfl) HS (fun w' hS => by obtain ⟨q0, q1, q2, q3, q4, q5, q6, q7, q8⟩ := hS; go_simp; try rfl) ?_
          simp only [Act.put, List.setIfInBounds_toArray, List.set_cons_zero, List.set_cons_succ]
          refine hold_take 13 _ rfl (by kernel_rfl) (by kernel_rfl) (by kernel_rfl) (by kernel_rfl) (by kernel_rfl) (fun _ _ _ h => h) (by rfl) (fun _ => rfl) HS (fun w' hS => by obtain ⟨q0, q1, q2, q3, q4, q5, q6, q7, q8⟩ := hS; go_simp; try rfl) ?_
          simp only [Act.put, List.setIfInBounds_toArray, List.set_cons_zero, List.set_cons_succ]
          refine hold_take 14 (.bool true) rfl (by kernel_rfl) (by kernel_rfl) (by kernel_rfl) (by kernel_rfl) (by kernel_rfl) (fun _ _ _ h => h) (by rfl) (fun _ => rfl) HS (fun w' hS => by obtain ⟨q0, q1, q2, q3, q4, q5, q6, q7, q8⟩ := hS; go_simp; try rfl) ?_
          simp only [Act.put, List.setIfInBounds_toArray, List.set_cons_zero, List.set_cons_succ]
          refine hold_take 15 _ rfl (by kernel_rfl) (by kernel_rfl) (by kernel_rfl) (by kernel_rfl) (by kernel_rfl) (fun _ _ _ h => h) (by rfl) (fun _ => rfl) HS (fun w' hS => by obtain ⟨q0, q1, q2, q3, q4, q5, q6, q7, q8⟩ := hS; go_simp; try rfl) ?_
          simp only [Act.put, List.setIfInBounds_toArray, List.set_cons_zero, List.set_cons_succ]
          refine hold_take 16 _ rfl (by kernel_rfl) (by kernel_rfl) (by kernel_rfl) (by kernel_rfl) (by kernel_rfl) (fun _ _ _ h => h) (by rfl) (fun _ => rfl) HS (fun w' hS => by obtain ⟨q0, q1, q2, q3, q4, q5, q6, q7, q8⟩ := hS; go_simp; try rfl) ?_
          simp only [Act.put, List.setIfInBounds_toArray, List.set_cons_zero, List.set_cons_succ]
          refine hold_take 17 (.bool false) rfl (by kernel_rfl) (by kernel_rfl) (by kernel_rfl) (by kernel_rfl) (by kernel_rfl) (fun _ _ _ h => h) (by rfl) (fun _ => rfl) HS (fun w' hS => by obtain ⟨q0, q1, q2, q3, q4, q5, q6, q7, q8⟩ := hS; go_simp; try rfl) ?_
          simp only [Act.put, List.setIfInBounds_toArray, List.set_cons_zero, List.set_cons_succ]
          refine hold_take 18 (.bool false) rfl (by kernel_rfl) (by kernel_rfl) (by kernel_rfl) (by kernel_rfl) (by kernel_rfl) (fun _ _ _ h => h) (by rfl) (fun _ => rfl) HS (fun w' hS => by obtain ⟨q0, q1, q2, q3, q4, q5, q6, q7, q8⟩ := hS; go_simp; try rfl) ?_
          simp only [Act.put, List.setIfInBounds_toArray, List.set_cons_zero, List.set_cons_succ]
          refine hold_take 19 (.bool true) rfl (by kernel_rfl) (by kernel_rfl) (by kernel_rfl) (by kernel_rfl) (by kernel_rfl) (fun _ _ _ h => h) (by rfl) (fun _ => rfl) HS (fun w' hS => by obtain ⟨q0, q1, q2, q3, q4, q5, q6, q7, q8⟩ := hS; go_simp; try rfl) ?_
          simp only [Act.put, List.setIfInBounds_toArray, List.set_cons_zero, List.set_cons_succ]
          refine hold_take 20 (.bool true) rfl (by kernel_rfl) (by kernel_rfl) (by kernel_rfl) (by kernel_rfl) (by kernel_rfl) (fun _ _ _ h => h) (by rfl) (fun _ => rfl) HS (fun w' hS => by obtain ⟨q0, q1, q2, q3, q4, q5, q6, q7, q8⟩ := hS; go_simp; try rfl) ?_
          simp only [Act.put, List.setIfInBounds_toArray, List.set_cons_zero, List.set_cons_succ]
          refine hold_take 21 _ rfl (by kernel_rfl) (by kernel_rfl) (by kernel_rfl) (by kernel_rfl) (by kernel_rfl) (fun _ _ _ h => h) (by rfl) (fun _ => rfl) HS (fun w' hS => by obtain ⟨q0, q1, q2, q3, q4, q5, q6, q7, q8⟩ := hS; go_simp; try rfl) ?_
          simp only [Act.put, List.setIfInBounds_toArray, List.set_cons_zero, List.set_cons_succ]
          refine hold_take 22 _ rfl (by kernel_rfl) (by kernel_rfl) (by kernel_rfl) (by kernel_rfl) (by kernel_rfl) (fun _ _ _ h => h) (by rfl) (fun _ => rfl) HS (fun w' hS => by obtain ⟨q0, q1, q2, q3, q4, q5, q6, q7, q8⟩ := hS; go_simp; try rfl) ?_
          simp only [Act.put, List.setIfInBounds_toArray, List.set_cons_zero, List.set_cons_succ]
          refine hold_take 24 _ rfl (by kernel_rfl) (by kernel_rfl) (by kernel_rfl) (by kernel_rfl) (by kernel_rfl) (fun _ _ _ h => h) (by rfl) (fun _ => rfl) HS (fun w' hS => by obtain ⟨q0, q1, q2, q3, q4, q5, q6, q7, q8⟩ := hS; go_simp; try rfl) ?_
          simp only [Act.put, List.setIfInBounds_toArray, List.set_cons_zero, List.set_cons_succ]
          refine hold_take 25 (.bool true) rfl (by kernel_rfl) (by kernel_rfl) (by kernel_rfl) (by kernel_rfl) (by kernel_rfl) (fun _ _ _ h => h) (by rfl) (fun _ => rfl) HS (fun w' hS => by obtain ⟨q0, q1, q2, q3, q4, q5, q6, q7, q8⟩ := hS; go_simp; try rfl) ?_
          simp only [Act.put, List.setIfInBounds_toArray, List.set_cons_zero, List.set_cons_succ]
          refine hold_one 23 (by kernel_rfl) rfl (by rfl) fun K hK => ?_
          go_simp
          refine ⟨trivial, rfl, (callsIn_wide.2 (CM.out w4.drew)).mono ?_⟩
          rintro e w5 ⟨rfl, hb5⟩
          have hsd : w4.drew.heap.size = w4.heap.size := rfl
          have H5 := cover ((below_drewN H4.out 1).trans (hb5.mono (by omega)))
          have HS5 : (fun W' : World => (World.cell? W' ⟨w.heap.size, 0, none⟩ = some (.int .i64 p.to) ∧ World.cell? W' ⟨w.heap.size, 1, none⟩ = some (.int .i64 p.frm) ∧ World.cell? W' ⟨w.heap.size, 2, none⟩ = some (.bool p.resp) ∧ World.cell? W' ⟨w.heap.size, 3, none⟩ = some (.int .i64 p.form) ∧ World.cell? W' ⟨w.heap.size, 4, none⟩ = some (.int .i64 p.kind) ∧ World.cell? W' ⟨w.heap.size, 5, none⟩ = some (.int .i64 p.ns) ∧ World.cell? W' ⟨w.heap.size, 6, none⟩ = some (.int .i64 p.nr) ∧ World.cell? W' ⟨w.heap.size, 7, none⟩ = some (.bool p.poll) ∧ World.cell? W' ⟨w.heap.size, 8, none⟩ = some (.slice A p.info.length c))) w5 := pdu_cells ((hb5.block _ (by omega)).trans (show w4.drew.heap[w.heap.size]? = _ from G4.out))
          refine hK _ _ (.inr HS5) ?_
          clear hK K hb5 hsd
          refine hold_take 26 _ rfl (by kernel_rfl) (by kernel_rfl) (by kernel_rfl) (by kernel_rfl) (by kernel_rfl) (fun _ _ _ h => h) (by rfl) (fun _ => rfl) HS5 (fun w' hS => by obtain ⟨q0, q1, q2, q3, q4, q5, q6, q7, q8⟩ := hS; go_simp; try rfl) ?_
          simp only [Act.put, List.setIfInBounds_toArray, List.set_cons_zero, List.set_cons_succ]
          refine hold_take 27 _ rfl (by kernel_rfl) (by kernel_rfl) (by kernel_rfl) (by kernel_rfl) (by kernel_rfl) (fun _ _ _ h => h) (by rfl) (fun _ => rfl) HS5 (fun w' hS => by obtain ⟨q0, q1, q2, q3, q4, q5, q6, q7, q8⟩ := hS; go_simp; try rfl) ?_
          simp only [Act.put, List.setIfInBounds_toArray, List.set_cons_zero, List.set_cons_succ]
          refine hold_take 28 (.bool false) rfl (by kernel_rfl) (by kernel_rfl) (by kernel_rfl) (by kernel_rfl) (by kernel_rfl) (fun _ _ _ h => h) (by rfl) (fun _ => rfl) HS5 (fun w' hS => by obtain ⟨q0, q1, q2, q3, q4, q5, q6, q7, q8⟩ := hS; go_simp; try rfl) ?_
          simp only [Act.put, List.setIfInBounds_toArray, List.set_cons_zero, List.set_cons_succ]
          refine hold_take 29 (.bool true) rfl (by kernel_rfl) (by kernel_rfl) (by kernel_rfl) (by kernel_rfl) (by kernel_rfl) (fun _ _ _ h => h) (by rfl) (fun _ => rfl) HS5 (fun w' hS => by obtain ⟨q0, q1, q2, q3, q4, q5, q6, q7, q8⟩ := hS; go_simp; try rfl) ?_
          simp only [Act.put, List.setIfInBounds_toArray, List.set_cons_zero, List.set_cons_succ]
          refine hold_take 30 (.bool true) rfl (by kernel_rfl) (by kernel_rfl) (by kernel_rfl) (by kernel_rfl) (by kernel_rfl) (fun _ _ _ h => h) (by rfl) (fun _ => rfl) HS5 (fun w' hS => by obtain ⟨q0, q1, q2, q3, q4, q5, q6, q7, q8⟩ := hS; go_simp; try rfl) ?_
          simp only [Act.put, List.setIfInBounds_toArray, List.set_cons_zero, List.set_cons_succ]
          refine hold_one 31 (by kernel_rfl) rfl (by rfl) fun K hK => ?_
          go_simp
          refine hK _ _ (.inr HS5) ?_
          clear hK K
          refine hold_one 32 (by kernel_rfl) rfl (by rfl) fun K hK => ?_
          go_simp
          refine hK _ _ (.inr HS5) ?_
          clear hK K
          refine hold_one 33 (by kernel_rfl) rfl (by rfl) fun K hK => ?_
          go_simp
          refine hK _ _ (.inl rfl) (held_done (by kernel_rfl) ?_ _)
          clear hK K
          go_wp2
          go_ret
          exact ⟨rfl, H5.out⟩
        · obtain rfl : ak = false := by rw [hka, hp, hr]; rfl
          clear hka
          simp only [hp, hr] at CM
          have mixed : Try.prog.follows .mixedOrders = true := by kernel_rfl
          refine (wpIn_wide (n := 0)).1 ?_
          refine held_begin (fun W' : World => (World.cell? W' ⟨w.heap.size, 0, none⟩ = some (.int .i64 p.to) ∧ World.cell? W' ⟨w.heap.size, 1, none⟩ = some (.int .i64 p.frm) ∧ World.cell? W' ⟨w.heap.size, 2, none⟩ = some (.bool p.resp) ∧ World.cell? W' ⟨w.heap.size, 3, none⟩ = some (.int .i64 p.form) ∧ World.cell? W' ⟨w.heap.size, 4, none⟩ = some (.int .i64 p.kind) ∧ World.cell? W' ⟨w.heap.size, 5, none⟩ = some (.int .i64 p.ns) ∧ World.cell? W' ⟨w.heap.size, 6, none⟩ = some (.int .i64 p.nr) ∧ World.cell? W' ⟨w.heap.size, 7, none⟩ = some (.bool p.poll) ∧ World.cell? W' ⟨w.heap.size, 8, none⟩ = some (.slice A p.info.length c))) 33 mixed ?_
          have HS : (fun W' : World => (World.cell? W' ⟨w.heap.size, 0, none⟩ = some (.int .i64 p.to) ∧ World.cell? W' ⟨w.heap.size, 1, none⟩ = some (.int .i64 p.frm) ∧ World.cell? W' ⟨w.heap.size, 2, none⟩ = some (.bool p.resp) ∧ World.cell? W' ⟨w.heap.size, 3, none⟩ = some (.int .i64 p.form) ∧ World.cell? W' ⟨w.heap.size, 4, none⟩ = some (.int .i64 p.kind) ∧ World.cell? W' ⟨w.heap.size, 5, none⟩ = some (.int .i64 p.ns) ∧ World.cell? W' ⟨w.heap.size, 6, none⟩ = some (.int .i64 p.nr) ∧ World.cell? W' ⟨w.heap.size, 7, none⟩ = some (.bool p.poll) ∧ World.cell? W' ⟨w.heap.size, 8, none⟩ = some (.slice A p.info.length c))) w4.drew := ⟨p0, p1, p2, p3, p4, p5, p6, p7, p8⟩
          refine hold_take 0 _ rfl (by kernel_rfl) (by kernel_rfl) (by kernel_rfl) (by kernel_rfl) (by kernel_rfl) (fun _ _ _ h => h) (by rfl) (fun _ => rfl) HS (fun w' hS => by obtain ⟨q0, q1, q2, q3, q4, q5, q6, q7, q8⟩ := hS; go_simp; try rfl) ?_
          simp only [Act.put, List.setIfInBounds_toArray, List.set_cons_zero, List.set_cons_succ]
          refine hold_take 1 (.bool false) rfl (by kernel_rfl) (by kernel_rfl) (by kernel_rfl) (by kernel_rfl) (by kernel_rfl) (fun _ _ _ h => h) (by rfl) (fun _ => rfl) HS (fun w' hS => by obtain ⟨q0, q1, q2, q3, q4, q5, q6, q7, q8⟩ := hS; go_simp; try rfl) ?_
          simp only [Act.put, List.setIfInBounds_toArray, List.set_cons_zero, List.set_cons_succ]
          refine hold_take 2 _ rfl (by kernel_rfl) (by kernel_rfl) (by kernel_rfl) (by kernel_rfl) (by kernel_rfl) (fun _ _ _ h => h) (by rfl) (fun _ => rfl) HS (fun w' hS => by obtain ⟨q0, q1, q2, q3, q4, q5, q6, q7, q8⟩ := hS; go_simp; try rfl) ?_
          simp only [Act.put, List.setIfInBounds_toArray, List.set_cons_zero, List.set_cons_succ]
          refine hold_take 3 (.bool true) rfl (by kernel_rfl) (by kernel_rfl) (by kernel_rfl) (by kernel_rfl) (by kernel_rfl) (fun _ _ _ h => h) (by rfl) (fun _ => rfl) HS (fun w' hS => by obtain ⟨q0, q1, q2, q3, q4, q5, q6, q7, q8⟩ := hS; go_simp; try rfl) ?_
          simp only [Act.put, List.setIfInBounds_toArray, List.set_cons_zero, List.set_cons_succ]
          refine hold_take 4 _ rfl (by kernel_rfl) (by kernel_rfl) (by kernel_rfl) (by kernel_rfl) (by kernel_rfl) (fun _ _ _ h => h) (by rfl) (fun _ => rfl) HS (fun w' hS => by obtain ⟨q0, q1, q2, q3, q4, q5, q6, q7, q8⟩ := hS; go_simp; try rfl) ?_
          simp only [Act.put, List.setIfInBounds_toArray, List.set_cons_zero, List.set_cons_succ]
          refine hold_take 5 _ rfl (by kernel_rfl) (by kernel_rfl) (by kernel_rfl) (by kernel_rfl) (by kernel_rfl) (fun _ _ _ h => h) (by rfl) (fun _ => rfl) HS (fun w' hS => by obtain ⟨q0, q1, q2, q3, q4, q5, q6, q7, q8⟩ := hS; go_simp; try rfl) ?_
          simp only [Act.put, List.setIfInBounds_toArray, List.set_cons_zero, List.set_cons_succ]
          refine hold_take 6 (.bool true) rfl (by kernel_rfl) (by kernel_rfl) (by kernel_rfl) (by kernel_rfl) (by kernel_rfl) (fun _ _ _ h => h) (by rfl) (fun _ => rfl) HS (fun w' hS => by obtain ⟨q0, q1, q2, q3, q4, q5, q6, q7, q8⟩ := hS; go_simp; try rfl) ?_
          simp only [Act.put, List.setIfInBounds_toArray, List.set_cons_zero, List.set_cons_succ]
          refine hold_take 7 _ rfl (by kernel_rfl) (by kernel_rfl) (by kernel_rfl) (by kernel_rfl) (by kernel_rfl) (fun _ _ _ h => h) (by rfl) (fun _ => rfl) HS (fun w' hS => by obtain ⟨q0, q1, q2, q3, q4, q5, q6, q7, q8⟩ := hS; go_simp; try rfl) ?_
          simp only [Act.put, List.setIfInBounds_toArray, List.set_cons_zero, List.set_cons_succ]
          refine hold_take 8 (.bool true) rfl (by kernel_rfl) (by kernel_rfl) (by kernel_rfl) (by kernel_rfl) (by kernel_rfl) (fun _ _ _ h => h) (by rfl) (fun _ => rfl) HS (fun w' hS => by obtain ⟨q0, q1, q2, q3, q4, q5, q6, q7, q8⟩ := hS; go_simp; try rfl) ?_
          simp only [Act.put, List.setIfInBounds_toArray, List.set_cons_zero, List.set_cons_succ]
          refine hold_take 9 (.bool true) rfl (by kernel_rfl) (by kernel_rfl) (by kernel_rfl) (by kernel_rfl) (by kernel_rfl) (fun _ _ _ h => h) (by rfl) (fun _ => rfl) HS (fun w' hS => by obtain ⟨q0, q1, q2, q3, q4, q5, q6, q7, q8⟩ := hS; go_simp; try rfl) ?_
          simp only [Act.put, List.setIfInBounds_toArray, List.set_cons_zero, List.set_cons_succ]
          refine hold_take 10 _ rfl (by kernel_rfl) (by kernel_rfl) (by kernel_rfl) (by kernel_rfl) (by kernel_rfl) (fun _ _ _ h => h) (by rfl) (fun _ => rfl) HS (fun w' hS => by obtain ⟨q0, q1, q2, q3, q4, q5, q6, q7, q8⟩ := hS; go_simp; try rfl) ?_
          simp only [Act.put, List.setIfInBounds_toArray, List.set_cons_zero, List.set_cons_succ]
          refine hold_take 11 _ rfl (by kernel_rfl) (by kernel_rfl) (by kernel_rfl) (by kernel_rfl) (by kernel_rfl) (fun _ _ _ h => h) (by rfl) (fun _ => rfl) HS (fun w' hS => by obtain ⟨q0, q1, q2, q3, q4, q5, q6, q7, q8⟩ := hS; go_simp; try rfl) ?_
          simp only [Act.put, List.setIfInBounds_toArray, List.set_cons_zero, List.set_cons_succ]
          refine hold_take 12 (.bool false) rfl (by kernel_rfl) (by kernel_rfl) (by kernel_rfl) (by kernel_rfl) (by kernel_rfl) (fun _ _ _ h => h) (by rfl) (fun _ => rfl) HS (fun w' hS => by obtain ⟨q0, q1, q2, q3, q4, q5, q6, q7, q8⟩ := hS; go_simp; try rfl) ?_
          simp only [Act.put, List.setIfInBounds_toArray, List.set_cons_zero, List.set_cons_succ]
          refine hold_take 13 _ rfl (by kernel_rfl) (by kernel_rfl) (by kernel_rfl) (by kernel_rfl) (by kernel_rfl) (fun _ _ _ h => h) (by rfl) (fun _ => rfl) HS (fun w' hS => by obtain ⟨q0, q1, q2, q3, q4, q5, q6, q7, q8⟩ := hS; go_simp; try rfl) ?_
          simp only [Act.put, List.setIfInBounds_toArray, List.set_cons_zero, List.set_cons_succ]
          refine hold_take 14 (.bool true) rfl (by kernel_rfl) (by kernel_rfl) (by kernel_rfl) (by kernel_rfl) (by kernel_rfl) (fun _ _ _ h => h) (by rfl) (fun _ => rfl) HS (fun w' hS => by obtain ⟨q0, q1, q2, q3, q4, q5, q6, q7, q8⟩ := hS; go_simp; try rfl) ?_
          simp only [Act.put, List.setIfInBounds_toArray, List.set_cons_zero, List.set_cons_succ]
          refine hold_take 15 _ rfl (by kernel_rfl) (by kernel_rfl) (by kernel_rfl) (by kernel_rfl) (by kernel_rfl) (fun _ _ _ h => h) (by rfl) (fun _ => rfl) HS (fun w' hS => by obtain ⟨q0, q1, q2, q3, q4, q5, q6, q7, q8⟩ := hS; go_simp; try rfl) ?_
          simp only [Act.put, List.setIfInBounds_toArray, List.set_cons_zero, List.set_cons_succ]
          refine hold_take 16 _ rfl (by kernel_rfl) (by kernel_rfl) (by kernel_rfl) (by kernel_rfl) (by kernel_rfl) (fun _ _ _ h => h) (by rfl) (fun _ => rfl) HS (fun w' hS => by obtain ⟨q0, q1, q2, q3, q4, q5, q6, q7, q8⟩ := hS; go_simp; try rfl) ?_
          simp only [Act.put, List.setIfInBounds_toArray, List.set_cons_zero, List.set_cons_succ]
          refine hold_take 17 (.bool false) rfl (by kernel_rfl) (by kernel_rfl) (by kernel_rfl) (by kernel_rfl) (by kernel_rfl) (fun _ _ _ h => h) (by rfl) (fun _ => rfl) HS (fun w' hS => by obtain ⟨q0, q1, q2, q3, q4, q5, q6, q7, q8⟩ := hS; go_simp; try rfl) ?_
          simp only [Act.put, List.setIfInBounds_toArray, List.set_cons_zero, List.set_cons_succ]
          refine hold_take 18 (.bool false) rfl (by kernel_rfl) (by kernel_rfl) (by kernel_rfl) (by kernel_rfl) (by kernel_rfl) (fun _ _ _ h => h) (by rfl) (fun _ => rfl) HS (fun w' hS => by obtain ⟨q0, q1, q2, q3, q4, q5, q6, q7, q8⟩ := hS; go_simp; try rfl) ?_
          simp only [Act.put, List.setIfInBounds_toArray, List.set_cons_zero, List.set_cons_succ]
          refine hold_take 19 (.bool true) rfl (by kernel_rfl) (by kernel_rfl) (by kernel_rfl) (by kernel_rfl) (by kernel_rfl) (fun _ _ _ h => h) (by rfl) (fun _ => rfl) HS (fun w' hS => by obtain ⟨q0, q1, q2, q3, q4, q5, q6, q7, q8⟩ := hS; go_simp; try rfl) ?_
          simp only [Act.put, List.setIfInBounds_toArray, List.set_cons_zero, List.set_cons_succ]
          refine hold_take 20 (.bool true) rfl (by kernel_rfl) (by kernel_rfl) (by kernel_rfl) (by kernel_rfl) (by kernel_rfl) (fun _ _ _ h => h) (by rfl) (fun _ => rfl) HS (fun w' hS => by obtain ⟨q0, q1, q2, q3, q4, q5, q6, q7, q8⟩ := hS; go_simp; try rfl) ?_
          simp only [Act.put, List.setIfInBounds_toArray, List.set_cons_zero, List.set_cons_succ]
          refine hold_take 21 _ rfl (by kernel_rfl) (by kernel_rfl) (by kernel_rfl) (by kernel_rfl) (by kernel_rfl) (fun _ _ _ h => h) (by rfl) (fun _ => rfl) HS (fun w' hS => by obtain ⟨q0, q1, q2, q3, q4, q5, q6, q7, q8⟩ := hS; go_simp; try rfl) ?_
          simp only [Act.put, List.setIfInBounds_toArray, List.set_cons_zero, List.set_cons_succ]
          refine hold_take 22 _ rfl (by kernel_rfl) (by kernel_rfl) (by kernel_rfl) (by kernel_rfl) (by kernel_rfl) (fun _ _ _ h => h) (by rfl) (fun _ => rfl) HS (fun w' hS => by obtain ⟨q0, q1, q2, q3, q4, q5, q6, q7, q8⟩ := hS; go_simp; try rfl) ?_
          simp only [Act.put, List.setIfInBounds_toArray, List.set_cons_zero, List.set_cons_succ]
          refine hold_take 24 _ rfl (by kernel_rfl) (by kernel_rfl) (by kernel_rfl) (by kernel_rfl) (by kernel_rfl) (fun _ _ _ h => h) (by rfl) (fun _ => rfl) HS (fun w' hS => by obtain ⟨q0, q1, q2, q3, q4, q5, q6, q7, q8⟩ := hS; go_simp; try rfl) ?_
          simp only [Act.put, List.setIfInBounds_toArray, List.set_cons_zero, List.set_cons_succ]
          refine hold_take 25 (.bool true) rfl (by kernel_rfl) (by kernel_rfl) (by kernel_rfl) (by kernel_rfl) (by kernel_rfl) (fun _ _ _ h => h) (by rfl) (fun _ => rfl) HS (fun w' hS => by obtain ⟨q0, q1, q2, q3, q4, q5, q6, q7, q8⟩ := hS; go_simp; try rfl) ?_
          simp only [Act.put, List.setIfInBounds_toArray, List.set_cons_zero, List.set_cons_succ]
          refine hold_one 23 (by kernel_rfl) rfl (by rfl) fun K hK => ?_
          go_simp
          refine ⟨trivial, rfl, (callsIn_wide.2 (CM.out w4.drew)).mono ?_⟩
          rintro e w5 ⟨rfl, hb5⟩
          have hsd : w4.drew.heap.size = w4.heap.size := rfl
          have H5 := cover ((below_drewN H4.out 1).trans (hb5.mono (by omega)))
          have HS5 : (fun W' : World => (World.cell? W' ⟨w.heap.size, 0, none⟩ = some (.int .i64 p.to) ∧ World.cell? W' ⟨w.heap.size, 1, none⟩ = some (.int .i64 p.frm) ∧ World.cell? W' ⟨w.heap.size, 2, none⟩ = some (.bool p.resp) ∧ World.cell? W' ⟨w.heap.size, 3, none⟩ = some (.int .i64 p.form) ∧ World.cell? W' ⟨w.heap.size, 4, none⟩ = some (.int .i64 p.kind) ∧ World.cell? W' ⟨w.heap.size, 5, none⟩ = some (.int .i64 p.ns) ∧ World.cell? W' ⟨w.heap.size, 6, none⟩ = some (.int .i64 p.nr) ∧ World.cell? W' ⟨w.heap.size, 7, none⟩ = some (.bool p.poll) ∧ World.cell? W' ⟨w.heap.size, 8, none⟩ = some (.slice A p.info.length c))) w5 := pdu_cells ((hb5.block _ (by omega)).trans (show w4.drew.heap[w.heap.size]? = _ from G4.out))
          refine hK _ _ (.inr HS5) ?_
          clear hK K hb5 hsd
          refine hold_take 26 _ rfl (by kernel_rfl) (by kernel_rfl) (by kernel_rfl) (by kernel_rfl) (by kernel_rfl) (fun _ _ _ h => h) (by rfl) (fun _ => rfl) HS5 (fun w' hS => by obtain ⟨q0, q1, q2, q3, q4, q5, q6, q7, q8⟩ := hS; go_simp; try rfl) ?_
          simp only [Act.put, List.setIfInBounds_toArray, List.set_cons_zero, List.set_cons_succ]
          refine hold_take 27 _ rfl (by kernel_rfl) (by kernel_rfl) (by kernel_rfl) (by kernel_rfl) (by kernel_rfl) (fun _ _ _ h => h) (by rfl) (fun _ => rfl) HS5 (fun w' hS => by obtain ⟨q0, q1, q2, q3, q4, q5, q6, q7, q8⟩ := hS; go_simp; try rfl) ?_
          simp only [Act.put, List.setIfInBounds_toArray, List.set_cons_zero, List.set_cons_succ]
          refine hold_take 28 (.bool true) rfl (by kernel_rfl) (by kernel_rfl) (by kernel_rfl) (by kernel_rfl) (by kernel_rfl) (fun _ _ _ h => h) (by rfl) (fun _ => rfl) HS5 (fun w' hS => by obtain ⟨q0, q1, q2, q3, q4, q5, q6, q7, q8⟩ := hS; go_simp; try rfl) ?_
          simp only [Act.put, List.setIfInBounds_toArray, List.set_cons_zero, List.set_cons_succ]
          refine hold_take 29 (.bool false) rfl (by kernel_rfl) (by kernel_rfl) (by kernel_rfl) (by kernel_rfl) (by kernel_rfl) (fun _ _ _ h => h) (by rfl) (fun _ => rfl) HS5 (fun w' hS => by obtain ⟨q0, q1, q2, q3, q4, q5, q6, q7, q8⟩ := hS; go_simp; try rfl) ?_
          simp only [Act.put, List.setIfInBounds_toArray, List.set_cons_zero, List.set_cons_succ]
          refine hold_take 30 (.bool false) rfl (by kernel_rfl) (by kernel_rfl) (by kernel_rfl) (by kernel_rfl) (by kernel_rfl) (fun _ _ _ h => h) (by rfl) (fun _ => rfl) HS5 (fun w' hS => by obtain ⟨q0, q1, q2, q3, q4, q5, q6, q7, q8⟩ := hS; go_simp; try rfl) ?_
          simp only [Act.put, List.setIfInBounds_toArray, List.set_cons_zero, List.set_cons_succ]
          refine hold_one 31 (by kernel_rfl) rfl (by rfl) fun K hK => ?_
          go_simp
          refine hK _ _ (.inr HS5) ?_
          clear hK K
          refine hold_one 32 (by kernel_rfl) rfl (by rfl) fun K hK => ?_
          go_simp
          refine hK _ _ (.inr HS5) ?_
          clear hK K
          refine hold_one 33 (by kernel_rfl) rfl (by rfl) fun K hK => ?_
          go_simp
          refine hK _ _ (.inl rfl) (held_done (by kernel_rfl) ?_ _)
          clear hK K
          go_wp2
          go_ret
          exact ⟨rfl, H5.out⟩
  · obtain rfl : th = false := by
      cases th
      · rfl
      · have a := beq_iff_eq.1 e1
        have b := beq_iff_eq.1 e2
        omega
    · rcases hp : p.poll with _ | _
      · obtain rfl : ak = false := by rw [hka, hp]; cases p.resp <;> rfl
        clear hka
        simp only [hp] at CM
        have mixed : Try.prog.follows .mixedOrders = true := by kernel_rfl
        refine (wpIn_wide (n := 0)).1 ?_
        refine held_begin (fun W' : World => (World.cell? W' ⟨w.heap.size, 0, none⟩ = some (.int .i64 p.to) ∧ World.cell? W' ⟨w.heap.size, 1, none⟩ = some (.int .i64 p.frm) ∧ World.cell? W' ⟨w.heap.size, 2, none⟩ = some (.bool p.resp) ∧ World.cell? W' ⟨w.heap.size, 3, none⟩ = some (.int .i64 p.form) ∧ World.cell? W' ⟨w.heap.size, 4, none⟩ = some (.int .i64 p.kind) ∧ World.cell? W' ⟨w.heap.size, 5, none⟩ = some (.int .i64 p.ns) ∧ World.cell? W' ⟨w.heap.size, 6, none⟩ = some (.int .i64 p.nr) ∧ World.cell? W' ⟨w.heap.size, 7, none⟩ = some (.bool p.poll) ∧ World.cell? W' ⟨w.heap.size, 8, none⟩ = some (.slice A p.info.length c))) 33 mixed ?_
        have HS : (fun W' : World => (World.cell? W' ⟨w.heap.size, 0, none⟩ = some (.int .i64 p.to) ∧ World.cell? W' ⟨w.heap.size, 1, none⟩ = some (.int .i64 p.frm) ∧ World.cell? W' ⟨w.heap.size, 2, none⟩ = some (.bool p.resp) ∧ World.cell? W' ⟨w.heap.size, 3, none⟩ = some (.int .i64 p.form) ∧ World.cell? W' ⟨w.heap.size, 4, none⟩ = some (.int .i64 p.kind) ∧ World.cell? W' ⟨w.heap.size, 5, none⟩ = some (.int .i64 p.ns) ∧ World.cell? W' ⟨w.heap.size, 6, none⟩ = some (.int .i64 p.nr) ∧ World.cell? W' ⟨w.heap.size, 7, none⟩ = some (.bool p.poll) ∧ World.cell? W' ⟨w.heap.size, 8, none⟩ = some (.slice A p.info.length c))) w4.drew := ⟨p0, p1, p2, p3, p4, p5, p6, p7, p8⟩
        refine hold_take 0 _ rfl (by kernel_rfl) (by kernel_rfl) (by kernel_rfl) (by kernel_rfl) (by kernel_rfl) (fun _ _ _ h => h) (by rfl) (fun _ => rfl) HS (fun w' hS => by obtain ⟨q0, q1, q2, q3, q4, q5, q6, q7, q8⟩ := hS; go_simp; try rfl) ?_
        simp only [Act.put, List.setIfInBounds_toArray, List.set_cons_zero, List.set_cons_succ]
        refine hold_take 1 (.bool true) rfl (by kernel_rfl) (by kernel_rfl) (by kernel_rfl) (by kernel_rfl) (by kernel_rfl) (fun _ _ _ h => h) (by rfl) (fun _ => rfl) HS (fun w' hS => by obtain ⟨q0, q1, q2, q3, q4, q5, q6, q7, q8⟩ := hS; go_simp; try rfl) ?_
        simp only [Act.put, List.setIfInBounds_toArray, List.set_cons_zero, List.set_cons_succ]
        refine hold_take 2 _ rfl (by kernel_rfl) (by kernel_rfl) (by kernel_rfl) (by kernel_rfl) (by kernel_rfl) (fun _ _ _ h => h) (by rfl) (fun _ => rfl) HS (fun w' hS => by obtain ⟨q0, q1, q2, q3, q4, q5, q6, q7, q8⟩ := hS; go_simp; try rfl) ?_
        simp only [Act.put, List.setIfInBounds_toArray, List.set_cons_zero, List.set_cons_succ]
        refine hold_take 3 (.bool true) rfl (by kernel_rfl) (by kernel_rfl) (by kernel_rfl) (by kernel_rfl) (by kernel_rfl) (fun _ _ _ h => h) (by rfl) (fun _ => rfl) HS (fun w' hS => by obtain ⟨q0, q1, q2, q3, q4, q5, q6, q7, q8⟩ := hS; go_simp; try rfl) ?_
        simp only [Act.put, List.setIfInBounds_toArray, List.set_cons_zero, List.set_cons_succ]
        refine hold_take 4 _ rfl (by kernel_rfl) (by kernel_rfl) (by kernel_rfl) (by kernel_rfl) (by kernel_rfl) (fun _ _ _ h => h) (by rfl) (fun _ => rfl) HS (fun w' hS => by obtain ⟨q0, q1, q2, q3, q4, q5, q6, q7, q8⟩ := hS; go_simp; try rfl) ?_
        simp only [Act.put, List.setIfInBounds_toArray, List.set_cons_zero, List.set_cons_succ]
        refine hold_take 5 _ rfl (by kernel_rfl) (by kernel_rfl) (by kernel_rfl) (by kernel_rfl) (by kernel_rfl) (fun _ _ _ h => h) (by rfl) (fun _ => rfl) HS (fun w' hS => by obtain ⟨q0, q1, q2, q3, q4, q5, q6, q7, q8⟩ := hS; go_simp; try rfl) ?_
        simp only [Act.put, List.setIfInBounds_toArray, List.set_cons_zero, List.set_cons_succ]
        refine hold_take 6 (.bool false) rfl (by kernel_rfl) (by kernel_rfl) (by kernel_rfl) (by kernel_rfl) (by kernel_rfl) (fun _ _ _ h => h) (by rfl) (fun _ => rfl) HS (fun w' hS => by obtain ⟨q0, q1, q2, q3, q4, q5, q6, q7, q8⟩ := hS; go_simp; try rfl) ?_
        simp only [Act.put, List.setIfInBounds_toArray, List.set_cons_zero, List.set_cons_succ]
        refine hold_take 7 _ rfl (by kernel_rfl) (by kernel_rfl) (by kernel_rfl) (by kernel_rfl) (by kernel_rfl) (fun _ _ _ h => h) (by rfl) (fun _ => rfl) HS (fun w' hS => by obtain ⟨q0, q1, q2, q3, q4, q5, q6, q7, q8⟩ := hS; go_simp; try rfl) ?_
        simp only [Act.put, List.setIfInBounds_toArray, List.set_cons_zero, List.set_cons_succ]
        refine hold_take 8 (.bool true) rfl (by kernel_rfl) (by kernel_rfl) (by kernel_rfl) (by kernel_rfl) (by kernel_rfl) (fun _ _ _ h => h) (by rfl) (fun _ => rfl) HS (fun w' hS => by obtain ⟨q0, q1, q2, q3, q4, q5, q6, q7, q8⟩ := hS; go_simp; try rfl) ?_
        simp only [Act.put, List.setIfInBounds_toArray, List.set_cons_zero, List.set_cons_succ]
        refine hold_take 9 (.bool true) rfl (by kernel_rfl) (by kernel_rfl) (by kernel_rfl) (by kernel_rfl) (by kernel_rfl) (fun _ _ _ h => h) (by rfl) (fun _ => rfl) HS (fun w' hS => by obtain ⟨q0, q1, q2, q3, q4, q5, q6, q7, q8⟩ := hS; go_simp; try rfl) ?_
        simp only [Act.put, List.setIfInBounds_toArray, List.set_cons_zero, List.set_cons_succ]
        refine hold_take 10 _ rfl (by kernel_rfl) (by kernel_rfl) (by kernel_rfl) (by kernel_rfl) (by kernel_rfl) (fun _ _ _ h => h) (by rfl) (fun _ => rfl) HS (fun w' hS => by obtain ⟨q0, q1, q2, q3, q4, q5, q6, q7, q8⟩ := hS; go_simp; try rfl) ?_
        simp only [Act.put, List.setIfInBounds_toArray, List.set_cons_zero, List.set_cons_succ]
        refine hold_take 11 _ rfl (by kernel_rfl) (by kernel_rfl) (by kernel_rfl) (by kernel_rfl) (by kernel_rfl) (fun _ _ _ h => h) (by rfl) (fun _ => rfl) HS (fun w' hS => by obtain ⟨q0, q1, q2, q3, q4, q5, q6, q7, q8⟩ := hS; go_simp; try rfl) ?_
        simp only [Act.put, List.setIfInBounds_toArray, List.set_cons_zero, List.set_cons_succ]
        refine hold_take 12 (.bool false) rfl (by kernel_rfl) (by kernel_rfl) (by kernel_rfl) (by kernel_rfl) (by kernel_rfl) (fun _ _ _ h => h) (by rfl) (fun _ => rfl) HS (fun w' hS => by obtain ⟨q0, q1, q2, q3, q4, q5, q6, q7, q8⟩ := hS; go_simp; try rfl) ?_
        simp only [Act.put, List.setIfInBounds_toArray, List.set_cons_zero, List.set_cons_succ]
        refine hold_take 13 _ rfl (by kernel_rfl) (by kernel_rfl) (by kernel_rfl) (by kernel_rfl) (by kernel_rfl) (fun _ _ _ h => h) (by rfl) (fun _ => rfl) HS (fun w' hS => by obtain ⟨q0, q1, q2, q3, q4, q5, q6, q7, q8⟩ := hS; go_simp; try rfl) ?_
        simp only [Act.put, List.setIfInBounds_toArray, List.set_cons_zero, List.set_cons_succ]
        refine hold_take 14 (.bool false) rfl (by kernel_rfl) (by kernel_rfl) (by kernel_rfl) (by kernel_rfl) (by kernel_rfl) (fun _ _ _ h => h) (by rfl) (fun _ => rfl) HS (fun w' hS => by obtain ⟨q0, q1, q2, q3, q4, q5, q6, q7, q8⟩ := hS; go_simp; try rfl) ?_
        simp only [Act.put, List.setIfInBounds_toArray, List.set_cons_zero, List.set_cons_succ]
        refine hold_take 15 _ rfl (by kernel_rfl) (by kernel_rfl) (by kernel_rfl) (by kernel_rfl) (by kernel_rfl) (fun _ _ _ h => h) (by rfl) (fun _ => rfl) HS (fun w' hS => by obtain ⟨q0, q1, q2, q3, q4, q5, q6, q7, q8⟩ := hS; go_simp; try rfl) ?_
        simp only [Act.put, List.setIfInBounds_toArray, List.set_cons_zero, List.set_cons_succ]
        refine hold_skip 16 rfl (by kernel_rfl) (by kernel_rfl) (by kernel_rfl) (by kernel_rfl) (by kernel_rfl) (fun _ _ _ h => h) (by rfl) (fun _ => rfl) HS ?_
        simp only [Act.put, List.setIfInBounds_toArray, List.set_cons_zero, List.set_cons_succ]
        refine hold_skip 17 rfl (by kernel_rfl) (by kernel_rfl) (by kernel_rfl) (by kernel_rfl) (by kernel_rfl) (fun _ _ _ h => h) (by rfl) (fun _ => rfl) HS ?_
        simp only [Act.put, List.setIfInBounds_toArray, List.set_cons_zero, List.set_cons_succ]
        refine hold_take 18 (.bool false) rfl (by kernel_rfl) (by kernel_rfl) (by kernel_rfl) (by kernel_rfl) (by kernel_rfl) (fun _ _ _ h => h) (by rfl) (fun _ => rfl) HS (fun w' hS => by obtain ⟨q0, q1, q2, q3, q4, q5, q6, q7, q8⟩ := hS; go_simp; try rfl) ?_
        simp only [Act.put, List.setIfInBounds_toArray, List.set_cons_zero, List.set_cons_succ]
        refine hold_take 19 (.bool true) rfl (by kernel_rfl) (by kernel_rfl) (by kernel_rfl) (by kernel_rfl) (by kernel_rfl) (fun _ _ _ h => h) (by rfl) (fun _ => rfl) HS (fun w' hS => by obtain ⟨q0, q1, q2, q3, q4, q5, q6, q7, q8⟩ := hS; go_simp; try rfl) ?_
        simp only [Act.put, List.setIfInBounds_toArray, List.set_cons_zero, List.set_cons_succ]
        refine hold_take 20 (.bool true) rfl (by kernel_rfl) (by kernel_rfl) (by kernel_rfl) (by kernel_rfl) (by kernel_rfl) (fun _ _ _ h => h) (by rfl) (fun _ => rfl) HS (fun w' hS => by obtain ⟨q0, q1, q2, q3, q4, q5, q6, q7, q8⟩ := hS; go_simp; try rfl) ?_
        simp only [Act.put, List.setIfInBounds_toArray, List.set_cons_zero, List.set_cons_succ]
        refine hold_take 21 _ rfl (by kernel_rfl) (by kernel_rfl) (by kernel_rfl) (by kernel_rfl) (by kernel_rfl) (fun _ _ _ h => h) (by rfl) (fun _ => rfl) HS (fun w' hS => by obtain ⟨q0, q1, q2, q3, q4, q5, q6, q7, q8⟩ := hS; go_simp; try rfl) ?_
        simp only [Act.put, List.setIfInBounds_toArray, List.set_cons_zero, List.set_cons_succ]
        refine hold_take 22 _ rfl (by kernel_rfl) (by kernel_rfl) (by kernel_rfl) (by kernel_rfl) (by kernel_rfl) (fun _ _ _ h => h) (by rfl) (fun _ => rfl) HS (fun w' hS => by obtain ⟨q0, q1, q2, q3, q4, q5, q6, q7, q8⟩ := hS; go_simp; try rfl) ?_
        simp only [Act.put, List.setIfInBounds_toArray, List.set_cons_zero, List.set_cons_succ]
        refine hold_take 24 _ rfl (by kernel_rfl) (by kernel_rfl) (by kernel_rfl) (by kernel_rfl) (by kernel_rfl) (fun _ _ _ h => h) (by rfl) (fun _ => rfl) HS (fun w' hS => by obtain ⟨q0, q1, q2, q3, q4, q5, q6, q7, q8⟩ := hS; go_simp; try rfl) ?_
        simp only [Act.put, List.setIfInBounds_toArray, List.set_cons_zero, List.set_cons_succ]
        refine hold_take 25 (.bool false) rfl (by kernel_rfl) (by kernel_rfl) (by kernel_rfl) (by kernel_rfl) (by kernel_rfl) (fun _ _ _ h => h) (by rfl) (fun _ => rfl) HS (fun w' hS => by obtain ⟨q0, q1, q2, q3, q4, q5, q6, q7, q8⟩ := hS; go_simp; try rfl) ?_
        simp only [Act.put, List.setIfInBounds_toArray, List.set_cons_zero, List.set_cons_succ]
        refine hold_one 23 (by kernel_rfl) rfl (by rfl) fun K hK => ?_
        go_simp
        refine ⟨trivial, rfl, (callsIn_wide.2 (CM.out w4.drew)).mono ?_⟩
        rintro e w5 ⟨rfl, hb5⟩
        have hsd : w4.drew.heap.size = w4.heap.size := rfl
        have H5 := cover ((below_drewN H4.out 1).trans (hb5.mono (by omega)))
        have HS5 : (fun W' : World => (World.cell? W' ⟨w.heap.size, 0, none⟩ = some (.int .i64 p.to) ∧ World.cell? W' ⟨w.heap.size, 1, none⟩ = some (.int .i64 p.frm) ∧ World.cell? W' ⟨w.heap.size, 2, none⟩ = some (.bool p.resp) ∧ World.cell? W' ⟨w.heap.size, 3, none⟩ = some (.int .i64 p.form) ∧ World.cell? W' ⟨w.heap.size, 4, none⟩ = some (.int .i64 p.kind) ∧ World.cell? W' ⟨w.heap.size, 5, none⟩ = some (.int .i64 p.ns) ∧ World.cell? W' ⟨w.heap.size, 6, none⟩ = some (.int .i64 p.nr) ∧ World.cell? W' ⟨w.heap.size, 7, none⟩ = some (.bool p.poll) ∧ World.cell? W' ⟨w.heap.size, 8, none⟩ = some (.slice A p.info.length c))) w5 := pdu_cells ((hb5.block _ (by omega)).trans (show w4.drew.heap[w.heap.size]? = _ from G4.out))
        refine hK _ _ (.inr HS5) ?_
        clear hK K hb5 hsd
        refine hold_take 26 _ rfl (by kernel_rfl) (by kernel_rfl) (by kernel_rfl) (by kernel_rfl) (by kernel_rfl) (fun _ _ _ h => h) (by rfl) (fun _ => rfl) HS5 (fun w' hS => by obtain ⟨q0, q1, q2, q3, q4, q5, q6, q7, q8⟩ := hS; go_simp; try rfl) ?_
        simp only [Act.put, List.setIfInBounds_toArray, List.set_cons_zero, List.set_cons_succ]
        refine hold_skip 27 rfl (by kernel_rfl) (by kernel_rfl) (by kernel_rfl) (by kernel_rfl) (by kernel_rfl) (fun _ _ _ h => h) (by rfl) (fun _ => rfl) HS5 ?_
        simp only [Act.put, List.setIfInBounds_toArray, List.set_cons_zero, List.set_cons_succ]
        refine hold_skip 28 rfl (by kernel_rfl) (by kernel_rfl) (by kernel_rfl) (by kernel_rfl) (by kernel_rfl) (fun _ _ _ h => h) (by rfl) (fun _ => rfl) HS5 ?_
        simp only [Act.put, List.setIfInBounds_toArray, List.set_cons_zero, List.set_cons_succ]
        refine hold_skip 29 rfl (by kernel_rfl) (by kernel_rfl) (by kernel_rfl) (by kernel_rfl) (by kernel_rfl) (fun _ _ _ h => h) (by rfl) (fun _ => rfl) HS5 ?_
        simp only [Act.put, List.setIfInBounds_toArray, List.set_cons_zero, List.set_cons_succ]
        refine hold_take 30 (.bool false) rfl (by kernel_rfl) (by kernel_rfl) (by kernel_rfl) (by kernel_rfl) (by kernel_rfl) (fun _ _ _ h => h) (by rfl) (fun _ => rfl) HS5 (fun w' hS => by obtain ⟨q0, q1, q2, q3, q4, q5, q6, q7, q8⟩ := hS; go_simp; try rfl) ?_
        simp only [Act.put, List.setIfInBounds_toArray, List.set_cons_zero, List.set_cons_succ]
        refine hold_one 31 (by kernel_rfl) rfl (by rfl) fun K hK => ?_
        go_simp
        refine hK _ _ (.inr HS5) ?_
        clear hK K
        refine hold_one 32 (by kernel_rfl) rfl (by rfl) fun K hK => ?_
        go_simp
        refine hK _ _ (.inr HS5) ?_
        clear hK K
        refine hold_one 33 (by kernel_rfl) rfl (by rfl) fun K hK => ?_
        go_simp
        refine hK _ _ (.inl rfl) (held_done (by kernel_rfl) ?_ _)
        clear hK K
        go_wp2
        go_ret
        exact ⟨rfl, H5.out⟩
      · rcases hr : p.resp with _ | _
        · obtain rfl : ak = true := by rw [hka, hp, hr]; rfl
          clear hka
          simp only [hp, hr] at CM
          have mixed : Try.prog.follows .mixedOrders = true := by kernel_rfl
          refine (wpIn_wide (n := 0)).1 ?_
          refine held_begin (fun W' : World => (World.cell? W' ⟨w.heap.size, 0, none⟩ = some (.int .i64 p.to) ∧ World.cell? W' ⟨w.heap.size, 1, none⟩ = some (.int .i64 p.frm) ∧ World.cell? W' ⟨w.heap.size, 2, none⟩ = some (.bool p.resp) ∧ World.cell? W' ⟨w.heap.size, 3, none⟩ = some (.int .i64 p.form) ∧ World.cell? W' ⟨w.heap.size, 4, none⟩ = some (.int .i64 p.kind) ∧ World.cell? W' ⟨w.heap.size, 5, none⟩ = some (.int .i64 p.ns) ∧ World.cell? W' ⟨w.heap.size, 6, none⟩ = some (.int .i64 p.nr) ∧ World.cell? W' ⟨w.heap.size, 7, none⟩ = some (.bool p.poll) ∧ World.cell? W' ⟨w.heap.size, 8, none⟩ = some (.slice A p.info.length c))) 33 mixed ?_
          have HS : (fun W' : World => (World.cell? W' ⟨w.heap.size, 0, none⟩ = some (.int .i64 p.to) ∧ World.cell? W' ⟨w.heap.size, 1, none⟩ = some (.int .i64 p.frm) ∧ World.cell? W' ⟨w.heap.size, 2, none⟩ = some (.bool p.resp) ∧ World.cell? W' ⟨w.heap.size, 3, none⟩ = some (.int .i64 p.form) ∧ World.cell? W' ⟨w.heap.size, 4, none⟩ = some (.int .i64 p.kind) ∧ World.cell? W' ⟨w.heap.size, 5, none⟩ = some (.int .i64 p.ns) ∧ World.cell? W' ⟨w.heap.size, 6, none⟩ = some (.int .i64 p.nr) ∧ World.cell? W' ⟨w.heap.size, 7, none⟩ = some (.bool p.poll) ∧ World.cell? W' ⟨w.heap.size, 8, none⟩ = some (.slice A p.info.length c))) w4.drew := ⟨p0, p1, p2, p3, p4, p5, p6, p7, p8⟩
          refine hold_take 0 _ rfl (by kernel_rfl) (by kernel_rfl) (by kernel_rfl) (by kernel_rfl) (by kernel_rfl) (fun _ _ _ h => h) (by rfl) (fun _ => rfl) HS (fun w' hS => by obtain ⟨q0, q1, q2, q3, q4, q5, q6, q7, q8⟩ := hS; go_simp; try rfl) ?_
          simp only [Act.put, List.setIfInBounds_toArray, List.set_cons_zero, List.set_cons_succ]
          refine hold_take 1 (.bool true) rfl (by kernel_rfl) (by kernel_rfl) (by kernel_rfl) (by kernel_rfl) (by kernel_rfl) (fun _ _ _ h => h) (by rfl) (fun _ => rfl) HS (fun w' hS => by obtain ⟨q0, q1, q2, q3, q4, q5, q6, q7, q8⟩ := hS; go_simp; try rfl) ?_
          simp only [Act.put, List.setIfInBounds_toArray, List.set_cons_zero, List.set_cons_succ]
          refine hold_take 2 _ rfl (by kernel_rfl) (by kernel_rfl) (by kernel_rfl) (by kernel_rfl) (by kernel_rfl) (fun _ _ _ h => h) (by rfl) (fun _ => rfl) HS (fun w' hS => by obtain ⟨q0, q1, q2, q3, q4, q5, q6, q7, q8⟩ := hS; go_simp; try rfl) ?_
          simp only [Act.put, List.setIfInBounds_toArray, List.set_cons_zero, List.set_cons_succ]
          refine hold_take 3 (.bool true) rfl (by kernel_rfl) (by kernel_rfl) (by kernel_rfl) (by kernel_rfl) (by kernel_rfl) (fun _ _ _ h => h) (by rfl) (fun _ => rfl) HS (fun w' hS => by obtain ⟨q0, q1, q2, q3, q4, q5, q6, q7, q8⟩ := hS; go_simp; try rfl) ?_
          simp only [Act.put, List.setIfInBounds_toArray, List.set_cons_zero, List.set_cons_succ]
          refine hold_take 4 _ rfl (by kernel_rfl) (by kernel_rfl) (by kernel_rfl) (by kernel_rfl) (by kernel_rfl) (fun _ _ _ h => h) (by rfl) (fun _ => rfl) HS (fun w' hS => by obtain ⟨q0, q1, q2, q3, q4, q5, q6, q7, q8⟩ := hS; go_simp; try rfl) ?_
          simp only [Act.put, List.setIfInBounds_toArray, List.set_cons_zero, List.set_cons_succ]
          refine hold_take 5 _ rfl (by kernel_rfl) (by kernel_rfl) (by kernel_rfl) (by kernel_rfl) (by kernel_rfl) (fun _ _ _ h => h) (by rfl) (fun _ => rfl) HS (fun w' hS => by obtain ⟨q0, q1, q2, q3, q4, q5, q6, q7, q8⟩ := hS; go_simp; try rfl) ?_
          simp only [Act.put, List.setIfInBounds_toArray, List.set_cons_zero, List.set_cons_succ]
          refine hold_take 6 (.bool false) rfl (by kernel_rfl) (by kernel_rfl) (by kernel_rfl) (by kernel_rfl) (by kernel_rfl) (fun _ _ _ h => h) (by rfl) (fun _ => rfl) HS (fun w' hS => by obtain ⟨q0, q1, q2, q3, q4, q5, q6, q7, q8⟩ := hS; go_simp; try rfl) ?_
          simp only [Act.put, List.setIfInBounds_toArray, List.set_cons_zero, List.set_cons_succ]
          refine hold_take 7 _ rfl (by kernel_rfl) (by kernel_rfl) (by kernel_rfl) (by kernel_rfl) (by kernel_rfl) (fun _ _ _ h => h) (by rfl) (fun _ => rfl) HS (fun w' hS => by obtain ⟨q0, q1, q2, q3, q4, q5, q6, q7, q8⟩ := hS; go_simp; try rfl) ?_
          simp only [Act.put, List.setIfInBounds_toArray, List.set_cons_zero, List.set_cons_succ]
          refine hold_take 8 (.bool true) rfl (by kernel_rfl) (by kernel_rfl) (by kernel_rfl) (by kernel_rfl) (by kernel_rfl) (fun _ _ _ h => h) (by rfl) (fun _ => rfl) HS (fun w' hS => by obtain ⟨q0, q1, q2, q3, q4, q5, q6, q7, q8⟩ := hS; go_simp; try rfl) ?_
          simp only [Act.put, List.setIfInBounds_toArray, List.set_cons_zero, List.set_cons_succ]
          refine hold_take 9 (.bool true) rfl (by kernel_rfl) (by kernel_rfl) (by kernel_rfl) (by kernel_rfl) (by kernel_rfl) (fun _ _ _ h => h) (by rfl) (fun _ => rfl) HS (fun w' hS => by obtain ⟨q0, q1, q2, q3, q4, q5, q6, q7, q8⟩ := hS; go_simp; try rfl) ?_
          simp only [Act.put, List.setIfInBounds_toArray, List.set_cons_zero, List.set_cons_succ]
          refine hold_take 10 _ rfl (by kernel_rfl) (by kernel_rfl) (by kernel_rfl) (by kernel_rfl) (by kernel_rfl) (fun _ _ _ h => h) (by rfl) (fun _ => rfl) HS (fun w' hS => by obtain ⟨q0, q1, q2, q3, q4, q5, q6, q7, q8⟩ := hS; go_simp; try rfl) ?_
          simp only [Act.put, List.setIfInBounds_toArray, List.set_cons_zero, List.set_cons_succ]
          refine hold_take 11 _ rfl (by kernel_rfl) (by kernel_rfl) (by kernel_rfl) (by kernel_rfl) (by kernel_rfl) (fun _ _ _ h => h) (by rfl) (fun _ => rfl) HS (fun w' hS => by obtain ⟨q0, q1, q2, q3, q4, q5, q6, q7, q8⟩ := hS; go_simp; try rfl) ?_
          simp only [Act.put, List.setIfInBounds_toArray, List.set_cons_zero, List.set_cons_succ]
          refine hold_take 12 (.bool false) rfl (by kernel_rfl) (by kernel_rfl) (by kernel_rfl) (by kernel_rfl) (by kernel_rfl) (fun _ _ _ h => h) (by rfl) (fun _ => rfl) HS (fun w' hS => by obtain ⟨q0, q1, q2, q3, q4, q5, q6, q7, q8⟩ := hS; go_simp; try rfl) ?_
          simp only [Act.put, List.setIfInBounds_toArray, List.set_cons_zero, List.set_cons_succ]
          refine hold_take 13 _ rfl (by kernel_rfl) (by kernel_rfl) (by kernel_rfl) (by kernel_rfl) (by kernel_rfl) (fun _ _ _ h => h) (by rfl) (fun _ => rfl) HS (fun w' hS => by obtain ⟨q0, q1, q2, q3, q4, q5, q6, q7, q8⟩ := hS; go_simp; try rfl) ?_
          simp only [Act.put, List.setIfInBounds_toArray, List.set_cons_zero, List.set_cons_succ]
          refine hold_take 14 (.bool false) rfl (by kernel_rfl) (by kernel_rfl) (by kernel_rfl) (by kernel_rfl) (by kernel_rfl) (fun _ _ _ h => h) (by rfl) (fun _ => rfl) HS (fun w' hS => by obtain ⟨q0, q1, q2, q3, q4, q5, q6, q7, q8⟩ := hS; go_simp; try rfl) ?_
          simp only [Act.put, List.setIfInBounds_toArray, List.set_cons_zero, List.set_cons_succ]
          refine hold_take 15 _ rfl (by kernel_rfl) (by kernel_rfl) (by kernel_rfl) (by kernel_rfl) (by kernel_rfl) (fun _ _ _ h => h) (by rfl) (fun _ => rfl) HS (fun w' hS => by obtain ⟨q0, q1, q2, q3, q4, q5, q6, q7, q8⟩ := hS; go_simp; try rfl) ?_
          simp only [Act.put, List.setIfInBounds_toArray, List.set_cons_zero, List.set_cons_succ]
          refine hold_skip 16 rfl (by kernel_rfl) (by kernel_rfl) (by kernel_rfl) (by kernel_rfl) (by kernel_rfl) (fun _ _ _ h => h) (by rfl) (fun _ => rfl) HS ?_
          simp only [Act.put, List.setIfInBounds_toArray, List.set_cons_zero, List.set_cons_succ]
          refine hold_skip 17 rfl (by kernel_rfl) (by kernel_rfl) (by kernel_rfl) (by kernel_rfl) (by kernel_rfl) (fun _ _ _ h => h) (by rfl) (fun _ => rfl) HS ?_
          simp only [Act.put, List.setIfInBounds_toArray, List.set_cons_zero, List.set_cons_succ]
          refine hold_take 18 (.bool false) rfl (by kernel_rfl) (by kernel_rfl) (by kernel_rfl) (by kernel_rfl) (by kernel_rfl) (fun _ _ _ h => h) (by rfl) (fun _ => rfl) HS (fun w' hS => by obtain ⟨q0, q1, q2, q3, q4, q5, q6, q7, q8⟩ := hS; go_simp; try rfl) ?_
          simp only [Act.put, List.setIfInBounds_toArray, List.set_cons_zero, List.set_cons_succ]
          refine hold_take 19 (.bool true) rfl (by kernel_rfl) (by kernel_rfl) (by kernel_rfl) (by kernel_rfl) (by kernel_rfl) (fun _ _ _ h => h) (by rfl) (fun _ => rfl) HS (fun w' hS => by obtain ⟨q0, q1, q2, q3, q4, q5, q6, q7, q8⟩ := hS; go_simp; try rfl) ?_
          simp only [Act.put, List.setIfInBounds_toArray, List.set_cons_zero, List.set_cons_succ]
          refine hold_take 20 (.bool true) rfl (by kernel_rfl) (by kernel_rfl) (by kernel_rfl) (by kernel_rfl) (by kernel_rfl) (fun _ _ _ h => h) (by rfl) (fun _ => rfl) HS (fun w' hS => by obtain ⟨q0, q1, q2, q3, q4, q5, q6, q7, q8⟩ := hS; go_simp; try rfl) ?_
          simp only [Act.put, List.setIfInBounds_toArray, List.set_cons_zero, List.set_cons_succ]
          refine hold_take 21 _ rfl (by kernel_rfl) (by kernel_rfl) (by kernel_rfl) (by kernel_rfl) (by kernel_rfl) (fun _ _ _ h => h) (by rfl) (fun _ => rfl) HS (fun w' hS => by obtain ⟨q0, q1, q2, q3, q4, q5, q6, q7, q8⟩ := hS; go_simp; try rfl) ?_
          simp only [Act.put, List.setIfInBounds_toArray, List.set_cons_zero, List.set_cons_succ]
          refine hold_take 22 _ rfl (by kernel_rfl) (by kernel_rfl) (by kernel_rfl) (by kernel_rfl) (by kernel_rfl) (fun _ _ _ h => h) (by rfl) (fun _ => rfl) HS (fun w' hS => by obtain ⟨q0, q1, q2, q3, q4, q5, q6, q7, q8⟩ := hS; go_simp; try rfl) ?_
          simp only [Act.put, List.setIfInBounds_toArray, List.set_cons_zero, List.set_cons_succ]
          refine hold_take 24 _ rfl (by kernel_rfl) (by kernel_rfl) (by kernel_rfl) (by kernel_rfl) (by kernel_rfl) (fun _ _ _ h => h) (by rfl) (fun _ => rfl) HS (fun w' hS => by obtain ⟨q0, q1, q2, q3, q4, q5, q6, q7, q8⟩ := hS; go_simp; try rfl) ?_
          simp only [Act.put, List.setIfInBounds_toArray, List.set_cons_zero, List.set_cons_succ]
          refine hold_take 25 (.bool true) rfl (by kernel_rfl) (by kernel_rfl) (by kernel_rfl) (by kernel_rfl) (by kernel_rfl) (fun _ _ _ h => h) (by rfl) (fun _ => rfl) HS (fun w' hS => by obtain ⟨q0, q1, q2, q3, q4, q5, q6, q7, q8⟩ := hS; go_simp; try rfl) ?_
          simp only [Act.put, List.setIfInBounds_toArray, List.set_cons_zero, List.set_cons_succ]
          refine hold_one 23 (by kernel_rfl) rfl (by rfl) fun K hK => ?_
          go_simp
          refine ⟨trivial, rfl, (callsIn_wide.2 (CM.out w4.drew)).mono ?_⟩
          rintro e w5 ⟨rfl, hb5⟩
          have hsd : w4.drew.heap.size = w4.heap.size := rfl
          have H5 := cover ((below_drewN H4.out 1).trans (hb5.mono (by omega)))
          have HS5 : (fun W' : World => (World.cell? W' ⟨w.heap.size, 0, none⟩ = some (.int .i64 p.to) ∧ World.cell? W' ⟨w.heap.size, 1, none⟩ = some (.int .i64 p.frm) ∧ World.cell? W' ⟨w.heap.size, 2, none⟩ = some (.bool p.resp) ∧ World.cell? W' ⟨w.heap.size, 3, none⟩ = some (.int .i64 p.form) ∧ World.cell? W' ⟨w.heap.size, 4, none⟩ = some (.int .i64 p.kind) ∧ World.cell? W' ⟨w.heap.size, 5, none⟩ = some (.int .i64 p.ns) ∧ World.cell? W' ⟨w.heap.size, 6, none⟩ = some (.int .i64 p.nr) ∧ World.cell? W' ⟨w.heap.size, 7, none⟩ = some (.bool p.poll) ∧ World.cell? W' ⟨w.heap.size, 8, none⟩ = some (.slice A p.info.length c))) w5 := pdu_cells ((hb5.block _ (by omega)).trans (show w4.drew.heap[w.heap.size]? = _ from G4.out))
          refine hK _ _ (.inr HS5) ?_
          clear hK K hb5 hsd
          refine hold_take 26 _ rfl (by kernel_rfl) (by kernel_rfl) (by kernel_rfl) (by kernel_rfl) (by kernel_rfl) (fun _ _ _ h => h) (by rfl) (fun _ => rfl) HS5 (fun w' hS => by obtain ⟨q0, q1, q2, q3, q4, q5, q6, q7, q8⟩ := hS; go_simp; try rfl) ?_
          simp only [Act.put, List.setIfInBounds_toArray, List.set_cons_zero, List.set_cons_succ]
          refine hold_take 27 _ rfl (by kernel_rfl) (by kernel_rfl) (by kernel_rfl) (by kernel_rfl) (by kernel_rfl) (fun _ _ _ h => h) (by rfl) (fun _ => rfl) HS5 (fun w' hS => by obtain ⟨q0, q1, q2, q3, q4, q5, q6, q7, q8⟩ := hS; go_simp; try rfl) ?_
          simp only [Act.put, List.setIfInBounds_toArray, List.set_cons_zero, List.set_cons_succ]
          refine hold_take 28 (.bool false) rfl (by kernel_rfl) (by kernel_rfl) (by kernel_rfl) (by kernel_rfl) (by kernel_rfl) (fun _ _ _ h => h) (by rfl) (fun _ => rfl) HS5 (fun w' hS => by obtain ⟨q0, q1, q2, q3, q4, q5, q6, q7, q8⟩ := hS; go_simp; try rfl) ?_
          simp only [Act.put, List.setIfInBounds_toArray, List.set_cons_zero, List.set_cons_succ]
          refine hold_take 29 (.bool true) rfl (by kernel_rfl) (by kernel_rfl) (by kernel_rfl) (by kernel_rfl) (by kernel_rfl) (fun _ _ _ h => h) (by rfl) (fun _ => rfl) HS5 (fun w' hS => by obtain ⟨q0, q1, q2, q3, q4, q5, q6, q7, q8⟩ := hS; go_simp; try rfl) ?_
          simp only [Act.put, List.setIfInBounds_toArray, List.set_cons_zero, List.set_cons_succ]
          refine hold_take 30 (.bool true) rfl (by kernel_rfl) (by kernel_rfl) (by kernel_rfl) (by kernel_rfl) (by kernel_rfl) (fun _ _ _ h => h) (by rfl) (fun _ => rfl) HS5 (fun w' hS => by obtain ⟨q0, q1, q2, q3, q4, q5, q6, q7, q8⟩ := hS; go_simp; try rfl) ?_
          simp only [Act.put, List.setIfInBounds_toArray, List.set_cons_zero, List.set_cons_succ]
          refine hold_one 31 (by kernel_rfl) rfl (by rfl) fun K hK => ?_
          go_simp
          refine hK _ _ (.inr HS5) ?_
          clear hK K
          refine hold_one 32 (by kernel_rfl) rfl (by rfl) fun K hK => ?_
          go_simp
          refine hK _ _ (.inr HS5) ?_
          clear hK K
          refine hold_one 33 (by kernel_rfl) rfl (by rfl) fun K hK => ?_
          go_simp
          refine hK _ _ (.inl rfl) (held_done (by kernel_rfl) ?_ _)
          clear hK K
          go_wp2
          go_ret
          exact ⟨rfl, H5.out⟩
        · obtain rfl : ak = false := by rw [hka, hp, hr]; rfl
          clear hka
          simp only [hp, hr] at CM
          have mixed : Try.prog.follows .mixedOrders = true := by kernel_rfl
          refine (wpIn_wide (n := 0)).1 ?_
          refine held_begin (fun W' : World => (World.cell? W' ⟨w.heap.size, 0, none⟩ = some (.int .i64 p.to) ∧ World.cell? W' ⟨w.heap.size, 1, none⟩ = some (.int .i64 p.frm) ∧ World.cell? W' ⟨w.heap.size, 2, none⟩ = some (.bool p.resp) ∧ World.cell? W' ⟨w.heap.size, 3, none⟩ = some (.int .i64 p.form) ∧ World.cell? W' ⟨w.heap.size, 4, none⟩ = some (.int .i64 p.kind) ∧ World.cell? W' ⟨w.heap.size, 5, none⟩ = some (.int .i64 p.ns) ∧ World.cell? W' ⟨w.heap.size, 6, none⟩ = some (.int .i64 p.nr) ∧ World.cell? W' ⟨w.heap.size, 7, none⟩ = some (.bool p.poll) ∧ World.cell? W' ⟨w.heap.size, 8, none⟩ = some (.slice A p.info.length c))) 33 mixed ?_
          have HS : (fun W' : World => (World.cell? W' ⟨w.heap.size, 0, none⟩ = some (.int .i64 p.to) ∧ World.cell? W' ⟨w.heap.size, 1, none⟩ = some (.int .i64 p.frm) ∧ World.cell? W' ⟨w.heap.size, 2, none⟩ = some (.bool p.resp) ∧ World.cell? W' ⟨w.heap.size, 3, none⟩ = some (.int .i64 p.form) ∧ World.cell? W' ⟨w.heap.size, 4, none⟩ = some (.int .i64 p.kind) ∧ World.cell? W' ⟨w.heap.size, 5, none⟩ = some (.int .i64 p.ns) ∧ World.cell? W' ⟨w.heap.size, 6, none⟩ = some (.int .i64 p.nr) ∧ World.cell? W' ⟨w.heap.size, 7, none⟩ = some (.bool p.poll) ∧ World.cell? W' ⟨w.heap.size, 8, none⟩ = some (.slice A p.info.length c))) w4.drew := ⟨p0, p1, p2, p3, p4, p5, p6, p7, p8⟩
          refine hold_take 0 _ rfl (by kernel_rfl) (by kernel_rfl) (by kernel_rfl) (by kernel_rfl) (by kernel_rfl) (fun _ _ _ h => h) (by rfl) (fun _ => rfl) HS (fun w' hS => by obtain ⟨q0, q1, q2, q3, q4, q5, q6, q7, q8⟩ := hS; go_simp; try rfl) ?_
          simp only [Act.put, List.setIfInBounds_toArray, List.set_cons_zero, List.set_cons_succ]
          refine hold_take 1 (.bool true) rfl (by kernel_rfl) (by kernel_rfl) (by kernel_rfl) (by kernel_rfl) (by kernel_rfl) (fun _ _ _ h => h) (by rfl) (fun _ => rfl) HS (fun w' hS => by obtain ⟨q0, q1, q2, q3, q4, q5, q6, q7, q8⟩ := hS; go_simp; try rfl) ?_
          simp only [Act.put, List.setIfInBounds_toArray, List.set_cons_zero, List.set_cons_succ]
          refine hold_take 2 _ rfl (by kernel_rfl) (by kernel_rfl) (by kernel_rfl) (by kernel_rfl) (by kernel_rfl) (fun _ _ _ h => h) (by rfl) (fun _ => rfl) HS (fun w' hS => by obtain ⟨q0, q1, q2, q3, q4, q5, q6, q7, q8⟩ := hS; go_simp; try rfl) ?_
          simp only [Act.put, List.setIfInBounds_toArray, List.set_cons_zero, List.set_cons_succ]
          refine hold_take 3 (.bool true) rfl (by kernel_rfl) (by kernel_rfl) (by kernel_rfl) (by kernel_rfl) (by kernel_rfl) (fun _ _ _ h => h) (by rfl) (fun _ => rfl) HS (fun w' hS => by obtain ⟨q0, q1, q2, q3, q4, q5, q6, q7, q8⟩ := hS; go_simp; try rfl) ?_
          simp only [Act.put, List.setIfInBounds_toArray, List.set_cons_zero, List.set_cons_succ]
          refine hold_take 4 _ rfl (by kernel_rfl) (by kernel_rfl) (by kernel_rfl) (by kernel_rfl) (by kernel_rfl) (fun _ _ _ h => h) (by rfl) (fun _ => rfl) HS (fun w' hS => by obtain ⟨q0, q1, q2, q3, q4, q5, q6, q7, q8⟩ := hS; go_simp; try rfl) ?_
          simp only [Act.put, List.setIfInBounds_toArray, List.set_cons_zero, List.set_cons_succ]
          refine hold_take 5 _ rfl (by kernel_rfl) (by kernel_rfl) (by kernel_rfl) (by kernel_rfl) (by kernel_rfl) (fun _ _ _ h => h) (by rfl) (fun _ => rfl) HS (fun w' hS => by obtain ⟨q0, q1, q2, q3, q4, q5, q6, q7, q8⟩ := hS; go_simp; try rfl) ?_
          simp only [Act.put, List.setIfInBounds_toArray, List.set_cons_zero, List.set_cons_succ]
          refine hold_take 6 (.bool false) rfl (by kernel_rfl) (by kernel_rfl) (by kernel_rfl) (by kernel_rfl) (by kernel_rfl) (fun _ _ _ h => h) (by rfl) (fun _ => rfl) HS (fun w' hS => by obtain ⟨q0, q1, q2, q3, q4, q5, q6, q7, q8⟩ := hS; go_simp; try rfl) ?_
          simp only [Act.put, List.setIfInBounds_toArray, List.set_cons_zero, List.set_cons_succ]
          refine hold_take 7 _ rfl (by kernel_rfl) (by kernel_rfl) (by kernel_rfl) (by kernel_rfl) (by kernel_rfl) (fun _ _ _ h => h) (by rfl) (fun _ => rfl) HS (fun w' hS => by obtain ⟨q0, q1, q2, q3, q4, q5, q6, q7, q8⟩ := hS; go_simp; try rfl) ?_
          simp only [Act.put, List.setIfInBounds_toArray, List.set_cons_zero, List.set_cons_succ]
          refine hold_take 8 (.bool true) rfl (by kernel_rfl) (by kernel_rfl) (by kernel_rfl) (by kernel_rfl) (by kernel_rfl) (fun _ _ _ h => h) (by rfl) (fun _ => rfl) HS (fun w' hS => by obtain ⟨q0, q1, q2, q3, q4, q5, q6, q7, q8⟩ := hS; go_simp; try rfl) ?_
          simp only [Act.put, List.setIfInBounds_toArray, List.set_cons_zero, List.set_cons_succ]
          refine hold_take 9 (.bool true) rfl (by kernel_rfl) (by kernel_rfl) (by kernel_rfl) (by kernel_rfl) (by kernel_rfl) (fun _ _ _ h => h) (by rfl) (fun _ => rfl) HS (fun w' hS => by obtain ⟨q0, q1, q2, q3, q4, q5, q6, q7, q8⟩ := hS; go_simp; try rfl) ?_
          simp only [Act.put, List.setIfInBounds_toArray, List.set_cons_zero, List.set_cons_succ]
          refine hold_take 10 _ rfl (by kernel_rfl) (by kernel_rfl) (by kernel_rfl) (by kernel_rfl) (by kernel_rfl) (fun _ _ _ h => h) (by rfl) (fun _ => rfl) HS (fun w' hS => by obtain ⟨q0, q1, q2, q3, q4, q5, q6, q7, q8⟩ := hS; go_simp; try rfl) ?_
          simp only [Act.put, List.setIfInBounds_toArray, List.set_cons_zero, List.set_cons_succ]
          refine hold_take 11 _ rfl (by kernel_rfl) (by kernel_rfl) (by kernel_rfl) (by kernel_rfl) (by kernel_rfl) (fun _ _ _ h => h) (by rfl) (fun _ => rfl) HS (fun w' hS => by obtain ⟨q0, q1, q2, q3, q4, q5, q6, q7, q8⟩ := hS; go_simp; try rfl) ?_
          simp only [Act.put, List.setIfInBounds_toArray, List.set_cons_zero, List.set_cons_succ]
          refine hold_take 12 (.bool false) rfl (by kernel_rfl) (by kernel_rfl) (by kernel_rfl) (by kernel_rfl) (by kernel_rfl) (fun _ _ _ h => h) (by rfl) (fun _ => rfl) HS (fun w' hS => by obtain ⟨q0, q1, q2, q3, q4, q5, q6, q7, q8⟩ := hS; go_simp; try rfl) ?_
          simp only [Act.put, List.setIfInBounds_toArray, List.set_cons_zero, List.set_cons_succ]
          refine hold_take 13 _ rfl (by kernel_rfl) (by kernel_rfl) (by kernel_rfl) (by kernel_rfl) (by kernel_rfl) (fun _ _ _ h => h) (by rfl) (fun _ => rfl) HS (fun w' hS => by obtain ⟨q0, q1, q2, q3, q4, q5, q6, q7, q8⟩ := hS; go_simp; try rfl) ?_
          simp only [Act.put, List.setIfInBounds_toArray, List.set_cons_zero, List.set_cons_succ]
          refine hold_take 14 (.bool false) rfl (by kernel_rfl) (by kernel_rfl) (by kernel_rfl) (by kernel_rfl) (by kernel_rfl) (fun _ _ _ h => h) (by rfl) (fun _ => rfl) HS (fun w' hS => by obtain ⟨q0, q1, q2, q3, q4, q5, q6, q7, q8⟩ := hS; go_simp; try rfl) ?_
          simp only [Act.put, List.setIfInBounds_toArray, List.set_cons_zero, List.set_cons_succ]
          refine hold_take 15 _ rfl (by kernel_rfl) (by kernel_rfl) (by kernel_rfl) (by kernel_rfl) (by kernel_rfl) (fun _ _ _ h => h) (by rfl) (fun _ => rfl) HS (fun w' hS => by obtain ⟨q0, q1, q2, q3, q4, q5, q6, q7, q8⟩ := hS; go_simp; try rfl) ?_
          simp only [Act.put, List.setIfInBounds_toArray, List.set_cons_zero, List.set_cons_succ]
          refine hold_skip 16 rfl (by kernel_rfl) (by kernel_rfl) (by kernel_rfl) (by kernel_rfl) (by kernel_rfl) (fun _ _ _ h => h) (by rfl) (fun _ => rfl) HS ?_
          simp only [Act.put, List.setIfInBounds_toArray, List.set_cons_zero, List.set_cons_succ]
          refine hold_skip 17 rfl (by kernel_rfl) (by kernel_rfl) (by kernel_rfl) (by kernel_rfl) (by kernel_rfl) (fun _ _ _ h => h) (by rfl) (fun _ => rfl) HS ?_
          simp only [Act.put, List.setIfInBounds_toArray, List.set_cons_zero, List.set_cons_succ]
          refine hold_take 18 (.bool false) rfl (by kernel_rfl) (by kernel_rfl) (by kernel_rfl) (by kernel_rfl) (by kernel_rfl) (fun _ _ _ h => h) (by rfl) (fun _ => rfl) HS (fun w' hS => by obtain ⟨q0, q1, q2, q3, q4, q5, q6, q7, q8⟩ := hS; go_simp; try rfl) ?_
          simp only [Act.put, List.setIfInBounds_toArray, List.set_cons_zero, List.set_cons_succ]
          refine hold_take 19 (.bool true) rfl (by kernel_rfl) (by kernel_rfl) (by kernel_rfl) (by kernel_rfl) (by kernel_rfl) (fun _ _ _ h => h) (by rfl) (fun _ => rfl) HS (fun w' hS => by obtain ⟨q0, q1, q2, q3, q4, q5, q6, q7, q8⟩ := hS; go_simp; try rfl) ?_
          simp only [Act.put, List.setIfInBounds_toArray, List.set_cons_zero, List.set_cons_succ]
          refine hold_take 20 (.bool true) rfl (by kernel_rfl) (by kernel_rfl) (by kernel_rfl) (by kernel_rfl) (by kernel_rfl) (fun _ _ _ h => h) (by rfl) (fun _ => rfl) HS (fun w' hS => by obtain ⟨q0, q1, q2, q3, q4, q5, q6, q7, q8⟩ := hS; go_simp; try rfl) ?_
          simp only [Act.put, List.setIfInBounds_toArray, List.set_cons_zero, List.set_cons_succ]
          refine hold_take 21 _ rfl (by kernel_rfl) (by kernel_rfl) (by kernel_rfl) (by kernel_rfl) (by kernel_rfl) (fun _ _ _ h => h) (by rfl) (fun _ => rfl) HS (fun w' hS => by obtain ⟨q0, q1, q2, q3, q4, q5, q6, q7, q8⟩ := hS; go_simp; try rfl) ?_
          simp only [Act.put, List.setIfInBounds_toArray, List.set_cons_zero, List.set_cons_succ]
          refine hold_take 22 _ rfl (by kernel_rfl) (by kernel_rfl) (by kernel_rfl) (by kernel_rfl) (by kernel_rfl) (fun _ _ _ h => h) (by rfl) (fun _ => rfl) HS (fun w' hS => by obtain ⟨q0, q1, q2, q3, q4, q5, q6, q7, q8⟩ := hS; go_simp; try rfl) ?_
          simp only [Act.put, List.setIfInBounds_toArray, List.set_cons_zero, List.set_cons_succ]
          refine hold_take 24 _ rfl (by kernel_rfl) (by kernel_rfl) (by kernel_rfl) (by kernel_rfl) (by kernel_rfl) (fun _ _ _ h => h) (by rfl) (fun _ => rfl) HS (fun w' hS => by obtain ⟨q0, q1, q2, q3, q4, q5, q6, q7, q8⟩ := hS; go_simp; try rfl) ?_
          simp only [Act.put, List.setIfInBounds_toArray, List.set_cons_zero, List.set_cons_succ]
          refine hold_take 25 (.bool true) rfl (by kernel_rfl) (by kernel_rfl) (by kernel_rfl) (by kernel_rfl) (by kernel_rfl) (fun _ _ _ h => h) (by rfl) (fun _ => rfl) HS (fun w' hS => by obtain ⟨q0, q1, q2, q3, q4, q5, q6, q7, q8⟩ := hS; go_simp; try rfl) ?_
          simp only [Act.put, List.setIfInBounds_toArray, List.set_cons_zero, List.set_cons_succ]
          refine hold_one 23 (by kernel_rfl) rfl (by rfl) fun K hK => ?_
          go_simp
          refine ⟨trivial, rfl, (callsIn_wide.2 (CM.out w4.drew)).mono ?_⟩
          rintro e w5 ⟨rfl, hb5⟩
          have hsd : w4.drew.heap.size = w4.heap.size := rfl
          have H5 := cover ((below_drewN H4.out 1).trans (hb5.mono (by omega)))
          have HS5 : (fun W' : World => (World.cell? W' ⟨w.heap.size, 0, none⟩ = some (.int .i64 p.to) ∧ World.cell? W' ⟨w.heap.size, 1, none⟩ = some (.int .i64 p.frm) ∧ World.cell? W' ⟨w.heap.size, 2, none⟩ = some (.bool p.resp) ∧ World.cell? W' ⟨w.heap.size, 3, none⟩ = some (.int .i64 p.form) ∧ World.cell? W' ⟨w.heap.size, 4, none⟩ = some (.int .i64 p.kind) ∧ World.cell? W' ⟨w.heap.size, 5, none⟩ = some (.int .i64 p.ns) ∧ World.cell? W' ⟨w.heap.size, 6, none⟩ = some (.int .i64 p.nr) ∧ World.cell? W' ⟨w.heap.size, 7, none⟩ = some (.bool p.poll) ∧ World.cell? W' ⟨w.heap.size, 8, none⟩ = some (.slice A p.info.length c))) w5 := pdu_cells ((hb5.block _ (by omega)).trans (show w4.drew.heap[w.heap.size]? = _ from G4.out))
          refine hK _ _ (.inr HS5) ?_
          clear hK K hb5 hsd
          refine hold_take 26 _ rfl (by kernel_rfl) (by kernel_rfl) (by kernel_rfl) (by kernel_rfl) (by kernel_rfl) (fun _ _ _ h => h) (by rfl) (fun _ => rfl) HS5 (fun w' hS => by obtain ⟨q0, q1, q2, q3, q4, q5, q6, q7, q8⟩ := hS; go_simp; try rfl) ?_
          simp only [Act.put, List.setIfInBounds_toArray, List.set_cons_zero, List.set_cons_succ]
          refine hold_take 27 _ rfl (by kernel_rfl) (by kernel_rfl) (by kernel_rfl) (by kernel_rfl) (by kernel_rfl) (fun _ _ _ h => h) (by rfl) (fun _ => rfl) HS5 (fun w' hS => by obtain ⟨q0, q1, q2, q3, q4, q5, q6, q7, q8⟩ := hS; go_simp; try rfl) ?_
          simp only [Act.put, List.setIfInBounds_toArray, List.set_cons_zero, List.set_cons_succ]
          refine hold_take 28 (.bool true) rfl (by kernel_rfl) (by kernel_rfl) (by kernel_rfl) (by kernel_rfl) (by kernel_rfl) (fun _ _ _ h => h) (by rfl) (fun _ => rfl) HS5 (fun w' hS => by obtain ⟨q0, q1, q2, q3, q4, q5, q6, q7, q8⟩ := hS; go_simp; try rfl) ?_
          simp only [Act.put, List.setIfInBounds_toArray, List.set_cons_zero, List.set_cons_succ]
          refine hold_take 29 (.bool false) rfl (by kernel_rfl) (by kernel_rfl) (by kernel_rfl) (by kernel_rfl) (by kernel_rfl) (fun _ _ _ h => h) (by rfl) (fun _ => rfl) HS5 (fun w' hS => by obtain ⟨q0, q1, q2, q3, q4, q5, q6, q7, q8⟩ := hS; go_simp; try rfl) ?_
          simp only [Act.put, List.setIfInBounds_toArray, List.set_cons_zero, List.set_cons_succ]
          refine hold_take 30 (.bool false) rfl (by kernel_rfl) (by kernel_rfl) (by kernel_rfl) (by kernel_rfl) (by kernel_rfl) (fun _ _ _ h => h) (by rfl) (fun _ => rfl) HS5 (fun w' hS => by obtain ⟨q0, q1, q2, q3, q4, q5, q6, q7, q8⟩ := hS; go_simp; try rfl) ?_
          simp only [Act.put, List.setIfInBounds_toArray, List.set_cons_zero, List.set_cons_succ]
          refine hold_one 31 (by kernel_rfl) rfl (by rfl) fun K hK => ?_
          go_simp
          refine hK _ _ (.inr HS5) ?_
          clear hK K
          refine hold_one 32 (by kernel_rfl) rfl (by rfl) fun K hK => ?_
          go_simp
          refine hK _ _ (.inr HS5) ?_
          clear hK K
          refine hold_one 33 (by kernel_rfl) rfl (by rfl) fun K hK => ?_
          go_simp
          refine hK _ _ (.inl rfl) (held_done (by kernel_rfl) ?_ _)
          clear hK K
          go_wp2
          go_ret
          exact ⟨rfl, H5.out⟩
end Go.Proofs.Ytihbnphgjpohpaa
