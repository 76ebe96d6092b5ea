/- What the document's own Hear hands back for a command (kind 2). What the document's own Hear hands back. -/
import Derived.Test.YtgpmimohoepeiaaFNet
import Derived.Test.YtgpmimohoepeiaaHRHear
import Derived.Test.YtgpmimohoepeiaaHRCmd1
namespace Go.Proofs.Ytgpmimohoepeiaa
open Go.RowKit
set_option linter.unusedVariables false
set_option linter.unusedSimpArgs false

set_option maxRecDepth 100000 in
set_option maxHeartbeats 6400000 in
theorem rhear_cmd2_z0 {Bs : Nat} {w : World} {r : Nat} {l : List SV} (h : RHas Bs w r l) (pe : A6) (p : PV) (Ap : Option Addr) (cp : Nat) (hr : Row w w.heap.size Ap p.info.length p.info) (hpl : p.info.length ≤ 140737488355328) (hone : IsOne p) (hk : p.kind = 2) (hrs : p.resp = false) (ht : p.to = 0) (hf : p.frm = 0) :
    Calls Try.prog 22 #[ptr r, .agg #[.int .u8 pe.a0, .int .u8 pe.a1, .int .u8 pe.a2, .int .u8 pe.a3, .int .u8 pe.a4, .int .u8 pe.a5], .agg #[.int .i64 p.to, .int .i64 p.frm, .bool p.resp, .int .i64 p.form, .int .i64 p.kind, .int .i64 p.ns, .int .i64 p.nr, .bool p.poll, .slice Ap p.info.length cp]] w (HearOut (toldP l pe p) (sentP l p) w) := by
  obtain ⟨b, hb⟩ : ∃ b, w.heap.size = b := ⟨_, rfl⟩
  have HB := cover hb
  obtain ⟨L0, hL0⟩ : ∃ L0, L0 = p.info.length := ⟨_, rfl⟩
  have HL0 := cover hL0
  have HT := cover (fun W => ref_type_any p Ap cp W)
  rw [← hL0] at HT ⊢
  obtain ⟨w1, hw1⟩ : ∃ w1, w1 = (w.alloc (.cells #[.int .u8 pe.a0, .int .u8 pe.a1, .int .u8 pe.a2, .int .u8 pe.a3, .int .u8 pe.a4, .int .u8 pe.a5] 37)).alloc (.cells #[.int .i64 p.to, .int .i64 p.frm, .bool p.resp, .int .i64 p.form, .int .i64 p.kind, .int .i64 p.ns, .int .i64 p.nr, .bool p.poll, .slice Ap L0 cp] 29) := ⟨_, rfl⟩
  have hb1 : Below b w w1 := by rw [hw1, ← hb]; exact ((Below.refl _ _).alloc (Nat.le_refl _) _).alloc (by simp) _
  have hs1 : w1.heap.size = b + 2 := by rw [hw1]; simp [hb]
  have g0 : w1.heap[b]? = some (.cells #[.int .u8 pe.a0, .int .u8 pe.a1, .int .u8 pe.a2, .int .u8 pe.a3, .int .u8 pe.a4, .int .u8 pe.a5] 37 (0, 0)) := by rw [hw1, ← hb]; exact heap_alloc2_old _ _ _
  have g1 : w1.heap[b + 1]? = some (.cells #[.int .i64 p.to, .int .i64 p.frm, .bool p.resp, .int .i64 p.form, .int .i64 p.kind, .int .i64 p.ns, .int .i64 p.nr, .bool p.poll, .slice Ap L0 cp] 29 (0, 0)) := by rw [hw1, ← hb]; exact heap_alloc2_new _ _ _
  have HCell : Hid (∀ W, Below (b + 2) w1 W → (W.cell? ⟨b, 0, none⟩ = some (.int .u8 pe.a0) ∧ W.cell? ⟨b, 1, none⟩ = some (.int .u8 pe.a1) ∧ W.cell? ⟨b, 2, none⟩ = some (.int .u8 pe.a2) ∧ W.cell? ⟨b, 3, none⟩ = some (.int .u8 pe.a3) ∧ W.cell? ⟨b, 4, none⟩ = some (.int .u8 pe.a4) ∧ W.cell? ⟨b, 5, none⟩ = some (.int .u8 pe.a5)) ∧ (W.cell? ⟨b + 1, 0, none⟩ = some (.int .i64 p.to) ∧ W.cell? ⟨b + 1, 1, none⟩ = some (.int .i64 p.frm) ∧ W.cell? ⟨b + 1, 2, none⟩ = some (.bool p.resp) ∧ W.cell? ⟨b + 1, 3, none⟩ = some (.int .i64 p.form) ∧ W.cell? ⟨b + 1, 4, none⟩ = some (.int .i64 p.kind) ∧ W.cell? ⟨b + 1, 5, none⟩ = some (.int .i64 p.ns) ∧ W.cell? ⟨b + 1, 6, none⟩ = some (.int .i64 p.nr) ∧ W.cell? ⟨b + 1, 7, none⟩ = some (.bool p.poll) ∧ W.cell? ⟨b + 1, 8, none⟩ = some (.slice Ap L0 cp))) := cover fun W hW => by
    have e0 := (hW.block b (by omega)).trans g0
    have e1 := (hW.block (b + 1) (by omega)).trans g1
    refine ⟨⟨?_, ?_, ?_, ?_, ?_, ?_⟩, pdu_cells e1⟩
    all_goals (rw [cell_of_row _ _ _ _ _ _ e0]; rfl)
  have HSz : Hid (∀ W, Below (b + 2) w1 W → b + 2 ≤ W.heap.size) := cover fun W hW => by rw [← hs1]; exact hW.size
  have HRow : Hid (∀ W, Below (b + 2) w1 W → Row W b Ap p.info.length p.info) := cover fun W hW => by
    have h1 := hr
    rw [hb] at h1
    exact (h1.below hb1).below (hW.mono (by omega))
  have HRH : Hid (∀ W, Below (b + 2) w1 W → RHas Bs W r l) := cover fun W hW => h.below (by rw [hb]; exact hb1.trans (hW.mono (by omega)))
  have HOut : Hid (∀ W, Below (b + 2) w1 W → Below b w W) := cover fun W hW => hb1.trans (hW.mono (by omega))
  have hin := cover h.ok
  have mixed : Try.prog.follows .mixedOrders = true := by kernel_rfl
  obtain ⟨ty, hty⟩ : ∃ ty, ty = typeP p := ⟨_, rfl⟩
  rw [← hty] at HT
  have HTY := cover hty
  have hB0 : Below (b + 2) w1 w1 := Below.refl _ _
  have hsub : Below w1.heap.size w1 w1 := Below.refl _ _
  obtain ⟨_, p0, p1, p2, p3, p4, p5, p6, p7, p8⟩ := HCell.out w1 hB0
  have HS1 := cover hs1
  clear h hr g0 g1 hb1 hty hL0 hb
  have hty1 : (ty != 1) = false := by
    have : ty = 1 := by rw [HTY.out]; exact typeP_one.2 hone
    rw [this]; rfl
  have HTOLD : Hid (toldP l pe p = []) := cover (toldP_cmd (by omega) hrs)
  have HSENT0 : Hid (sentP l p = (0 :: hearS l p.to).map (ansV l p)) := cover (by
    rw [sentP_cmd hone (by omega) hrs]
    unfold askedS
    rw [if_neg (fun h => h.2 ht), if_pos (.inl ht)]
    rfl)
  have HANS : Hid (∀ x, ansV l p x = (⟨p.frm, x, true, 2, p.kind, 0, 0, p.poll, p.info⟩ : PV)) := cover fun x => by unfold ansV; rw [if_neg (by omega)]
  have HC0 : Hid (clsS l 0 = 0) := cover (clsS_no (by
    cases hh : hasS l 0 with
    | false => rfl
    | true => exact absurd (ok_has hin.out hh).1 (by omega)))
  have HMEM : Hid (∀ x ∈ hearS l p.to, x = 0 ∨ (1 ≤ clsS l x ∧ clsS l x ≤ 4)) := cover fun x hx => .inr (cls_ok hin.out (hear_active hx))
  have hresp := cover hrs
  have hk0 : (p.kind == 0) = false := by rw [hk]; rfl
  have hk1 : (p.kind == 1) = false := by rw [hk]; rfl
  have hk2 : (p.kind == 2) = true := by rw [hk]; rfl
  have ht0 : (p.to == 0) = true := by rw [ht]; rfl
  have ht1 : (p.to == 255) = false := by rw [ht]; rfl
  have ht3 : (p.to != 0) = false := by rw [ht]; rfl
  have hf0 : (p.frm == 0) = true := by rw [hf]; rfl
  clear hone hk hrs ht hf
  go_enter Try.func22, Try.ntmps22
  go_upto_region 1 with fail
  rw [← hw1, HB.out]
  clear hw1
  go_wp2_with fail
  refine (HT.out w1).mono ?_
  rintro e w2 ⟨rfl, hb2⟩
  rw [HS1.out] at hb2
  clear p0 p1 p2 p3 p4 p5 p6 p7 p8 HT hs1 hsub hB0
  obtain ⟨_, p0, p1, p2, p3, p4, p5, p6, p7, p8⟩ := HCell.out w2 hb2
  go_wp2_with fail
  refine (rhears_has (HRH.out w2 hb2) p.to).mono ?_
  rintro e w3 ⟨A, c, rfl, HO⟩
  obtain ⟨L, hL⟩ : ∃ L, L = hearS l p.to := ⟨_, rfl⟩
  have HLE := cover hL
  rw [← hL] at HO ⊢
  have hl16 : L.length ≤ 16 := by rw [hL]; exact hear_len16 hin.out _
  have hb3 : Below (b + 2) w1 w3 := hb2.trans (HO.out.2.mono (HSz.out w2 hb2))
  have HRW := cover (own_base (base' := 0) HO.out.1 (Nat.zero_le _))
  obtain ⟨n, hn⟩ : ∃ n, n = L.length := ⟨_, rfl⟩
  have HNL := cover hn
  rw [← hn] at HRW hl16 ⊢
  clear hb2 HO hL hn p0 p1 p2 p3 p4 p5 p6 p7 p8
  obtain ⟨_, p0, p1, p2, p3, p4, p5, p6, p7, p8⟩ := HCell.out w3 hb3
  rw [← HLE.out] at HSENT0 HMEM
  rw [hresp.out] at p2
  obtain ⟨g3, hg3⟩ : ∃ g3, g3 = w3.heap.size := ⟨_, rfl⟩
  obtain ⟨w5, hw5⟩ : ∃ w5, w5 = w3.alloc (.cells #[.int .i64 0] 3) := ⟨_, rfl⟩
  have hm5 : Below w3.heap.size w3 w5 := by rw [hw5]; exact (Below.refl _ _).alloc (Nat.le_refl _) _
  have hb5 : Below (b + 2) w1 w5 := hb3.trans (hm5.mono (HSz.out w3 hb3))
  have hn5 : w5.heap[g3]? = some (.cells #[.int .i64 0] 3 (0, 0)) := by rw [hw5, hg3]; exact heap_alloc_new _ _
  have HAZ := cover (append_zero (base := b + 2) hn5 (by rw [hg3]; exact HSz.out _ hb3) (HSz.out _ hb5) (own_blocks HRW.out hm5) (by omega))
  have HW5 := cover (And.intro hw5 hg3)
  clear hm5 hn5 hb3 HRW hw5 hg3
  go_wp2_with (at_builtin; rw [← HW5.out.1, ← HW5.out.2]; refine appends_list rfl _ _ _ rfl _ _ rfl rfl HAZ.out ?_; rintro v6 w6 ⟨⟨A6, c6, rfl⟩, H6⟩; have hb6 := H6.out.2 _ hb5; clear p0 p1 p2 p3 p4 p5 p6 p7 p8; obtain ⟨_, p0, p1, p2, p3, p4, p5, p6, p7, p8⟩ := HCell.out w6 hb6)
  have HRW := cover H6.out.1
  clear HAZ HW5 H6 hb5
  obtain ⟨L2, hL2⟩ : ∃ L2, L2 = 0 :: L := ⟨_, rfl⟩
  obtain ⟨n2, hn2⟩ : ∃ n2, n2 = n + 1 := ⟨_, rfl⟩
  have HNL2 : Hid (n2 = L2.length) := cover (by rw [hn2, hL2, HNL.out]; rfl)
  have hl17 : n2 ≤ 17 := by omega
  have HLM2 : Hid (∀ x ∈ L2, x = 0 ∨ (1 ≤ clsS l x ∧ clsS l x ≤ 4)) := cover fun x hx => by
    rw [hL2] at hx
    rcases List.mem_cons.1 hx with e | hx
    · exact .inl e
    · exact HMEM.out x hx
  have HSENT : Hid (sentP l p = L2.map (ansV l p)) := cover (by rw [HSENT0.out, hL2])
  rw [← hL2, ← hn2] at HRW
  rw [← hn2]
  clear HNL HMEM HSENT0 hL2 hn2 HLE
  have HI0 : Hid (RP w1 (b + 2) A6 n2 c6 L2 [] (.slice none 0 0) w6) := cover ⟨HRW.out, hb6, PdusIn.nil _ _⟩
  go_wp2_with fail
  clear HRW hb6 p0 p1 p2 p3 p4 p5 p6 p7 p8
  go_loopw [10, 13] (fun vv i wr => ∃ (v : Value) (j : Nat), j ≤ n2 ∧ vv = v ∧ i = .int .i64 j ∧ Hid (RP w1 (b + 2) A6 n2 c6 L2 ((L2.take j).map (ansV l p)) v wr)) (fun _ i _ => n2 - (intOf i).toNat)
  case atStart => exact ⟨_, 0, Nat.zero_le _, rfl, rfl, by rw [List.take_zero]; exact HI0⟩
  case round =>
    obtain ⟨v, j, hj, hv, rfl, hrel⟩ := hrel
    have hv2 := hv.symm
    subst hv2
    clear hv
    by_cases hlt : j < n2
    · obtain ⟨x, hx⟩ : ∃ x, L2[j]? = some x := ⟨_, List.getElem?_eq_getElem (by rw [← HNL2.out]; exact hlt)⟩
      obtain ⟨g, hA, hgl, _, hc0⟩ := own_cell hrel.out.row (j := j) (x := .int .i64 x) (by rw [List.getElem?_map, hx]; rfl)
      subst hA
      have hbr := hrel.out.bel
      have hxm := HLM2.out x (List.mem_of_getElem? hx)
      have HS : Hid (∀ W', Below wr.heap.size wr W' → (fun W' : World => W'.cell? ⟨g, j, none⟩ = some (.int .i64 x) ∧ W'.cell? ⟨b + 1, 1, none⟩ = some (.int .i64 p.frm) ∧ W'.cell? ⟨b + 1, 4, none⟩ = some (.int .i64 p.kind) ∧ W'.cell? ⟨b + 1, 7, none⟩ = some (.bool p.poll) ∧ W'.cell? ⟨b + 1, 8, none⟩ = some (.slice Ap L0 cp) ∧ Below wr.heap.size wr W') W') := cover fun W' hb' => by
        obtain ⟨_, _, e1, _, _, e4, _, _, e7, e8⟩ := HCell.out W' (hbr.trans (hb'.mono (HSz.out wr hbr)))
        exact ⟨(hb'.cell (p := ⟨g, j, none⟩) hgl).trans hc0, e1, e4, e7, e8, hb'⟩
      have hb0 : Below wr.heap.size wr wr.drew := (Below.refl _ _).drew
      have h3 : (fun W' : World => W'.cell? ⟨g, j, none⟩ = some (.int .i64 x) ∧ W'.cell? ⟨b + 1, 1, none⟩ = some (.int .i64 p.frm) ∧ W'.cell? ⟨b + 1, 4, none⟩ = some (.int .i64 p.kind) ∧ W'.cell? ⟨b + 1, 7, none⟩ = some (.bool p.poll) ∧ W'.cell? ⟨b + 1, 8, none⟩ = some (.slice Ap L0 cp) ∧ Below wr.heap.size wr W') wr.drew := HS.out _ hb0
      have HX := cover hx
      have HC : Hid (∀ W', Below wr.heap.size wr W' → Calls Try.prog 41 #[.slice Ap L0 cp] W' (GivesB W' p.info)) := cover fun W' hb' => by
        have hbd := hbr.trans (hb'.mono (HSz.out wr hbr))
        rw [HL0.out]
        exact copy_any Ap p.info.length cp b p.info W' (HRow.out _ hbd) (by have := HSz.out _ hbd; omega) hpl
      clear hx hc0
      go_wp2_with fail
      refine (wpIn_wide (n := 0)).1 ?_
      refine held_begin (fun W' : World => W'.cell? ⟨g, j, none⟩ = some (.int .i64 x) ∧ W'.cell? ⟨b + 1, 1, none⟩ = some (.int .i64 p.frm) ∧ W'.cell? ⟨b + 1, 4, none⟩ = some (.int .i64 p.kind) ∧ W'.cell? ⟨b + 1, 7, none⟩ = some (.bool p.poll) ∧ W'.cell? ⟨b + 1, 8, none⟩ = some (.slice Ap L0 cp) ∧ Below wr.heap.size wr W') 15 mixed ?_
      refine hold_take 0 _ rfl (by kernel_rfl) (by kernel_rfl) (by kernel_rfl) (by kernel_rfl) (by kernel_rfl) (fun _ _ _ h => h) (by rfl) (fun _ => rfl) h3 (fun w' hS => by obtain ⟨q0, q1, q2, q3, q4, q5⟩ := hS; go_simp; rfl) ?_
      simp only [Act.put, List.setIfInBounds_toArray, List.set_cons_zero, List.set_cons_succ]
      refine hold_take 1 _ rfl (by kernel_rfl) (by kernel_rfl) (by kernel_rfl) (by kernel_rfl) (by kernel_rfl) (fun _ _ _ h => h) (by rfl) (fun _ => rfl) h3 (fun w' hS => by obtain ⟨q0, q1, q2, q3, q4, q5⟩ := hS; go_simp; rfl) ?_
      simp only [Act.put, List.setIfInBounds_toArray, List.set_cons_zero, List.set_cons_succ]
      refine hold_take 2 _ rfl (by kernel_rfl) (by kernel_rfl) (by kernel_rfl) (by kernel_rfl) (by kernel_rfl) (fun _ _ _ h => h) (by rfl) (fun _ => rfl) h3 (fun w' hS => by obtain ⟨q0, q1, q2, q3, q4, q5⟩ := hS; go_simp; rfl) ?_
      simp only [Act.put, List.setIfInBounds_toArray, List.set_cons_zero, List.set_cons_succ]
      refine hold_take 3 _ rfl (by kernel_rfl) (by kernel_rfl) (by kernel_rfl) (by kernel_rfl) (by kernel_rfl) (fun _ _ _ h => h) (by rfl) (fun _ => rfl) h3 (fun w' hS => by obtain ⟨q0, q1, q2, q3, q4, q5⟩ := hS; go_simp; rfl) ?_
      simp only [Act.put, List.setIfInBounds_toArray, List.set_cons_zero, List.set_cons_succ]
      refine hold_take 4 _ rfl (by kernel_rfl) (by kernel_rfl) (by kernel_rfl) (by kernel_rfl) (by kernel_rfl) (fun _ _ _ h => h) (by rfl) (fun _ => rfl) h3 (fun w' hS => by obtain ⟨q0, q1, q2, q3, q4, q5⟩ := hS; go_simp; rfl) ?_
      simp only [Act.put, List.setIfInBounds_toArray, List.set_cons_zero, List.set_cons_succ]
      refine hold_take 5 _ rfl (by kernel_rfl) (by kernel_rfl) (by kernel_rfl) (by kernel_rfl) (by kernel_rfl) (fun _ _ _ h => h) (by rfl) (fun _ => rfl) h3 (fun w' hS => by obtain ⟨q0, q1, q2, q3, q4, q5⟩ := hS; go_simp; rfl) ?_
      simp only [Act.put, List.setIfInBounds_toArray, List.set_cons_zero, List.set_cons_succ]
      refine hold_take 6 _ rfl (by kernel_rfl) (by kernel_rfl) (by kernel_rfl) (by kernel_rfl) (by kernel_rfl) (fun _ _ _ h => h) (by rfl) (fun _ => rfl) h3 (fun w' hS => by obtain ⟨q0, q1, q2, q3, q4, q5⟩ := hS; go_simp; rfl) ?_
      simp only [Act.put, List.setIfInBounds_toArray, List.set_cons_zero, List.set_cons_succ]
      refine hold_take 7 _ rfl (by kernel_rfl) (by kernel_rfl) (by kernel_rfl) (by kernel_rfl) (by kernel_rfl) (fun _ _ _ h => h) (by rfl) (fun _ => rfl) h3 (fun w' hS => by obtain ⟨q0, q1, q2, q3, q4, q5⟩ := hS; go_simp; rfl) ?_
      simp only [Act.put, List.setIfInBounds_toArray, List.set_cons_zero, List.set_cons_succ]
      refine hold_take 8 _ rfl (by kernel_rfl) (by kernel_rfl) (by kernel_rfl) (by kernel_rfl) (by kernel_rfl) (fun _ _ _ h => h) (by rfl) (fun _ => rfl) h3 (fun w' hS => by obtain ⟨q0, q1, q2, q3, q4, q5⟩ := hS; go_simp; rfl) ?_
      simp only [Act.put, List.setIfInBounds_toArray, List.set_cons_zero, List.set_cons_succ]
      refine hold_take 9 _ rfl (by kernel_rfl) (by kernel_rfl) (by kernel_rfl) (by kernel_rfl) (by kernel_rfl) (fun _ _ _ h => h) (by rfl) (fun _ => rfl) h3 (fun w' hS => by obtain ⟨q0, q1, q2, q3, q4, q5⟩ := hS; go_simp; rfl) ?_
      simp only [Act.put, List.setIfInBounds_toArray, List.set_cons_zero, List.set_cons_succ]
      refine hold_take 10 _ rfl (by kernel_rfl) (by kernel_rfl) (by kernel_rfl) (by kernel_rfl) (by kernel_rfl) (fun _ _ _ h => h) (by rfl) (fun _ => rfl) h3 (fun w' hS => by obtain ⟨q0, q1, q2, q3, q4, q5⟩ := hS; go_simp; rfl) ?_
      simp only [Act.put, List.setIfInBounds_toArray, List.set_cons_zero, List.set_cons_succ]
      refine hold_take 11 _ rfl (by kernel_rfl) (by kernel_rfl) (by kernel_rfl) (by kernel_rfl) (by kernel_rfl) (fun _ _ _ h => h) (by rfl) (fun _ => rfl) h3 (fun w' hS => by obtain ⟨q0, q1, q2, q3, q4, q5⟩ := hS; go_simp; rfl) ?_
      simp only [Act.put, List.setIfInBounds_toArray, List.set_cons_zero, List.set_cons_succ]
      refine net_law (k := 1) [(12, 109), (13, 110), (14, 14)] (VRsp wr.heap.size L0 p x) (fun a b => Below a.heap.size a b) _
        #[true, true, true, true, true, true, true, true, true, true, true, true, true, true, true, false] _ _ (by kernel_rfl) h3 VRsp.stable ?_ ?_
      · intro y hy o ho uu W hSW hd
        have hbW := hSW.2.2.2.2.2
        have hsW := hbW.size
        have keep : ∀ W', Below W.heap.size W W' → (fun W' : World => W'.cell? ⟨g, j, none⟩ = some (.int .i64 x) ∧ W'.cell? ⟨b + 1, 1, none⟩ = some (.int .i64 p.frm) ∧ W'.cell? ⟨b + 1, 4, none⟩ = some (.int .i64 p.kind) ∧ W'.cell? ⟨b + 1, 7, none⟩ = some (.bool p.poll) ∧ W'.cell? ⟨b + 1, 8, none⟩ = some (.slice Ap L0 cp) ∧ Below wr.heap.size wr W') W' := fun W' hb => HS.out _ (hbW.trans (hb.mono hsW))
        simp only [List.mem_cons, List.not_mem_nil, or_false] at hy
        rcases hy with rfl | rfl | rfl
        · obtain rfl := op_of ho rfl
          simp only [upd, List.foldl_cons, List.foldl_nil, List.setIfInBounds_toArray, List.set_cons_zero, List.set_cons_succ]
          go_simp
          refine ⟨trivial, rfl, (callsIn_wide.2 (HC.out W hbW)).mono ?_⟩
          rintro e w' ⟨A3, c3, rfl, ho2, hb⟩
          exact ⟨keep _ hb, ⟨A3, c3, by rw [HL0.out], ho2.mono hsW⟩, hb⟩
        · obtain rfl := op_of ho rfl
          simp only [upd, List.foldl_cons, List.foldl_nil, List.setIfInBounds_toArray, List.set_cons_zero, List.set_cons_succ]
          obtain ⟨A3, c3, e109, ho3⟩ : VRsp wr.heap.size L0 p x 12 (uu 109) W := hd (12, 109) (by simp) (by kernel_rfl)
          rw [e109]
          go_simp
          exact ⟨⟨A3, c3, rfl, ho3⟩, Below.refl _ _⟩
        · obtain rfl := op_of ho rfl
          simp only [upd, List.foldl_cons, List.foldl_nil, List.setIfInBounds_toArray, List.set_cons_zero, List.set_cons_succ]
          go_simp
          have hb := (Below.refl W.heap.size W).alloc (Nat.le_refl _) (.cells zp 29)
          exact ⟨keep _ hb, ⟨W.heap.size, rfl, hsW, heap_alloc_new _ _⟩, hb⟩
      · intro uu W hSW hV
        obtain ⟨A3, c3, e110, ho3⟩ : VRsp wr.heap.size L0 p x 13 (uu 110) W := hV (13, 110) (by simp)
        obtain ⟨z, e14, hzl, hzh⟩ : VRsp wr.heap.size L0 p x 14 (uu 14) W := hV (14, 14) (by simp)
        obtain ⟨v109, hv109⟩ : ∃ v, v = uu 109 := ⟨_, rfl⟩
        have hbW := hSW.2.2.2.2.2
        simp only [upd, List.foldl_cons, List.foldl_nil, List.setIfInBounds_toArray, List.set_cons_zero, List.set_cons_succ]
        rw [e110, e14, ← hv109]
        clear hV e110 e14 hv109
        have HO3 := cover ho3
        obtain ⟨w5, hw5⟩ : ∃ w5, w5 = W.setRow z #[.int .i64 p.frm, .int .i64 x, .bool true, .int .i64 2, .int .i64 p.kind, .int .i64 0, .int .i64 0, .bool p.poll, .slice A3 L0 c3] := ⟨_, rfl⟩
        have Gz : Hid (w5.heap[z]? = some (.cells #[.int .i64 p.frm, .int .i64 x, .bool true, .int .i64 2, .int .i64 p.kind, .int .i64 0, .int .i64 0, .bool p.poll, .slice A3 L0 c3] 29 (0, 0))) := cover (by rw [hw5]; exact setRow_heap _ _ _ _ _ _ hzh)
        have hB5 : Below wr.heap.size wr w5 := by rw [hw5]; exact Go.below_setRow hbW hzl _
        have hb5 : Below (b + 2) w1 w5 := hbr.trans (hB5.mono (HSz.out wr hbr))
        have HO5 : Hid (OwnB w5 0 (.slice A3 p.info.length c3) p.info) := cover (by
          rw [hw5]
          refine own_base (base' := 0) (row_keeps ho3 (fun i hi => setRow_other _ _ _ _ (fun e => ?_))) (Nat.zero_le _)
          obtain ⟨cur, hcu⟩ := row_type ho3 hi
          subst e
          exact type_ne hcu hzh (by decide) rfl)
        refine hold_one 15 (by kernel_rfl) rfl (by rfl) fun K hK => ?_
        refine run_skip_u (w' := w5) (fun c h => by cases h) (fun _ h => by cases h) (by rw [hw5]; exact exec_store_row _ _ _ rfl z #[.int .i64 p.frm, .int .i64 x, .bool true, .int .i64 2, .int .i64 p.kind, .int .i64 0, .int .i64 0, .bool p.poll, .slice A3 L0 c3] (by go_simp) (by go_simp) 29 zp hzh pdu_size rfl (pdu_one _ _ _ _ _ _ _ _ _ _ _)) ?_
        refine hK _ _ (.inl rfl) (held_done (by kernel_rfl) ?_ _)
        clear hK K hSW hbW ho3 hzh hw5 h3 hb0 HC
        obtain ⟨_, p0, p1, p2, p3, p4, p5, p6, p7, p8⟩ := HCell.out w5 hb5
        obtain ⟨wq, hwq⟩ : ∃ wq, wq = w5.alloc (.cells #[.int .i64 p.frm, .int .i64 x, .bool true, .int .i64 2, .int .i64 p.kind, .int .i64 0, .int .i64 0, .bool p.poll, .slice A3 L0 c3] 29) := ⟨_, rfl⟩
        have hmq : Below w5.heap.size w5 wq := by rw [hwq]; exact (Below.refl _ _).alloc (Nat.le_refl _) _
        have hbq : Below (b + 2) w1 wq := hb5.trans (hmq.mono (HSz.out _ hb5))
        have hnq : wq.heap[w5.heap.size]? = some (.cells #[.int .i64 p.frm, .int .i64 x, .bool true, .int .i64 2, .int .i64 p.kind, .int .i64 0, .int .i64 0, .bool p.poll, .slice A3 L0 c3] 29 (0, 0)) := by rw [hwq]; exact heap_alloc_new _ _
        have hoq : InfP wq ((⟨p.frm, x, true, 2, p.kind, 0, 0, p.poll, p.info⟩ : PV), A3, c3) := ownB_below HO5.out hmq
        have HAP := cover (PdusIn.app (hrel.out.ex.below (hB5.trans (hmq.mono hB5.size))) (HSz.out _ hbq) (⟨p.frm, x, true, 2, p.kind, 0, 0, p.poll, p.info⟩ : PV) hoq (by rw [HL0.out] at hnq; exact hnq) (by rw [List.length_map, List.length_take]; omega))
        have HNX : Hid (∀ v8 w8, PdusIn (b + 2) w8 v8 ((L2.take j).map (ansV l p) ++ [(⟨p.frm, x, true, 2, p.kind, 0, 0, p.poll, p.info⟩ : PV)]) → KeepO (isTyO 29) wq w8 → (∀ w0, Below (b + 2) w0 wq → Below (b + 2) w0 w8) → RP w1 (b + 2) (some ⟨g, 0, none⟩) n2 c6 L2 ((L2.take (j + 1)).map (ansV l p)) v8 w8) := cover fun v8 w8 h1 h2 h3 =>
          ⟨own_typed (own_typed hrel.out.row (KeepO.of_below (p := isTyO 29) (hB5.trans (hmq.mono hB5.size))) (fun _ _ => ty_ne (by decide) _ _)) h2 (fun _ _ => ty_ne (by decide) _ _), h3 _ hbq, by
            rw [List.take_add_one, HX.out, List.map_append]
            have e : ([x] : List Int).map (ansV l p) = [(⟨p.frm, x, true, 2, p.kind, 0, 0, p.poll, p.info⟩ : PV)] := by rw [List.map_cons, List.map_nil, HANS.out x]
            show PdusIn (b + 2) w8 v8 ((L2.take j).map (ansV l p) ++ ([x] : List Int).map (ansV l p))
            rw [e]; exact h1⟩
        clear hmq hbq hnq hoq hrel HX
        go_wp2_with (first
          | (refine wpList_load_row rfl _ _ rfl z rfl 29 #[.int .i64 p.frm, .int .i64 x, .bool true, .int .i64 2, .int .i64 p.kind, .int .i64 0, .int .i64 0, .bool p.poll, .slice A3 L0 c3] (0, 0) _ Gz.out Try.underlying29 rfl pdu_size ?_)
          | (at_builtin; rw [← hwq]; refine appends_list rfl _ _ _ rfl _ _ rfl rfl HAP.out ?_; rintro v8 w8 ⟨⟨A8, c8, hv8⟩, H8⟩; obtain ⟨n8, hn8⟩ : ∃ n8, n8 = ((L2.take j).map (ansV l p)).length + 1 := ⟨_, rfl⟩; rw [← hn8] at hv8; subst hv8; clear hn8))
        have HN := cover (HNX.out _ w8 H8.out.1 H8.out.2.1 H8.out.2.2)
        clear HAP HNX H8 hwq
        go_wp2
        go_roundw
        case rel => exact ⟨_, j + 1, by omega, rfl, by go_num, HN⟩
        case measure => simp [intOf]; omega
    · obtain rfl : j = n2 := by omega
      have hex := hrel.out.ex
      rw [List.take_of_length_le (by rw [HNL2.out]; exact Nat.le_refl _)] at hex
      obtain ⟨Av, cv, hv⟩ := hex.shape
      have HN : Hid (HearOut (toldP l pe p) (sentP l p) w (.returned (.tuple #[.slice none 0 0, v])) wr) := cover (by
        rw [HTOLD.out, HSENT.out]
        exact ⟨none, 0, Av, cv, by rw [hv]; rfl, cover ⟨IndsIn.nil _ _, by rw [HB.out, ← hv]; exact hex.mono (by omega), by rw [HB.out]; exact HOut.out _ hrel.out.bel⟩⟩)
      clear hex hv hrel HCell HSz HRow HRH HOut
      go_wp2
      go_ret2
      exact HN.out
set_option maxRecDepth 100000 in
set_option maxHeartbeats 6400000 in
theorem rhear_cmd2_z1 {Bs : Nat} {w : World} {r : Nat} {l : List SV} (h : RHas Bs w r l) (pe : A6) (p : PV) (Ap : Option Addr) (cp : Nat) (hr : Row w w.heap.size Ap p.info.length p.info) (hpl : p.info.length ≤ 140737488355328) (hone : IsOne p) (hk : p.kind = 2) (hrs : p.resp = false) (ht : p.to = 0) (hf : p.frm ≠ 0) :
    Calls Try.prog 22 #[ptr r, .agg #[.int .u8 pe.a0, .int .u8 pe.a1, .int .u8 pe.a2, .int .u8 pe.a3, .int .u8 pe.a4, .int .u8 pe.a5], .agg #[.int .i64 p.to, .int .i64 p.frm, .bool p.resp, .int .i64 p.form, .int .i64 p.kind, .int .i64 p.ns, .int .i64 p.nr, .bool p.poll, .slice Ap p.info.length cp]] w (HearOut (toldP l pe p) (sentP l p) w) := by
  obtain ⟨b, hb⟩ : ∃ b, w.heap.size = b := ⟨_, rfl⟩
  have HB := cover hb
  obtain ⟨L0, hL0⟩ : ∃ L0, L0 = p.info.length := ⟨_, rfl⟩
  have HL0 := cover hL0
  have HT := cover (fun W => ref_type_any p Ap cp W)
  rw [← hL0] at HT ⊢
  obtain ⟨w1, hw1⟩ : ∃ w1, w1 = (w.alloc (.cells #[.int .u8 pe.a0, .int .u8 pe.a1, .int .u8 pe.a2, .int .u8 pe.a3, .int .u8 pe.a4, .int .u8 pe.a5] 37)).alloc (.cells #[.int .i64 p.to, .int .i64 p.frm, .bool p.resp, .int .i64 p.form, .int .i64 p.kind, .int .i64 p.ns, .int .i64 p.nr, .bool p.poll, .slice Ap L0 cp] 29) := ⟨_, rfl⟩
  have hb1 : Below b w w1 := by rw [hw1, ← hb]; exact ((Below.refl _ _).alloc (Nat.le_refl _) _).alloc (by simp) _
  have hs1 : w1.heap.size = b + 2 := by rw [hw1]; simp [hb]
  have g0 : w1.heap[b]? = some (.cells #[.int .u8 pe.a0, .int .u8 pe.a1, .int .u8 pe.a2, .int .u8 pe.a3, .int .u8 pe.a4, .int .u8 pe.a5] 37 (0, 0)) := by rw [hw1, ← hb]; exact heap_alloc2_old _ _ _
  have g1 : w1.heap[b + 1]? = some (.cells #[.int .i64 p.to, .int .i64 p.frm, .bool p.resp, .int .i64 p.form, .int .i64 p.kind, .int .i64 p.ns, .int .i64 p.nr, .bool p.poll, .slice Ap L0 cp] 29 (0, 0)) := by rw [hw1, ← hb]; exact heap_alloc2_new _ _ _
  have HCell : Hid (∀ W, Below (b + 2) w1 W → (W.cell? ⟨b, 0, none⟩ = some (.int .u8 pe.a0) ∧ W.cell? ⟨b, 1, none⟩ = some (.int .u8 pe.a1) ∧ W.cell? ⟨b, 2, none⟩ = some (.int .u8 pe.a2) ∧ W.cell? ⟨b, 3, none⟩ = some (.int .u8 pe.a3) ∧ W.cell? ⟨b, 4, none⟩ = some (.int .u8 pe.a4) ∧ W.cell? ⟨b, 5, none⟩ = some (.int .u8 pe.a5)) ∧ (W.cell? ⟨b + 1, 0, none⟩ = some (.int .i64 p.to) ∧ W.cell? ⟨b + 1, 1, none⟩ = some (.int .i64 p.frm) ∧ W.cell? ⟨b + 1, 2, none⟩ = some (.bool p.resp) ∧ W.cell? ⟨b + 1, 3, none⟩ = some (.int .i64 p.form) ∧ W.cell? ⟨b + 1, 4, none⟩ = some (.int .i64 p.kind) ∧ W.cell? ⟨b + 1, 5, none⟩ = some (.int .i64 p.ns) ∧ W.cell? ⟨b + 1, 6, none⟩ = some (.int .i64 p.nr) ∧ W.cell? ⟨b + 1, 7, none⟩ = some (.bool p.poll) ∧ W.cell? ⟨b + 1, 8, none⟩ = some (.slice Ap L0 cp))) := cover fun W hW => by
    have e0 := (hW.block b (by omega)).trans g0
    have e1 := (hW.block (b + 1) (by omega)).trans g1
    refine ⟨⟨?_, ?_, ?_, ?_, ?_, ?_⟩, pdu_cells e1⟩
    all_goals (rw [cell_of_row _ _ _ _ _ _ e0]; rfl)
  have HSz : Hid (∀ W, Below (b + 2) w1 W → b + 2 ≤ W.heap.size) := cover fun W hW => by rw [← hs1]; exact hW.size
  have HRow : Hid (∀ W, Below (b + 2) w1 W → Row W b Ap p.info.length p.info) := cover fun W hW => by
    have h1 := hr
    rw [hb] at h1
    exact (h1.below hb1).below (hW.mono (by omega))
  have HRH : Hid (∀ W, Below (b + 2) w1 W → RHas Bs W r l) := cover fun W hW => h.below (by rw [hb]; exact hb1.trans (hW.mono (by omega)))
  have HOut : Hid (∀ W, Below (b + 2) w1 W → Below b w W) := cover fun W hW => hb1.trans (hW.mono (by omega))
  have hin := cover h.ok
  have mixed : Try.prog.follows .mixedOrders = true := by kernel_rfl
  obtain ⟨ty, hty⟩ : ∃ ty, ty = typeP p := ⟨_, rfl⟩
  rw [← hty] at HT
  have HTY := cover hty
  have hB0 : Below (b + 2) w1 w1 := Below.refl _ _
  have hsub : Below w1.heap.size w1 w1 := Below.refl _ _
  obtain ⟨_, p0, p1, p2, p3, p4, p5, p6, p7, p8⟩ := HCell.out w1 hB0
  have HS1 := cover hs1
  clear h hr g0 g1 hb1 hty hL0 hb
  have hty1 : (ty != 1) = false := by
    have : ty = 1 := by rw [HTY.out]; exact typeP_one.2 hone
    rw [this]; rfl
  have HTOLD : Hid (toldP l pe p = []) := cover (toldP_cmd (by omega) hrs)
  have HSENT0 : Hid (sentP l p = (0 :: hearS l p.to).map (ansV l p)) := cover (by
    rw [sentP_cmd hone (by omega) hrs]
    unfold askedS
    rw [if_neg (fun h => hf h.1), if_pos (.inl ht)]
    rfl)
  have HANS : Hid (∀ x, ansV l p x = (⟨p.frm, x, true, 2, p.kind, 0, 0, p.poll, p.info⟩ : PV)) := cover fun x => by unfold ansV; rw [if_neg (by omega)]
  have HC0 : Hid (clsS l 0 = 0) := cover (clsS_no (by
    cases hh : hasS l 0 with
    | false => rfl
    | true => exact absurd (ok_has hin.out hh).1 (by omega)))
  have HMEM : Hid (∀ x ∈ hearS l p.to, x = 0 ∨ (1 ≤ clsS l x ∧ clsS l x ≤ 4)) := cover fun x hx => .inr (cls_ok hin.out (hear_active hx))
  have hresp := cover hrs
  have hk0 : (p.kind == 0) = false := by rw [hk]; rfl
  have hk1 : (p.kind == 1) = false := by rw [hk]; rfl
  have hk2 : (p.kind == 2) = true := by rw [hk]; rfl
  have ht0 : (p.to == 0) = true := by rw [ht]; rfl
  have ht1 : (p.to == 255) = false := by rw [ht]; rfl
  have ht3 : (p.to != 0) = false := by rw [ht]; rfl
  have hf0 : (p.frm == 0) = false := by simpa using hf
  clear hone hk hrs ht hf
  go_enter Try.func22, Try.ntmps22
  go_upto_region 1 with fail
  rw [← hw1, HB.out]
  clear hw1
  go_wp2_with fail
  refine (HT.out w1).mono ?_
  rintro e w2 ⟨rfl, hb2⟩
  rw [HS1.out] at hb2
  clear p0 p1 p2 p3 p4 p5 p6 p7 p8 HT hs1 hsub hB0
  obtain ⟨_, p0, p1, p2, p3, p4, p5, p6, p7, p8⟩ := HCell.out w2 hb2
  go_wp2_with fail
  refine (rhears_has (HRH.out w2 hb2) p.to).mono ?_
  rintro e w3 ⟨A, c, rfl, HO⟩
  obtain ⟨L, hL⟩ : ∃ L, L = hearS l p.to := ⟨_, rfl⟩
  have HLE := cover hL
  rw [← hL] at HO ⊢
  have hl16 : L.length ≤ 16 := by rw [hL]; exact hear_len16 hin.out _
  have hb3 : Below (b + 2) w1 w3 := hb2.trans (HO.out.2.mono (HSz.out w2 hb2))
  have HRW := cover (own_base (base' := 0) HO.out.1 (Nat.zero_le _))
  obtain ⟨n, hn⟩ : ∃ n, n = L.length := ⟨_, rfl⟩
  have HNL := cover hn
  rw [← hn] at HRW hl16 ⊢
  clear hb2 HO hL hn p0 p1 p2 p3 p4 p5 p6 p7 p8
  obtain ⟨_, p0, p1, p2, p3, p4, p5, p6, p7, p8⟩ := HCell.out w3 hb3
  rw [← HLE.out] at HSENT0 HMEM
  rw [hresp.out] at p2
  obtain ⟨g3, hg3⟩ : ∃ g3, g3 = w3.heap.size := ⟨_, rfl⟩
  obtain ⟨w5, hw5⟩ : ∃ w5, w5 = w3.alloc (.cells #[.int .i64 0] 3) := ⟨_, rfl⟩
  have hm5 : Below w3.heap.size w3 w5 := by rw [hw5]; exact (Below.refl _ _).alloc (Nat.le_refl _) _
  have hb5 : Below (b + 2) w1 w5 := hb3.trans (hm5.mono (HSz.out w3 hb3))
  have hn5 : w5.heap[g3]? = some (.cells #[.int .i64 0] 3 (0, 0)) := by rw [hw5, hg3]; exact heap_alloc_new _ _
  have HAZ := cover (append_zero (base := b + 2) hn5 (by rw [hg3]; exact HSz.out _ hb3) (HSz.out _ hb5) (own_blocks HRW.out hm5) (by omega))
  have HW5 := cover (And.intro hw5 hg3)
  clear hm5 hn5 hb3 HRW hw5 hg3
  go_wp2_with (at_builtin; rw [← HW5.out.1, ← HW5.out.2]; refine appends_list rfl _ _ _ rfl _ _ rfl rfl HAZ.out ?_; rintro v6 w6 ⟨⟨A6, c6, rfl⟩, H6⟩; have hb6 := H6.out.2 _ hb5; clear p0 p1 p2 p3 p4 p5 p6 p7 p8; obtain ⟨_, p0, p1, p2, p3, p4, p5, p6, p7, p8⟩ := HCell.out w6 hb6)
  have HRW := cover H6.out.1
  clear HAZ HW5 H6 hb5
  obtain ⟨L2, hL2⟩ : ∃ L2, L2 = 0 :: L := ⟨_, rfl⟩
  obtain ⟨n2, hn2⟩ : ∃ n2, n2 = n + 1 := ⟨_, rfl⟩
  have HNL2 : Hid (n2 = L2.length) := cover (by rw [hn2, hL2, HNL.out]; rfl)
  have hl17 : n2 ≤ 17 := by omega
  have HLM2 : Hid (∀ x ∈ L2, x = 0 ∨ (1 ≤ clsS l x ∧ clsS l x ≤ 4)) := cover fun x hx => by
    rw [hL2] at hx
    rcases List.mem_cons.1 hx with e | hx
    · exact .inl e
    · exact HMEM.out x hx
  have HSENT : Hid (sentP l p = L2.map (ansV l p)) := cover (by rw [HSENT0.out, hL2])
  rw [← hL2, ← hn2] at HRW
  rw [← hn2]
  clear HNL HMEM HSENT0 hL2 hn2 HLE
  have HI0 : Hid (RP w1 (b + 2) A6 n2 c6 L2 [] (.slice none 0 0) w6) := cover ⟨HRW.out, hb6, PdusIn.nil _ _⟩
  go_wp2_with fail
  clear HRW hb6 p0 p1 p2 p3 p4 p5 p6 p7 p8
  go_loopw [10, 13] (fun vv i wr => ∃ (v : Value) (j : Nat), j ≤ n2 ∧ vv = v ∧ i = .int .i64 j ∧ Hid (RP w1 (b + 2) A6 n2 c6 L2 ((L2.take j).map (ansV l p)) v wr)) (fun _ i _ => n2 - (intOf i).toNat)
  case atStart => exact ⟨_, 0, Nat.zero_le _, rfl, rfl, by rw [List.take_zero]; exact HI0⟩
  case round =>
    obtain ⟨v, j, hj, hv, rfl, hrel⟩ := hrel
    have hv2 := hv.symm
    subst hv2
    clear hv
    by_cases hlt : j < n2
    · obtain ⟨x, hx⟩ : ∃ x, L2[j]? = some x := ⟨_, List.getElem?_eq_getElem (by rw [← HNL2.out]; exact hlt)⟩
      obtain ⟨g, hA, hgl, _, hc0⟩ := own_cell hrel.out.row (j := j) (x := .int .i64 x) (by rw [List.getElem?_map, hx]; rfl)
      subst hA
      have hbr := hrel.out.bel
      have hxm := HLM2.out x (List.mem_of_getElem? hx)
      have HS : Hid (∀ W', Below wr.heap.size wr W' → (fun W' : World => W'.cell? ⟨g, j, none⟩ = some (.int .i64 x) ∧ W'.cell? ⟨b + 1, 1, none⟩ = some (.int .i64 p.frm) ∧ W'.cell? ⟨b + 1, 4, none⟩ = some (.int .i64 p.kind) ∧ W'.cell? ⟨b + 1, 7, none⟩ = some (.bool p.poll) ∧ W'.cell? ⟨b + 1, 8, none⟩ = some (.slice Ap L0 cp) ∧ Below wr.heap.size wr W') W') := cover fun W' hb' => by
        obtain ⟨_, _, e1, _, _, e4, _, _, e7, e8⟩ := HCell.out W' (hbr.trans (hb'.mono (HSz.out wr hbr)))
        exact ⟨(hb'.cell (p := ⟨g, j, none⟩) hgl).trans hc0, e1, e4, e7, e8, hb'⟩
      have hb0 : Below wr.heap.size wr wr.drew := (Below.refl _ _).drew
      have h3 : (fun W' : World => W'.cell? ⟨g, j, none⟩ = some (.int .i64 x) ∧ W'.cell? ⟨b + 1, 1, none⟩ = some (.int .i64 p.frm) ∧ W'.cell? ⟨b + 1, 4, none⟩ = some (.int .i64 p.kind) ∧ W'.cell? ⟨b + 1, 7, none⟩ = some (.bool p.poll) ∧ W'.cell? ⟨b + 1, 8, none⟩ = some (.slice Ap L0 cp) ∧ Below wr.heap.size wr W') wr.drew := HS.out _ hb0
      have HX := cover hx
      have HC : Hid (∀ W', Below wr.heap.size wr W' → Calls Try.prog 41 #[.slice Ap L0 cp] W' (GivesB W' p.info)) := cover fun W' hb' => by
        have hbd := hbr.trans (hb'.mono (HSz.out wr hbr))
        rw [HL0.out]
        exact copy_any Ap p.info.length cp b p.info W' (HRow.out _ hbd) (by have := HSz.out _ hbd; omega) hpl
      clear hx hc0
      go_wp2_with fail
      refine (wpIn_wide (n := 0)).1 ?_
      refine held_begin (fun W' : World => W'.cell? ⟨g, j, none⟩ = some (.int .i64 x) ∧ W'.cell? ⟨b + 1, 1, none⟩ = some (.int .i64 p.frm) ∧ W'.cell? ⟨b + 1, 4, none⟩ = some (.int .i64 p.kind) ∧ W'.cell? ⟨b + 1, 7, none⟩ = some (.bool p.poll) ∧ W'.cell? ⟨b + 1, 8, none⟩ = some (.slice Ap L0 cp) ∧ Below wr.heap.size wr W') 15 mixed ?_
      refine hold_take 0 _ rfl (by kernel_rfl) (by kernel_rfl) (by kernel_rfl) (by kernel_rfl) (by kernel_rfl) (fun _ _ _ h => h) (by rfl) (fun _ => rfl) h3 (fun w' hS => by obtain ⟨q0, q1, q2, q3, q4, q5⟩ := hS; go_simp; rfl) ?_
      simp only [Act.put, List.setIfInBounds_toArray, List.set_cons_zero, List.set_cons_succ]
      refine hold_take 1 _ rfl (by kernel_rfl) (by kernel_rfl) (by kernel_rfl) (by kernel_rfl) (by kernel_rfl) (fun _ _ _ h => h) (by rfl) (fun _ => rfl) h3 (fun w' hS => by obtain ⟨q0, q1, q2, q3, q4, q5⟩ := hS; go_simp; rfl) ?_
      simp only [Act.put, List.setIfInBounds_toArray, List.set_cons_zero, List.set_cons_succ]
      refine hold_take 2 _ rfl (by kernel_rfl) (by kernel_rfl) (by kernel_rfl) (by kernel_rfl) (by kernel_rfl) (fun _ _ _ h => h) (by rfl) (fun _ => rfl) h3 (fun w' hS => by obtain ⟨q0, q1, q2, q3, q4, q5⟩ := hS; go_simp; rfl) ?_
      simp only [Act.put, List.setIfInBounds_toArray, List.set_cons_zero, List.set_cons_succ]
      refine hold_take 3 _ rfl (by kernel_rfl) (by kernel_rfl) (by kernel_rfl) (by kernel_rfl) (by kernel_rfl) (fun _ _ _ h => h) (by rfl) (fun _ => rfl) h3 (fun w' hS => by obtain ⟨q0, q1, q2, q3, q4, q5⟩ := hS; go_simp; rfl) ?_
      simp only [Act.put, List.setIfInBounds_toArray, List.set_cons_zero, List.set_cons_succ]
      refine hold_take 4 _ rfl (by kernel_rfl) (by kernel_rfl) (by kernel_rfl) (by kernel_rfl) (by kernel_rfl) (fun _ _ _ h => h) (by rfl) (fun _ => rfl) h3 (fun w' hS => by obtain ⟨q0, q1, q2, q3, q4, q5⟩ := hS; go_simp; rfl) ?_
      simp only [Act.put, List.setIfInBounds_toArray, List.set_cons_zero, List.set_cons_succ]
      refine hold_take 5 _ rfl (by kernel_rfl) (by kernel_rfl) (by kernel_rfl) (by kernel_rfl) (by kernel_rfl) (fun _ _ _ h => h) (by rfl) (fun _ => rfl) h3 (fun w' hS => by obtain ⟨q0, q1, q2, q3, q4, q5⟩ := hS; go_simp; rfl) ?_
      simp only [Act.put, List.setIfInBounds_toArray, List.set_cons_zero, List.set_cons_succ]
      refine hold_take 6 _ rfl (by kernel_rfl) (by kernel_rfl) (by kernel_rfl) (by kernel_rfl) (by kernel_rfl) (fun _ _ _ h => h) (by rfl) (fun _ => rfl) h3 (fun w' hS => by obtain ⟨q0, q1, q2, q3, q4, q5⟩ := hS; go_simp; rfl) ?_
      simp only [Act.put, List.setIfInBounds_toArray, List.set_cons_zero, List.set_cons_succ]
      refine hold_take 7 _ rfl (by kernel_rfl) (by kernel_rfl) (by kernel_rfl) (by kernel_rfl) (by kernel_rfl) (fun _ _ _ h => h) (by rfl) (fun _ => rfl) h3 (fun w' hS => by obtain ⟨q0, q1, q2, q3, q4, q5⟩ := hS; go_simp; rfl) ?_
      simp only [Act.put, List.setIfInBounds_toArray, List.set_cons_zero, List.set_cons_succ]
      refine hold_take 8 _ rfl (by kernel_rfl) (by kernel_rfl) (by kernel_rfl) (by kernel_rfl) (by kernel_rfl) (fun _ _ _ h => h) (by rfl) (fun _ => rfl) h3 (fun w' hS => by obtain ⟨q0, q1, q2, q3, q4, q5⟩ := hS; go_simp; rfl) ?_
      simp only [Act.put, List.setIfInBounds_toArray, List.set_cons_zero, List.set_cons_succ]
      refine hold_take 9 _ rfl (by kernel_rfl) (by kernel_rfl) (by kernel_rfl) (by kernel_rfl) (by kernel_rfl) (fun _ _ _ h => h) (by rfl) (fun _ => rfl) h3 (fun w' hS => by obtain ⟨q0, q1, q2, q3, q4, q5⟩ := hS; go_simp; rfl) ?_
      simp only [Act.put, List.setIfInBounds_toArray, List.set_cons_zero, List.set_cons_succ]
      refine hold_take 10 _ rfl (by kernel_rfl) (by kernel_rfl) (by kernel_rfl) (by kernel_rfl) (by kernel_rfl) (fun _ _ _ h => h) (by rfl) (fun _ => rfl) h3 (fun w' hS => by obtain ⟨q0, q1, q2, q3, q4, q5⟩ := hS; go_simp; rfl) ?_
      simp only [Act.put, List.setIfInBounds_toArray, List.set_cons_zero, List.set_cons_succ]
      refine hold_take 11 _ rfl (by kernel_rfl) (by kernel_rfl) (by kernel_rfl) (by kernel_rfl) (by kernel_rfl) (fun _ _ _ h => h) (by rfl) (fun _ => rfl) h3 (fun w' hS => by obtain ⟨q0, q1, q2, q3, q4, q5⟩ := hS; go_simp; rfl) ?_
      simp only [Act.put, List.setIfInBounds_toArray, List.set_cons_zero, List.set_cons_succ]
      refine net_law (k := 1) [(12, 109), (13, 110), (14, 14)] (VRsp wr.heap.size L0 p x) (fun a b => Below a.heap.size a b) _
        #[true, true, true, true, true, true, true, true, true, true, true, true, true, true, true, false] _ _ (by kernel_rfl) h3 VRsp.stable ?_ ?_
      · intro y hy o ho uu W hSW hd
        have hbW := hSW.2.2.2.2.2
        have hsW := hbW.size
        have keep : ∀ W', Below W.heap.size W W' → (fun W' : World => W'.cell? ⟨g, j, none⟩ = some (.int .i64 x) ∧ W'.cell? ⟨b + 1, 1, none⟩ = some (.int .i64 p.frm) ∧ W'.cell? ⟨b + 1, 4, none⟩ = some (.int .i64 p.kind) ∧ W'.cell? ⟨b + 1, 7, none⟩ = some (.bool p.poll) ∧ W'.cell? ⟨b + 1, 8, none⟩ = some (.slice Ap L0 cp) ∧ Below wr.heap.size wr W') W' := fun W' hb => HS.out _ (hbW.trans (hb.mono hsW))
        simp only [List.mem_cons, List.not_mem_nil, or_false] at hy
        rcases hy with rfl | rfl | rfl
        · obtain rfl := op_of ho rfl
          simp only [upd, List.foldl_cons, List.foldl_nil, List.setIfInBounds_toArray, List.set_cons_zero, List.set_cons_succ]
          go_simp
          refine ⟨trivial, rfl, (callsIn_wide.2 (HC.out W hbW)).mono ?_⟩
          rintro e w' ⟨A3, c3, rfl, ho2, hb⟩
          exact ⟨keep _ hb, ⟨A3, c3, by rw [HL0.out], ho2.mono hsW⟩, hb⟩
        · obtain rfl := op_of ho rfl
          simp only [upd, List.foldl_cons, List.foldl_nil, List.setIfInBounds_toArray, List.set_cons_zero, List.set_cons_succ]
          obtain ⟨A3, c3, e109, ho3⟩ : VRsp wr.heap.size L0 p x 12 (uu 109) W := hd (12, 109) (by simp) (by kernel_rfl)
          rw [e109]
          go_simp
          exact ⟨⟨A3, c3, rfl, ho3⟩, Below.refl _ _⟩
        · obtain rfl := op_of ho rfl
          simp only [upd, List.foldl_cons, List.foldl_nil, List.setIfInBounds_toArray, List.set_cons_zero, List.set_cons_succ]
          go_simp
          have hb := (Below.refl W.heap.size W).alloc (Nat.le_refl _) (.cells zp 29)
          exact ⟨keep _ hb, ⟨W.heap.size, rfl, hsW, heap_alloc_new _ _⟩, hb⟩
      · intro uu W hSW hV
        obtain ⟨A3, c3, e110, ho3⟩ : VRsp wr.heap.size L0 p x 13 (uu 110) W := hV (13, 110) (by simp)
        obtain ⟨z, e14, hzl, hzh⟩ : VRsp wr.heap.size L0 p x 14 (uu 14) W := hV (14, 14) (by simp)
        obtain ⟨v109, hv109⟩ : ∃ v, v = uu 109 := ⟨_, rfl⟩
        have hbW := hSW.2.2.2.2.2
        simp only [upd, List.foldl_cons, List.foldl_nil, List.setIfInBounds_toArray, List.set_cons_zero, List.set_cons_succ]
        rw [e110, e14, ← hv109]
        clear hV e110 e14 hv109
        have HO3 := cover ho3
        obtain ⟨w5, hw5⟩ : ∃ w5, w5 = W.setRow z #[.int .i64 p.frm, .int .i64 x, .bool true, .int .i64 2, .int .i64 p.kind, .int .i64 0, .int .i64 0, .bool p.poll, .slice A3 L0 c3] := ⟨_, rfl⟩
        have Gz : Hid (w5.heap[z]? = some (.cells #[.int .i64 p.frm, .int .i64 x, .bool true, .int .i64 2, .int .i64 p.kind, .int .i64 0, .int .i64 0, .bool p.poll, .slice A3 L0 c3] 29 (0, 0))) := cover (by rw [hw5]; exact setRow_heap _ _ _ _ _ _ hzh)
        have hB5 : Below wr.heap.size wr w5 := by rw [hw5]; exact Go.below_setRow hbW hzl _
        have hb5 : Below (b + 2) w1 w5 := hbr.trans (hB5.mono (HSz.out wr hbr))
        have HO5 : Hid (OwnB w5 0 (.slice A3 p.info.length c3) p.info) := cover (by
          rw [hw5]
          refine own_base (base' := 0) (row_keeps ho3 (fun i hi => setRow_other _ _ _ _ (fun e => ?_))) (Nat.zero_le _)
          obtain ⟨cur, hcu⟩ := row_type ho3 hi
          subst e
          exact type_ne hcu hzh (by decide) rfl)
        refine hold_one 15 (by kernel_rfl) rfl (by rfl) fun K hK => ?_
        refine run_skip_u (w' := w5) (fun c h => by cases h) (fun _ h => by cases h) (by rw [hw5]; exact exec_store_row _ _ _ rfl z #[.int .i64 p.frm, .int .i64 x, .bool true, .int .i64 2, .int .i64 p.kind, .int .i64 0, .int .i64 0, .bool p.poll, .slice A3 L0 c3] (by go_simp) (by go_simp) 29 zp hzh pdu_size rfl (pdu_one _ _ _ _ _ _ _ _ _ _ _)) ?_
        refine hK _ _ (.inl rfl) (held_done (by kernel_rfl) ?_ _)
        clear hK K hSW hbW ho3 hzh hw5 h3 hb0 HC
        obtain ⟨_, p0, p1, p2, p3, p4, p5, p6, p7, p8⟩ := HCell.out w5 hb5
        obtain ⟨wq, hwq⟩ : ∃ wq, wq = w5.alloc (.cells #[.int .i64 p.frm, .int .i64 x, .bool true, .int .i64 2, .int .i64 p.kind, .int .i64 0, .int .i64 0, .bool p.poll, .slice A3 L0 c3] 29) := ⟨_, rfl⟩
        have hmq : Below w5.heap.size w5 wq := by rw [hwq]; exact (Below.refl _ _).alloc (Nat.le_refl _) _
        have hbq : Below (b + 2) w1 wq := hb5.trans (hmq.mono (HSz.out _ hb5))
        have hnq : wq.heap[w5.heap.size]? = some (.cells #[.int .i64 p.frm, .int .i64 x, .bool true, .int .i64 2, .int .i64 p.kind, .int .i64 0, .int .i64 0, .bool p.poll, .slice A3 L0 c3] 29 (0, 0)) := by rw [hwq]; exact heap_alloc_new _ _
        have hoq : InfP wq ((⟨p.frm, x, true, 2, p.kind, 0, 0, p.poll, p.info⟩ : PV), A3, c3) := ownB_below HO5.out hmq
        have HAP := cover (PdusIn.app (hrel.out.ex.below (hB5.trans (hmq.mono hB5.size))) (HSz.out _ hbq) (⟨p.frm, x, true, 2, p.kind, 0, 0, p.poll, p.info⟩ : PV) hoq (by rw [HL0.out] at hnq; exact hnq) (by rw [List.length_map, List.length_take]; omega))
        have HNX : Hid (∀ v8 w8, PdusIn (b + 2) w8 v8 ((L2.take j).map (ansV l p) ++ [(⟨p.frm, x, true, 2, p.kind, 0, 0, p.poll, p.info⟩ : PV)]) → KeepO (isTyO 29) wq w8 → (∀ w0, Below (b + 2) w0 wq → Below (b + 2) w0 w8) → RP w1 (b + 2) (some ⟨g, 0, none⟩) n2 c6 L2 ((L2.take (j + 1)).map (ansV l p)) v8 w8) := cover fun v8 w8 h1 h2 h3 =>
          ⟨own_typed (own_typed hrel.out.row (KeepO.of_below (p := isTyO 29) (hB5.trans (hmq.mono hB5.size))) (fun _ _ => ty_ne (by decide) _ _)) h2 (fun _ _ => ty_ne (by decide) _ _), h3 _ hbq, by
            rw [List.take_add_one, HX.out, List.map_append]
            have e : ([x] : List Int).map (ansV l p) = [(⟨p.frm, x, true, 2, p.kind, 0, 0, p.poll, p.info⟩ : PV)] := by rw [List.map_cons, List.map_nil, HANS.out x]
            show PdusIn (b + 2) w8 v8 ((L2.take j).map (ansV l p) ++ ([x] : List Int).map (ansV l p))
            rw [e]; exact h1⟩
        clear hmq hbq hnq hoq hrel HX
        go_wp2_with (first
          | (refine wpList_load_row rfl _ _ rfl z rfl 29 #[.int .i64 p.frm, .int .i64 x, .bool true, .int .i64 2, .int .i64 p.kind, .int .i64 0, .int .i64 0, .bool p.poll, .slice A3 L0 c3] (0, 0) _ Gz.out Try.underlying29 rfl pdu_size ?_)
          | (at_builtin; rw [← hwq]; refine appends_list rfl _ _ _ rfl _ _ rfl rfl HAP.out ?_; rintro v8 w8 ⟨⟨A8, c8, hv8⟩, H8⟩; obtain ⟨n8, hn8⟩ : ∃ n8, n8 = ((L2.take j).map (ansV l p)).length + 1 := ⟨_, rfl⟩; rw [← hn8] at hv8; subst hv8; clear hn8))
        have HN := cover (HNX.out _ w8 H8.out.1 H8.out.2.1 H8.out.2.2)
        clear HAP HNX H8 hwq
        go_wp2
        go_roundw
        case rel => exact ⟨_, j + 1, by omega, rfl, by go_num, HN⟩
        case measure => simp [intOf]; omega
    · obtain rfl : j = n2 := by omega
      have hex := hrel.out.ex
      rw [List.take_of_length_le (by rw [HNL2.out]; exact Nat.le_refl _)] at hex
      obtain ⟨Av, cv, hv⟩ := hex.shape
      have HN : Hid (HearOut (toldP l pe p) (sentP l p) w (.returned (.tuple #[.slice none 0 0, v])) wr) := cover (by
        rw [HTOLD.out, HSENT.out]
        exact ⟨none, 0, Av, cv, by rw [hv]; rfl, cover ⟨IndsIn.nil _ _, by rw [HB.out, ← hv]; exact hex.mono (by omega), by rw [HB.out]; exact HOut.out _ hrel.out.bel⟩⟩)
      clear hex hv hrel HCell HSz HRow HRH HOut
      go_wp2
      go_ret2
      exact HN.out
set_option maxRecDepth 100000 in
set_option maxHeartbeats 6400000 in
theorem rhear_cmd2_a {Bs : Nat} {w : World} {r : Nat} {l : List SV} (h : RHas Bs w r l) (pe : A6) (p : PV) (Ap : Option Addr) (cp : Nat) (hr : Row w w.heap.size Ap p.info.length p.info) (hpl : p.info.length ≤ 140737488355328) (hone : IsOne p) (hk : p.kind = 2) (hrs : p.resp = false) (ht : p.to = 255) (hf : p.frm ≠ 0) :
    Calls Try.prog 22 #[ptr r, .agg #[.int .u8 pe.a0, .int .u8 pe.a1, .int .u8 pe.a2, .int .u8 pe.a3, .int .u8 pe.a4, .int .u8 pe.a5], .agg #[.int .i64 p.to, .int .i64 p.frm, .bool p.resp, .int .i64 p.form, .int .i64 p.kind, .int .i64 p.ns, .int .i64 p.nr, .bool p.poll, .slice Ap p.info.length cp]] w (HearOut (toldP l pe p) (sentP l p) w) := by
  obtain ⟨b, hb⟩ : ∃ b, w.heap.size = b := ⟨_, rfl⟩
  have HB := cover hb
  obtain ⟨L0, hL0⟩ : ∃ L0, L0 = p.info.length := ⟨_, rfl⟩
  have HL0 := cover hL0
  have HT := cover (fun W => ref_type_any p Ap cp W)
  rw [← hL0] at HT ⊢
  obtain ⟨w1, hw1⟩ : ∃ w1, w1 = (w.alloc (.cells #[.int .u8 pe.a0, .int .u8 pe.a1, .int .u8 pe.a2, .int .u8 pe.a3, .int .u8 pe.a4, .int .u8 pe.a5] 37)).alloc (.cells #[.int .i64 p.to, .int .i64 p.frm, .bool p.resp, .int .i64 p.form, .int .i64 p.kind, .int .i64 p.ns, .int .i64 p.nr, .bool p.poll, .slice Ap L0 cp] 29) := ⟨_, rfl⟩
  have hb1 : Below b w w1 := by rw [hw1, ← hb]; exact ((Below.refl _ _).alloc (Nat.le_refl _) _).alloc (by simp) _
  have hs1 : w1.heap.size = b + 2 := by rw [hw1]; simp [hb]
  have g0 : w1.heap[b]? = some (.cells #[.int .u8 pe.a0, .int .u8 pe.a1, .int .u8 pe.a2, .int .u8 pe.a3, .int .u8 pe.a4, .int .u8 pe.a5] 37 (0, 0)) := by rw [hw1, ← hb]; exact heap_alloc2_old _ _ _
  have g1 : w1.heap[b + 1]? = some (.cells #[.int .i64 p.to, .int .i64 p.frm, .bool p.resp, .int .i64 p.form, .int .i64 p.kind, .int .i64 p.ns, .int .i64 p.nr, .bool p.poll, .slice Ap L0 cp] 29 (0, 0)) := by rw [hw1, ← hb]; exact heap_alloc2_new _ _ _
  have HCell : Hid (∀ W, Below (b + 2) w1 W → (W.cell? ⟨b, 0, none⟩ = some (.int .u8 pe.a0) ∧ W.cell? ⟨b, 1, none⟩ = some (.int .u8 pe.a1) ∧ W.cell? ⟨b, 2, none⟩ = some (.int .u8 pe.a2) ∧ W.cell? ⟨b, 3, none⟩ = some (.int .u8 pe.a3) ∧ W.cell? ⟨b, 4, none⟩ = some (.int .u8 pe.a4) ∧ W.cell? ⟨b, 5, none⟩ = some (.int .u8 pe.a5)) ∧ (W.cell? ⟨b + 1, 0, none⟩ = some (.int .i64 p.to) ∧ W.cell? ⟨b + 1, 1, none⟩ = some (.int .i64 p.frm) ∧ W.cell? ⟨b + 1, 2, none⟩ = some (.bool p.resp) ∧ W.cell? ⟨b + 1, 3, none⟩ = some (.int .i64 p.form) ∧ W.cell? ⟨b + 1, 4, none⟩ = some (.int .i64 p.kind) ∧ W.cell? ⟨b + 1, 5, none⟩ = some (.int .i64 p.ns) ∧ W.cell? ⟨b + 1, 6, none⟩ = some (.int .i64 p.nr) ∧ W.cell? ⟨b + 1, 7, none⟩ = some (.bool p.poll) ∧ W.cell? ⟨b + 1, 8, none⟩ = some (.slice Ap L0 cp))) := cover fun W hW => by
    have e0 := (hW.block b (by omega)).trans g0
    have e1 := (hW.block (b + 1) (by omega)).trans g1
    refine ⟨⟨?_, ?_, ?_, ?_, ?_, ?_⟩, pdu_cells e1⟩
    all_goals (rw [cell_of_row _ _ _ _ _ _ e0]; rfl)
  have HSz : Hid (∀ W, Below (b + 2) w1 W → b + 2 ≤ W.heap.size) := cover fun W hW => by rw [← hs1]; exact hW.size
  have HRow : Hid (∀ W, Below (b + 2) w1 W → Row W b Ap p.info.length p.info) := cover fun W hW => by
    have h1 := hr
    rw [hb] at h1
    exact (h1.below hb1).below (hW.mono (by omega))
  have HRH : Hid (∀ W, Below (b + 2) w1 W → RHas Bs W r l) := cover fun W hW => h.below (by rw [hb]; exact hb1.trans (hW.mono (by omega)))
  have HOut : Hid (∀ W, Below (b + 2) w1 W → Below b w W) := cover fun W hW => hb1.trans (hW.mono (by omega))
  have hin := cover h.ok
  have mixed : Try.prog.follows .mixedOrders = true := by kernel_rfl
  obtain ⟨ty, hty⟩ : ∃ ty, ty = typeP p := ⟨_, rfl⟩
  rw [← hty] at HT
  have HTY := cover hty
  have hB0 : Below (b + 2) w1 w1 := Below.refl _ _
  have hsub : Below w1.heap.size w1 w1 := Below.refl _ _
  obtain ⟨_, p0, p1, p2, p3, p4, p5, p6, p7, p8⟩ := HCell.out w1 hB0
  have HS1 := cover hs1
  clear h hr g0 g1 hb1 hty hL0 hb
  have hty1 : (ty != 1) = false := by
    have : ty = 1 := by rw [HTY.out]; exact typeP_one.2 hone
    rw [this]; rfl
  have HTOLD : Hid (toldP l pe p = []) := cover (toldP_cmd (by omega) hrs)
  have HSENT0 : Hid (sentP l p = (0 :: hearS l p.to).map (ansV l p)) := cover (by
    rw [sentP_cmd hone (by omega) hrs]
    unfold askedS
    rw [if_neg (fun h => hf h.1), if_pos (.inr ht)]
    rfl)
  have HANS : Hid (∀ x, ansV l p x = (⟨p.frm, x, true, 2, p.kind, 0, 0, p.poll, p.info⟩ : PV)) := cover fun x => by unfold ansV; rw [if_neg (by omega)]
  have HC0 : Hid (clsS l 0 = 0) := cover (clsS_no (by
    cases hh : hasS l 0 with
    | false => rfl
    | true => exact absurd (ok_has hin.out hh).1 (by omega)))
  have HMEM : Hid (∀ x ∈ hearS l p.to, x = 0 ∨ (1 ≤ clsS l x ∧ clsS l x ≤ 4)) := cover fun x hx => .inr (cls_ok hin.out (hear_active hx))
  have hresp := cover hrs
  have hk0 : (p.kind == 0) = false := by rw [hk]; rfl
  have hk1 : (p.kind == 1) = false := by rw [hk]; rfl
  have hk2 : (p.kind == 2) = true := by rw [hk]; rfl
  have ht0 : (p.to == 0) = false := by rw [ht]; rfl
  have ht1 : (p.to == 255) = true := by rw [ht]; rfl
  have ht3 : (p.to != 0) = true := by rw [ht]; rfl
  have hf0 : (p.frm == 0) = false := by simpa using hf
  clear hone hk hrs ht hf
  go_enter Try.func22, Try.ntmps22
  go_upto_region 1 with fail
  rw [← hw1, HB.out]
  clear hw1
  go_wp2_with fail
  refine (HT.out w1).mono ?_
  rintro e w2 ⟨rfl, hb2⟩
  rw [HS1.out] at hb2
  clear p0 p1 p2 p3 p4 p5 p6 p7 p8 HT hs1 hsub hB0
  obtain ⟨_, p0, p1, p2, p3, p4, p5, p6, p7, p8⟩ := HCell.out w2 hb2
  go_wp2_with fail
  refine (rhears_has (HRH.out w2 hb2) p.to).mono ?_
  rintro e w3 ⟨A, c, rfl, HO⟩
  obtain ⟨L, hL⟩ : ∃ L, L = hearS l p.to := ⟨_, rfl⟩
  have HLE := cover hL
  rw [← hL] at HO ⊢
  have hl16 : L.length ≤ 16 := by rw [hL]; exact hear_len16 hin.out _
  have hb3 : Below (b + 2) w1 w3 := hb2.trans (HO.out.2.mono (HSz.out w2 hb2))
  have HRW := cover (own_base (base' := 0) HO.out.1 (Nat.zero_le _))
  obtain ⟨n, hn⟩ : ∃ n, n = L.length := ⟨_, rfl⟩
  have HNL := cover hn
  rw [← hn] at HRW hl16 ⊢
  clear hb2 HO hL hn p0 p1 p2 p3 p4 p5 p6 p7 p8
  obtain ⟨_, p0, p1, p2, p3, p4, p5, p6, p7, p8⟩ := HCell.out w3 hb3
  rw [← HLE.out] at HSENT0 HMEM
  rw [hresp.out] at p2
  obtain ⟨g3, hg3⟩ : ∃ g3, g3 = w3.heap.size := ⟨_, rfl⟩
  obtain ⟨w5, hw5⟩ : ∃ w5, w5 = w3.alloc (.cells #[.int .i64 0] 3) := ⟨_, rfl⟩
  have hm5 : Below w3.heap.size w3 w5 := by rw [hw5]; exact (Below.refl _ _).alloc (Nat.le_refl _) _
  have hb5 : Below (b + 2) w1 w5 := hb3.trans (hm5.mono (HSz.out w3 hb3))
  have hn5 : w5.heap[g3]? = some (.cells #[.int .i64 0] 3 (0, 0)) := by rw [hw5, hg3]; exact heap_alloc_new _ _
  have HAZ := cover (append_zero (base := b + 2) hn5 (by rw [hg3]; exact HSz.out _ hb3) (HSz.out _ hb5) (own_blocks HRW.out hm5) (by omega))
  have HW5 := cover (And.intro hw5 hg3)
  clear hm5 hn5 hb3 HRW hw5 hg3
  go_wp2_with (at_builtin; rw [← HW5.out.1, ← HW5.out.2]; refine appends_list rfl _ _ _ rfl _ _ rfl rfl HAZ.out ?_; rintro v6 w6 ⟨⟨A6, c6, rfl⟩, H6⟩; have hb6 := H6.out.2 _ hb5; clear p0 p1 p2 p3 p4 p5 p6 p7 p8; obtain ⟨_, p0, p1, p2, p3, p4, p5, p6, p7, p8⟩ := HCell.out w6 hb6)
  have HRW := cover H6.out.1
  clear HAZ HW5 H6 hb5
  obtain ⟨L2, hL2⟩ : ∃ L2, L2 = 0 :: L := ⟨_, rfl⟩
  obtain ⟨n2, hn2⟩ : ∃ n2, n2 = n + 1 := ⟨_, rfl⟩
  have HNL2 : Hid (n2 = L2.length) := cover (by rw [hn2, hL2, HNL.out]; rfl)
  have hl17 : n2 ≤ 17 := by omega
  have HLM2 : Hid (∀ x ∈ L2, x = 0 ∨ (1 ≤ clsS l x ∧ clsS l x ≤ 4)) := cover fun x hx => by
    rw [hL2] at hx
    rcases List.mem_cons.1 hx with e | hx
    · exact .inl e
    · exact HMEM.out x hx
  have HSENT : Hid (sentP l p = L2.map (ansV l p)) := cover (by rw [HSENT0.out, hL2])
  rw [← hL2, ← hn2] at HRW
  rw [← hn2]
  clear HNL HMEM HSENT0 hL2 hn2 HLE
  have HI0 : Hid (RP w1 (b + 2) A6 n2 c6 L2 [] (.slice none 0 0) w6) := cover ⟨HRW.out, hb6, PdusIn.nil _ _⟩
  go_wp2_with fail
  clear HRW hb6 p0 p1 p2 p3 p4 p5 p6 p7 p8
  go_loopw [10, 13] (fun vv i wr => ∃ (v : Value) (j : Nat), j ≤ n2 ∧ vv = v ∧ i = .int .i64 j ∧ Hid (RP w1 (b + 2) A6 n2 c6 L2 ((L2.take j).map (ansV l p)) v wr)) (fun _ i _ => n2 - (intOf i).toNat)
  case atStart => exact ⟨_, 0, Nat.zero_le _, rfl, rfl, by rw [List.take_zero]; exact HI0⟩
  case round =>
    obtain ⟨v, j, hj, hv, rfl, hrel⟩ := hrel
    have hv2 := hv.symm
    subst hv2
    clear hv
    by_cases hlt : j < n2
    · obtain ⟨x, hx⟩ : ∃ x, L2[j]? = some x := ⟨_, List.getElem?_eq_getElem (by rw [← HNL2.out]; exact hlt)⟩
      obtain ⟨g, hA, hgl, _, hc0⟩ := own_cell hrel.out.row (j := j) (x := .int .i64 x) (by rw [List.getElem?_map, hx]; rfl)
      subst hA
      have hbr := hrel.out.bel
      have hxm := HLM2.out x (List.mem_of_getElem? hx)
      have HS : Hid (∀ W', Below wr.heap.size wr W' → (fun W' : World => W'.cell? ⟨g, j, none⟩ = some (.int .i64 x) ∧ W'.cell? ⟨b + 1, 1, none⟩ = some (.int .i64 p.frm) ∧ W'.cell? ⟨b + 1, 4, none⟩ = some (.int .i64 p.kind) ∧ W'.cell? ⟨b + 1, 7, none⟩ = some (.bool p.poll) ∧ W'.cell? ⟨b + 1, 8, none⟩ = some (.slice Ap L0 cp) ∧ Below wr.heap.size wr W') W') := cover fun W' hb' => by
        obtain ⟨_, _, e1, _, _, e4, _, _, e7, e8⟩ := HCell.out W' (hbr.trans (hb'.mono (HSz.out wr hbr)))
        exact ⟨(hb'.cell (p := ⟨g, j, none⟩) hgl).trans hc0, e1, e4, e7, e8, hb'⟩
      have hb0 : Below wr.heap.size wr wr.drew := (Below.refl _ _).drew
      have h3 : (fun W' : World => W'.cell? ⟨g, j, none⟩ = some (.int .i64 x) ∧ W'.cell? ⟨b + 1, 1, none⟩ = some (.int .i64 p.frm) ∧ W'.cell? ⟨b + 1, 4, none⟩ = some (.int .i64 p.kind) ∧ W'.cell? ⟨b + 1, 7, none⟩ = some (.bool p.poll) ∧ W'.cell? ⟨b + 1, 8, none⟩ = some (.slice Ap L0 cp) ∧ Below wr.heap.size wr W') wr.drew := HS.out _ hb0
      have HX := cover hx
      have HC : Hid (∀ W', Below wr.heap.size wr W' → Calls Try.prog 41 #[.slice Ap L0 cp] W' (GivesB W' p.info)) := cover fun W' hb' => by
        have hbd := hbr.trans (hb'.mono (HSz.out wr hbr))
        rw [HL0.out]
        exact copy_any Ap p.info.length cp b p.info W' (HRow.out _ hbd) (by have := HSz.out _ hbd; omega) hpl
      clear hx hc0
      go_wp2_with fail
      refine (wpIn_wide (n := 0)).1 ?_
      refine held_begin (fun W' : World => W'.cell? ⟨g, j, none⟩ = some (.int .i64 x) ∧ W'.cell? ⟨b + 1, 1, none⟩ = some (.int .i64 p.frm) ∧ W'.cell? ⟨b + 1, 4, none⟩ = some (.int .i64 p.kind) ∧ W'.cell? ⟨b + 1, 7, none⟩ = some (.bool p.poll) ∧ W'.cell? ⟨b + 1, 8, none⟩ = some (.slice Ap L0 cp) ∧ Below wr.heap.size wr W') 15 mixed ?_
      refine hold_take 0 _ rfl (by kernel_rfl) (by kernel_rfl) (by kernel_rfl) (by kernel_rfl) (by kernel_rfl) (fun _ _ _ h => h) (by rfl) (fun _ => rfl) h3 (fun w' hS => by obtain ⟨q0, q1, q2, q3, q4, q5⟩ := hS; go_simp; rfl) ?_
      simp only [Act.put, List.setIfInBounds_toArray, List.set_cons_zero, List.set_cons_succ]
      refine hold_take 1 _ rfl (by kernel_rfl) (by kernel_rfl) (by kernel_rfl) (by kernel_rfl) (by kernel_rfl) (fun _ _ _ h => h) (by rfl) (fun _ => rfl) h3 (fun w' hS => by obtain ⟨q0, q1, q2, q3, q4, q5⟩ := hS; go_simp; rfl) ?_
      simp only [Act.put, List.setIfInBounds_toArray, List.set_cons_zero, List.set_cons_succ]
      refine hold_take 2 _ rfl (by kernel_rfl) (by kernel_rfl) (by kernel_rfl) (by kernel_rfl) (by kernel_rfl) (fun _ _ _ h => h) (by rfl) (fun _ => rfl) h3 (fun w' hS => by obtain ⟨q0, q1, q2, q3, q4, q5⟩ := hS; go_simp; rfl) ?_
      simp only [Act.put, List.setIfInBounds_toArray, List.set_cons_zero, List.set_cons_succ]
      refine hold_take 3 _ rfl (by kernel_rfl) (by kernel_rfl) (by kernel_rfl) (by kernel_rfl) (by kernel_rfl) (fun _ _ _ h => h) (by rfl) (fun _ => rfl) h3 (fun w' hS => by obtain ⟨q0, q1, q2, q3, q4, q5⟩ := hS; go_simp; rfl) ?_
      simp only [Act.put, List.setIfInBounds_toArray, List.set_cons_zero, List.set_cons_succ]
      refine hold_take 4 _ rfl (by kernel_rfl) (by kernel_rfl) (by kernel_rfl) (by kernel_rfl) (by kernel_rfl) (fun _ _ _ h => h) (by rfl) (fun _ => rfl) h3 (fun w' hS => by obtain ⟨q0, q1, q2, q3, q4, q5⟩ := hS; go_simp; rfl) ?_
      simp only [Act.put, List.setIfInBounds_toArray, List.set_cons_zero, List.set_cons_succ]
      refine hold_take 5 _ rfl (by kernel_rfl) (by kernel_rfl) (by kernel_rfl) (by kernel_rfl) (by kernel_rfl) (fun _ _ _ h => h) (by rfl) (fun _ => rfl) h3 (fun w' hS => by obtain ⟨q0, q1, q2, q3, q4, q5⟩ := hS; go_simp; rfl) ?_
      simp only [Act.put, List.setIfInBounds_toArray, List.set_cons_zero, List.set_cons_succ]
      refine hold_take 6 _ rfl (by kernel_rfl) (by kernel_rfl) (by kernel_rfl) (by kernel_rfl) (by kernel_rfl) (fun _ _ _ h => h) (by rfl) (fun _ => rfl) h3 (fun w' hS => by obtain ⟨q0, q1, q2, q3, q4, q5⟩ := hS; go_simp; rfl) ?_
      simp only [Act.put, List.setIfInBounds_toArray, List.set_cons_zero, List.set_cons_succ]
      refine hold_take 7 _ rfl (by kernel_rfl) (by kernel_rfl) (by kernel_rfl) (by kernel_rfl) (by kernel_rfl) (fun _ _ _ h => h) (by rfl) (fun _ => rfl) h3 (fun w' hS => by obtain ⟨q0, q1, q2, q3, q4, q5⟩ := hS; go_simp; rfl) ?_
      simp only [Act.put, List.setIfInBounds_toArray, List.set_cons_zero, List.set_cons_succ]
      refine hold_take 8 _ rfl (by kernel_rfl) (by kernel_rfl) (by kernel_rfl) (by kernel_rfl) (by kernel_rfl) (fun _ _ _ h => h) (by rfl) (fun _ => rfl) h3 (fun w' hS => by obtain ⟨q0, q1, q2, q3, q4, q5⟩ := hS; go_simp; rfl) ?_
      simp only [Act.put, List.setIfInBounds_toArray, List.set_cons_zero, List.set_cons_succ]
      refine hold_take 9 _ rfl (by kernel_rfl) (by kernel_rfl) (by kernel_rfl) (by kernel_rfl) (by kernel_rfl) (fun _ _ _ h => h) (by rfl) (fun _ => rfl) h3 (fun w' hS => by obtain ⟨q0, q1, q2, q3, q4, q5⟩ := hS; go_simp; rfl) ?_
      simp only [Act.put, List.setIfInBounds_toArray, List.set_cons_zero, List.set_cons_succ]
      refine hold_take 10 _ rfl (by kernel_rfl) (by kernel_rfl) (by kernel_rfl) (by kernel_rfl) (by kernel_rfl) (fun _ _ _ h => h) (by rfl) (fun _ => rfl) h3 (fun w' hS => by obtain ⟨q0, q1, q2, q3, q4, q5⟩ := hS; go_simp; rfl) ?_
      simp only [Act.put, List.setIfInBounds_toArray, List.set_cons_zero, List.set_cons_succ]
      refine hold_take 11 _ rfl (by kernel_rfl) (by kernel_rfl) (by kernel_rfl) (by kernel_rfl) (by kernel_rfl) (fun _ _ _ h => h) (by rfl) (fun _ => rfl) h3 (fun w' hS => by obtain ⟨q0, q1, q2, q3, q4, q5⟩ := hS; go_simp; rfl) ?_
      simp only [Act.put, List.setIfInBounds_toArray, List.set_cons_zero, List.set_cons_succ]
      refine net_law (k := 1) [(12, 109), (13, 110), (14, 14)] (VRsp wr.heap.size L0 p x) (fun a b => Below a.heap.size a b) _
        #[true, true, true, true, true, true, true, true, true, true, true, true, true, true, true, false] _ _ (by kernel_rfl) h3 VRsp.stable ?_ ?_
      · intro y hy o ho uu W hSW hd
        have hbW := hSW.2.2.2.2.2
        have hsW := hbW.size
        have keep : ∀ W', Below W.heap.size W W' → (fun W' : World => W'.cell? ⟨g, j, none⟩ = some (.int .i64 x) ∧ W'.cell? ⟨b + 1, 1, none⟩ = some (.int .i64 p.frm) ∧ W'.cell? ⟨b + 1, 4, none⟩ = some (.int .i64 p.kind) ∧ W'.cell? ⟨b + 1, 7, none⟩ = some (.bool p.poll) ∧ W'.cell? ⟨b + 1, 8, none⟩ = some (.slice Ap L0 cp) ∧ Below wr.heap.size wr W') W' := fun W' hb => HS.out _ (hbW.trans (hb.mono hsW))
        simp only [List.mem_cons, List.not_mem_nil, or_false] at hy
        rcases hy with rfl | rfl | rfl
        · obtain rfl := op_of ho rfl
          simp only [upd, List.foldl_cons, List.foldl_nil, List.setIfInBounds_toArray, List.set_cons_zero, List.set_cons_succ]
          go_simp
          refine ⟨trivial, rfl, (callsIn_wide.2 (HC.out W hbW)).mono ?_⟩
          rintro e w' ⟨A3, c3, rfl, ho2, hb⟩
          exact ⟨keep _ hb, ⟨A3, c3, by rw [HL0.out], ho2.mono hsW⟩, hb⟩
        · obtain rfl := op_of ho rfl
          simp only [upd, List.foldl_cons, List.foldl_nil, List.setIfInBounds_toArray, List.set_cons_zero, List.set_cons_succ]
          obtain ⟨A3, c3, e109, ho3⟩ : VRsp wr.heap.size L0 p x 12 (uu 109) W := hd (12, 109) (by simp) (by kernel_rfl)
          rw [e109]
          go_simp
          exact ⟨⟨A3, c3, rfl, ho3⟩, Below.refl _ _⟩
        · obtain rfl := op_of ho rfl
          simp only [upd, List.foldl_cons, List.foldl_nil, List.setIfInBounds_toArray, List.set_cons_zero, List.set_cons_succ]
          go_simp
          have hb := (Below.refl W.heap.size W).alloc (Nat.le_refl _) (.cells zp 29)
          exact ⟨keep _ hb, ⟨W.heap.size, rfl, hsW, heap_alloc_new _ _⟩, hb⟩
      · intro uu W hSW hV
        obtain ⟨A3, c3, e110, ho3⟩ : VRsp wr.heap.size L0 p x 13 (uu 110) W := hV (13, 110) (by simp)
        obtain ⟨z, e14, hzl, hzh⟩ : VRsp wr.heap.size L0 p x 14 (uu 14) W := hV (14, 14) (by simp)
        obtain ⟨v109, hv109⟩ : ∃ v, v = uu 109 := ⟨_, rfl⟩
        have hbW := hSW.2.2.2.2.2
        simp only [upd, List.foldl_cons, List.foldl_nil, List.setIfInBounds_toArray, List.set_cons_zero, List.set_cons_succ]
        rw [e110, e14, ← hv109]
        clear hV e110 e14 hv109
        have HO3 := cover ho3
        obtain ⟨w5, hw5⟩ : ∃ w5, w5 = W.setRow z #[.int .i64 p.frm, .int .i64 x, .bool true, .int .i64 2, .int .i64 p.kind, .int .i64 0, .int .i64 0, .bool p.poll, .slice A3 L0 c3] := ⟨_, rfl⟩
        have Gz : Hid (w5.heap[z]? = some (.cells #[.int .i64 p.frm, .int .i64 x, .bool true, .int .i64 2, .int .i64 p.kind, .int .i64 0, .int .i64 0, .bool p.poll, .slice A3 L0 c3] 29 (0, 0))) := cover (by rw [hw5]; exact setRow_heap _ _ _ _ _ _ hzh)
        have hB5 : Below wr.heap.size wr w5 := by rw [hw5]; exact Go.below_setRow hbW hzl _
        have hb5 : Below (b + 2) w1 w5 := hbr.trans (hB5.mono (HSz.out wr hbr))
        have HO5 : Hid (OwnB w5 0 (.slice A3 p.info.length c3) p.info) := cover (by
          rw [hw5]
          refine own_base (base' := 0) (row_keeps ho3 (fun i hi => setRow_other _ _ _ _ (fun e => ?_))) (Nat.zero_le _)
          obtain ⟨cur, hcu⟩ := row_type ho3 hi
          subst e
          exact type_ne hcu hzh (by decide) rfl)
        refine hold_one 15 (by kernel_rfl) rfl (by rfl) fun K hK => ?_
        refine run_skip_u (w' := w5) (fun c h => by cases h) (fun _ h => by cases h) (by rw [hw5]; exact exec_store_row _ _ _ rfl z #[.int .i64 p.frm, .int .i64 x, .bool true, .int .i64 2, .int .i64 p.kind, .int .i64 0, .int .i64 0, .bool p.poll, .slice A3 L0 c3] (by go_simp) (by go_simp) 29 zp hzh pdu_size rfl (pdu_one _ _ _ _ _ _ _ _ _ _ _)) ?_
        refine hK _ _ (.inl rfl) (held_done (by kernel_rfl) ?_ _)
        clear hK K hSW hbW ho3 hzh hw5 h3 hb0 HC
        obtain ⟨_, p0, p1, p2, p3, p4, p5, p6, p7, p8⟩ := HCell.out w5 hb5
        obtain ⟨wq, hwq⟩ : ∃ wq, wq = w5.alloc (.cells #[.int .i64 p.frm, .int .i64 x, .bool true, .int .i64 2, .int .i64 p.kind, .int .i64 0, .int .i64 0, .bool p.poll, .slice A3 L0 c3] 29) := ⟨_, rfl⟩
        have hmq : Below w5.heap.size w5 wq := by rw [hwq]; exact (Below.refl _ _).alloc (Nat.le_refl _) _
        have hbq : Below (b + 2) w1 wq := hb5.trans (hmq.mono (HSz.out _ hb5))
        have hnq : wq.heap[w5.heap.size]? = some (.cells #[.int .i64 p.frm, .int .i64 x, .bool true, .int .i64 2, .int .i64 p.kind, .int .i64 0, .int .i64 0, .bool p.poll, .slice A3 L0 c3] 29 (0, 0)) := by rw [hwq]; exact heap_alloc_new _ _
        have hoq : InfP wq ((⟨p.frm, x, true, 2, p.kind, 0, 0, p.poll, p.info⟩ : PV), A3, c3) := ownB_below HO5.out hmq
        have HAP := cover (PdusIn.app (hrel.out.ex.below (hB5.trans (hmq.mono hB5.size))) (HSz.out _ hbq) (⟨p.frm, x, true, 2, p.kind, 0, 0, p.poll, p.info⟩ : PV) hoq (by rw [HL0.out] at hnq; exact hnq) (by rw [List.length_map, List.length_take]; omega))
        have HNX : Hid (∀ v8 w8, PdusIn (b + 2) w8 v8 ((L2.take j).map (ansV l p) ++ [(⟨p.frm, x, true, 2, p.kind, 0, 0, p.poll, p.info⟩ : PV)]) → KeepO (isTyO 29) wq w8 → (∀ w0, Below (b + 2) w0 wq → Below (b + 2) w0 w8) → RP w1 (b + 2) (some ⟨g, 0, none⟩) n2 c6 L2 ((L2.take (j + 1)).map (ansV l p)) v8 w8) := cover fun v8 w8 h1 h2 h3 =>
          ⟨own_typed (own_typed hrel.out.row (KeepO.of_below (p := isTyO 29) (hB5.trans (hmq.mono hB5.size))) (fun _ _ => ty_ne (by decide) _ _)) h2 (fun _ _ => ty_ne (by decide) _ _), h3 _ hbq, by
            rw [List.take_add_one, HX.out, List.map_append]
            have e : ([x] : List Int).map (ansV l p) = [(⟨p.frm, x, true, 2, p.kind, 0, 0, p.poll, p.info⟩ : PV)] := by rw [List.map_cons, List.map_nil, HANS.out x]
            show PdusIn (b + 2) w8 v8 ((L2.take j).map (ansV l p) ++ ([x] : List Int).map (ansV l p))
            rw [e]; exact h1⟩
        clear hmq hbq hnq hoq hrel HX
        go_wp2_with (first
          | (refine wpList_load_row rfl _ _ rfl z rfl 29 #[.int .i64 p.frm, .int .i64 x, .bool true, .int .i64 2, .int .i64 p.kind, .int .i64 0, .int .i64 0, .bool p.poll, .slice A3 L0 c3] (0, 0) _ Gz.out Try.underlying29 rfl pdu_size ?_)
          | (at_builtin; rw [← hwq]; refine appends_list rfl _ _ _ rfl _ _ rfl rfl HAP.out ?_; rintro v8 w8 ⟨⟨A8, c8, hv8⟩, H8⟩; obtain ⟨n8, hn8⟩ : ∃ n8, n8 = ((L2.take j).map (ansV l p)).length + 1 := ⟨_, rfl⟩; rw [← hn8] at hv8; subst hv8; clear hn8))
        have HN := cover (HNX.out _ w8 H8.out.1 H8.out.2.1 H8.out.2.2)
        clear HAP HNX H8 hwq
        go_wp2
        go_roundw
        case rel => exact ⟨_, j + 1, by omega, rfl, by go_num, HN⟩
        case measure => simp [intOf]; omega
    · obtain rfl : j = n2 := by omega
      have hex := hrel.out.ex
      rw [List.take_of_length_le (by rw [HNL2.out]; exact Nat.le_refl _)] at hex
      obtain ⟨Av, cv, hv⟩ := hex.shape
      have HN : Hid (HearOut (toldP l pe p) (sentP l p) w (.returned (.tuple #[.slice none 0 0, v])) wr) := cover (by
        rw [HTOLD.out, HSENT.out]
        exact ⟨none, 0, Av, cv, by rw [hv]; rfl, cover ⟨IndsIn.nil _ _, by rw [HB.out, ← hv]; exact hex.mono (by omega), by rw [HB.out]; exact HOut.out _ hrel.out.bel⟩⟩)
      clear hex hv hrel HCell HSz HRow HRH HOut
      go_wp2
      go_ret2
      exact HN.out
set_option maxRecDepth 100000 in
set_option maxHeartbeats 6400000 in
theorem rhear_cmd2_o {Bs : Nat} {w : World} {r : Nat} {l : List SV} (h : RHas Bs w r l) (pe : A6) (p : PV) (Ap : Option Addr) (cp : Nat) (hr : Row w w.heap.size Ap p.info.length p.info) (hpl : p.info.length ≤ 140737488355328) (hone : IsOne p) (hk : p.kind = 2) (hrs : p.resp = false) (ht : p.to ≠ 0) (ht2 : p.to ≠ 255) (hf : p.frm ≠ 0) :
    Calls Try.prog 22 #[ptr r, .agg #[.int .u8 pe.a0, .int .u8 pe.a1, .int .u8 pe.a2, .int .u8 pe.a3, .int .u8 pe.a4, .int .u8 pe.a5], .agg #[.int .i64 p.to, .int .i64 p.frm, .bool p.resp, .int .i64 p.form, .int .i64 p.kind, .int .i64 p.ns, .int .i64 p.nr, .bool p.poll, .slice Ap p.info.length cp]] w (HearOut (toldP l pe p) (sentP l p) w) := by
  obtain ⟨b, hb⟩ : ∃ b, w.heap.size = b := ⟨_, rfl⟩
  have HB := cover hb
  obtain ⟨L0, hL0⟩ : ∃ L0, L0 = p.info.length := ⟨_, rfl⟩
  have HL0 := cover hL0
  have HT := cover (fun W => ref_type_any p Ap cp W)
  rw [← hL0] at HT ⊢
  obtain ⟨w1, hw1⟩ : ∃ w1, w1 = (w.alloc (.cells #[.int .u8 pe.a0, .int .u8 pe.a1, .int .u8 pe.a2, .int .u8 pe.a3, .int .u8 pe.a4, .int .u8 pe.a5] 37)).alloc (.cells #[.int .i64 p.to, .int .i64 p.frm, .bool p.resp, .int .i64 p.form, .int .i64 p.kind, .int .i64 p.ns, .int .i64 p.nr, .bool p.poll, .slice Ap L0 cp] 29) := ⟨_, rfl⟩
  have hb1 : Below b w w1 := by rw [hw1, ← hb]; exact ((Below.refl _ _).alloc (Nat.le_refl _) _).alloc (by simp) _
  have hs1 : w1.heap.size = b + 2 := by rw [hw1]; simp [hb]
  have g0 : w1.heap[b]? = some (.cells #[.int .u8 pe.a0, .int .u8 pe.a1, .int .u8 pe.a2, .int .u8 pe.a3, .int .u8 pe.a4, .int .u8 pe.a5] 37 (0, 0)) := by rw [hw1, ← hb]; exact heap_alloc2_old _ _ _
  have g1 : w1.heap[b + 1]? = some (.cells #[.int .i64 p.to, .int .i64 p.frm, .bool p.resp, .int .i64 p.form, .int .i64 p.kind, .int .i64 p.ns, .int .i64 p.nr, .bool p.poll, .slice Ap L0 cp] 29 (0, 0)) := by rw [hw1, ← hb]; exact heap_alloc2_new _ _ _
  have HCell : Hid (∀ W, Below (b + 2) w1 W → (W.cell? ⟨b, 0, none⟩ = some (.int .u8 pe.a0) ∧ W.cell? ⟨b, 1, none⟩ = some (.int .u8 pe.a1) ∧ W.cell? ⟨b, 2, none⟩ = some (.int .u8 pe.a2) ∧ W.cell? ⟨b, 3, none⟩ = some (.int .u8 pe.a3) ∧ W.cell? ⟨b, 4, none⟩ = some (.int .u8 pe.a4) ∧ W.cell? ⟨b, 5, none⟩ = some (.int .u8 pe.a5)) ∧ (W.cell? ⟨b + 1, 0, none⟩ = some (.int .i64 p.to) ∧ W.cell? ⟨b + 1, 1, none⟩ = some (.int .i64 p.frm) ∧ W.cell? ⟨b + 1, 2, none⟩ = some (.bool p.resp) ∧ W.cell? ⟨b + 1, 3, none⟩ = some (.int .i64 p.form) ∧ W.cell? ⟨b + 1, 4, none⟩ = some (.int .i64 p.kind) ∧ W.cell? ⟨b + 1, 5, none⟩ = some (.int .i64 p.ns) ∧ W.cell? ⟨b + 1, 6, none⟩ = some (.int .i64 p.nr) ∧ W.cell? ⟨b + 1, 7, none⟩ = some (.bool p.poll) ∧ W.cell? ⟨b + 1, 8, none⟩ = some (.slice Ap L0 cp))) := cover fun W hW => by
    have e0 := (hW.block b (by omega)).trans g0
    have e1 := (hW.block (b + 1) (by omega)).trans g1
    refine ⟨⟨?_, ?_, ?_, ?_, ?_, ?_⟩, pdu_cells e1⟩
    all_goals (rw [cell_of_row _ _ _ _ _ _ e0]; rfl)
  have HSz : Hid (∀ W, Below (b + 2) w1 W → b + 2 ≤ W.heap.size) := cover fun W hW => by rw [← hs1]; exact hW.size
  have HRow : Hid (∀ W, Below (b + 2) w1 W → Row W b Ap p.info.length p.info) := cover fun W hW => by
    have h1 := hr
    rw [hb] at h1
    exact (h1.below hb1).below (hW.mono (by omega))
  have HRH : Hid (∀ W, Below (b + 2) w1 W → RHas Bs W r l) := cover fun W hW => h.below (by rw [hb]; exact hb1.trans (hW.mono (by omega)))
  have HOut : Hid (∀ W, Below (b + 2) w1 W → Below b w W) := cover fun W hW => hb1.trans (hW.mono (by omega))
  have hin := cover h.ok
  have mixed : Try.prog.follows .mixedOrders = true := by kernel_rfl
  obtain ⟨ty, hty⟩ : ∃ ty, ty = typeP p := ⟨_, rfl⟩
  rw [← hty] at HT
  have HTY := cover hty
  have hB0 : Below (b + 2) w1 w1 := Below.refl _ _
  have hsub : Below w1.heap.size w1 w1 := Below.refl _ _
  obtain ⟨_, p0, p1, p2, p3, p4, p5, p6, p7, p8⟩ := HCell.out w1 hB0
  have HS1 := cover hs1
  clear h hr g0 g1 hb1 hty hL0 hb
  have hty1 : (ty != 1) = false := by
    have : ty = 1 := by rw [HTY.out]; exact typeP_one.2 hone
    rw [this]; rfl
  have HTOLD : Hid (toldP l pe p = []) := cover (toldP_cmd (by omega) hrs)
  have HSENT0 : Hid (sentP l p = (hearS l p.to).map (ansV l p)) := cover (by
    rw [sentP_cmd hone (by omega) hrs]
    unfold askedS
    rw [if_neg (fun h => hf h.1), if_neg (by omega)]
    rfl)
  have HANS : Hid (∀ x, ansV l p x = (⟨p.frm, x, true, 2, p.kind, 0, 0, p.poll, p.info⟩ : PV)) := cover fun x => by unfold ansV; rw [if_neg (by omega)]
  have HC0 : Hid (clsS l 0 = 0) := cover (clsS_no (by
    cases hh : hasS l 0 with
    | false => rfl
    | true => exact absurd (ok_has hin.out hh).1 (by omega)))
  have HMEM : Hid (∀ x ∈ hearS l p.to, x = 0 ∨ (1 ≤ clsS l x ∧ clsS l x ≤ 4)) := cover fun x hx => .inr (cls_ok hin.out (hear_active hx))
  have hresp := cover hrs
  have hk0 : (p.kind == 0) = false := by rw [hk]; rfl
  have hk1 : (p.kind == 1) = false := by rw [hk]; rfl
  have hk2 : (p.kind == 2) = true := by rw [hk]; rfl
  have ht0 : (p.to == 0) = false := by simpa using ht
  have ht1 : (p.to == 255) = false := by simpa using ht2
  have ht3 : (p.to != 0) = true := by simpa using ht
  have hf0 : (p.frm == 0) = false := by simpa using hf
  clear hone hk hrs ht hf ht2
  go_enter Try.func22, Try.ntmps22
  go_upto_region 1 with fail
  rw [← hw1, HB.out]
  clear hw1
  go_wp2_with fail
  refine (HT.out w1).mono ?_
  rintro e w2 ⟨rfl, hb2⟩
  rw [HS1.out] at hb2
  clear p0 p1 p2 p3 p4 p5 p6 p7 p8 HT hs1 hsub hB0
  obtain ⟨_, p0, p1, p2, p3, p4, p5, p6, p7, p8⟩ := HCell.out w2 hb2
  go_wp2_with fail
  refine (rhears_has (HRH.out w2 hb2) p.to).mono ?_
  rintro e w3 ⟨A, c, rfl, HO⟩
  obtain ⟨L, hL⟩ : ∃ L, L = hearS l p.to := ⟨_, rfl⟩
  have HLE := cover hL
  rw [← hL] at HO ⊢
  have hl16 : L.length ≤ 16 := by rw [hL]; exact hear_len16 hin.out _
  have hb3 : Below (b + 2) w1 w3 := hb2.trans (HO.out.2.mono (HSz.out w2 hb2))
  have HRW := cover (own_base (base' := 0) HO.out.1 (Nat.zero_le _))
  obtain ⟨n, hn⟩ : ∃ n, n = L.length := ⟨_, rfl⟩
  have HNL := cover hn
  rw [← hn] at HRW hl16 ⊢
  clear hb2 HO hL hn p0 p1 p2 p3 p4 p5 p6 p7 p8
  obtain ⟨_, p0, p1, p2, p3, p4, p5, p6, p7, p8⟩ := HCell.out w3 hb3
  rw [← HLE.out] at HSENT0 HMEM
  rw [hresp.out] at p2
  have HSENT := HSENT0
  have HLM := HMEM
  clear HLE
  have HI0 : Hid (RP w1 (b + 2) A n c L [] (.slice none 0 0) w3) := cover ⟨HRW.out, hb3, PdusIn.nil _ _⟩
  go_wp2_with fail
  clear HRW hb3 p0 p1 p2 p3 p4 p5 p6 p7 p8
  go_loopw [10, 13] (fun vv i wr => ∃ (v : Value) (j : Nat), j ≤ n ∧ vv = v ∧ i = .int .i64 j ∧ Hid (RP w1 (b + 2) A n c L ((L.take j).map (ansV l p)) v wr)) (fun _ i _ => n - (intOf i).toNat)
  case atStart => exact ⟨_, 0, Nat.zero_le _, rfl, rfl, by rw [List.take_zero]; exact HI0⟩
  case round =>
    obtain ⟨v, j, hj, hv, rfl, hrel⟩ := hrel
    have hv2 := hv.symm
    subst hv2
    clear hv
    by_cases hlt : j < n
    · obtain ⟨x, hx⟩ : ∃ x, L[j]? = some x := ⟨_, List.getElem?_eq_getElem (by rw [← HNL.out]; exact hlt)⟩
      obtain ⟨g, hA, hgl, _, hc0⟩ := own_cell hrel.out.row (j := j) (x := .int .i64 x) (by rw [List.getElem?_map, hx]; rfl)
      subst hA
      have hbr := hrel.out.bel
      have hxm := HLM.out x (List.mem_of_getElem? hx)
      have HS : Hid (∀ W', Below wr.heap.size wr W' → (fun W' : World => W'.cell? ⟨g, j, none⟩ = some (.int .i64 x) ∧ W'.cell? ⟨b + 1, 1, none⟩ = some (.int .i64 p.frm) ∧ W'.cell? ⟨b + 1, 4, none⟩ = some (.int .i64 p.kind) ∧ W'.cell? ⟨b + 1, 7, none⟩ = some (.bool p.poll) ∧ W'.cell? ⟨b + 1, 8, none⟩ = some (.slice Ap L0 cp) ∧ Below wr.heap.size wr W') W') := cover fun W' hb' => by
        obtain ⟨_, _, e1, _, _, e4, _, _, e7, e8⟩ := HCell.out W' (hbr.trans (hb'.mono (HSz.out wr hbr)))
        exact ⟨(hb'.cell (p := ⟨g, j, none⟩) hgl).trans hc0, e1, e4, e7, e8, hb'⟩
      have hb0 : Below wr.heap.size wr wr.drew := (Below.refl _ _).drew
      have h3 : (fun W' : World => W'.cell? ⟨g, j, none⟩ = some (.int .i64 x) ∧ W'.cell? ⟨b + 1, 1, none⟩ = some (.int .i64 p.frm) ∧ W'.cell? ⟨b + 1, 4, none⟩ = some (.int .i64 p.kind) ∧ W'.cell? ⟨b + 1, 7, none⟩ = some (.bool p.poll) ∧ W'.cell? ⟨b + 1, 8, none⟩ = some (.slice Ap L0 cp) ∧ Below wr.heap.size wr W') wr.drew := HS.out _ hb0
      have HX := cover hx
      have HC : Hid (∀ W', Below wr.heap.size wr W' → Calls Try.prog 41 #[.slice Ap L0 cp] W' (GivesB W' p.info)) := cover fun W' hb' => by
        have hbd := hbr.trans (hb'.mono (HSz.out wr hbr))
        rw [HL0.out]
        exact copy_any Ap p.info.length cp b p.info W' (HRow.out _ hbd) (by have := HSz.out _ hbd; omega) hpl
      clear hx hc0
      go_wp2_with fail
      refine (wpIn_wide (n := 0)).1 ?_
      refine held_begin (fun W' : World => W'.cell? ⟨g, j, none⟩ = some (.int .i64 x) ∧ W'.cell? ⟨b + 1, 1, none⟩ = some (.int .i64 p.frm) ∧ W'.cell? ⟨b + 1, 4, none⟩ = some (.int .i64 p.kind) ∧ W'.cell? ⟨b + 1, 7, none⟩ = some (.bool p.poll) ∧ W'.cell? ⟨b + 1, 8, none⟩ = some (.slice Ap L0 cp) ∧ Below wr.heap.size wr W') 15 mixed ?_
      refine hold_take 0 _ rfl (by kernel_rfl) (by kernel_rfl) (by kernel_rfl) (by kernel_rfl) (by kernel_rfl) (fun _ _ _ h => h) (by rfl) (fun _ => rfl) h3 (fun w' hS => by obtain ⟨q0, q1, q2, q3, q4, q5⟩ := hS; go_simp; rfl) ?_
      simp only [Act.put, List.setIfInBounds_toArray, List.set_cons_zero, List.set_cons_succ]
      refine hold_take 1 _ rfl (by kernel_rfl) (by kernel_rfl) (by kernel_rfl) (by kernel_rfl) (by kernel_rfl) (fun _ _ _ h => h) (by rfl) (fun _ => rfl) h3 (fun w' hS => by obtain ⟨q0, q1, q2, q3, q4, q5⟩ := hS; go_simp; rfl) ?_
      simp only [Act.put, List.setIfInBounds_toArray, List.set_cons_zero, List.set_cons_succ]
      refine hold_take 2 _ rfl (by kernel_rfl) (by kernel_rfl) (by kernel_rfl) (by kernel_rfl) (by kernel_rfl) (fun _ _ _ h => h) (by rfl) (fun _ => rfl) h3 (fun w' hS => by obtain ⟨q0, q1, q2, q3, q4, q5⟩ := hS; go_simp; rfl) ?_
      simp only [Act.put, List.setIfInBounds_toArray, List.set_cons_zero, List.set_cons_succ]
      refine hold_take 3 _ rfl (by kernel_rfl) (by kernel_rfl) (by kernel_rfl) (by kernel_rfl) (by kernel_rfl) (fun _ _ _ h => h) (by rfl) (fun _ => rfl) h3 (fun w' hS => by obtain ⟨q0, q1, q2, q3, q4, q5⟩ := hS; go_simp; rfl) ?_
      simp only [Act.put, List.setIfInBounds_toArray, List.set_cons_zero, List.set_cons_succ]
      refine hold_take 4 _ rfl (by kernel_rfl) (by kernel_rfl) (by kernel_rfl) (by kernel_rfl) (by kernel_rfl) (fun _ _ _ h => h) (by rfl) (fun _ => rfl) h3 (fun w' hS => by obtain ⟨q0, q1, q2, q3, q4, q5⟩ := hS; go_simp; rfl) ?_
      simp only [Act.put, List.setIfInBounds_toArray, List.set_cons_zero, List.set_cons_succ]
      refine hold_take 5 _ rfl (by kernel_rfl) (by kernel_rfl) (by kernel_rfl) (by kernel_rfl) (by kernel_rfl) (fun _ _ _ h => h) (by rfl) (fun _ => rfl) h3 (fun w' hS => by obtain ⟨q0, q1, q2, q3, q4, q5⟩ := hS; go_simp; rfl) ?_
      simp only [Act.put, List.setIfInBounds_toArray, List.set_cons_zero, List.set_cons_succ]
      refine hold_take 6 _ rfl (by kernel_rfl) (by kernel_rfl) (by kernel_rfl) (by kernel_rfl) (by kernel_rfl) (fun _ _ _ h => h) (by rfl) (fun _ => rfl) h3 (fun w' hS => by obtain ⟨q0, q1, q2, q3, q4, q5⟩ := hS; go_simp; rfl) ?_
      simp only [Act.put, List.setIfInBounds_toArray, List.set_cons_zero, List.set_cons_succ]
      refine hold_take 7 _ rfl (by kernel_rfl) (by kernel_rfl) (by kernel_rfl) (by kernel_rfl) (by kernel_rfl) (fun _ _ _ h => h) (by rfl) (fun _ => rfl) h3 (fun w' hS => by obtain ⟨q0, q1, q2, q3, q4, q5⟩ := hS; go_simp; rfl) ?_
      simp only [Act.put, List.setIfInBounds_toArray, List.set_cons_zero, List.set_cons_succ]
      refine hold_take 8 _ rfl (by kernel_rfl) (by kernel_rfl) (by kernel_rfl) (by kernel_rfl) (by kernel_rfl) (fun _ _ _ h => h) (by rfl) (fun _ => rfl) h3 (fun w' hS => by obtain ⟨q0, q1, q2, q3, q4, q5⟩ := hS; go_simp; rfl) ?_
      simp only [Act.put, List.setIfInBounds_toArray, List.set_cons_zero, List.set_cons_succ]
      refine hold_take 9 _ rfl (by kernel_rfl) (by kernel_rfl) (by kernel_rfl) (by kernel_rfl) (by kernel_rfl) (fun _ _ _ h => h) (by rfl) (fun _ => rfl) h3 (fun w' hS => by obtain ⟨q0, q1, q2, q3, q4, q5⟩ := hS; go_simp; rfl) ?_
      simp only [Act.put, List.setIfInBounds_toArray, List.set_cons_zero, List.set_cons_succ]
      refine hold_take 10 _ rfl (by kernel_rfl) (by kernel_rfl) (by kernel_rfl) (by kernel_rfl) (by kernel_rfl) (fun _ _ _ h => h) (by rfl) (fun _ => rfl) h3 (fun w' hS => by obtain ⟨q0, q1, q2, q3, q4, q5⟩ := hS; go_simp; rfl) ?_
      simp only [Act.put, List.setIfInBounds_toArray, List.set_cons_zero, List.set_cons_succ]
      refine hold_take 11 _ rfl (by kernel_rfl) (by kernel_rfl) (by kernel_rfl) (by kernel_rfl) (by kernel_rfl) (fun _ _ _ h => h) (by rfl) (fun _ => rfl) h3 (fun w' hS => by obtain ⟨q0, q1, q2, q3, q4, q5⟩ := hS; go_simp; rfl) ?_
      simp only [Act.put, List.setIfInBounds_toArray, List.set_cons_zero, List.set_cons_succ]
      refine net_law (k := 1) [(12, 109), (13, 110), (14, 14)] (VRsp wr.heap.size L0 p x) (fun a b => Below a.heap.size a b) _
        #[true, true, true, true, true, true, true, true, true, true, true, true, true, true, true, false] _ _ (by kernel_rfl) h3 VRsp.stable ?_ ?_
      · intro y hy o ho uu W hSW hd
        have hbW := hSW.2.2.2.2.2
        have hsW := hbW.size
        have keep : ∀ W', Below W.heap.size W W' → (fun W' : World => W'.cell? ⟨g, j, none⟩ = some (.int .i64 x) ∧ W'.cell? ⟨b + 1, 1, none⟩ = some (.int .i64 p.frm) ∧ W'.cell? ⟨b + 1, 4, none⟩ = some (.int .i64 p.kind) ∧ W'.cell? ⟨b + 1, 7, none⟩ = some (.bool p.poll) ∧ W'.cell? ⟨b + 1, 8, none⟩ = some (.slice Ap L0 cp) ∧ Below wr.heap.size wr W') W' := fun W' hb => HS.out _ (hbW.trans (hb.mono hsW))
        simp only [List.mem_cons, List.not_mem_nil, or_false] at hy
        rcases hy with rfl | rfl | rfl
        · obtain rfl := op_of ho rfl
          simp only [upd, List.foldl_cons, List.foldl_nil, List.setIfInBounds_toArray, List.set_cons_zero, List.set_cons_succ]
          go_simp
          refine ⟨trivial, rfl, (callsIn_wide.2 (HC.out W hbW)).mono ?_⟩
          rintro e w' ⟨A3, c3, rfl, ho2, hb⟩
          exact ⟨keep _ hb, ⟨A3, c3, by rw [HL0.out], ho2.mono hsW⟩, hb⟩
        · obtain rfl := op_of ho rfl
          simp only [upd, List.foldl_cons, List.foldl_nil, List.setIfInBounds_toArray, List.set_cons_zero, List.set_cons_succ]
          obtain ⟨A3, c3, e109, ho3⟩ : VRsp wr.heap.size L0 p x 12 (uu 109) W := hd (12, 109) (by simp) (by kernel_rfl)
          rw [e109]
          go_simp
          exact ⟨⟨A3, c3, rfl, ho3⟩, Below.refl _ _⟩
        · obtain rfl := op_of ho rfl
          simp only [upd, List.foldl_cons, List.foldl_nil, List.setIfInBounds_toArray, List.set_cons_zero, List.set_cons_succ]
          go_simp
          have hb := (Below.refl W.heap.size W).alloc (Nat.le_refl _) (.cells zp 29)
          exact ⟨keep _ hb, ⟨W.heap.size, rfl, hsW, heap_alloc_new _ _⟩, hb⟩
      · intro uu W hSW hV
        obtain ⟨A3, c3, e110, ho3⟩ : VRsp wr.heap.size L0 p x 13 (uu 110) W := hV (13, 110) (by simp)
        obtain ⟨z, e14, hzl, hzh⟩ : VRsp wr.heap.size L0 p x 14 (uu 14) W := hV (14, 14) (by simp)
        obtain ⟨v109, hv109⟩ : ∃ v, v = uu 109 := ⟨_, rfl⟩
        have hbW := hSW.2.2.2.2.2
        simp only [upd, List.foldl_cons, List.foldl_nil, List.setIfInBounds_toArray, List.set_cons_zero, List.set_cons_succ]
        rw [e110, e14, ← hv109]
        clear hV e110 e14 hv109
        have HO3 := cover ho3
        obtain ⟨w5, hw5⟩ : ∃ w5, w5 = W.setRow z #[.int .i64 p.frm, .int .i64 x, .bool true, .int .i64 2, .int .i64 p.kind, .int .i64 0, .int .i64 0, .bool p.poll, .slice A3 L0 c3] := ⟨_, rfl⟩
        have Gz : Hid (w5.heap[z]? = some (.cells #[.int .i64 p.frm, .int .i64 x, .bool true, .int .i64 2, .int .i64 p.kind, .int .i64 0, .int .i64 0, .bool p.poll, .slice A3 L0 c3] 29 (0, 0))) := cover (by rw [hw5]; exact setRow_heap _ _ _ _ _ _ hzh)
        have hB5 : Below wr.heap.size wr w5 := by rw [hw5]; exact Go.below_setRow hbW hzl _
        have hb5 : Below (b + 2) w1 w5 := hbr.trans (hB5.mono (HSz.out wr hbr))
        have HO5 : Hid (OwnB w5 0 (.slice A3 p.info.length c3) p.info) := cover (by
          rw [hw5]
          refine own_base (base' := 0) (row_keeps ho3 (fun i hi => setRow_other _ _ _ _ (fun e => ?_))) (Nat.zero_le _)
          obtain ⟨cur, hcu⟩ := row_type ho3 hi
          subst e
          exact type_ne hcu hzh (by decide) rfl)
        refine hold_one 15 (by kernel_rfl) rfl (by rfl) fun K hK => ?_
        refine run_skip_u (w' := w5) (fun c h => by cases h) (fun _ h => by cases h) (by rw [hw5]; exact exec_store_row _ _ _ rfl z #[.int .i64 p.frm, .int .i64 x, .bool true, .int .i64 2, .int .i64 p.kind, .int .i64 0, .int .i64 0, .bool p.poll, .slice A3 L0 c3] (by go_simp) (by go_simp) 29 zp hzh pdu_size rfl (pdu_one _ _ _ _ _ _ _ _ _ _ _)) ?_
        refine hK _ _ (.inl rfl) (held_done (by kernel_rfl) ?_ _)
        clear hK K hSW hbW ho3 hzh hw5 h3 hb0 HC
        obtain ⟨_, p0, p1, p2, p3, p4, p5, p6, p7, p8⟩ := HCell.out w5 hb5
        obtain ⟨wq, hwq⟩ : ∃ wq, wq = w5.alloc (.cells #[.int .i64 p.frm, .int .i64 x, .bool true, .int .i64 2, .int .i64 p.kind, .int .i64 0, .int .i64 0, .bool p.poll, .slice A3 L0 c3] 29) := ⟨_, rfl⟩
        have hmq : Below w5.heap.size w5 wq := by rw [hwq]; exact (Below.refl _ _).alloc (Nat.le_refl _) _
        have hbq : Below (b + 2) w1 wq := hb5.trans (hmq.mono (HSz.out _ hb5))
        have hnq : wq.heap[w5.heap.size]? = some (.cells #[.int .i64 p.frm, .int .i64 x, .bool true, .int .i64 2, .int .i64 p.kind, .int .i64 0, .int .i64 0, .bool p.poll, .slice A3 L0 c3] 29 (0, 0)) := by rw [hwq]; exact heap_alloc_new _ _
        have hoq : InfP wq ((⟨p.frm, x, true, 2, p.kind, 0, 0, p.poll, p.info⟩ : PV), A3, c3) := ownB_below HO5.out hmq
        have HAP := cover (PdusIn.app (hrel.out.ex.below (hB5.trans (hmq.mono hB5.size))) (HSz.out _ hbq) (⟨p.frm, x, true, 2, p.kind, 0, 0, p.poll, p.info⟩ : PV) hoq (by rw [HL0.out] at hnq; exact hnq) (by rw [List.length_map, List.length_take]; omega))
        have HNX : Hid (∀ v8 w8, PdusIn (b + 2) w8 v8 ((L.take j).map (ansV l p) ++ [(⟨p.frm, x, true, 2, p.kind, 0, 0, p.poll, p.info⟩ : PV)]) → KeepO (isTyO 29) wq w8 → (∀ w0, Below (b + 2) w0 wq → Below (b + 2) w0 w8) → RP w1 (b + 2) (some ⟨g, 0, none⟩) n c L ((L.take (j + 1)).map (ansV l p)) v8 w8) := cover fun v8 w8 h1 h2 h3 =>
          ⟨own_typed (own_typed hrel.out.row (KeepO.of_below (p := isTyO 29) (hB5.trans (hmq.mono hB5.size))) (fun _ _ => ty_ne (by decide) _ _)) h2 (fun _ _ => ty_ne (by decide) _ _), h3 _ hbq, by
            rw [List.take_add_one, HX.out, List.map_append]
            have e : ([x] : List Int).map (ansV l p) = [(⟨p.frm, x, true, 2, p.kind, 0, 0, p.poll, p.info⟩ : PV)] := by rw [List.map_cons, List.map_nil, HANS.out x]
            show PdusIn (b + 2) w8 v8 ((L.take j).map (ansV l p) ++ ([x] : List Int).map (ansV l p))
            rw [e]; exact h1⟩
        clear hmq hbq hnq hoq hrel HX
        go_wp2_with (first
          | (refine wpList_load_row rfl _ _ rfl z rfl 29 #[.int .i64 p.frm, .int .i64 x, .bool true, .int .i64 2, .int .i64 p.kind, .int .i64 0, .int .i64 0, .bool p.poll, .slice A3 L0 c3] (0, 0) _ Gz.out Try.underlying29 rfl pdu_size ?_)
          | (at_builtin; rw [← hwq]; refine appends_list rfl _ _ _ rfl _ _ rfl rfl HAP.out ?_; rintro v8 w8 ⟨⟨A8, c8, hv8⟩, H8⟩; obtain ⟨n8, hn8⟩ : ∃ n8, n8 = ((L.take j).map (ansV l p)).length + 1 := ⟨_, rfl⟩; rw [← hn8] at hv8; subst hv8; clear hn8))
        have HN := cover (HNX.out _ w8 H8.out.1 H8.out.2.1 H8.out.2.2)
        clear HAP HNX H8 hwq
        go_wp2
        go_roundw
        case rel => exact ⟨_, j + 1, by omega, rfl, by go_num, HN⟩
        case measure => simp [intOf]; omega
    · obtain rfl : j = n := by omega
      have hex := hrel.out.ex
      rw [List.take_of_length_le (by rw [HNL.out]; exact Nat.le_refl _)] at hex
      obtain ⟨Av, cv, hv⟩ := hex.shape
      have HN : Hid (HearOut (toldP l pe p) (sentP l p) w (.returned (.tuple #[.slice none 0 0, v])) wr) := cover (by
        rw [HTOLD.out, HSENT.out]
        exact ⟨none, 0, Av, cv, by rw [hv]; rfl, cover ⟨IndsIn.nil _ _, by rw [HB.out, ← hv]; exact hex.mono (by omega), by rw [HB.out]; exact HOut.out _ hrel.out.bel⟩⟩)
      clear hex hv hrel HCell HSz HRow HRH HOut
      go_wp2
      go_ret2
      exact HN.out
end Go.Proofs.Ytgpmimohoepeiaa

namespace Go.Proofs.Ytgpmimohoepeiaa
open Go.RowKit
set_option linter.unusedVariables false
set_option linter.unusedSimpArgs false

set_option maxRecDepth 100000 in
set_option maxHeartbeats 6400000 in
theorem rhear_none_a {Bs : Nat} {w : World} {r : Nat} {l : List SV} (h : RHas Bs w r l) (pe : A6) (p : PV) (Ap : Option Addr) (cp : Nat) (hr : Row w w.heap.size Ap p.info.length p.info) (hpl : p.info.length ≤ 140737488355328) (hone : IsOne p) (hk : p.kind ≠ 0) (hrs : p.resp = false) (ht : p.to = 255) (hf : p.frm = 0) :
    Calls Try.prog 22 #[ptr r, .agg #[.int .u8 pe.a0, .int .u8 pe.a1, .int .u8 pe.a2, .int .u8 pe.a3, .int .u8 pe.a4, .int .u8 pe.a5], .agg #[.int .i64 p.to, .int .i64 p.frm, .bool p.resp, .int .i64 p.form, .int .i64 p.kind, .int .i64 p.ns, .int .i64 p.nr, .bool p.poll, .slice Ap p.info.length cp]] w (HearOut (toldP l pe p) (sentP l p) w) := by
  obtain ⟨b, hb⟩ : ∃ b, w.heap.size = b := ⟨_, rfl⟩
  have HB := cover hb
  obtain ⟨L0, hL0⟩ : ∃ L0, L0 = p.info.length := ⟨_, rfl⟩
  have HL0 := cover hL0
  have HT := cover (fun W => ref_type_any p Ap cp W)
  rw [← hL0] at HT ⊢
  obtain ⟨w1, hw1⟩ : ∃ w1, w1 = (w.alloc (.cells #[.int .u8 pe.a0, .int .u8 pe.a1, .int .u8 pe.a2, .int .u8 pe.a3, .int .u8 pe.a4, .int .u8 pe.a5] 37)).alloc (.cells #[.int .i64 p.to, .int .i64 p.frm, .bool p.resp, .int .i64 p.form, .int .i64 p.kind, .int .i64 p.ns, .int .i64 p.nr, .bool p.poll, .slice Ap L0 cp] 29) := ⟨_, rfl⟩
  have hb1 : Below b w w1 := by rw [hw1, ← hb]; exact ((Below.refl _ _).alloc (Nat.le_refl _) _).alloc (by simp) _
  have hs1 : w1.heap.size = b + 2 := by rw [hw1]; simp [hb]
  have g0 : w1.heap[b]? = some (.cells #[.int .u8 pe.a0, .int .u8 pe.a1, .int .u8 pe.a2, .int .u8 pe.a3, .int .u8 pe.a4, .int .u8 pe.a5] 37 (0, 0)) := by rw [hw1, ← hb]; exact heap_alloc2_old _ _ _
  have g1 : w1.heap[b + 1]? = some (.cells #[.int .i64 p.to, .int .i64 p.frm, .bool p.resp, .int .i64 p.form, .int .i64 p.kind, .int .i64 p.ns, .int .i64 p.nr, .bool p.poll, .slice Ap L0 cp] 29 (0, 0)) := by rw [hw1, ← hb]; exact heap_alloc2_new _ _ _
  have HCell : Hid (∀ W, Below (b + 2) w1 W → (W.cell? ⟨b, 0, none⟩ = some (.int .u8 pe.a0) ∧ W.cell? ⟨b, 1, none⟩ = some (.int .u8 pe.a1) ∧ W.cell? ⟨b, 2, none⟩ = some (.int .u8 pe.a2) ∧ W.cell? ⟨b, 3, none⟩ = some (.int .u8 pe.a3) ∧ W.cell? ⟨b, 4, none⟩ = some (.int .u8 pe.a4) ∧ W.cell? ⟨b, 5, none⟩ = some (.int .u8 pe.a5)) ∧ (W.cell? ⟨b + 1, 0, none⟩ = some (.int .i64 p.to) ∧ W.cell? ⟨b + 1, 1, none⟩ = some (.int .i64 p.frm) ∧ W.cell? ⟨b + 1, 2, none⟩ = some (.bool p.resp) ∧ W.cell? ⟨b + 1, 3, none⟩ = some (.int .i64 p.form) ∧ W.cell? ⟨b + 1, 4, none⟩ = some (.int .i64 p.kind) ∧ W.cell? ⟨b + 1, 5, none⟩ = some (.int .i64 p.ns) ∧ W.cell? ⟨b + 1, 6, none⟩ = some (.int .i64 p.nr) ∧ W.cell? ⟨b + 1, 7, none⟩ = some (.bool p.poll) ∧ W.cell? ⟨b + 1, 8, none⟩ = some (.slice Ap L0 cp))) := cover fun W hW => by
    have e0 := (hW.block b (by omega)).trans g0
    have e1 := (hW.block (b + 1) (by omega)).trans g1
    refine ⟨⟨?_, ?_, ?_, ?_, ?_, ?_⟩, pdu_cells e1⟩
    all_goals (rw [cell_of_row _ _ _ _ _ _ e0]; rfl)
  have HSz : Hid (∀ W, Below (b + 2) w1 W → b + 2 ≤ W.heap.size) := cover fun W hW => by rw [← hs1]; exact hW.size
  have HRow : Hid (∀ W, Below (b + 2) w1 W → Row W b Ap p.info.length p.info) := cover fun W hW => by
    have h1 := hr
    rw [hb] at h1
    exact (h1.below hb1).below (hW.mono (by omega))
  have HRH : Hid (∀ W, Below (b + 2) w1 W → RHas Bs W r l) := cover fun W hW => h.below (by rw [hb]; exact hb1.trans (hW.mono (by omega)))
  have HOut : Hid (∀ W, Below (b + 2) w1 W → Below b w W) := cover fun W hW => hb1.trans (hW.mono (by omega))
  have hin := cover h.ok
  have mixed : Try.prog.follows .mixedOrders = true := by kernel_rfl
  obtain ⟨ty, hty⟩ : ∃ ty, ty = typeP p := ⟨_, rfl⟩
  rw [← hty] at HT
  have HTY := cover hty
  have hB0 : Below (b + 2) w1 w1 := Below.refl _ _
  have hsub : Below w1.heap.size w1 w1 := Below.refl _ _
  obtain ⟨_, p0, p1, p2, p3, p4, p5, p6, p7, p8⟩ := HCell.out w1 hB0
  have HS1 := cover hs1
  clear h hr g0 g1 hb1 hty hL0 hb
  have hty1 : (ty != 1) = false := by
    have : ty = 1 := by rw [HTY.out]; exact typeP_one.2 hone
    rw [this]; rfl
  have HN : Hid (∀ W, Below (b + 2) w1 W → HearOut (toldP l pe p) (sentP l p) w (.returned (.tuple #[.slice none 0 0, .slice none 0 0])) W) := cover fun W hW => by
    rw [toldP_cmd hk hrs, sentP_cmd hone hk hrs]
    unfold askedS
    rw [if_pos ⟨hf, by omega⟩]
    exact ⟨none, 0, none, 0, rfl, cover ⟨IndsIn.nil _ _, PdusIn.nil _ _, by rw [HB.out]; exact HOut.out W hW⟩⟩
  have hresp := cover hrs
  have hk0 : (p.kind == 0) = false := by simpa using hk
  have ht0 : (p.to == 0) = false := by rw [ht]; rfl
  have ht1 : (p.to == 255) = true := by rw [ht]; rfl
  have ht3 : (p.to != 0) = true := by rw [ht]; rfl
  have hf0 : (p.frm == 0) = true := by rw [hf]; rfl
  clear hone hk hrs ht hf
  go_enter Try.func22, Try.ntmps22
  go_upto_region 1 with fail
  rw [← hw1, HB.out]
  clear hw1
  go_wp2_with fail
  refine (HT.out w1).mono ?_
  rintro e w2 ⟨rfl, hb2⟩
  rw [HS1.out] at hb2
  clear p0 p1 p2 p3 p4 p5 p6 p7 p8 HT hs1 hsub hB0
  obtain ⟨_, p0, p1, p2, p3, p4, p5, p6, p7, p8⟩ := HCell.out w2 hb2
  go_wp2_with fail
  refine (rhears_has (HRH.out w2 hb2) p.to).mono ?_
  rintro e w3 ⟨A, c, rfl, HO⟩
  obtain ⟨L, hL⟩ : ∃ L, L = hearS l p.to := ⟨_, rfl⟩
  have HLE := cover hL
  rw [← hL] at HO ⊢
  have hl16 : L.length ≤ 16 := by rw [hL]; exact hear_len16 hin.out _
  have hb3 : Below (b + 2) w1 w3 := hb2.trans (HO.out.2.mono (HSz.out w2 hb2))
  have HRW := cover (own_base (base' := 0) HO.out.1 (Nat.zero_le _))
  obtain ⟨n, hn⟩ : ∃ n, n = L.length := ⟨_, rfl⟩
  have HNL := cover hn
  rw [← hn] at HRW hl16 ⊢
  clear hb2 HO hL hn p0 p1 p2 p3 p4 p5 p6 p7 p8
  obtain ⟨_, p0, p1, p2, p3, p4, p5, p6, p7, p8⟩ := HCell.out w3 hb3
  rw [hresp.out] at p2
  obtain ⟨g3, hg3⟩ : ∃ g3, g3 = w3.heap.size := ⟨_, rfl⟩
  obtain ⟨w5, hw5⟩ : ∃ w5, w5 = w3.alloc (.cells #[.int .i64 0] 3) := ⟨_, rfl⟩
  have hm5 : Below w3.heap.size w3 w5 := by rw [hw5]; exact (Below.refl _ _).alloc (Nat.le_refl _) _
  have hb5 : Below (b + 2) w1 w5 := hb3.trans (hm5.mono (HSz.out w3 hb3))
  have hn5 : w5.heap[g3]? = some (.cells #[.int .i64 0] 3 (0, 0)) := by rw [hw5, hg3]; exact heap_alloc_new _ _
  have HAZ := cover (append_zero (base := b + 2) hn5 (by rw [hg3]; exact HSz.out _ hb3) (HSz.out _ hb5) (own_blocks HRW.out hm5) (by omega))
  have HW5 := cover (And.intro hw5 hg3)
  clear hm5 hn5 hb3 HRW hw5 hg3
  go_wp2_with (at_builtin; rw [← HW5.out.1, ← HW5.out.2]; refine appends_list rfl _ _ _ rfl _ _ rfl rfl HAZ.out ?_; rintro v6 w6 ⟨⟨A6, c6, rfl⟩, H6⟩; have hb6 := H6.out.2 _ hb5; clear p0 p1 p2 p3 p4 p5 p6 p7 p8; obtain ⟨_, p0, p1, p2, p3, p4, p5, p6, p7, p8⟩ := HCell.out w6 hb6)
  go_ret2
  exact HN.out w6 hb6
set_option maxRecDepth 100000 in
set_option maxHeartbeats 6400000 in
theorem rhear_none_o {Bs : Nat} {w : World} {r : Nat} {l : List SV} (h : RHas Bs w r l) (pe : A6) (p : PV) (Ap : Option Addr) (cp : Nat) (hr : Row w w.heap.size Ap p.info.length p.info) (hpl : p.info.length ≤ 140737488355328) (hone : IsOne p) (hk : p.kind ≠ 0) (hrs : p.resp = false) (ht : p.to ≠ 0) (ht2 : p.to ≠ 255) (hf : p.frm = 0) :
    Calls Try.prog 22 #[ptr r, .agg #[.int .u8 pe.a0, .int .u8 pe.a1, .int .u8 pe.a2, .int .u8 pe.a3, .int .u8 pe.a4, .int .u8 pe.a5], .agg #[.int .i64 p.to, .int .i64 p.frm, .bool p.resp, .int .i64 p.form, .int .i64 p.kind, .int .i64 p.ns, .int .i64 p.nr, .bool p.poll, .slice Ap p.info.length cp]] w (HearOut (toldP l pe p) (sentP l p) w) := by
  obtain ⟨b, hb⟩ : ∃ b, w.heap.size = b := ⟨_, rfl⟩
  have HB := cover hb
  obtain ⟨L0, hL0⟩ : ∃ L0, L0 = p.info.length := ⟨_, rfl⟩
  have HL0 := cover hL0
  have HT := cover (fun W => ref_type_any p Ap cp W)
  rw [← hL0] at HT ⊢
  obtain ⟨w1, hw1⟩ : ∃ w1, w1 = (w.alloc (.cells #[.int .u8 pe.a0, .int .u8 pe.a1, .int .u8 pe.a2, .int .u8 pe.a3, .int .u8 pe.a4, .int .u8 pe.a5] 37)).alloc (.cells #[.int .i64 p.to, .int .i64 p.frm, .bool p.resp, .int .i64 p.form, .int .i64 p.kind, .int .i64 p.ns, .int .i64 p.nr, .bool p.poll, .slice Ap L0 cp] 29) := ⟨_, rfl⟩
  have hb1 : Below b w w1 := by rw [hw1, ← hb]; exact ((Below.refl _ _).alloc (Nat.le_refl _) _).alloc (by simp) _
  have hs1 : w1.heap.size = b + 2 := by rw [hw1]; simp [hb]
  have g0 : w1.heap[b]? = some (.cells #[.int .u8 pe.a0, .int .u8 pe.a1, .int .u8 pe.a2, .int .u8 pe.a3, .int .u8 pe.a4, .int .u8 pe.a5] 37 (0, 0)) := by rw [hw1, ← hb]; exact heap_alloc2_old _ _ _
  have g1 : w1.heap[b + 1]? = some (.cells #[.int .i64 p.to, .int .i64 p.frm, .bool p.resp, .int .i64 p.form, .int .i64 p.kind, .int .i64 p.ns, .int .i64 p.nr, .bool p.poll, .slice Ap L0 cp] 29 (0, 0)) := by rw [hw1, ← hb]; exact heap_alloc2_new _ _ _
  have HCell : Hid (∀ W, Below (b + 2) w1 W → (W.cell? ⟨b, 0, none⟩ = some (.int .u8 pe.a0) ∧ W.cell? ⟨b, 1, none⟩ = some (.int .u8 pe.a1) ∧ W.cell? ⟨b, 2, none⟩ = some (.int .u8 pe.a2) ∧ W.cell? ⟨b, 3, none⟩ = some (.int .u8 pe.a3) ∧ W.cell? ⟨b, 4, none⟩ = some (.int .u8 pe.a4) ∧ W.cell? ⟨b, 5, none⟩ = some (.int .u8 pe.a5)) ∧ (W.cell? ⟨b + 1, 0, none⟩ = some (.int .i64 p.to) ∧ W.cell? ⟨b + 1, 1, none⟩ = some (.int .i64 p.frm) ∧ W.cell? ⟨b + 1, 2, none⟩ = some (.bool p.resp) ∧ W.cell? ⟨b + 1, 3, none⟩ = some (.int .i64 p.form) ∧ W.cell? ⟨b + 1, 4, none⟩ = some (.int .i64 p.kind) ∧ W.cell? ⟨b + 1, 5, none⟩ = some (.int .i64 p.ns) ∧ W.cell? ⟨b + 1, 6, none⟩ = some (.int .i64 p.nr) ∧ W.cell? ⟨b + 1, 7, none⟩ = some (.bool p.poll) ∧ W.cell? ⟨b + 1, 8, none⟩ = some (.slice Ap L0 cp))) := cover fun W hW => by
    have e0 := (hW.block b (by omega)).trans g0
    have e1 := (hW.block (b + 1) (by omega)).trans g1
    refine ⟨⟨?_, ?_, ?_, ?_, ?_, ?_⟩, pdu_cells e1⟩
    all_goals (rw [cell_of_row _ _ _ _ _ _ e0]; rfl)
  have HSz : Hid (∀ W, Below (b + 2) w1 W → b + 2 ≤ W.heap.size) := cover fun W hW => by rw [← hs1]; exact hW.size
  have HRow : Hid (∀ W, Below (b + 2) w1 W → Row W b Ap p.info.length p.info) := cover fun W hW => by
    have h1 := hr
    rw [hb] at h1
    exact (h1.below hb1).below (hW.mono (by omega))
  have HRH : Hid (∀ W, Below (b + 2) w1 W → RHas Bs W r l) := cover fun W hW => h.below (by rw [hb]; exact hb1.trans (hW.mono (by omega)))
  have HOut : Hid (∀ W, Below (b + 2) w1 W → Below b w W) := cover fun W hW => hb1.trans (hW.mono (by omega))
  have hin := cover h.ok
  have mixed : Try.prog.follows .mixedOrders = true := by kernel_rfl
  obtain ⟨ty, hty⟩ : ∃ ty, ty = typeP p := ⟨_, rfl⟩
  rw [← hty] at HT
  have HTY := cover hty
  have hB0 : Below (b + 2) w1 w1 := Below.refl _ _
  have hsub : Below w1.heap.size w1 w1 := Below.refl _ _
  obtain ⟨_, p0, p1, p2, p3, p4, p5, p6, p7, p8⟩ := HCell.out w1 hB0
  have HS1 := cover hs1
  clear h hr g0 g1 hb1 hty hL0 hb
  have hty1 : (ty != 1) = false := by
    have : ty = 1 := by rw [HTY.out]; exact typeP_one.2 hone
    rw [this]; rfl
  have HN : Hid (∀ W, Below (b + 2) w1 W → HearOut (toldP l pe p) (sentP l p) w (.returned (.tuple #[.slice none 0 0, .slice none 0 0])) W) := cover fun W hW => by
    rw [toldP_cmd hk hrs, sentP_cmd hone hk hrs]
    unfold askedS
    rw [if_pos ⟨hf, by omega⟩]
    exact ⟨none, 0, none, 0, rfl, cover ⟨IndsIn.nil _ _, PdusIn.nil _ _, by rw [HB.out]; exact HOut.out W hW⟩⟩
  have hresp := cover hrs
  have hk0 : (p.kind == 0) = false := by simpa using hk
  have ht0 : (p.to == 0) = false := by simpa using ht
  have ht1 : (p.to == 255) = false := by simpa using ht2
  have ht3 : (p.to != 0) = true := by simpa using ht
  have hf0 : (p.frm == 0) = true := by rw [hf]; rfl
  clear hone hk hrs ht hf ht2
  go_enter Try.func22, Try.ntmps22
  go_upto_region 1 with fail
  rw [← hw1, HB.out]
  clear hw1
  go_wp2_with fail
  refine (HT.out w1).mono ?_
  rintro e w2 ⟨rfl, hb2⟩
  rw [HS1.out] at hb2
  clear p0 p1 p2 p3 p4 p5 p6 p7 p8 HT hs1 hsub hB0
  obtain ⟨_, p0, p1, p2, p3, p4, p5, p6, p7, p8⟩ := HCell.out w2 hb2
  go_wp2_with fail
  refine (rhears_has (HRH.out w2 hb2) p.to).mono ?_
  rintro e w3 ⟨A, c, rfl, HO⟩
  obtain ⟨L, hL⟩ : ∃ L, L = hearS l p.to := ⟨_, rfl⟩
  have HLE := cover hL
  rw [← hL] at HO ⊢
  have hl16 : L.length ≤ 16 := by rw [hL]; exact hear_len16 hin.out _
  have hb3 : Below (b + 2) w1 w3 := hb2.trans (HO.out.2.mono (HSz.out w2 hb2))
  have HRW := cover (own_base (base' := 0) HO.out.1 (Nat.zero_le _))
  obtain ⟨n, hn⟩ : ∃ n, n = L.length := ⟨_, rfl⟩
  have HNL := cover hn
  rw [← hn] at HRW hl16 ⊢
  clear hb2 HO hL hn p0 p1 p2 p3 p4 p5 p6 p7 p8
  obtain ⟨_, p0, p1, p2, p3, p4, p5, p6, p7, p8⟩ := HCell.out w3 hb3
  rw [hresp.out] at p2
  have HN3 := cover (HN.out w3 hb3)
  clear HN HCell HSz HRow HRH HOut HRW hb3
  go_wp2
  go_ret2
  exact HN3.out
set_option maxRecDepth 100000 in
/-- what it hands back, whatever came -/
theorem rhear_any {Bs : Nat} {w : World} {r : Nat} {l : List SV} (h : RHas Bs w r l) (pe : A6) (p : PV) (Ap : Option Addr) (cp : Nat) (hr : Row w w.heap.size Ap p.info.length p.info) (hpl : p.info.length ≤ 140737488355328) :
    Calls Try.prog 22 #[ptr r, .agg #[.int .u8 pe.a0, .int .u8 pe.a1, .int .u8 pe.a2, .int .u8 pe.a3, .int .u8 pe.a4, .int .u8 pe.a5], .agg #[.int .i64 p.to, .int .i64 p.frm, .bool p.resp, .int .i64 p.form, .int .i64 p.kind, .int .i64 p.ns, .int .i64 p.nr, .bool p.poll, .slice Ap p.info.length cp]] w (HearOut (toldP l pe p) (sentP l p) w) := by
  by_cases hone : IsOne p
  · by_cases hk0 : p.kind = 0
    · exact rhear_ui h pe p Ap cp hr hpl hone hk0
    · have hkk : p.kind = 1 ∨ p.kind = 2 := by have := hone.kinds; omega
      by_cases hrs : p.resp = true
      · by_cases hcl : clsS l p.to = 0
        · exact rhear_deaf h pe p Ap cp hr hpl hone hk0 hrs hcl
        · rcases hkk with hk | hk
          · exact rhear_resp1 h pe p Ap cp hr hpl hone hk hrs hcl
          · exact rhear_resp2 h pe p Ap cp hr hpl hone hk hrs hcl
      · have hrs : p.resp = false := by simpa using hrs
        by_cases ht : p.to = 0
        · by_cases hf : p.frm = 0
          · rcases hkk with hk | hk
            · exact rhear_cmd1_z0 h pe p Ap cp hr hpl hone hk hrs ht hf
            · exact rhear_cmd2_z0 h pe p Ap cp hr hpl hone hk hrs ht hf
          · rcases hkk with hk | hk
            · exact rhear_cmd1_z1 h pe p Ap cp hr hpl hone hk hrs ht hf
            · exact rhear_cmd2_z1 h pe p Ap cp hr hpl hone hk hrs ht hf
        · by_cases ht2 : p.to = 255
          · by_cases hf : p.frm = 0
            · exact rhear_none_a h pe p Ap cp hr hpl hone hk0 hrs ht2 hf
            · rcases hkk with hk | hk
              · exact rhear_cmd1_a h pe p Ap cp hr hpl hone hk hrs ht2 hf
              · exact rhear_cmd2_a h pe p Ap cp hr hpl hone hk hrs ht2 hf
          · by_cases hf : p.frm = 0
            · exact rhear_none_o h pe p Ap cp hr hpl hone hk0 hrs ht ht2 hf
            · rcases hkk with hk | hk
              · exact rhear_cmd1_o h pe p Ap cp hr hpl hone hk hrs ht ht2 hf
              · exact rhear_cmd2_o h pe p Ap cp hr hpl hone hk hrs ht ht2 hf
  · exact rhear_no h pe p Ap cp hr hpl hone
end Go.Proofs.Ytgpmimohoepeiaa
