/- The walk of PduSaps. -/
import Derived.BigQuiet
import Derived.Deep.QuietTactic
import Derived.Deep.CutBlock
import Derived.Deep.DeepCutAuto
import Derived.Deep.RegionHeld3
import Derived.Test.YtohegiphdgihpaaWPduBack
namespace Go.Proofs.Ytohegiphdgihpaa
open Go.RowKit
set_option linter.unusedVariables false
set_option linter.unusedSimpArgs false

/-- turned round -/
def swapP (p : PV) : PV := ⟨p.frm, p.to, p.resp, p.form, p.kind, p.ns, p.nr, p.poll, p.info⟩
theorem swap_len (p : PV) : (encP (swapP p)).length = (encP p).length := by
  unfold encP
  rw [show ctl (swapP p) = ctl p from rfl]
  rfl
theorem swap_drop (p : PV) : (encP (swapP p)).drop 2 = (encP p).drop 2 := rfl
theorem swap_same (p : PV) : eqB p (swapP p) = decide (p.to = p.frm) := by
  by_cases h : p.to = p.frm
  · rw [decide_eq_true h]
    refine eqB_iff.2 (PV.ext' h h.symm rfl rfl rfl rfl rfl rfl rfl)
  · rw [decide_eq_false h]
    exact eqB_no (fun e => h (congrArg PV.to e))
/-- the cells of bytes of one's own, which are two at least -/
theorem own_two {w : World} {base : Nat} {A : Option Addr} {c : Nat} {x y : Int} {l : List Int} (h : OwnB w base (.slice A (x :: y :: l).length c) (x :: y :: l)) :
    ∃ g, A = some ⟨g, 0, none⟩ ∧ w.cell? ⟨g, 0, none⟩ = some (.int .u8 x) ∧ w.cell? ⟨g, 1, none⟩ = some (.int .u8 y) ∧ g < w.heap.size := by
  obtain ⟨A', c', e, ha⟩ := own_shape h
  injection e with e1 e2 e3
  subst e1
  rcases ha with rfl | ⟨g, rfl, _, hlt⟩
  · obtain ⟨ad, e, _⟩ := h.row.cells 0 (by simp)
    cases e
  · refine ⟨g, rfl, ?_, ?_, hlt⟩
    · obtain ⟨ad, e, _, hc⟩ := h.row.cells 0 (by simp)
      injection e with e
      subst e
      exact hc
    · obtain ⟨ad, e, _, hc⟩ := h.row.cells 1 (by simp)
      injection e with e
      subst e
      exact hc

set_option maxRecDepth 100000 in
set_option maxHeartbeats 3200000 in
theorem walk_PduSaps (p : PV) (A : Option Addr) (c : Nat) (w : World)
    (hlc : p.info.length ≤ c) (hcm : c ≤ maxLen) (hr : Row w w.heap.size A p.info.length p.info) (hb : Bts p.info) (hn : A = none → c = 0) :
    Calls Try.prog 9 #[.agg #[.int .i64 p.to, .int .i64 p.frm, .bool p.resp, .int .i64 p.form, .int .i64 p.kind, .int .i64 p.ns, .int .i64 p.nr, .bool p.poll, .slice A p.info.length c]] w fun e w' => e = .returned (.bool true) ∧ Below w.heap.size w w' := by
  have HR := cover hr
  have HN := cover hn
  have HB := cover hb
  clear hr hb hn
  obtain ⟨w1, hw1⟩ : ∃ w1, Hid (w1 = w.alloc (.cells #[.int .i64 p.to, .int .i64 p.frm, .bool p.resp, .int .i64 p.form, .int .i64 p.kind, .int .i64 p.ns, .int .i64 p.nr, .bool p.poll, .slice A p.info.length c] 25)) := ⟨_, cover rfl⟩
  have hs1 : w.heap.size < w1.heap.size := by rw [hw1.out]; simp
  have H1 : Hid (Below w.heap.size w w1) := cover (by rw [hw1.out]; exact (Below.refl _ _).alloc (Nat.le_refl _) _)
  have G1 : Hid (w1.heap[w.heap.size]? = some (.cells #[.int .i64 p.to, .int .i64 p.frm, .bool p.resp, .int .i64 p.form, .int .i64 p.kind, .int .i64 p.ns, .int .i64 p.nr, .bool p.poll, .slice A p.info.length c] 25 (0, 0))) := cover (by rw [hw1.out]; exact heap_alloc_new _ _)
  go_enter Try.func9, Try.ntmps9
  go_wp2_with fail
  rw [← hw1.out]
  refine (awake_any w1).mono ?_
  rintro e w2 ⟨rfl, hb2⟩
  have hs2 := hb2.size
  have H2 := cover (H1.out.trans (hb2.mono (by omega)))
  have G2 := cover ((hb2.block _ (by omega)).trans G1.out)
  clear hb2
  obtain ⟨p0, p1, p2, p3, p4, p5, p6, p7, p8⟩ := pdu_cells G2.out
  go_wp2_with fail
  refine (ref_may_any p A c w2).mono ?_
  rintro e w3 ⟨rfl, hb3⟩
  have hs3 := hb3.size
  have H3 := cover (H2.out.trans (hb3.mono (by omega)))
  have G3 := cover ((hb3.block _ (by omega)).trans G2.out)
  clear hb3 p0 p1 p2 p3 p4 p5 p6 p7 p8
  rcases hm : mayB p with _ | _
  · go_wp2
    go_ret
    exact ⟨rfl, H3.out⟩
  obtain ⟨he1, he2⟩ := encOu_yes hm
  have HP := cover (mayB_iff.1 hm)
  clear hm
  obtain ⟨p0, p1, p2, p3, p4, p5, p6, p7, p8⟩ := pdu_cells G3.out
  go_wp2_with fail
  clear p0 p1 p2 p3 p4 p5 p6 p7 p8
  refine (enc_any p A c w.heap.size w3 (HR.out.below H3.out) (by omega) hlc HN.out HB.out).mono ?_
  rintro e w4 ⟨A4, c4, rfl, ho4, hb4⟩
  rw [he1] at ho4 ⊢
  rw [he2]
  clear he1 he2
  have hs4 := hb4.size
  have H4 := cover (H3.out.trans (hb4.mono (by omega)))
  have G4 := cover ((hb4.block _ (by omega)).trans G3.out)
  have hcap4 := own_cap ho4
  obtain ⟨g4, rfl, b0, b1, hg4⟩ := own_two ho4
  have HO4 := cover ho4
  clear hb4 ho4
  obtain ⟨L, hL⟩ : ∃ L, Hid ((encP p).length = L) := ⟨_, cover rfl⟩
  have hL0 := enc_le HP.out
  have hL3 : 3 ≤ L := by
    rw [← hL.out, enc_len HP.out.fits]
    unfold headN; split <;> omega
  rw [hL.out] at hL0 hcap4 ⊢
  obtain ⟨⟨t0, t1⟩, ⟨m0, m1, m2⟩, _, _, hil⟩ := HP.out.1
  have hfl := fl_le p.resp
  obtain ⟨rb1, rb2⟩ := resp_back p.resp m2
  have e0 : IntKind.i64.wrap p.to = p.to := w64 ⟨t0, t1⟩
  have e1 : IntKind.i64.wrap (p.frm + fl p.resp) = p.frm + fl p.resp := w64 ⟨by omega, by omega⟩
  have e2 : bits BinOp.andNot IntKind.i64 (p.frm + fl p.resp) 1 = p.frm := by rw [clear_one (by omega) (by omega)]; exact rb1
  have e3 : (bits BinOp.and IntKind.u8 (p.frm + fl p.resp) 1 == 1) = p.resp := by rw [and_one8 (by omega) (by omega)]; exact rb2
  have k0 : (0 : Int) < (L : Int) := by omega
  have k1 : (1 : Int) < (L : Int) := by omega
  obtain ⟨p0, p1, p2, p3, p4, p5, p6, p7, p8⟩ := pdu_cells G4.out
  go_upto_region 6 with fail
  go_quiet (fail)
  have HO5 := cover (ownB_keep (w' := w4.drewN nq) HO4.out (fun _ _ => rfl))
  have H5 := cover (below_drewN H4.out nq)
  have G5 : Hid ((w4.drewN nq).heap[w.heap.size]? = some (.cells #[.int .i64 p.to, .int .i64 p.frm, .bool p.resp, .int .i64 p.form, .int .i64 p.kind, .int .i64 p.ns, .int .i64 p.nr, .bool p.poll, .slice A p.info.length c] 25 (0, 0))) := cover G4.out
  have hs5 : w4.heap.size ≤ (w4.drewN nq).heap.size := Nat.le_refl _
  generalize w4.drewN nq = w5 at HO5 H5 G5 hs5 ⊢
  clear p0 p1 p2 p3 p4 p5 p6 p7 p8 b0 b1 e0 e1 e2 e3 rb1 rb2 k0 k1
  obtain ⟨p0, p1, p2, p3, p4, p5, p6, p7, p8⟩ := pdu_cells G5.out
  obtain ⟨w6, hw6⟩ : ∃ z, z = w5.alloc (.cells #[.int .i64 p.to, .int .i64 p.frm, .bool p.resp, .int .i64 p.form, .int .i64 p.kind, .int .i64 p.ns, .int .i64 p.nr, .bool p.poll, .slice A p.info.length c] 25) := ⟨_, rfl⟩
  have hb6 : Below w5.heap.size w5 w6 := by rw [hw6]; exact (Below.refl _ _).alloc (Nat.le_refl _) _
  have hs6 : w5.heap.size < w6.heap.size := by rw [hw6]; simp
  have H6 := cover (H5.out.trans (hb6.mono (by omega)))
  have G6 := cover ((hb6.block _ (by omega)).trans G5.out)
  have Q6 : Hid (w6.heap[w5.heap.size]? = some (.cells #[.int .i64 p.to, .int .i64 p.frm, .bool p.resp, .int .i64 p.form, .int .i64 p.kind, .int .i64 p.ns, .int .i64 p.nr, .bool p.poll, .slice A p.info.length c] 25 (0, 0))) := cover (by rw [hw6]; exact heap_alloc_new _ _)
  have HO6 := cover (ownB_below HO5.out hb6)
  go_upto_region 9 with fail
  rw [← hw6]
  clear hw6 hb6 p0 p1 p2 p3 p4 p5 p6 p7 p8
  obtain ⟨p0, p1, p2, p3, p4, p5, p6, p7, p8⟩ := pdu_cells G6.out
  obtain ⟨q0, q1, q2, q3, q4, q5, q6, q7, q8⟩ := pdu_cells Q6.out
  have f0 := frozen_of_row w6 w5.heap.size 0 _ _ Q6.out
  have f1 := frozen_of_row w6 w5.heap.size 1 _ _ Q6.out
  have hne : ¬ (w.heap.size = w5.heap.size) := by omega
  have hne2 : ¬ (w5.heap.size = w.heap.size) := by omega
  have hwb : w.heap.size ≤ w5.heap.size := by omega
  have hg45 : g4 < w5.heap.size := by omega
  obtain ⟨b5, hb5⟩ : ∃ z, z = w5.heap.size := ⟨_, rfl⟩
  rw [← hb5] at q0 q1 q2 q3 q4 q5 q6 q7 q8 f0 f1 hne hne2 Q6 hs6 hwb hg45 ⊢
  clear hb5
  go_region
  obtain ⟨s, hs⟩ : ∃ y : PV, Hid (y = swapP p) := ⟨_, cover rfl⟩
  have hsl : Hid (s.info = p.info) := cover (by rw [hs.out]; rfl)
  have Q7 : ((w6.setCell ⟨b5, 0, none⟩ (.int .i64 p.frm)).setCell ⟨b5, 1, none⟩ (.int .i64 p.to)).drew.heap[b5]? = some (.cells #[.int .i64 s.to, .int .i64 s.frm, .bool s.resp, .int .i64 s.form, .int .i64 s.kind, .int .i64 s.ns, .int .i64 s.nr, .bool s.poll, .slice A s.info.length c] 25 (0, 0)) := by
    show ((w6.setCell ⟨b5, 0, none⟩ (.int .i64 p.frm)).setCell ⟨b5, 1, none⟩ (.int .i64 p.to)).heap[b5]? = _
    rw [heap_setCell_same _ b5 1 _ _ _ (heap_setCell_same w6 b5 0 _ _ _ Q6.out), hs.out]
    rfl
  have hoth : ∀ i, i ≠ b5 → ((w6.setCell ⟨b5, 0, none⟩ (.int .i64 p.frm)).setCell ⟨b5, 1, none⟩ (.int .i64 p.to)).drew.heap[i]? = w6.heap[i]? := fun i hi =>
    (Below.heap_setCell _ ⟨b5, 1, none⟩ _ i (fun e => hi e)).trans (Below.heap_setCell w6 ⟨b5, 0, none⟩ _ i (fun e => hi e))
  have G7 := cover ((hoth w.heap.size hne).trans G6.out)
  have hb5w : w.heap.size ≤ b5 := hwb
  have H7 : Hid (Below w.heap.size w ((w6.setCell ⟨b5, 0, none⟩ (.int .i64 p.frm)).setCell ⟨b5, 1, none⟩ (.int .i64 p.to)).drew) := cover (((H6.out.setCell (p := ⟨b5, 0, none⟩) hb5w _).setCell (p := ⟨b5, 1, none⟩) hb5w _).drew)
  have hz7 : ((w6.setCell ⟨b5, 0, none⟩ (.int .i64 p.frm)).setCell ⟨b5, 1, none⟩ (.int .i64 p.to)).drew.heap.size ≥ w6.heap.size := by
    show ((w6.setCell ⟨b5, 0, none⟩ (.int .i64 p.frm)).setCell ⟨b5, 1, none⟩ (.int .i64 p.to)).heap.size ≥ _
    simp [World.setCell]
  have HO7 : Hid (OwnB ((w6.setCell ⟨b5, 0, none⟩ (.int .i64 p.frm)).setCell ⟨b5, 1, none⟩ (.int .i64 p.to)).drew w3.heap.size (.slice (some ⟨g4, 0, none⟩) (encP p).length c4) (encP p)) := cover (by
    refine ⟨HO6.out.1, ?_⟩
    rcases HO6.out.2 with h0 | ⟨g, cap, cur, hv, hgb, hh, hrr⟩
    · exact .inl h0
    · refine .inr ⟨g, cap, cur, hv, hgb, (hoth g (fun e => ?_)).trans hh, hrr⟩
      injection hv with hv _ _
      injection hv with hv
      injection hv with hv _ _
      omega)
  have HQ7 := cover Q7
  clear q0 q1 q2 q3 q4 q5 q6 q7 q8 p0 p1 p2 p3 p4 p5 p6 p7 p8 f0 f1 Q7 hoth
  generalize ((w6.setCell ⟨b5, 0, none⟩ (.int .i64 p.frm)).setCell ⟨b5, 1, none⟩ (.int .i64 p.to)).drew = w7 at G7 H7 HO7 HQ7 hz7 ⊢
  obtain ⟨p0, p1, p2, p3, p4, p5, p6, p7, p8⟩ := pdu_cells G7.out
  obtain ⟨q0, q1, q2, q3, q4, q5, q6, q7, q8⟩ := pdu_cells HQ7.out
  have hodd : (p.to % 2 = 1 ∧ p.to.tmod 2 = 1) ∨ (p.to % 2 = 0 ∧ p.to.tmod 2 = 0) := by rw [Int.tmod_eq_emod_of_nonneg t0]; omega
  rcases hodd with ⟨o1, o2⟩ | ⟨o1, o2⟩
  · have hno : mayB s = false := mayB_no (fun h => by
      rw [hs.out] at h
      have := (may_swap HP.out).1 h
      omega)
    have HNO := cover hno
    clear hno
    go_wp2_with fail
    refine (may_any s A c w7).mono ?_
    rintro e w8 ⟨rfl, hb8⟩
    rw [HNO.out]
    have H8 := cover (H7.out.trans (hb8.mono (by omega)))
    go_wp2
    go_ret
    exact ⟨rfl, H8.out⟩
  · have HS := cover ((may_swap HP.out).2 o1)
    have HSP : Hid (MayP s) := cover (by rw [hs.out]; exact HS.out)
    obtain ⟨he1, he2⟩ := encOu_yes (mayB_yes HSP.out)
    have O1 := cover o1
    go_wp2_with fail
    clear p0 p1 p2 p3 p4 p5 p6 p7 p8 q0 q1 q2 q3 q4 q5 q6 q7 q8
    refine (enc_any s A c w.heap.size w7 (by rw [hsl.out]; exact HR.out.below H7.out) (by omega) (by rw [hsl.out]; exact hlc) HN.out (by rw [hsl.out]; exact HB.out)).mono ?_
    rintro e w8 ⟨A8, c8, rfl, ho8, hb8⟩
    rw [he1] at ho8 ⊢
    rw [he2]
    clear he1 he2
    have hs8 := hb8.size
    have H8 := cover (H7.out.trans (hb8.mono (by omega)))
    have hw6 := block_lt Q6.out
    have G8 := cover ((hb8.block _ (by omega)).trans G7.out)
    have Q8 := cover ((hb8.block _ (by omega)).trans HQ7.out)
    have HO78 := cover (ownB_below HO7.out hb8)
    have hcap8 := own_cap ho8
    obtain ⟨g8, rfl, b0, b1, hg8⟩ := own_two ho8
    have HO8 := cover ho8
    clear hb8 ho8
    have hLs : Hid ((encP s).length = L) := cover (by rw [hs.out, swap_len, hL.out])
    rw [hLs.out] at hcap8 ⊢
    have S1 : s.frm = p.to := by rw [hs.out]; rfl
    have S2 : s.to = p.frm := by rw [hs.out]; rfl
    have S3 : s.resp = p.resp := by rw [hs.out]; rfl
    rw [S1, S3] at b1
    rw [S2] at b0
    obtain ⟨rb1, rb2⟩ := resp_back p.resp o1
    have e0 : IntKind.i64.wrap p.frm = p.frm := w64 ⟨by omega, by omega⟩
    have e1 : IntKind.i64.wrap (p.to + fl p.resp) = p.to + fl p.resp := w64 ⟨by omega, by omega⟩
    have e2 : bits BinOp.andNot IntKind.i64 (p.to + fl p.resp) 1 = p.to := by rw [clear_one (by omega) (by omega)]; exact rb1
    have k0 : (0 : Int) < (L : Int) := by omega
    have k1 : (1 : Int) < (L : Int) := by omega
    have k2 : 2 ≤ L := by omega
    have k22 : (2 : Int) ≤ (L : Int) := by omega
    have m0 : 0 < L := by omega
    have m1 : 1 < L := by omega
    have n8 : c8 ≠ 2 := by omega
    have n4 : c4 ≠ 2 := by omega
    have P8 := cover (pdu_cells G8.out)
    have S8 := cover (pdu_cells Q8.out)
    have HB0 := cover b0
    have HB1 := cover b1
    have R1 : Hid (Row w8 w8.heap.size (some ⟨g8, 2, none⟩) (L - 2) ((encP p).drop 2)) := cover (by
      have h := HO8.out.row.cut (k := 2) (by rw [hLs.out]; exact k2) (by rw [hLs.out]; exact hcap8)
      rw [if_neg n8, hLs.out, hs.out, swap_drop] at h
      exact h)
    have R2 : Hid (Row w8 w8.heap.size (some ⟨g4, 2, none⟩) (L - 2) ((encP p).drop 2)) := cover (by
      have h := HO78.out.row.cut (k := 2) (by rw [hL.out]; exact k2) (by rw [hL.out]; exact hcap4)
      rw [if_neg n4, hL.out] at h
      exact h)
    have HS1 : Hid (∀ W, Below w8.heap.size w8 W → Calls Try.prog 18 #[.slice (some ⟨g8, 2, none⟩) (L - 2) (c8 - 2), .slice (some ⟨g4, 2, none⟩) (L - 2) (c4 - 2)] W fun e w' => e = .returned (.bool true) ∧ Below w8.heap.size w8 w') :=
      cover (fun W hb => (same_any _ _ (L - 2) (c8 - 2) (c4 - 2) w8.heap.size w8.heap.size _ _ W (R1.out.below hb) (R2.out.below hb) (by omega)).mono (by
        rintro e w' ⟨he, dd, rfl⟩
        exact ⟨by rw [he, decide_eq_true rfl], below_drewN hb dd⟩))
    have HS3 : Hid (∀ W, Below w8.heap.size w8 W → Calls Try.prog 21 #[.agg #[.int .i64 p.to, .int .i64 p.frm, .bool p.resp, .int .i64 p.form, .int .i64 p.kind, .int .i64 p.ns, .int .i64 p.nr, .bool p.poll, .slice A p.info.length c], .agg #[.int .i64 s.to, .int .i64 s.frm, .bool s.resp, .int .i64 s.form, .int .i64 s.kind, .int .i64 s.ns, .int .i64 s.nr, .bool s.poll, .slice A s.info.length c]] W fun e w' => e = .returned (.bool (decide (p.to = p.frm))) ∧ Below w8.heap.size w8 w') :=
      cover (fun W hb => by
        have hw := H8.out.trans (hb.mono H8.out.size)
        have h := pduSame_any p s A A c c w.heap.size w.heap.size W (HR.out.below hw) (by rw [hsl.out]; exact HR.out.below hw) hw.size hw.size HB.out (by rw [hsl.out]; exact HB.out)
        rw [show eqB p s = decide (p.to = p.frm) by rw [hs.out]; exact swap_same p] at h
        exact h.mono (by
          rintro e w' ⟨he, hb'⟩
          exact ⟨he, hb.trans (hb'.mono hb.size)⟩))
    clear S1 S2 S3 rb1 rb2
    obtain ⟨p0, p1, p2, p3, p4, p5, p6, p7, p8⟩ := P8.out
    obtain ⟨q0, q1, q2, q3, q4, q5, q6, q7, q8⟩ := S8.out
    have z1 : w.heap.size < w8.heap.size := by omega
    have z2 : b5 < w8.heap.size := by omega
    go_upto_region 13 with fail
    rcases hpf : decide (p.to = p.frm) with _ | _
    · rw [hpf] at HS3
      have hne3 : (p.to != p.frm) = true := by simpa using hpf
      clear hpf
      go_region_held3 (fun w' => (World.cell? w' ⟨w.heap.size, 0, none⟩ = some (.int .i64 p.to) ∧ World.cell? w' ⟨w.heap.size, 1, none⟩ = some (.int .i64 p.frm) ∧ World.cell? w' ⟨w.heap.size, 2, none⟩ = some (.bool p.resp) ∧ World.cell? w' ⟨w.heap.size, 3, none⟩ = some (.int .i64 p.form) ∧ World.cell? w' ⟨w.heap.size, 4, none⟩ = some (.int .i64 p.kind) ∧ World.cell? w' ⟨w.heap.size, 5, none⟩ = some (.int .i64 p.ns) ∧ World.cell? w' ⟨w.heap.size, 6, none⟩ = some (.int .i64 p.nr) ∧ World.cell? w' ⟨w.heap.size, 7, none⟩ = some (.bool p.poll) ∧ World.cell? w' ⟨w.heap.size, 8, none⟩ = some (.slice A p.info.length c)) ∧ (World.cell? w' ⟨b5, 0, none⟩ = some (.int .i64 s.to) ∧ World.cell? w' ⟨b5, 1, none⟩ = some (.int .i64 s.frm) ∧ World.cell? w' ⟨b5, 2, none⟩ = some (.bool s.resp) ∧ World.cell? w' ⟨b5, 3, none⟩ = some (.int .i64 s.form) ∧ World.cell? w' ⟨b5, 4, none⟩ = some (.int .i64 s.kind) ∧ World.cell? w' ⟨b5, 5, none⟩ = some (.int .i64 s.ns) ∧ World.cell? w' ⟨b5, 6, none⟩ = some (.int .i64 s.nr) ∧ World.cell? w' ⟨b5, 7, none⟩ = some (.bool s.poll) ∧ World.cell? w' ⟨b5, 8, none⟩ = some (.slice A s.info.length c)) ∧ w'.cell? ⟨g8, 0, none⟩ = some (.int .u8 p.frm) ∧ w'.cell? ⟨g8, 1, none⟩ = some (.int .u8 (p.to + fl p.resp)) ∧ Below w8.heap.size w8 w')
        (first | exact ⟨P8.out, S8.out, HB0.out, HB1.out, (Below.refl _ _).drew⟩ | exact ⟨nine_below P8.out hbX z1, nine_below S8.out hbX z2, (hbX.cell (p := ⟨g8, 0, none⟩) hg8).trans HB0.out, (hbX.cell (p := ⟨g8, 1, none⟩) hg8).trans HB1.out, hbX⟩)
        (first
          | (go_at_call 18; refine (HS1.out _ ?_).mono ?_; (go_split_ands; assumption); rintro e w9 ⟨rfl, hbX⟩)
          | (go_at_call 21; refine (HS3.out _ ?_).mono ?_; (go_split_ands; assumption); rintro e w9 ⟨rfl, hbX⟩))
      go_wp2
      go_ret
      exact ⟨by simp, H8.out.trans (hbX.mono H8.out.size)⟩
    · rw [hpf] at HS3
      have hne3 : (p.to != p.frm) = false := by simpa using hpf
      clear hpf
      go_region_held3 (fun w' => (World.cell? w' ⟨w.heap.size, 0, none⟩ = some (.int .i64 p.to) ∧ World.cell? w' ⟨w.heap.size, 1, none⟩ = some (.int .i64 p.frm) ∧ World.cell? w' ⟨w.heap.size, 2, none⟩ = some (.bool p.resp) ∧ World.cell? w' ⟨w.heap.size, 3, none⟩ = some (.int .i64 p.form) ∧ World.cell? w' ⟨w.heap.size, 4, none⟩ = some (.int .i64 p.kind) ∧ World.cell? w' ⟨w.heap.size, 5, none⟩ = some (.int .i64 p.ns) ∧ World.cell? w' ⟨w.heap.size, 6, none⟩ = some (.int .i64 p.nr) ∧ World.cell? w' ⟨w.heap.size, 7, none⟩ = some (.bool p.poll) ∧ World.cell? w' ⟨w.heap.size, 8, none⟩ = some (.slice A p.info.length c)) ∧ (World.cell? w' ⟨b5, 0, none⟩ = some (.int .i64 s.to) ∧ World.cell? w' ⟨b5, 1, none⟩ = some (.int .i64 s.frm) ∧ World.cell? w' ⟨b5, 2, none⟩ = some (.bool s.resp) ∧ World.cell? w' ⟨b5, 3, none⟩ = some (.int .i64 s.form) ∧ World.cell? w' ⟨b5, 4, none⟩ = some (.int .i64 s.kind) ∧ World.cell? w' ⟨b5, 5, none⟩ = some (.int .i64 s.ns) ∧ World.cell? w' ⟨b5, 6, none⟩ = some (.int .i64 s.nr) ∧ World.cell? w' ⟨b5, 7, none⟩ = some (.bool s.poll) ∧ World.cell? w' ⟨b5, 8, none⟩ = some (.slice A s.info.length c)) ∧ w'.cell? ⟨g8, 0, none⟩ = some (.int .u8 p.frm) ∧ w'.cell? ⟨g8, 1, none⟩ = some (.int .u8 (p.to + fl p.resp)) ∧ Below w8.heap.size w8 w')
        (first | exact ⟨P8.out, S8.out, HB0.out, HB1.out, (Below.refl _ _).drew⟩ | exact ⟨nine_below P8.out hbX z1, nine_below S8.out hbX z2, (hbX.cell (p := ⟨g8, 0, none⟩) hg8).trans HB0.out, (hbX.cell (p := ⟨g8, 1, none⟩) hg8).trans HB1.out, hbX⟩)
        (first
          | (go_at_call 18; refine (HS1.out _ ?_).mono ?_; (go_split_ands; assumption); rintro e w9 ⟨rfl, hbX⟩)
          | (go_at_call 21; refine (HS3.out _ ?_).mono ?_; (go_split_ands; assumption); rintro e w9 ⟨rfl, hbX⟩))
      go_wp2
      go_ret
      exact ⟨by simp, H8.out.trans (hbX.mono H8.out.size)⟩
end Go.Proofs.Ytohegiphdgihpaa
