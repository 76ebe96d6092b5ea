/- The walk of PduCuts. -/
import Derived.Deep.CutBlock
import Derived.Deep.DeepCutAuto
import Derived.Deep.RegionHeld3
import Derived.Test.YtohegiphdgihpaaWPduBack
namespace Go.Proofs.Ytohegiphdgihpaa
open Go.RowKit
set_option linter.unusedVariables false
set_option linter.unusedSimpArgs false

set_option maxHeartbeats 1600000 in
theorem walk_PduCuts (p : PV) (A : Option Addr) (c : Nat) (a : Int) (w : World)
    (hlc : p.info.length ≤ c) (hcm : c ≤ maxLen) (hr : Row w w.heap.size A p.info.length p.info) (hb : Bts p.info) (hn : A = none → c = 0)
    (ha : (Lit.int .u16 a).wf = true) :
    Calls Try.prog 8 #[.agg #[.int .i64 p.to, .int .i64 p.frm, .bool p.resp, .int .i64 p.form, .int .i64 p.kind, .int .i64 p.ns, .int .i64 p.nr, .bool p.poll, .slice A p.info.length c], .int .u16 a] w fun e w' => e = .returned (.bool true) ∧ Below w.heap.size w w' := by
  have ha2 : 0 ≤ a ∧ a ≤ 65535 := by
    simp only [Lit.wf, Bool.and_eq_true, decide_eq_true_eq] at ha
    have h1 : IntKind.u16.min = 0 := by decide
    have h2 : IntKind.u16.max = 65535 := by decide
    omega
  clear ha
  have HR := cover hr
  have HN := cover hn
  have HB := cover hb
  clear hr hb hn
  obtain ⟨w1, hw1⟩ : ∃ w1, Hid (w1 = w.alloc (.cells #[.int .i64 p.to, .int .i64 p.frm, .bool p.resp, .int .i64 p.form, .int .i64 p.kind, .int .i64 p.ns, .int .i64 p.nr, .bool p.poll, .slice A p.info.length c] 25)) := ⟨_, cover rfl⟩
  have hs1 : w.heap.size < w1.heap.size := by rw [hw1.out]; simp
  have H1 : Hid (Below w.heap.size w w1) := cover (by rw [hw1.out]; exact (Below.refl _ _).alloc (Nat.le_refl _) _)
  have G1 : Hid (w1.heap[w.heap.size]? = some (.cells #[.int .i64 p.to, .int .i64 p.frm, .bool p.resp, .int .i64 p.form, .int .i64 p.kind, .int .i64 p.ns, .int .i64 p.nr, .bool p.poll, .slice A p.info.length c] 25 (0, 0))) := cover (by rw [hw1.out]; exact heap_alloc_new _ _)
  go_enter Try.func8, Try.ntmps8
  go_wp2_with fail
  rw [← hw1.out]
  refine (awake_any w1).mono ?_
  rintro e w2 ⟨rfl, hb2⟩
  have hs2 := hb2.size
  have H2 := cover (H1.out.trans (hb2.mono (by omega)))
  have G2 := cover ((hb2.block _ (by omega)).trans G1.out)
  clear hb2
  obtain ⟨p0, p1, p2, p3, p4, p5, p6, p7, p8⟩ := pdu_cells G2.out
  go_wp2_with fail
  refine (ref_may_any p A c w2).mono ?_
  rintro e w3 ⟨rfl, hb3⟩
  have hs3 := hb3.size
  have H3 := cover (H2.out.trans (hb3.mono (by omega)))
  have G3 := cover ((hb3.block _ (by omega)).trans G2.out)
  clear hb3 p0 p1 p2 p3 p4 p5 p6 p7 p8
  rcases hm : mayB p with _ | _
  · go_wp2
    go_ret
    exact ⟨rfl, H3.out⟩
  obtain ⟨he1, he2⟩ := encOu_yes hm
  have HP := cover (mayB_iff.1 hm)
  clear hm
  obtain ⟨p0, p1, p2, p3, p4, p5, p6, p7, p8⟩ := pdu_cells G3.out
  go_wp2_with fail
  clear p0 p1 p2 p3 p4 p5 p6 p7 p8
  refine (enc_any p A c w.heap.size w3 (HR.out.below H3.out) (by omega) hlc HN.out HB.out).mono ?_
  rintro e w4 ⟨A4, c4, rfl, ho4, hb4⟩
  rw [he1] at ho4 ⊢
  rw [he2]
  clear he1 he2
  have hs4 := hb4.size
  have H4 := cover (H3.out.trans (hb4.mono (by omega)))
  have G4 := cover ((hb4.block _ (by omega)).trans G3.out)
  have hcap4 := own_cap ho4
  have HO4 := cover ho4
  clear hb4 ho4
  obtain ⟨L, hL⟩ : ∃ L, Hid ((encP p).length = L) := ⟨_, cover rfl⟩
  have hL0 := enc_le HP.out
  rw [hL.out] at hL0 hcap4 ⊢
  have e0 : IntKind.i64.wrap a = a := by rw [IntKind.wrap_i64]; omega
  obtain ⟨k, hk⟩ : ∃ k : Nat, Hid (a.tmod ((L : Int) + 1) = (k : Int) ∧ a % ((L : Int) + 1) = (k : Int) ∧ k ≤ L) := by
    have h1 : 0 ≤ a % ((L : Int) + 1) := Int.emod_nonneg _ (by omega)
    have h2 : a % ((L : Int) + 1) < (L : Int) + 1 := Int.emod_lt_of_pos _ (by omega)
    refine ⟨(a % ((L : Int) + 1)).toNat, cover ⟨?_, by omega, by omega⟩⟩
    rw [Int.tmod_eq_emod_of_nonneg ha2.1]; omega
  have k1 := hk.out.1
  have k2 := hk.out.2.1
  have k3 := hk.out.2.2
  obtain ⟨p0, p1, p2, p3, p4, p5, p6, p7, p8⟩ := pdu_cells G4.out
  by_cases f2 : p.form = 2
  · have hH : headN p = 3 := by unfold headN; rw [if_pos f2]
    have hlen : L = 3 + p.info.length := by rw [← hL.out, enc_len HP.out.fits, hH]
    have HH := cover hH
    have HLEN := cover hlen
    have kc : k ≤ c4 := by omega
    clear hH hlen
    have RC : Hid (Row w4 w4.heap.size A4 k ((encP p).take k)) := cover (by
      have h := HO4.out.row
      have h2 := h.take (show k ≤ (encP p).length by rw [hL.out]; exact k3)
      exact h2)
    have BC : Hid (Bts ((encP p).take k)) := cover ((enc_bts HP.out HB.out).take k)
    go_wp2_with fail
    clear p0 p1 p2 p3 p4 p5 p6 p7 p8 k1 k2 e0
    refine (dec_any_u A4 k c4 w4.heap.size ((encP p).take k) w4 RC.out (Nat.le_refl _) BC.out (by omega)).mono ?_
    rintro e w5 ⟨A5, c5, rfl, ho5, hb5⟩
    have hs5 := hb5.size
    have H5 := cover (H4.out.trans (hb5.mono (by omega)))
    have G5 := cover ((hb5.block _ (by omega)).trans G4.out)
    have HO5 := cover ho5
    clear hb5 ho5
    obtain ⟨d, hd⟩ : ∃ d, Hid (decR ((encP p).take k) = d) := ⟨_, cover rfl⟩
    rw [hd.out] at HO5 ⊢
    obtain ⟨d, er⟩ := d
    obtain ⟨w6, hw6⟩ : ∃ y, y = w5.alloc (.cells #[.int .i64 d.to, .int .i64 d.frm, .bool d.resp, .int .i64 d.form, .int .i64 d.kind, .int .i64 d.ns, .int .i64 d.nr, .bool d.poll, .slice A5 d.info.length c5] 25) := ⟨_, rfl⟩
    have hb6 : Below w5.heap.size w5 w6 := by rw [hw6]; exact (Below.refl _ _).alloc (Nat.le_refl _) _
    have hs6 : w5.heap.size < w6.heap.size := by rw [hw6]; simp
    have H6 := cover (H5.out.trans (hb6.mono (by omega)))
    have G6 := cover ((hb6.block _ (by omega)).trans G5.out)
    have D6 : Hid (w6.heap[w5.heap.size]? = some (.cells #[.int .i64 d.to, .int .i64 d.frm, .bool d.resp, .int .i64 d.form, .int .i64 d.kind, .int .i64 d.ns, .int .i64 d.nr, .bool d.poll, .slice A5 d.info.length c5] 25 (0, 0))) := cover (by rw [hw6]; exact heap_alloc_new _ _)
    have HO6 := cover (ownB_below HO5.out hb6)
    by_cases hkh : k < 3
    · have hkI : (k : Int) < 3 := by omega
      have hds := dec_short HP.out (show k < headN p by rw [HH.out]; exact hkh)
      rw [hd.out] at hds
      injection hds with hd1 hd2
      subst hd1
      subst hd2
      go_wp2
      go_ret
      exact ⟨rfl, by have h := H6.out; rw [hw6] at h; exact h⟩
    · have hkI : ¬ (k : Int) < 3 := by omega
      have hlen := HLEN.out
      obtain ⟨m, hkm⟩ : ∃ m : Nat, k = 3 + m := ⟨k - 3, by omega⟩
      have hmi : m ≤ p.info.length := by omega
      have hmc : m ≤ c := by omega
      have hsub : (k : Int) - 3 = (m : Int) := by omega
      have hdc := dec_cut HP.out (show headN p ≤ k by rw [HH.out]; omega)
      rw [hd.out, HH.out, show k - 3 = m by omega] at hdc
      have HDC := cover hdc
      clear hdc hlen
      go_upto_region 15 with fail
      rw [← hw6]
      clear hw6 hb6
      obtain ⟨p0, p1, p2, p3, p4, p5, p6, p7, p8⟩ := pdu_cells G6.out
      have z8 := frozen_of_row w6 w.heap.size 8 _ _ G6.out
      go_upto_region 16 with fail
      obtain ⟨p', hp'⟩ : ∃ y : PV, Hid (y = { p with info := p.info.take m }) := ⟨_, cover rfl⟩
      have hml : Hid (p'.info.length = m) := cover (by rw [hp'.out]; show (p.info.take m).length = m; rw [List.length_take]; omega)
      have G7 : (w6.setCell ⟨w.heap.size, 8, none⟩ (.slice A m c)).heap[w.heap.size]? = some (.cells #[.int .i64 p'.to, .int .i64 p'.frm, .bool p'.resp, .int .i64 p'.form, .int .i64 p'.kind, .int .i64 p'.ns, .int .i64 p'.nr, .bool p'.poll, .slice A p'.info.length c] 25 (0, 0)) := by
        rw [heap_setCell_same w6 w.heap.size 8 _ _ _ G6.out, hml.out, hp'.out]; rfl
      have D7 : (w6.setCell ⟨w.heap.size, 8, none⟩ (.slice A m c)).heap[w5.heap.size]? = some (.cells #[.int .i64 d.to, .int .i64 d.frm, .bool d.resp, .int .i64 d.form, .int .i64 d.kind, .int .i64 d.ns, .int .i64 d.nr, .bool d.poll, .slice A5 d.info.length c5] 25 (0, 0)) := (Below.heap_setCell w6 ⟨w.heap.size, 8, none⟩ _ _ (fun e => by have : w5.heap.size = w.heap.size := e; omega)).trans D6.out
      have H7 : Below w.heap.size w (w6.setCell ⟨w.heap.size, 8, none⟩ (.slice A m c)) := H6.out.setCell (Nat.le_refl _) _
      have HO7 : OwnB (w6.setCell ⟨w.heap.size, 8, none⟩ (.slice A m c)) w4.heap.size (.slice A5 d.info.length c5) d.info := ownB_keep HO6.out (fun i hi => Below.heap_setCell w6 ⟨w.heap.size, 8, none⟩ _ i (fun e => by have : i = w.heap.size := e; omega))
      have hs7 : (w6.setCell ⟨w.heap.size, 8, none⟩ (.slice A m c)).heap.size = w6.heap.size := by simp [World.setCell]
      generalize w6.setCell ⟨w.heap.size, 8, none⟩ (.slice A m c) = w7 at G7 D7 H7 HO7 hs7 ⊢
      have HG7 := cover G7
      have HD7 := cover D7
      have HH7 := cover H7
      have HHO7 := cover HO7
      have RP : Hid (Row w7 w.heap.size A p'.info.length p'.info) := cover (by
        have h := (HR.out.take hmi).below H7
        rw [hml.out, hp'.out]; exact h)
      clear p0 p1 p2 p3 p4 p5 p6 p7 p8 z8 G7 D7 H7 HO7
      obtain ⟨p0, p1, p2, p3, p4, p5, p6, p7, p8⟩ := pdu_cells HG7.out
      go_wp2_with fail
      clear p0 p1 p2 p3 p4 p5 p6 p7 p8
      refine (ref_may_any p' A c w7).mono ?_
      rintro e w8 ⟨rfl, hb8⟩
      have hs8 := hb8.size
      have H8 := cover (HH7.out.trans (hb8.mono (by omega)))
      have G8 := cover ((hb8.block _ (by omega)).trans HG7.out)
      have D8 := cover ((hb8.block _ (by omega)).trans HD7.out)
      have HO8 := cover (ownB_below HHO7.out hb8)
      have RP8 := cover (RP.out.below (hb8.mono (by omega)))
      clear hb8
      rw [← hp'.out] at HDC
      rcases hm : mayB p' with _ | _
      · have h4 := HDC.out
        rw [orForm_no (fun h => by rw [mayB_yes h] at hm; cases hm)] at h4
        injection h4 with hd1 hd2
        subst hd2
        clear hm
        go_wp2
        go_ret
        exact ⟨rfl, H8.out⟩
      · have h4 := HDC.out
        rw [orForm_yes (mayB_iff.1 hm)] at h4
        injection h4 with hd1 hd2
        subst hd1
        subst hd2
        clear hm HDC hp'
        obtain ⟨p0, p1, p2, p3, p4, p5, p6, p7, p8⟩ := pdu_cells G8.out
        obtain ⟨q0, q1, q2, q3, q4, q5, q6, q7, q8⟩ := pdu_cells D8.out
        have hml2 : p.info.length ≤ 1040 := HP.out.1.2.2.2.2
        go_wp2_with fail
        refine (ref_pduSame_any d d A A5 c c5 w.heap.size w8.heap.size w8 RP8.out HO8.out.row (by omega) (Nat.le_refl _) (by have := hml.out; omega)).mono ?_
        rintro e w9 ⟨rfl, hb9⟩
        rw [eqB_refl]
        have H9 := cover (H8.out.trans (hb9.mono (by omega)))
        clear hb9
        go_wp2
        go_ret
        exact ⟨rfl, H9.out⟩
  · have hH : headN p = 4 := by unfold headN; rw [if_neg f2]
    have hlen : L = 4 + p.info.length := by rw [← hL.out, enc_len HP.out.fits, hH]
    have HH := cover hH
    have HLEN := cover hlen
    have kc : k ≤ c4 := by omega
    clear hH hlen
    have RC : Hid (Row w4 w4.heap.size A4 k ((encP p).take k)) := cover (by
      have h := HO4.out.row
      have h2 := h.take (show k ≤ (encP p).length by rw [hL.out]; exact k3)
      exact h2)
    have BC : Hid (Bts ((encP p).take k)) := cover ((enc_bts HP.out HB.out).take k)
    go_wp2_with fail
    clear p0 p1 p2 p3 p4 p5 p6 p7 p8 k1 k2 e0
    refine (dec_any_u A4 k c4 w4.heap.size ((encP p).take k) w4 RC.out (Nat.le_refl _) BC.out (by omega)).mono ?_
    rintro e w5 ⟨A5, c5, rfl, ho5, hb5⟩
    have hs5 := hb5.size
    have H5 := cover (H4.out.trans (hb5.mono (by omega)))
    have G5 := cover ((hb5.block _ (by omega)).trans G4.out)
    have HO5 := cover ho5
    clear hb5 ho5
    obtain ⟨d, hd⟩ : ∃ d, Hid (decR ((encP p).take k) = d) := ⟨_, cover rfl⟩
    rw [hd.out] at HO5 ⊢
    obtain ⟨d, er⟩ := d
    obtain ⟨w6, hw6⟩ : ∃ y, y = w5.alloc (.cells #[.int .i64 d.to, .int .i64 d.frm, .bool d.resp, .int .i64 d.form, .int .i64 d.kind, .int .i64 d.ns, .int .i64 d.nr, .bool d.poll, .slice A5 d.info.length c5] 25) := ⟨_, rfl⟩
    have hb6 : Below w5.heap.size w5 w6 := by rw [hw6]; exact (Below.refl _ _).alloc (Nat.le_refl _) _
    have hs6 : w5.heap.size < w6.heap.size := by rw [hw6]; simp
    have H6 := cover (H5.out.trans (hb6.mono (by omega)))
    have G6 := cover ((hb6.block _ (by omega)).trans G5.out)
    have D6 : Hid (w6.heap[w5.heap.size]? = some (.cells #[.int .i64 d.to, .int .i64 d.frm, .bool d.resp, .int .i64 d.form, .int .i64 d.kind, .int .i64 d.ns, .int .i64 d.nr, .bool d.poll, .slice A5 d.info.length c5] 25 (0, 0))) := cover (by rw [hw6]; exact heap_alloc_new _ _)
    have HO6 := cover (ownB_below HO5.out hb6)
    by_cases hkh : k < 4
    · have hkI : (k : Int) < 4 := by omega
      have hds := dec_short HP.out (show k < headN p by rw [HH.out]; exact hkh)
      rw [hd.out] at hds
      injection hds with hd1 hd2
      subst hd1
      subst hd2
      go_wp2
      go_ret
      exact ⟨rfl, by have h := H6.out; rw [hw6] at h; exact h⟩
    · have hkI : ¬ (k : Int) < 4 := by omega
      have hlen := HLEN.out
      obtain ⟨m, hkm⟩ : ∃ m : Nat, k = 4 + m := ⟨k - 4, by omega⟩
      have hmi : m ≤ p.info.length := by omega
      have hmc : m ≤ c := by omega
      have hsub : (k : Int) - 4 = (m : Int) := by omega
      have hdc := dec_cut HP.out (show headN p ≤ k by rw [HH.out]; omega)
      rw [hd.out, HH.out, show k - 4 = m by omega] at hdc
      have HDC := cover hdc
      clear hdc hlen
      go_upto_region 15 with fail
      rw [← hw6]
      clear hw6 hb6
      obtain ⟨p0, p1, p2, p3, p4, p5, p6, p7, p8⟩ := pdu_cells G6.out
      have z8 := frozen_of_row w6 w.heap.size 8 _ _ G6.out
      go_upto_region 16 with fail
      obtain ⟨p', hp'⟩ : ∃ y : PV, Hid (y = { p with info := p.info.take m }) := ⟨_, cover rfl⟩
      have hml : Hid (p'.info.length = m) := cover (by rw [hp'.out]; show (p.info.take m).length = m; rw [List.length_take]; omega)
      have G7 : (w6.setCell ⟨w.heap.size, 8, none⟩ (.slice A m c)).heap[w.heap.size]? = some (.cells #[.int .i64 p'.to, .int .i64 p'.frm, .bool p'.resp, .int .i64 p'.form, .int .i64 p'.kind, .int .i64 p'.ns, .int .i64 p'.nr, .bool p'.poll, .slice A p'.info.length c] 25 (0, 0)) := by
        rw [heap_setCell_same w6 w.heap.size 8 _ _ _ G6.out, hml.out, hp'.out]; rfl
      have D7 : (w6.setCell ⟨w.heap.size, 8, none⟩ (.slice A m c)).heap[w5.heap.size]? = some (.cells #[.int .i64 d.to, .int .i64 d.frm, .bool d.resp, .int .i64 d.form, .int .i64 d.kind, .int .i64 d.ns, .int .i64 d.nr, .bool d.poll, .slice A5 d.info.length c5] 25 (0, 0)) := (Below.heap_setCell w6 ⟨w.heap.size, 8, none⟩ _ _ (fun e => by have : w5.heap.size = w.heap.size := e; omega)).trans D6.out
      have H7 : Below w.heap.size w (w6.setCell ⟨w.heap.size, 8, none⟩ (.slice A m c)) := H6.out.setCell (Nat.le_refl _) _
      have HO7 : OwnB (w6.setCell ⟨w.heap.size, 8, none⟩ (.slice A m c)) w4.heap.size (.slice A5 d.info.length c5) d.info := ownB_keep HO6.out (fun i hi => Below.heap_setCell w6 ⟨w.heap.size, 8, none⟩ _ i (fun e => by have : i = w.heap.size := e; omega))
      have hs7 : (w6.setCell ⟨w.heap.size, 8, none⟩ (.slice A m c)).heap.size = w6.heap.size := by simp [World.setCell]
      generalize w6.setCell ⟨w.heap.size, 8, none⟩ (.slice A m c) = w7 at G7 D7 H7 HO7 hs7 ⊢
      have HG7 := cover G7
      have HD7 := cover D7
      have HH7 := cover H7
      have HHO7 := cover HO7
      have RP : Hid (Row w7 w.heap.size A p'.info.length p'.info) := cover (by
        have h := (HR.out.take hmi).below H7
        rw [hml.out, hp'.out]; exact h)
      clear p0 p1 p2 p3 p4 p5 p6 p7 p8 z8 G7 D7 H7 HO7
      obtain ⟨p0, p1, p2, p3, p4, p5, p6, p7, p8⟩ := pdu_cells HG7.out
      go_wp2_with fail
      clear p0 p1 p2 p3 p4 p5 p6 p7 p8
      refine (ref_may_any p' A c w7).mono ?_
      rintro e w8 ⟨rfl, hb8⟩
      have hs8 := hb8.size
      have H8 := cover (HH7.out.trans (hb8.mono (by omega)))
      have G8 := cover ((hb8.block _ (by omega)).trans HG7.out)
      have D8 := cover ((hb8.block _ (by omega)).trans HD7.out)
      have HO8 := cover (ownB_below HHO7.out hb8)
      have RP8 := cover (RP.out.below (hb8.mono (by omega)))
      clear hb8
      rw [← hp'.out] at HDC
      rcases hm : mayB p' with _ | _
      · have h4 := HDC.out
        rw [orForm_no (fun h => by rw [mayB_yes h] at hm; cases hm)] at h4
        injection h4 with hd1 hd2
        subst hd2
        clear hm
        go_wp2
        go_ret
        exact ⟨rfl, H8.out⟩
      · have h4 := HDC.out
        rw [orForm_yes (mayB_iff.1 hm)] at h4
        injection h4 with hd1 hd2
        subst hd1
        subst hd2
        clear hm HDC hp'
        obtain ⟨p0, p1, p2, p3, p4, p5, p6, p7, p8⟩ := pdu_cells G8.out
        obtain ⟨q0, q1, q2, q3, q4, q5, q6, q7, q8⟩ := pdu_cells D8.out
        have hml2 : p.info.length ≤ 1040 := HP.out.1.2.2.2.2
        go_wp2_with fail
        refine (ref_pduSame_any d d A A5 c c5 w.heap.size w8.heap.size w8 RP8.out HO8.out.row (by omega) (Nat.le_refl _) (by have := hml.out; omega)).mono ?_
        rintro e w9 ⟨rfl, hb9⟩
        rw [eqB_refl]
        have H9 := cover (H8.out.trans (hb9.mono (by omega)))
        clear hb9
        go_wp2
        go_ret
        exact ⟨rfl, H9.out⟩
end Go.Proofs.Ytohegiphdgihpaa
