/- What Event answers. -/
import Derived.BigQuiet
import Derived.Deep.QuietTactic
import Derived.Deep.CutBlock
import Derived.Deep.DeepCutAuto
import Derived.Deep.RegionHeld3
import Derived.Test.YtihbnphgjpohpaaTMean
namespace Go.Proofs.Ytihbnphgjpohpaa
open Go.RowKit
set_option linter.unusedVariables false
set_option linter.unusedSimpArgs false

theorem mean_cells {w : World} {g : Nat} {v0 v1 : Value} {T : TypeId} {fr : Nat × Nat} (h : w.heap[g]? = some (.cells #[v0, v1] T fr)) : w.cell? ⟨g, 0, none⟩ = some v0 ∧ w.cell? ⟨g, 1, none⟩ = some v1 := by
  refine ⟨?_, ?_⟩
  all_goals (rw [cell_of_row w g _ _ _ _ h]; rfl)
theorem meanP_u {p : PV} (h : typeP p = 2) (hf : p.form = 2) : (meanP p).2 = evU p := by
  obtain ⟨hm, hk⟩ := typeP_2 h
  obtain ⟨h3, h7⟩ := hk hf
  obtain ⟨k, hk⟩ : ∃ k : Nat, p.kind = (k : Int) := ⟨p.kind.toNat, by omega⟩
  have a : 3 ≤ k := by omega
  have b : k < 8 := by omega
  unfold meanP evU
  rw [if_pos (mayB_yes hm), hf, hk]
  match k, a, b with
  | 3, _, _ | 4, _, _ | 5, _, _ | 6, _, _ | 7, _, _ => rfl
theorem meanP_b {p : PV} (h : typeP p = 2) (hf : p.form ≠ 2) (vr : Int) (hv : p.form = 0 → dist vr p.ns = 0) : (meanP p).2 = evB p vr := by
  obtain ⟨hm, _⟩ := typeP_2 h
  have hns := hm.1.2.2.1
  unfold meanP evB
  rw [if_pos (mayB_yes hm)]
  rcases hm.2 with ⟨h0, hk, _⟩ | ⟨h1, ⟨hk0, hk1⟩, _⟩ | ⟨h2, _⟩
  · have := hv h0
    unfold dist at this
    rw [if_pos h0, if_pos (by omega), h0, hk]; rfl
  · obtain ⟨k, hk⟩ : ∃ k : Nat, p.kind = (k : Int) := ⟨p.kind.toNat, by omega⟩
    have : k < 3 := by omega
    rw [h1, hk]
    match k, this with
    | 0, _ | 1, _ | 2, _ => rfl
  · exact absurd h2 hf
theorem mark_small {p : PV} {st : Int} (h : st < 8) : markP p st = if asksP p = true then 1 else 0 := by
  unfold markP
  split
  · rfl
  · rw [if_neg (by omega)]
theorem evT_mark (p : PV) (st vr : Int) : evT p st vr = evB p vr + markP p st := by
  unfold evT markP
  by_cases ha : asksP p = true
  · rw [if_pos ha, if_pos ha]
  · rw [if_neg ha, if_neg ha]
    by_cases hb : p.poll = true ∧ 11 ≤ st
    · have hr : p.resp = true := by
        unfold asksP at ha
        rw [hb.1] at ha
        cases hr : p.resp
        · rw [hr] at ha; exact absurd rfl ha
        · rfl
      rw [if_pos hb, if_pos ⟨hr, hb.1, hb.2⟩]
    · rw [if_neg hb, if_neg (fun e => hb ⟨e.2.1, e.2.2⟩), Int.add_zero]
theorem mark_bd (p : PV) (st : Int) : 0 ≤ markP p st ∧ markP p st ≤ 2 := by
  unfold markP
  split
  · omega
  · split <;> omega
theorem event_no {p : PV} (h : typeP p ≠ 2) (st vr va vs : Int) : eventP p st vr va vs = -1 := by unfold eventP; rw [if_pos h]
theorem event_u {p : PV} (h : typeP p = 2) (hf : p.form = 2) (st vr va vs : Int) : eventP p st vr va vs = (meanP p).2 := by
  unfold eventP; rw [if_neg (by omega), if_pos hf, meanP_u h hf]
theorem event_below {p : PV} (h : typeP p = 2) (hf : p.form ≠ 2) {st : Int} (hs : st < 8) (vr va vs : Int) : eventP p st vr va vs = 19 + markP p st := by
  unfold eventP; rw [if_neg (by omega), if_neg hf, if_pos hs, mark_small hs]
  split <;> rfl
theorem event_wrong {p : PV} (h : typeP p = 2) (hf : p.form ≠ 2) {st : Int} (hs : 8 ≤ st) (vr : Int) {va vs : Int} (hw : wrongP p va vs = true) : eventP p st vr va vs = 28 := by
  unfold eventP; rw [if_neg (by omega), if_neg hf, if_neg (by omega), if_pos hw]
theorem event_gap {p : PV} (h : typeP p = 2) (hf : p.form = 0) {st : Int} (hs : 8 ≤ st) {vr va vs : Int} (hw : wrongP p va vs = false) (hv : dist vr p.ns ≠ 0) : eventP p st vr va vs = 16 + markP p st := by
  have hns := (typeP_2 h).1.1.2.2.1
  unfold eventP; rw [if_neg (by omega), if_neg (by omega), if_neg (by omega), if_neg (by rw [hw]; decide), evT_mark]
  unfold evB
  unfold dist at hv
  rw [if_pos hf, if_neg (by omega)]
theorem event_rest {p : PV} (h : typeP p = 2) (hf : p.form ≠ 2) {st : Int} (hs : 8 ≤ st) {vr va vs : Int} (hw : wrongP p va vs = false) (hv : p.form = 0 → dist vr p.ns = 0) : eventP p st vr va vs = (meanP p).2 + markP p st := by
  unfold eventP; rw [if_neg (by omega), if_neg hf, if_neg (by omega), if_neg (by rw [hw]; decide), evT_mark, meanP_b h hf vr hv]
theorem meanP_2_bd (p : PV) : -1 ≤ (meanP p).2 ∧ (meanP p).2 ≤ 100 := by
  rcases h : mayB p with _ | _
  · rw [meanP_no h]; decide
  · obtain ⟨hf, k, hk, _, hg⟩ := meanP_yes h
    rw [← hg]
    have : ∀ f : Int, f = 0 ∨ f = 1 ∨ f = 2 → ∀ x ∈ meansF f, -1 ≤ x.2 ∧ x.2 ≤ 100 := by
      rintro f (rfl | rfl | rfl)
      all_goals decide
    exact this _ hf _ (List.getElem_mem hk)

set_option maxHeartbeats 800000 in
theorem event_any (p : PV) (st vr va vs : Int) (A : Option Addr) (c : Nat) (w : World) :
    Calls Try.prog 10 #[.agg #[.int .i64 p.to, .int .i64 p.frm, .bool p.resp, .int .i64 p.form, .int .i64 p.kind, .int .i64 p.ns, .int .i64 p.nr, .bool p.poll, .slice A p.info.length c], .int .i64 st, .int .i64 vr, .int .i64 va, .int .i64 vs] w fun e w' => e = .returned (.int .i64 (eventP p st vr va vs)) ∧ Below w.heap.size w w' := by
  obtain ⟨w1, hw1⟩ : ∃ w1, Hid (w1 = w.alloc (.cells #[.int .i64 p.to, .int .i64 p.frm, .bool p.resp, .int .i64 p.form, .int .i64 p.kind, .int .i64 p.ns, .int .i64 p.nr, .bool p.poll, .slice A p.info.length c] 26)) := ⟨_, cover rfl⟩
  have hs1 : w1.heap.size = w.heap.size + 1 := by rw [hw1.out]; simp
  have H1 : Hid (Below w.heap.size w w1) := cover (by rw [hw1.out]; exact (Below.refl _ _).alloc (Nat.le_refl _) _)
  have G1 : Hid (w1.heap[w.heap.size]? = some (.cells #[.int .i64 p.to, .int .i64 p.frm, .bool p.resp, .int .i64 p.form, .int .i64 p.kind, .int .i64 p.ns, .int .i64 p.nr, .bool p.poll, .slice A p.info.length c] 26 (0, 0))) := cover (by rw [hw1.out]; exact heap_alloc_new _ _)
  obtain ⟨p0, p1, p2, p3, p4, p5, p6, p7, p8⟩ := pdu_cells G1.out
  go_enter Try.func10, Try.ntmps10
  go_wp2_with fail
  rw [← hw1.out]
  refine (meaningOf_any p A c w1).mono ?_
  rintro e w2 ⟨rfl, hb2⟩
  have hs2 := hb2.size
  obtain ⟨w3, hw3⟩ : ∃ w3, Hid (w3 = (w2.alloc (.cells #[.int .i64 0, .int .i64 0] 38)).setRow w2.heap.size #[.int .i64 (meanP p).1, .int .i64 (meanP p).2]) := ⟨_, cover rfl⟩
  have hb3 : Below w2.heap.size w2 w3 := by rw [hw3.out]; exact Go.below_setRow ((Below.refl _ _).alloc (Nat.le_refl _) _) (Nat.le_refl _) _
  have M3 : Hid (w3.heap[w2.heap.size]? = some (.cells #[.int .i64 (meanP p).1, .int .i64 (meanP p).2] 38 (0, 0))) := cover (by rw [hw3.out]; exact setRow_heap _ _ _ _ _ _ (heap_alloc_new _ _))
  have hs3 := hb3.size
  have hs3' : w2.heap.size < w3.heap.size := block_lt M3.out
  have H3 := cover ((H1.out.trans (hb2.mono (by omega))).trans (hb3.mono (by omega)))
  have G3 := cover ((hb3.block _ (by omega)).trans ((hb2.block _ (by omega)).trans G1.out))
  clear hb2 hb3 p0 p1 p2 p3 p4 p5 p6 p7 p8
  have E1 := cover (meanP_1 p)
  have E2 := meanP_2_bd p
  obtain ⟨⟨m1, m2⟩, hM⟩ : ∃ m, Hid (meanP p = m) := ⟨_, cover rfl⟩
  simp only [hM.out] at M3 hw3 E1 E2 ⊢
  obtain ⟨p0, p1, p2, p3, p4, p5, p6, p7, p8⟩ := pdu_cells G3.out
  obtain ⟨m0c, m1c⟩ := mean_cells M3.out
  go_upto_region 2 with (refine wpList_store_row rfl _ _ _ rfl w2.heap.size #[.int .i64 m1, .int .i64 m2] rfl rfl 38 #[.int .i64 0, .int .i64 0] (heap_alloc_new _ _) mean_size rfl (mean_one _ _) ?_; rw [← hw3.out])
  by_cases ht : m1 = 2
  case neg =>
    have HE := cover (event_no (show typeP p ≠ 2 by rw [← E1.out]; exact ht) st vr va vs)
    go_wp2
    go_ret
    exact ⟨ret_int HE.out.symm, H3.out⟩
  have HT : Hid (typeP p = 2) := cover (by rw [← E1.out]; exact ht)
  rw [ht] at m0c
  clear ht E1
  by_cases hf : p.form = 2
  · have HE := cover (event_u HT.out hf st vr va vs)
    rw [hM.out] at HE
    rw [hf] at p3
    clear hf
    go_wp2
    go_ret
    exact ⟨ret_int HE.out.symm, H3.out⟩
  by_cases hs : st < 8
  · have HE := cover (event_below HT.out hf hs vr va vs)
    have hmb := mark_bd p st
    obtain ⟨mk, hmk⟩ : ∃ mk, Hid (markP p st = mk) := ⟨_, cover rfl⟩
    rw [hmk.out] at HE hmb
    go_wp2_with fail
    refine (mark_any p st A c w3).mono ?_
    rintro e w4 ⟨rfl, hb4⟩
    have H4 := cover (H3.out.trans (hb4.mono (by omega)))
    rw [hmk.out]
    clear hb4
    go_wp2
    go_ret
    exact ⟨ret_int HE.out.symm, H4.out⟩
  go_wp2_with fail
  refine (wrong_any p va vs A c w3).mono ?_
  rintro e w4 ⟨rfl, hb4⟩
  have hs4 := hb4.size
  have H4 := cover (H3.out.trans (hb4.mono (by omega)))
  have G4 := cover ((hb4.block _ (by omega)).trans G3.out)
  have M4 := cover ((hb4.block _ (by omega)).trans M3.out)
  clear hb4 p0 p1 p2 p3 p4 p5 p6 p7 p8 m0c m1c
  obtain ⟨p0, p1, p2, p3, p4, p5, p6, p7, p8⟩ := pdu_cells G4.out
  obtain ⟨m0c, m1c⟩ := mean_cells M4.out
  rcases hw : wrongP p va vs with _ | _
  case true =>
    have HE := cover (event_wrong HT.out hf hs vr hw)
    clear hw
    go_wp2
    go_ret
    exact ⟨ret_int HE.out.symm, H4.out⟩
  have HW := cover hw
  clear hw
  have hmb := mark_bd p st
  have KS : Hid (∀ W' : World, Below w4.heap.size w4 W' → ((World.cell? W' ⟨w.heap.size, 0, none⟩ = some (.int .i64 p.to) ∧ World.cell? W' ⟨w.heap.size, 1, none⟩ = some (.int .i64 p.frm) ∧ World.cell? W' ⟨w.heap.size, 2, none⟩ = some (.bool p.resp) ∧ World.cell? W' ⟨w.heap.size, 3, none⟩ = some (.int .i64 p.form) ∧ World.cell? W' ⟨w.heap.size, 4, none⟩ = some (.int .i64 p.kind) ∧ World.cell? W' ⟨w.heap.size, 5, none⟩ = some (.int .i64 p.ns) ∧ World.cell? W' ⟨w.heap.size, 6, none⟩ = some (.int .i64 p.nr) ∧ World.cell? W' ⟨w.heap.size, 7, none⟩ = some (.bool p.poll) ∧ World.cell? W' ⟨w.heap.size, 8, none⟩ = some (.slice A p.info.length c)) ∧ W'.cell? ⟨w2.heap.size, 1, none⟩ = some (.int .i64 m2) ∧ Below w4.heap.size w4 W')) := cover (fun W' hb => ⟨pdu_cells ((hb.block _ (by omega)).trans G4.out), (mean_cells ((hb.block _ (by omega)).trans M4.out)).2, hb⟩)
  have C0 := cover (fun W => stepsUp_any vr p.ns W)
  have CM := cover (fun W => mark_any p st A c W)
  by_cases hg : p.form = 0 ∧ dist vr p.ns ≠ 0
  · obtain ⟨h0, hd⟩ := hg
    have HE := cover (event_gap HT.out h0 hs HW.out hd)
    obtain ⟨mk, hmk⟩ : ∃ mk, Hid (markP p st = mk) := ⟨_, cover rfl⟩
    simp only [hmk.out] at HE hmb CM
    have hb0 : (p.form == 0) = true := beq_iff_eq.2 h0
    have hd1 : (dist vr p.ns != 0) = true := bne_iff_ne.2 hd
    obtain ⟨dd, hdd⟩ : ∃ dd, Hid (dist vr p.ns = dd) := ⟨_, cover rfl⟩
    simp only [hdd.out] at C0 hd1 hd
    clear KS h0 hf
    go_wp2_with fail
    refine (C0.out w4).mono ?_
    rintro e w5 ⟨rfl, rfl⟩
    go_wp2_with fail
    refine (CM.out w5).mono ?_
    rintro e w6 ⟨rfl, hb6⟩
    have H6 := cover (H4.out.trans (hb6.mono (by omega)))
    clear hb6
    go_wp2
    go_ret
    exact ⟨ret_int HE.out.symm, H6.out⟩
  have hv : p.form = 0 → dist vr p.ns = 0 := fun e => Decidable.byContradiction fun e' => hg ⟨e, e'⟩
  have HE := cover (event_rest HT.out hf hs HW.out hv)
  rw [hM.out] at HE
  obtain ⟨mk, hmk⟩ : ∃ mk, Hid (markP p st = mk) := ⟨_, cover rfl⟩
  simp only [hmk.out] at HE hmb CM
  have HV := cover hv
  clear hg hv
  by_cases h0 : p.form = 0
  · have hd := HV.out h0
    simp only [hd] at C0
    have hb0 : (p.form == 0) = true := beq_iff_eq.2 h0
    clear h0 hd
    go_wp2_with fail
    refine (C0.out w4).mono ?_
    rintro e w5 ⟨rfl, rfl⟩
    go_upto_region 12 with fail
    go_region_held3 (fun W' : World => (World.cell? W' ⟨w.heap.size, 0, none⟩ = some (.int .i64 p.to) ∧ World.cell? W' ⟨w.heap.size, 1, none⟩ = some (.int .i64 p.frm) ∧ World.cell? W' ⟨w.heap.size, 2, none⟩ = some (.bool p.resp) ∧ World.cell? W' ⟨w.heap.size, 3, none⟩ = some (.int .i64 p.form) ∧ World.cell? W' ⟨w.heap.size, 4, none⟩ = some (.int .i64 p.kind) ∧ World.cell? W' ⟨w.heap.size, 5, none⟩ = some (.int .i64 p.ns) ∧ World.cell? W' ⟨w.heap.size, 6, none⟩ = some (.int .i64 p.nr) ∧ World.cell? W' ⟨w.heap.size, 7, none⟩ = some (.bool p.poll) ∧ World.cell? W' ⟨w.heap.size, 8, none⟩ = some (.slice A p.info.length c)) ∧ W'.cell? ⟨w2.heap.size, 1, none⟩ = some (.int .i64 m2) ∧ Below w5.heap.size w5 W')
      (first
        | exact KS.out _ (Below.refl _ _).drew
        | exact KS.out _ hbX)
      ((go_at_call 20; refine (CM.out _).mono ?_; rintro e wX ⟨rfl, hbX0⟩; have hbX := (below_drewN (Below.refl w5.heap.size w5) 1).trans (hbX0.mono (Nat.le_refl _))))
    have HX := cover (H4.out.trans (hbX.mono (by omega)))
    have HWR : Hid (IntKind.i64.wrap (m2 + mk) = m2 + mk) := cover (by rw [IntKind.wrap_i64]; omega)
    go_wp2
    go_ret
    exact ⟨ret_int (HWR.out.trans HE.out.symm), HX.out⟩
  · go_upto_region 12 with fail
    go_region_held3 (fun W' : World => (World.cell? W' ⟨w.heap.size, 0, none⟩ = some (.int .i64 p.to) ∧ World.cell? W' ⟨w.heap.size, 1, none⟩ = some (.int .i64 p.frm) ∧ World.cell? W' ⟨w.heap.size, 2, none⟩ = some (.bool p.resp) ∧ World.cell? W' ⟨w.heap.size, 3, none⟩ = some (.int .i64 p.form) ∧ World.cell? W' ⟨w.heap.size, 4, none⟩ = some (.int .i64 p.kind) ∧ World.cell? W' ⟨w.heap.size, 5, none⟩ = some (.int .i64 p.ns) ∧ World.cell? W' ⟨w.heap.size, 6, none⟩ = some (.int .i64 p.nr) ∧ World.cell? W' ⟨w.heap.size, 7, none⟩ = some (.bool p.poll) ∧ World.cell? W' ⟨w.heap.size, 8, none⟩ = some (.slice A p.info.length c)) ∧ W'.cell? ⟨w2.heap.size, 1, none⟩ = some (.int .i64 m2) ∧ Below w4.heap.size w4 W')
      (first
        | exact KS.out _ (Below.refl _ _).drew
        | exact KS.out _ hbX)
      ((go_at_call 20; refine (CM.out _).mono ?_; rintro e wX ⟨rfl, hbX0⟩; have hbX := (below_drewN (Below.refl w4.heap.size w4) 1).trans (hbX0.mono (Nat.le_refl _))))
    have HX := cover (H4.out.trans (hbX.mono (by omega)))
    have HWR : Hid (IntKind.i64.wrap (m2 + mk) = m2 + mk) := cover (by rw [IntKind.wrap_i64]; omega)
    go_wp2
    go_ret
    exact ⟨ret_int (HWR.out.trans HE.out.symm), HX.out⟩
end Go.Proofs.Ytihbnphgjpohpaa
