/- What the document's own Event answers. -/
import Derived.BigQuiet
import Derived.Deep.QuietTactic
import Derived.Deep.CutBlock
import Derived.Deep.DeepCutAuto
import Derived.Deep.RegionHeld3
import Derived.Test.YtihbnphgjpohpaaTRef
namespace Go.Proofs.Ytihbnphgjpohpaa
open Go.RowKit
set_option linter.unusedVariables false
set_option linter.unusedSimpArgs false

theorem evT_asks {p : PV} (h : asksP p = true) (st vr : Int) : evT p st vr = evB p vr + 1 := by unfold evT; rw [if_pos h]
theorem evT_end {p : PV} (h : asksP p = false) (hF : p.resp = true ∧ p.poll = true) {st : Int} (hs : 11 ≤ st) (vr : Int) : evT p st vr = evB p vr + 2 := by unfold evT; rw [if_neg (by rw [h]; decide), if_pos ⟨hF.1, hF.2, hs⟩]
theorem evT_bare {p : PV} (h : asksP p = false) {st : Int} (hF : ¬ (p.resp = true ∧ p.poll = true ∧ 11 ≤ st)) (vr : Int) : evT p st vr = evB p vr := by unfold evT; rw [if_neg (by rw [h]; decide), if_neg hF]
theorem eventP_u {p : PV} (h : typeP p = 2) (hf : p.form = 2) (st vr va vs : Int) : eventP p st vr va vs = evU p := by unfold eventP; rw [if_neg (by omega), if_pos hf]
theorem eventP_below {p : PV} (h : typeP p = 2) (hf : p.form ≠ 2) {st : Int} (hs : st < 8) (vr va vs : Int) : eventP p st vr va vs = if asksP p = true then 20 else 19 := by unfold eventP; rw [if_neg (by omega), if_neg hf, if_pos hs]
theorem eventP_wrong {p : PV} (h : typeP p = 2) (hf : p.form ≠ 2) {st : Int} (hs : 8 ≤ st) (vr : Int) {va vs : Int} (hw : wrongP p va vs = true) : eventP p st vr va vs = 28 := by unfold eventP; rw [if_neg (by omega), if_neg hf, if_neg (by omega), if_pos hw]
theorem eventP_rest {p : PV} (h : typeP p = 2) (hf : p.form ≠ 2) {st : Int} (hs : 8 ≤ st) (vr : Int) {va vs : Int} (hw : wrongP p va vs = false) : eventP p st vr va vs = evT p st vr := by unfold eventP; rw [if_neg (by omega), if_neg hf, if_neg (by omega), if_neg (by rw [hw]; decide)]

set_option maxHeartbeats 1600000 in
theorem ref_event_any (p : PV) (st vr va vs : Int) (A : Option Addr) (c : Nat) (w : World) :
    Calls Try.prog 17 #[.agg #[.int .i64 p.to, .int .i64 p.frm, .bool p.resp, .int .i64 p.form, .int .i64 p.kind, .int .i64 p.ns, .int .i64 p.nr, .bool p.poll, .slice A p.info.length c], .int .i64 st, .int .i64 vr, .int .i64 va, .int .i64 vs] w fun e w' => e = .returned (.int .i64 (eventP p st vr va vs)) ∧ Below w.heap.size w w' := by
  obtain ⟨w1, hw1⟩ : ∃ w1, Hid (w1 = w.alloc (.cells #[.int .i64 p.to, .int .i64 p.frm, .bool p.resp, .int .i64 p.form, .int .i64 p.kind, .int .i64 p.ns, .int .i64 p.nr, .bool p.poll, .slice A p.info.length c] 26)) := ⟨_, cover rfl⟩
  have hs1 : w1.heap.size = w.heap.size + 1 := by rw [hw1.out]; simp
  have H1 : Hid (Below w.heap.size w w1) := cover (by rw [hw1.out]; exact (Below.refl _ _).alloc (Nat.le_refl _) _)
  have G1 : Hid (w1.heap[w.heap.size]? = some (.cells #[.int .i64 p.to, .int .i64 p.frm, .bool p.resp, .int .i64 p.form, .int .i64 p.kind, .int .i64 p.ns, .int .i64 p.nr, .bool p.poll, .slice A p.info.length c] 26 (0, 0))) := cover (by rw [hw1.out]; exact heap_alloc_new _ _)
  obtain ⟨p0, p1, p2, p3, p4, p5, p6, p7, p8⟩ := pdu_cells G1.out
  go_enter Try.func17, Try.ntmps17
  go_wp2_with fail
  rw [← hw1.out]
  refine (ref_type_any p A c w1).mono ?_
  rintro e w2 ⟨rfl, hb2⟩
  have hs2 := hb2.size
  have H2 := cover (H1.out.trans (hb2.mono (by omega)))
  have G2 := cover ((hb2.block _ (by omega)).trans G1.out)
  clear hb2 p0 p1 p2 p3 p4 p5 p6 p7 p8
  obtain ⟨t, hT⟩ : ∃ t, Hid (typeP p = t) := ⟨_, cover rfl⟩
  rw [hT.out]
  obtain ⟨p0, p1, p2, p3, p4, p5, p6, p7, p8⟩ := pdu_cells G2.out
  by_cases ht : t = 2
  case neg =>
    have HE : Hid (eventP p st vr va vs = -1) := cover (by unfold eventP; rw [if_pos (by rw [hT.out]; exact ht)])
    have ht1 : (t != 2) = true := bne_iff_ne.2 ht
    clear ht
    go_wp2
    go_ret
    exact ⟨ret_int HE.out.symm, H2.out⟩
  rw [ht] at hT ⊢
  clear ht
  by_cases hf : p.form = 2
  · have HE := cover (eventP_u hT.out hf st vr va vs)
    have HK := cover ((typeP_2 hT.out).2 hf)
    rw [hf] at p3
    clear hf
    by_cases k3 : p.kind = 3
    · rw [k3] at p4
      have HU : Hid (evU p = 8) := cover (by unfold evU; rw [if_pos k3])
      clear k3
      go_wp2
      go_ret
      exact ⟨ret_int (HE.out.trans HU.out).symm, H2.out⟩
    by_cases k4 : p.kind = 4
    · rw [k4] at p4
      have HU : Hid (evU p = 9) := cover (by unfold evU; rw [if_neg k3, if_pos k4])
      clear k3 k4
      go_wp2
      go_ret
      exact ⟨ret_int (HE.out.trans HU.out).symm, H2.out⟩
    by_cases k5 : p.kind = 5
    · rw [k5] at p4
      have HU : Hid (evU p = 10) := cover (by unfold evU; rw [if_neg k3, if_neg k4, if_pos k5])
      clear k3 k4 k5
      go_wp2
      go_ret
      exact ⟨ret_int (HE.out.trans HU.out).symm, H2.out⟩
    by_cases k6 : p.kind = 6
    · rw [k6] at p4
      have HU : Hid (evU p = 11) := cover (by unfold evU; rw [if_neg k3, if_neg k4, if_neg k5, if_pos k6])
      clear k3 k4 k5 k6
      go_wp2
      go_ret
      exact ⟨ret_int (HE.out.trans HU.out).symm, H2.out⟩
    have HU : Hid (evU p = 12) := cover (by unfold evU; rw [if_neg k3, if_neg k4, if_neg k5, if_neg k6])
    have b3 : (p.kind == 3) = false := beq_eq_false_iff_ne.2 k3
    have b4 : (p.kind == 4) = false := beq_eq_false_iff_ne.2 k4
    have b5 : (p.kind == 5) = false := beq_eq_false_iff_ne.2 k5
    have b6 : (p.kind == 6) = false := beq_eq_false_iff_ne.2 k6
    clear k3 k4 k5 k6
    go_wp2
    go_ret
    exact ⟨ret_int (HE.out.trans HU.out).symm, H2.out⟩
  by_cases hs : st < 8
  · have HE := cover (eventP_below hT.out hf hs vr va vs)
    go_wp2_with fail
    refine (ref_asks_any p A c w2).mono ?_
    rintro e w3 ⟨rfl, hb3⟩
    have H3 := cover (H2.out.trans (hb3.mono (by omega)))
    clear hb3
    rcases ha : asksP p with _ | _
    · rw [ha] at HE
      clear ha
      go_wp2
      go_ret
      exact ⟨ret_int HE.out.symm, H3.out⟩
    · rw [ha] at HE
      clear ha
      go_wp2
      go_ret
      exact ⟨ret_int HE.out.symm, H3.out⟩
  go_wp2_with fail
  refine (ref_wrong_any p va vs A c w2).mono ?_
  rintro e w3 ⟨rfl, hb3⟩
  have hs3 := hb3.size
  have H3 := cover (H2.out.trans (hb3.mono (by omega)))
  have G3 := cover ((hb3.block _ (by omega)).trans G2.out)
  clear hb3 p0 p1 p2 p3 p4 p5 p6 p7 p8
  obtain ⟨p0, p1, p2, p3, p4, p5, p6, p7, p8⟩ := pdu_cells G3.out
  rcases hw : wrongP p va vs with _ | _
  case true =>
    have HE := cover (eventP_wrong hT.out hf hs vr hw)
    clear hw
    go_wp2
    go_ret
    exact ⟨ret_int HE.out.symm, H3.out⟩
  have HE := cover (eventP_rest hT.out hf hs vr hw)
  have HM := cover (typeP_2 hT.out).1
  have HF := cover hf
  have HS := cover hs
  clear hw
  have C0 := cover (fun W => add_any vr 0 W)
  go_upto_block 1 with fail
  go_cut [11] (fun v wx => v = .int .i64 (evB p vr) ∧ Hid (Below w.heap.size w wx ∧ wx.heap[w.heap.size]? = some (.cells #[.int .i64 p.to, .int .i64 p.frm, .bool p.resp, .int .i64 p.form, .int .i64 p.kind, .int .i64 p.ns, .int .i64 p.nr, .bool p.poll, .slice A p.info.length c] 26 (0, 0))))
  case first =>
    clear hs HS HE
    by_cases h0 : p.form = 0
    · have hb0 : (p.form == 0) = true := beq_iff_eq.2 h0
      by_cases hn : p.ns = vr % 128
      · have hn1 : (p.ns == (vr + 0) % 128) = true := beq_iff_eq.2 (by omega)
        have HB : Hid (evB p vr = 13) := cover (by unfold evB; rw [if_pos h0, if_pos hn])
        clear h0 hn
        obtain ⟨rr, hrr⟩ : ∃ rr, Hid ((vr + 0) % 128 = rr) := ⟨_, cover rfl⟩
        simp only [hrr.out] at C0 hn1
        go_upto_region 22 with fail
        go_region_held3 (fun W' : World => (World.cell? W' ⟨w.heap.size, 0, none⟩ = some (.int .i64 p.to) ∧ World.cell? W' ⟨w.heap.size, 1, none⟩ = some (.int .i64 p.frm) ∧ World.cell? W' ⟨w.heap.size, 2, none⟩ = some (.bool p.resp) ∧ World.cell? W' ⟨w.heap.size, 3, none⟩ = some (.int .i64 p.form) ∧ World.cell? W' ⟨w.heap.size, 4, none⟩ = some (.int .i64 p.kind) ∧ World.cell? W' ⟨w.heap.size, 5, none⟩ = some (.int .i64 p.ns) ∧ World.cell? W' ⟨w.heap.size, 6, none⟩ = some (.int .i64 p.nr) ∧ World.cell? W' ⟨w.heap.size, 7, none⟩ = some (.bool p.poll) ∧ World.cell? W' ⟨w.heap.size, 8, none⟩ = some (.slice A p.info.length c)) ∧ ∃ d, W' = w3.drewN d)
          (first
            | exact ⟨⟨p0, p1, p2, p3, p4, p5, p6, p7, p8⟩, 1, rfl⟩)
          ((go_at_call 23; refine (C0.out _).mono ?_; rintro e wX ⟨rfl, rfl⟩))
        go_wp2
        go_meet
        exact ⟨by rw [HB.out], cover ⟨below_drewN H3.out 1, G3.out⟩⟩
      · have hn1 : (p.ns == (vr + 0) % 128) = false := beq_eq_false_iff_ne.2 (by omega)
        have HB : Hid (evB p vr = 16) := cover (by unfold evB; rw [if_pos h0, if_neg hn])
        clear h0 hn
        obtain ⟨rr, hrr⟩ : ∃ rr, Hid ((vr + 0) % 128 = rr) := ⟨_, cover rfl⟩
        simp only [hrr.out] at C0 hn1
        go_upto_region 22 with fail
        go_region_held3 (fun W' : World => (World.cell? W' ⟨w.heap.size, 0, none⟩ = some (.int .i64 p.to) ∧ World.cell? W' ⟨w.heap.size, 1, none⟩ = some (.int .i64 p.frm) ∧ World.cell? W' ⟨w.heap.size, 2, none⟩ = some (.bool p.resp) ∧ World.cell? W' ⟨w.heap.size, 3, none⟩ = some (.int .i64 p.form) ∧ World.cell? W' ⟨w.heap.size, 4, none⟩ = some (.int .i64 p.kind) ∧ World.cell? W' ⟨w.heap.size, 5, none⟩ = some (.int .i64 p.ns) ∧ World.cell? W' ⟨w.heap.size, 6, none⟩ = some (.int .i64 p.nr) ∧ World.cell? W' ⟨w.heap.size, 7, none⟩ = some (.bool p.poll) ∧ World.cell? W' ⟨w.heap.size, 8, none⟩ = some (.slice A p.info.length c)) ∧ ∃ d, W' = w3.drewN d)
          (first
            | exact ⟨⟨p0, p1, p2, p3, p4, p5, p6, p7, p8⟩, 1, rfl⟩)
          ((go_at_call 23; refine (C0.out _).mono ?_; rintro e wX ⟨rfl, rfl⟩))
        go_wp2
        go_meet
        exact ⟨by rw [HB.out], cover ⟨below_drewN H3.out 1, G3.out⟩⟩
    · have hb0 : (p.form == 0) = false := beq_eq_false_iff_ne.2 h0
      have hk : 0 ≤ p.kind ∧ p.kind ≤ 2 := by
        rcases HM.out.2 with ⟨e, _⟩ | ⟨_, e, _⟩ | ⟨e, _⟩
        · exact absurd e h0
        · exact e
        · exact absurd e HF.out
      have HK : ∀ k : Int, p.kind = k → Hid (evB p vr = if k = 0 then 19 else if k = 1 then 22 else 25) := fun k e => cover (by unfold evB; rw [if_neg h0, e])
      clear h0 hf
      go_upto_region 22 with fail
      go_quiet (fail)
      have HQ := cover (And.intro (below_drewN H3.out nq) (show (w3.drewN nq).heap[w.heap.size]? = _ from G3.out))
      obtain ⟨p0, p1, p2, p3, p4, p5, p6, p7, p8⟩ := pdu_cells HQ.out.2
      generalize w3.drewN nq = w4 at HQ p0 p1 p2 p3 p4 p5 p6 p7 p8 ⊢
      by_cases k0 : p.kind = 0
      · have HB := HK 0 k0
        rw [k0] at p4
        clear hk k0 HK
        go_wp2
        go_meet
        exact ⟨by rw [HB.out]; rfl, HQ⟩
      by_cases k1 : p.kind = 1
      · have HB := HK 1 k1
        rw [k1] at p4
        clear hk k0 k1 HK
        go_wp2
        go_meet
        exact ⟨by rw [HB.out]; rfl, HQ⟩
      have k2 : p.kind = 2 := by omega
      have HB := HK 2 k2
      rw [k2] at p4
      clear hk k0 k1 k2 HK
      go_wp2
      go_meet
      exact ⟨by rw [HB.out]; rfl, HQ⟩
  case rest =>
  clear p0 p1 p2 p3 p4 p5 p6 p7 p8
  obtain ⟨rfl, hX⟩ := hcut
  have hbb := evB_bd p vr
  obtain ⟨eb, heb⟩ : ∃ eb, Hid (evB p vr = eb) := ⟨_, cover rfl⟩
  rw [heb.out] at hbb ⊢
  have hsx := hX.out.1.size
  have hsx' : w.heap.size < wc.heap.size := block_lt hX.out.2
  obtain ⟨p0, p1, p2, p3, p4, p5, p6, p7, p8⟩ := pdu_cells hX.out.2
  clear hf hs
  go_wp2_with fail
  refine (ref_asks_any p A c wc).mono ?_
  rintro e w5 ⟨rfl, hb5⟩
  have H5 := cover (hX.out.1.trans (hb5.mono (by omega)))
  have G5 := cover ((hb5.block _ hsx').trans hX.out.2)
  clear hb5 p0 p1 p2 p3 p4 p5 p6 p7 p8
  obtain ⟨p0, p1, p2, p3, p4, p5, p6, p7, p8⟩ := pdu_cells G5.out
  rcases ha : asksP p with _ | _
  case true =>
    have HT := cover (evT_asks ha st vr)
    rw [heb.out] at HT
    clear ha
    go_wp2
    go_ret
    exact ⟨ret_int (HE.out.trans HT.out).symm, H5.out⟩
  rcases hr : p.resp with _ | _
  · have HT := cover (evT_bare ha (st := st) (by rw [hr]; rintro ⟨e, _⟩; cases e) vr)
    rw [heb.out] at HT
    rw [hr] at p2
    clear ha hr
    go_wp2
    go_ret
    exact ⟨ret_int (HE.out.trans HT.out).symm, H5.out⟩
  rcases hp : p.poll with _ | _
  · have HT := cover (evT_bare ha (st := st) (by rw [hp]; rintro ⟨_, e, _⟩; cases e) vr)
    rw [heb.out] at HT
    rw [hr] at p2
    rw [hp] at p7
    clear ha hr hp
    go_wp2
    go_ret
    exact ⟨ret_int (HE.out.trans HT.out).symm, H5.out⟩
  by_cases h11 : 11 ≤ st
  · have HT := cover (evT_end ha ⟨hr, hp⟩ h11 vr)
    rw [heb.out] at HT
    rw [hr] at p2
    rw [hp] at p7
    clear ha hr hp
    go_wp2
    go_ret
    exact ⟨ret_int (HE.out.trans HT.out).symm, H5.out⟩
  · have HT := cover (evT_bare ha (st := st) (by rintro ⟨_, _, e⟩; exact h11 e) vr)
    rw [heb.out] at HT
    rw [hr] at p2
    rw [hp] at p7
    clear ha hr hp
    go_wp2
    go_ret
    exact ⟨ret_int (HE.out.trans HT.out).symm, H5.out⟩
end Go.Proofs.Ytihbnphgjpohpaa
