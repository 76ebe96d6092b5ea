/- What Tick, Hear and New of twin's do. -/
import Derived.Deep.CutBlock
import Derived.Deep.DeepCutAuto
import Derived.Test.YtbhdncbnjlgigaaBTwin
namespace Go.Proofs.Ytbhdncbnjlgigaa
open Go.RowKit
set_option linter.unusedVariables false
set_option linter.unusedSimpArgs false

set_option maxHeartbeats 1600000 in
theorem tick_any {W : World} {t : Nat} {v : BV} (h : TwP W t v) :
    Calls Try.prog 15 #[ptr t] W (SendOut W t (tickB v) (ticksB v)) := by
  obtain ⟨w1, hw1⟩ : ∃ w1, w1 = W.alloc (.cells zp 30) := ⟨_, rfl⟩
  obtain ⟨g, hg⟩ : ∃ g, g = W.heap.size := ⟨_, rfl⟩
  have hb1 : Below W.heap.size W w1 := by rw [hw1]; exact (Below.refl _ _).alloc (Nat.le_refl _) _
  have H1 := h.below hb1
  have G1 : Hid (w1.heap[g]? = some (.cells zp 30 (0, 0))) := cover (by rw [hw1, hg]; exact heap_alloc_new _ _)
  have HNE : Hid (g ≠ t) := cover (by have := h.lt; omega)
  have HG := cover hg
  have O1 : Hid (OnlyB t W w1) := cover (OnlyB.of_below hb1)
  have HB : Hid (∃ x, Calls Try.prog 25 #[ptr t] w1 fun e W' => e = .returned (mkF (ticksB v) t) ∧ Hid (OnlyB t w1 W' ∧ Calls Try.prog 21 #[mkF (ticksB v) t] W' (SendOut W' t (tickB v) (ticksB v)))) := cover (by
    obtain ⟨u, h1, h2, h3⟩ := H1.hd
    refine ⟨0, ?_⟩
    have hok := BOk.tick h.ok
    by_cases hs : v.s = 1
    · have hu := h3 hs
      have h5 := h.ok.2.2.2.2 hs
      have h6 := h.ok.1.2
      have h7 := h.ok.2.2.2.1
      have h8 := h.ok.2.2.1
      have h9 := h.ok.1.1
      rw [hs] at h1
      by_cases hl : 1 < v.l
      · have e1 : tickB v = { v with l := v.l - 1 } := by unfold tickB; rw [if_pos hs, if_pos hl]
        have e2 : ticksB v = false := decide_eq_false (fun hx => by have := hx.2.1; omega)
        rw [e1] at hok
        rw [e1, e2]
        refine (pass_wait h1 h2 (by omega)).mono ?_
        rintro e W' ⟨rfl, H⟩
        exact ⟨rfl, cover ⟨H.out.2, made_any false H.out.1 (fun e => by cases e) (fun _ => ⟨hok, u + 1, by rw [hs]; exact H.out.1, by omega, fun _ => by show u + 1 = v.w - (v.l - 1); omega⟩) hok⟩⟩
      · by_cases hk : v.k < v.n
        · have e1 : tickB v = { v with k := v.k + 1, l := v.w } := by unfold tickB; rw [if_pos hs, if_neg hl, if_pos hk]
          have e2 : ticksB v = true := decide_eq_true ⟨hs, by omega, hk⟩
          rw [e1] at hok
          rw [e1, e2]
          refine (pass_ask h1 h2 (by omega) hk).mono ?_
          rintro e W' ⟨rfl, H⟩
          exact ⟨rfl, cover ⟨H.out.2, made_any true H.out.1 (fun _ => ⟨by omega, rfl, rfl, hs, rfl, rfl⟩) (fun e => by cases e) hok⟩⟩
        · have e1 : tickB v = { v with s := 2, l := 0 } := by unfold tickB; rw [if_pos hs, if_neg hl, if_neg hk]
          have e2 : ticksB v = false := decide_eq_false (fun hx => hk hx.2.2)
          rw [e1] at hok
          rw [e1, e2]
          refine (pass_last h1 h2 (by omega) (by omega)).mono ?_
          rintro e W' ⟨rfl, H⟩
          exact ⟨rfl, cover ⟨H.out.2, made_any false H.out.1 (fun e => by cases e) (fun _ => ⟨hok, u + 1, H.out.1, by omega, fun e => by cases e⟩) hok⟩⟩
    · rw [(tickB_rest hs).1, (tickB_rest hs).2]
      refine (pass_rest h1 hs).mono ?_
      rintro e W' ⟨rfl, rfl⟩
      exact ⟨rfl, cover ⟨OnlyB.refl _ _, made_any false h1 (fun e => by cases e) (fun _ => H1) h.ok⟩⟩)
  clear hb1 H1 h
  obtain ⟨b, hb⟩ : ∃ b, b = ticksB v := ⟨_, rfl⟩
  obtain ⟨v', hv'⟩ : ∃ v', v' = tickB v := ⟨_, rfl⟩
  rw [← hb, ← hv'] at HB ⊢
  obtain ⟨_, HB⟩ := HB.out
  have HB := cover HB
  clear hb hv'
  go_enter Try.func15, Try.ntmps15
  go_upto_region 1 with fail
  rw [← hw1, ← hg]
  clear hw1 hg
  go_wp2_with fail
  refine HB.out.mono ?_
  rintro e w2 ⟨rfl, H2⟩
  have G2 := cover (only_keeps G1.out H2.out.1 HNE.out)
  go_wp2_with fail
  refine H2.out.2.mono ?_
  rintro e w3 ⟨rfl, H3⟩
  have G3 := cover (only_keeps G2.out H3.out.2 HNE.out)
  go_wp2_with (refine wpList_store_row rfl _ _ _ rfl g (sentC b none 0) rfl rfl 30 zp G3.out (sent_size b) (by cases b <;> rfl) (cell_store _) ?_)
  exact bodyPost_ret (v := .tuple #[.agg (sentC b none 0), .bool b]) (results_cell_and (by rfl) _ _ g _ (sentC b none 0) (0, 0) _ (.bool b) rfl (setRow_heap _ _ _ _ _ _ G3.out) rfl Try.underlying30 rfl (sent_size b)) rfl
    ⟨rfl, cover ⟨H3.out.1.keep (setRow_other _ _ _ _ (Ne.symm HNE.out)), OnlyB.setRow_new ((O1.out.trans H2.out.1).trans H3.out.2) (by have := HG.out; omega) _⟩⟩

/-- the answer with what stands behind p -/
abbrev ansQ (p : PV) : PV := ⟨0, 0, true, 2, 2, 0, 0, true, p.info⟩
/-- is it the answer? -/
noncomputable def ansB (p : PV) : Bool := eqB p (ansQ p) && mayB p
set_option maxHeartbeats 1600000 in
theorem isAnswer_any (p : PV) (A : Option Addr) (c B : Nat) (W : World) (hr : Row W B A p.info.length p.info) (hB : B ≤ W.heap.size) (hb : Bts p.info) :
    Calls Try.prog 20 #[.agg #[.int .i64 p.to, .int .i64 p.frm, .bool p.resp, .int .i64 p.form, .int .i64 p.kind, .int .i64 p.ns, .int .i64 p.nr, .bool p.poll, .slice A p.info.length c]] W fun e W' => e = .returned (.bool (ansB p)) ∧ Below W.heap.size W W' := by
  obtain ⟨g, hg⟩ : ∃ g, g = W.heap.size := ⟨_, rfl⟩
  obtain ⟨w1, hw1⟩ : ∃ w1, w1 = W.alloc (.cells #[.int .i64 p.to, .int .i64 p.frm, .bool p.resp, .int .i64 p.form, .int .i64 p.kind, .int .i64 p.ns, .int .i64 p.nr, .bool p.poll, .slice A p.info.length c] 30) := ⟨_, rfl⟩
  have H1 : Hid (Below g W w1) := cover (by rw [hw1, hg]; exact (Below.refl _ _).alloc (Nat.le_refl _) _)
  have G1 : Hid (w1.heap[g]? = some (.cells #[.int .i64 p.to, .int .i64 p.frm, .bool p.resp, .int .i64 p.form, .int .i64 p.kind, .int .i64 p.ns, .int .i64 p.nr, .bool p.poll, .slice A p.info.length c] 30 (0, 0))) := cover (by rw [hw1, hg]; exact heap_alloc_new _ _)
  have HR : Hid (∀ W', Below g W W' → Row W' B A p.info.length p.info) := cover fun W' h => hr.below (h.mono (by omega))
  have HSZ : Hid (∀ W', Below g W W' → g ≤ W'.heap.size) := cover fun W' h => by rw [hg]; exact h.size
  have HBB : Hid (B ≤ g) := cover (by omega)
  have HBT := cover hb
  have HG := cover hg
  clear hr hB hb
  go_enter Try.func20, Try.ntmps20
  go_upto_region 1 with fail
  rw [← hw1, ← hg]
  clear hw1 hg
  go_wp2_with fail
  refine (test_any true w1).mono ?_
  rintro e w2 ⟨rfl, hb2⟩
  have G2 := cover ((hb2.block g (block_lt G1.out)).trans G1.out)
  have H2 := cover (H1.out.trans (hb2.mono (HSZ.out _ H1.out)))
  obtain ⟨g2, hg2⟩ : ∃ g2, g2 = w2.heap.size := ⟨_, rfl⟩
  have HG2 : Hid (g2 = w2.heap.size ∧ g < g2 ∧ g ≤ g2) := cover ⟨hg2, by have := block_lt G2.out; omega, by have := block_lt G2.out; omega⟩
  obtain ⟨w3, hw3⟩ : ∃ w3, Hid (w3 = (w2.alloc (.cells zp 30)).setRow g2 (tstC true none 0)) := ⟨_, cover rfl⟩
  have T3 : Hid (w3.heap[g2]? = some (.cells (tstC true none 0) 30 (0, 0))) := cover (by rw [hw3.out, HG2.out.1]; exact setRow_heap _ _ _ _ _ _ (heap_alloc_new _ _))
  have hb3 : Below w2.heap.size w2 w3 := by rw [hw3.out, HG2.out.1]; exact Go.below_setRow ((Below.refl _ _).alloc (Nat.le_refl _) _) (Nat.le_refl _) _
  have G3 := cover ((hb3.block g (block_lt G2.out)).trans G2.out)
  have H3 := cover (H2.out.trans (hb3.mono (HSZ.out _ H2.out)))
  obtain ⟨w4, hw4⟩ : ∃ w4, Hid (w4 = w3.setCell ⟨g2, 8, none⟩ (.slice A p.info.length c)) := ⟨_, cover rfl⟩
  have T4 : Hid (w4.heap[g2]? = some (.cells #[.int .i64 0, .int .i64 0, .bool true, .int .i64 2, .int .i64 2, .int .i64 0, .int .i64 0, .bool true, .slice A p.info.length c] 30 (0, 0))) := cover (by rw [hw4.out, set_block T3.out]; rfl)
  have G4 : Hid (w4.heap[g]? = some (.cells #[.int .i64 p.to, .int .i64 p.frm, .bool p.resp, .int .i64 p.form, .int .i64 p.kind, .int .i64 p.ns, .int .i64 p.nr, .bool p.poll, .slice A p.info.length c] 30 (0, 0))) := cover (by rw [hw4.out, set_other _ _ (by have := HG2.out.2.1; omega)]; exact G3.out)
  have H4 : Hid (Below g W w4) := cover (by rw [hw4.out]; exact H3.out.setCell (by exact HG2.out.2.2) _)
  have k8 : w3.cell? ⟨g, 8, none⟩ = some (.slice A p.info.length c) := (pdu_cells G3.out).2.2.2.2.2.2.2.2
  have t8 : w3.cell? ⟨g2, 8, none⟩ = some (.slice none 0 0) := (pdu_cells T3.out).2.2.2.2.2.2.2.2
  have f8 := not_frozen T3.out 8
  have HE := cover (fun W' (h : Below g W W') => pduSame_any p (ansQ p) A A c c B B W' (HR.out W' h) (HR.out W' h) (Nat.le_trans HBB.out (HSZ.out W' h)) (Nat.le_trans HBB.out (HSZ.out W' h)) HBT.out HBT.out)
  have HM := cover (fun W' => may_any p A c W')
  clear hb2 hb3
  go_wp2_with (first
    | (refine wpList_store_row rfl _ _ _ rfl w2.heap.size (tstC true none 0) rfl rfl 30 zp (heap_alloc_new _ _) pdu_size rfl (tst_one _ _ _) ?_; rw [← hg2, ← hw3.out]; clear hg2)
    | (rw [← hw4.out])
    | (refine wpList_load_row rfl _ _ rfl g rfl 30 #[.int .i64 p.to, .int .i64 p.frm, .bool p.resp, .int .i64 p.form, .int .i64 p.kind, .int .i64 p.ns, .int .i64 p.nr, .bool p.poll, .slice A p.info.length c] (0, 0) _ G4.out Try.underlying30 rfl pdu_size ?_)
    | (refine wpList_load_row rfl _ _ rfl g2 rfl 30 #[.int .i64 0, .int .i64 0, .bool true, .int .i64 2, .int .i64 2, .int .i64 0, .int .i64 0, .bool true, .slice A p.info.length c] (0, 0) _ T4.out Try.underlying30 rfl pdu_size ?_))
  refine (HE.out w4 H4.out).mono ?_
  rintro e w5 ⟨rfl, hb5⟩
  have G5 := (hb5.block g (block_lt G4.out)).trans G4.out
  have H5 := cover (H4.out.trans (hb5.mono (HSZ.out _ H4.out)))
  obtain ⟨p0, p1, p2, p3, p4, p5, p6, p7, p8⟩ := pdu_cells G5
  clear hb5 k8 t8 f8 G5
  have HA : Hid (ansB p = (eqB p (ansQ p) && mayB p)) := cover rfl
  rcases he : eqB p (ansQ p) with _ | _
  · rw [he] at HA
    clear he
    go_wp2
    go_ret
    exact ⟨ret_bool HA.out.symm, by rw [← HG.out]; exact H5.out⟩
  · rw [he] at HA
    clear he
    go_wp2_with fail
    refine (HM.out w5).mono ?_
    rintro e w6 ⟨rfl, hb6⟩
    have H6 := cover (H5.out.trans (hb6.mono (HSZ.out _ H5.out)))
    clear hb6
    go_wp2
    go_ret
    exact ⟨ret_bool HA.out.symm, by rw [← HG.out]; exact H6.out⟩

/-- what Hear hands back, and what becomes of the Twin -/
def HearOutB (W : World) (t : Nat) (v : BV) (b : Bool) (e : Ending) (W' : World) : Prop := e = .returned (.bool b) ∧ Hid (TwP W' t v ∧ OnlyB t W W')
set_option maxHeartbeats 1600000 in
theorem hear_any {W : World} {t : Nat} {v : BV} (h : TwP W t v) (p : PV) (A : Option Addr) (c B : Nat) (hr : Row W B A p.info.length p.info) (hB : B ≤ W.heap.size) (hb : Bts p.info) :
    Calls Try.prog 9 #[ptr t, .agg #[.int .i64 p.to, .int .i64 p.frm, .bool p.resp, .int .i64 p.form, .int .i64 p.kind, .int .i64 p.ns, .int .i64 p.nr, .bool p.poll, .slice A p.info.length c]] W (HearOutB W t (hearB (ansB p) v) (hearsB (ansB p) v)) := by
  obtain ⟨g, hg⟩ : ∃ g, g = W.heap.size := ⟨_, rfl⟩
  obtain ⟨w1, hw1⟩ : ∃ w1, w1 = W.alloc (.cells #[.int .i64 p.to, .int .i64 p.frm, .bool p.resp, .int .i64 p.form, .int .i64 p.kind, .int .i64 p.ns, .int .i64 p.nr, .bool p.poll, .slice A p.info.length c] 30) := ⟨_, rfl⟩
  have hb1 : Below W.heap.size W w1 := by rw [hw1]; exact (Below.refl _ _).alloc (Nat.le_refl _) _
  have T1 := cover (h.below hb1)
  have O1 : Hid (OnlyB t W w1) := cover (OnlyB.of_below hb1)
  have G1 : Hid (w1.heap[g]? = some (.cells #[.int .i64 p.to, .int .i64 p.frm, .bool p.resp, .int .i64 p.form, .int .i64 p.kind, .int .i64 p.ns, .int .i64 p.nr, .bool p.poll, .slice A p.info.length c] 30 (0, 0))) := cover (by rw [hw1, hg]; exact heap_alloc_new _ _)
  have HS : Hid (Calls Try.prog 11 #[ptr t] w1 fun e W' => e = .returned (.int .i64 v.s) ∧ W' = w1) := cover (by obtain ⟨u, h1, _⟩ := T1.out.hd; exact state_any h1)
  have HA := cover (isAnswer_any p A c B w1 (hr.below (hb1.mono hB)) (Nat.le_trans hB hb1.size) hb)
  have HOK := cover h.ok
  clear hb1 hr hB hb h
  obtain ⟨a, ha⟩ : ∃ a, ansB p = a := ⟨_, rfl⟩
  rw [ha] at HA ⊢
  clear ha
  by_cases hs : v.s = 1
  · have HT : Hid (hearB a v = (if a = true then { v with s := 3 } else v) ∧ hearsB a v = a) := cover (by
      cases a
      · exact ⟨(hearB_not v).1, (hearB_not v).2⟩
      · exact ⟨(hearB_yes hs).1, (hearB_yes hs).2⟩)
    obtain ⟨v', hv'⟩ : ∃ v', v' = hearB a v := ⟨_, rfl⟩
    rw [← hv', HT.out.2]
    have HV := cover hs
    have HV' : Hid (v' = if a = true then { v with s := 3 } else v) := cover (hv'.trans HT.out.1)
    rw [hs] at HS
    obtain ⟨p0, p1, p2, p3, p4, p5, p6, p7, p8⟩ := pdu_cells G1.out
    clear HT hs hv'
    go_enter Try.func9, Try.ntmps9
    go_upto_region 1 with fail
    rw [← hw1, ← hg]
    clear hw1 hg
    go_wp2_with fail
    refine HS.out.mono ?_
    rintro e w' ⟨rfl, rfl⟩
    go_wp2_with fail
    refine HA.out.mono ?_
    rintro e w2 ⟨rfl, hb2⟩
    clear p0 p1 p2 p3 p4 p5 p6 p7 p8
    have T2 := T1.out.below hb2
    have O2 := cover (O1.out.trans (OnlyB.of_below (g := t) hb2))
    clear HA HS hb2
    rcases a with _ | _
    · obtain rfl : v' = v := HV'.out
      have HN := cover T2
      clear T2
      go_wp2
      go_ret
      exact ⟨rfl, cover ⟨HN.out, O2.out⟩⟩
    · obtain rfl : v' = { v with s := 3 } := HV'.out
      obtain ⟨u, h1, h2⟩ := T2.hd
      obtain ⟨w3, hw3⟩ : ∃ w3, Hid (w3 = w2.setCell ⟨t, 2, none⟩ (.int .i64 3)) := ⟨_, cover rfl⟩
      have HN : Hid (TwP w3 t { v with s := 3 } ∧ OnlyB t W w3) := cover (by
        refine ⟨⟨?_, u, by rw [hw3.out, set_block h1]; rfl, h2.1, fun e => by cases e⟩, by rw [hw3.out]; exact O2.out.setCell 2 _⟩
        have := HOK.out.hear true
        rw [(hearB_yes HV.out).1] at this
        exact this)
      have F1 := not_frozen h1 2
      obtain ⟨c0, c1, c2, c3, c4⟩ := five_cells h1
      clear h1 h2 T2
      go_wp2_with (rw [← hw3.out])
      go_ret
      exact ⟨rfl, cover HN.out⟩
  · have HT : Hid (hearB a v = v ∧ hearsB a v = false) := cover (hearB_rest a hs)
    rw [HT.out.1, HT.out.2]
    clear HT
    go_enter Try.func9, Try.ntmps9
    go_upto_region 1 with fail
    rw [← hw1, ← hg]
    clear hw1 hg
    go_wp2_with fail
    refine HS.out.mono ?_
    rintro e w' ⟨rfl, rfl⟩
    go_wp2
    go_ret
    exact ⟨rfl, cover ⟨T1.out, O1.out⟩⟩
/-- a new Twin at block w.heap.size, or none -/
theorem new_yes {n wt : Int} (h : okB n wt) (W : World) : Calls Try.prog 8 #[.int .i64 n, .int .i64 wt] W fun e W' => ∃ t, e = .returned (.tuple #[ptr t, .int .i64 0]) ∧ Hid (TwP W' t (zB n wt) ∧ Below W.heap.size W W' ∧ W.heap.size ≤ t) := by
  obtain ⟨w1, hw1⟩ : ∃ w1, Hid (w1 = W.alloc (.cells (twC n wt 0 0 0) 49)) := ⟨_, cover rfl⟩
  have HN : Hid (TwP w1 W.heap.size (zB n wt) ∧ Below W.heap.size W w1 ∧ W.heap.size ≤ W.heap.size) := cover (by
    rw [hw1.out]
    exact ⟨⟨BOk.zero h, 0, heap_alloc_new _ _, by omega, fun e => by cases e⟩, (Below.refl _ _).alloc (Nat.le_refl _) _, Nat.le_refl _⟩)
  have h1 := cover (fun w => outside_no (m := 100) h.1 w)
  have h2 := cover (fun w => outside_no (m := 10000) h.2 w)
  clear h
  go_enter Try.func8, Try.ntmps8
  go_wp2_with fail
  refine (h1.out W).mono ?_
  rintro e w' ⟨rfl, rfl⟩
  go_wp2_with fail
  refine (h2.out w').mono ?_
  rintro e w'' ⟨rfl, rfl⟩
  go_wp2_with (rw [← hw1.out])
  go_ret2
  exact ⟨_, rfl, cover HN.out⟩
theorem new_no {n wt : Int} (h : ¬ okB n wt) (W : World) : Calls Try.prog 8 #[.int .i64 n, .int .i64 wt] W fun e W' => e = .returned (.tuple #[.pointer none, .int .i64 1]) ∧ W' = W := by
  by_cases h1 : n < 1 ∨ 100 < n
  · have H1 := cover (fun w => outside_yes h1 w)
    clear h h1
    go_enter Try.func8, Try.ntmps8
    go_wp2_with fail
    refine (H1.out W).mono ?_
    rintro e w' ⟨rfl, rfl⟩
    go_wp2
    go_ret2
    exact ⟨rfl, rfl⟩
  · have h2 : wt < 1 ∨ 10000 < wt := by unfold okB at h; omega
    have H1 := cover (fun w => outside_no (n := n) (m := 100) (by omega) w)
    have H2 := cover (fun w => outside_yes h2 w)
    clear h h1 h2
    go_enter Try.func8, Try.ntmps8
    go_wp2_with fail
    refine (H1.out W).mono ?_
    rintro e w' ⟨rfl, rfl⟩
    go_wp2_with fail
    refine (H2.out w').mono ?_
    rintro e w'' ⟨rfl, rfl⟩
    go_wp2
    go_ret2
    exact ⟨rfl, rfl⟩
end Go.Proofs.Ytbhdncbnjlgigaa
