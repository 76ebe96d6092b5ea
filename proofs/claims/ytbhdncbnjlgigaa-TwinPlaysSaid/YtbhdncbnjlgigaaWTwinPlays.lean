/- The walk of TwinPlays. -/
import Derived.Deep.CutBlock
import Derived.Deep.DeepCutAuto
import Derived.Test.YtbhdncbnjlgigaaBAwake
import Derived.Test.YtbhdncbnjlgigaaBDeeds
namespace Go.Proofs.Ytbhdncbnjlgigaa
open Go.RowKit
set_option linter.unusedVariables false
set_option linter.unusedSimpArgs false

/-- the program's Twin and the document's, that stand the same -/
structure TwDuo (B : Nat) (W0 W : World) (t r : Nat) (v : BV) : Prop where
  one : TwOne B W0 W t v
  two : TwR W r v
  ne : t ≠ r
  lo : B ≤ r
theorem TwDuo.below {B t r : Nat} {W0 W W' : World} {v : BV} (h : TwDuo B W0 W t r v) (hb : Below W.heap.size W W') : TwDuo B W0 W' t r v := ⟨h.one.below hb, h.two.below hb, h.ne, h.lo⟩
/-- both have done the same -/
theorem TwDuo.turn {B t r : Nat} {W0 W W1 W2 : World} {v v' : BV} (h : TwDuo B W0 W t r v) (h1 : TwP W1 t v' ∧ OnlyB t W W1) (h2 : TwR W2 r v' ∧ OnlyB r W1 W2) : TwDuo B W0 W2 t r v' := by
  have k1 := h.one.turn h1
  exact ⟨⟨k1.tw.only h2.2 h.ne, k1.lo, below_only k1.bel h2.2 h.lo k1.siz, Nat.le_trans k1.siz h2.2.size⟩, h2.1, h.ne, h.lo⟩
/-- the document's still stands as it did, where the program's has turned -/
theorem TwDuo.late {B t r : Nat} {W0 W W1 : World} {v v' : BV} (h : TwDuo B W0 W t r v) (h1 : TwP W1 t v' ∧ OnlyB t W W1) : TwR W1 r v := h.two.only h1.2 (Ne.symm h.ne)
theorem same_zero (W : World) : Calls Try.prog 14 #[.agg zp, .agg zp] W fun e W' => e = .returned (.bool true) ∧ Below W.heap.size W W' := by
  have h := ref_pduSame_any zPV zPV none none 0 0 0 0 W RowK.none_ RowK.none_ (Nat.zero_le _) (Nat.zero_le _) (by decide)
  rw [eqB_refl] at h
  exact h
theorem same_ask (A : Option Addr) (c : Nat) (W : World) : Calls Try.prog 14 #[.agg (tstC false none 0), .agg (tstC false A c)] W fun e W' => e = .returned (.bool true) ∧ Below W.heap.size W W' := by
  have h := ref_pduSame_any ⟨0, 0, false, 2, 2, 0, 0, true, []⟩ ⟨0, 0, false, 2, 2, 0, 0, true, []⟩ none A 0 c 0 0 W RowK.none_ ⟨rfl, fun k hk => by simp at hk⟩ (Nat.zero_le _) (Nat.zero_le _) (by decide)
  rw [eqB_refl] at h
  exact h
set_option maxRecDepth 100000 in
set_option maxHeartbeats 1600000 in
theorem walk_TwinPlays (n wt : Int) (A : Option Addr) (len cap : Nat) (ds : List BDV) (w : World) (hn : (Lit.int .i64 n).wf = true) (hw : (Lit.int .i64 wt).wf = true) (hlc : len ≤ cap) (hcm : cap ≤ maxLen) (hd : BDs w w.heap.size A len ds ∧ ∀ q ∈ ds, BDOk q) :
    Calls Try.prog 4 #[.int .i64 n, .int .i64 wt, .slice A len cap] w fun e w' => e = .returned (.bool true) ∧ Below w.heap.size w w' := by
  obtain ⟨B, hB⟩ : ∃ B, w.heap.size = B := ⟨_, rfl⟩
  have s0 := awake_any w
  rw [hB] at s0 hd ⊢
  have HSz : Hid (∀ W, Below B w W → B ≤ W.heap.size) := cover fun W hW => by rw [← hB]; exact hW.size
  have HD := cover hd
  clear hB hd hn hw
  go_enter Try.func4, Try.ntmps4
  go_wp2_with fail
  refine s0.mono ?_
  rintro e w1 ⟨rfl, hb1⟩
  have H1 := cover hb1
  clear s0 hb1
  by_cases h2 : 200 < len
  · have hl : (200 : Int) < (len : Int) := by omega
    clear h2
    go_wp2
    go_ret
    exact ⟨rfl, H1.out⟩
  have hl : ¬ (200 : Int) < (len : Int) := by omega
  have HL : Hid (len ≤ 200) := cover (by omega)
  clear h2
  by_cases hok : okB n wt
  case neg =>
    have s1 := cover (fun W => new_no hok W)
    have s2 := cover (fun W => rnew_no hok W)
    clear hok
    go_wp2_with fail
    refine (s1.out _).mono ?_
    rintro e w2 ⟨rfl, rfl⟩
    go_wp2_with fail
    refine (s2.out _).mono ?_
    rintro e w3 ⟨rfl, rfl⟩
    go_wp2
    go_ret
    exact ⟨rfl, H1.out⟩
  have s1 := cover (fun W => new_yes hok W)
  have s2 := cover (fun W => rnew_yes hok W)
  clear hok
  go_wp2_with fail
  refine (s1.out _).mono ?_
  rintro e w2 ⟨t, rfl, H2'⟩
  have H2 := cover (TwOne.made H1.out (HSz.out _ H1.out) H2'.out)
  clear H2' H1 s1
  go_wp2_with fail
  refine (s2.out _).mono ?_
  rintro e w3 ⟨r, rfl, H3'⟩
  have H3 : Hid (∃ v, TwDuo B w w3 t r v) := cover ⟨zB n wt, H2.out.below H3'.out.2.1, H3'.out.1, by have := H2.out.tw.lt; have := H3'.out.2.2; omega, Nat.le_trans H2.out.siz H3'.out.2.2⟩
  clear H3' H2 s2
  go_wp2_with fail
  go_loopw [11] (fun iv wr => ∃ j : Nat, j ≤ len ∧ iv = .int .i64 j ∧ Hid (∃ v, TwDuo B w wr t r v)) (fun i _ => len - (intOf i).toNat)
  case atStart => exact ⟨0, by omega, rfl, H3⟩
  case round =>
    obtain ⟨j, hj, rfl, hrel⟩ := hrel
    by_cases hlt : j < len
    · obtain ⟨q, hq⟩ : ∃ q, ds[j]? = some q := ⟨_, List.getElem?_eq_getElem (by rw [HD.out.1.len]; exact hlt)⟩
      obtain ⟨v, h4⟩ := hrel.out
      obtain ⟨ad, hA, hc0⟩ := HD.out.1.at_ j q hq
      have hc := hc0.below h4.one.bel
      have HC0 := cover hc0
      have HQ := cover (HD.out.2 q (List.mem_of_getElem? hq))
      subst hA
      have H4 := cover h4
      have HC := cover hc
      have c0 := hc.c0
      clear hc hc0 h4 hrel hq
      go_upto_block 2 with fail
      go_cut [12] (fun x wx => x = .bool true ∧ Hid (∃ v, TwDuo B w wx t r v))
      case first =>
        by_cases d1 : q.what ≤ 1
        case pos =>
          have sS := cover (start_any H4.out.one.tw)
          obtain ⟨b, hb⟩ : ∃ b, b = startsB v := ⟨_, rfl⟩
          obtain ⟨v', hv'⟩ : ∃ v', v' = startB v := ⟨_, rfl⟩
          rw [← hb, ← hv'] at sS
          have HVB : Hid (v' = startB v ∧ b = startsB v) := cover ⟨hv', hb⟩
          clear hb hv'
          go_wp2_with fail
          refine sS.out.mono ?_
          rintro e w4 ⟨rfl, H5'⟩
          have hR := H4.out.late H5'.out
          have HP := cover (H5'.out)
          obtain ⟨w5, hw5, G5, hb5⟩ := sent_var w4 b none 0
          have sR := cover (rstart_any (hR.below hb5.out))
          rw [← HVB.out.1, ← HVB.out.2] at sR
          obtain ⟨g5, hg5⟩ : ∃ g, g = w4.heap.size := ⟨_, rfl⟩
          have HO5 : Hid (TwP w5 t v' ∧ OnlyB t wr w5 ∧ g5 ≠ r ∧ w5.heap[g5]? = some (.cells (sentC b none 0) 30 (0, 0))) := cover ⟨HP.out.1.below hb5.out, HP.out.2.trans (OnlyB.of_below hb5.out), by have := hR.lt; omega, by rw [hg5]; exact G5.out⟩
          clear hR H5' HP G5 hb5 sS
          go_upto_region 24 with (refine wpList_store_row rfl _ _ _ rfl w4.heap.size (sentC b none 0) rfl rfl 30 zp (heap_alloc_new _ _) (sent_size' _ _ _) (sent_nine _ _ _) (sent_one' _ _ _) ?_; rw [show World.setRow (World.alloc w4 _) w4.heap.size (sentC b none 0) = w5 from hw5.out.symm])
          rw [← hg5]
          clear hw5 hg5
          go_wp2_with fail
          refine sR.out.mono ?_
          rintro e w6 ⟨A6, c6, rfl, H6'⟩
          obtain ⟨w7, hw7, G7, hb7⟩ := sent_var w6 b A6 c6
          obtain ⟨g7, hg7⟩ : ∃ g, g = w6.heap.size := ⟨_, rfl⟩
          have G5b := only_keeps HO5.out.2.2.2 H6'.out.2 HO5.out.2.2.1
          have H7 : Hid (TwDuo B w w7 t r v' ∧ w7.heap[g5]? = some (.cells (sentC b none 0) 30 (0, 0)) ∧ w7.heap[g7]? = some (.cells (sentC b A6 c6) 30 (0, 0))) := cover ⟨(H4.out.turn ⟨HO5.out.1, HO5.out.2.1⟩ H6'.out).below hb7.out, (hb7.out.block g5 (block_lt G5b)).trans G5b, by rw [hg7]; exact G7.out⟩
          clear HO5 H6' G7 hb7 sR G5b
          go_upto_region 25 with (refine wpList_store_row rfl _ _ _ rfl w6.heap.size (sentC b A6 c6) rfl rfl 30 zp (heap_alloc_new _ _) (sent_size' _ _ _) (sent_nine _ _ _) (sent_one' _ _ _) ?_; rw [show World.setRow (World.alloc w6 _) w6.heap.size (sentC b A6 c6) = w7 from hw7.out.symm])
          rw [← hg7]
          clear hw7 hg7
          rcases b with _ | _
          · obtain ⟨p0, p1, p2, p3, p4, p5, p6, p7, p8⟩ := pdu_cells (show w7.heap[g5]? = some (.cells zp 30 (0, 0)) from H7.out.2.1)
            obtain ⟨q0, q1, q2, q3, q4, q5, q6, q7, q8⟩ := pdu_cells (show w7.heap[g7]? = some (.cells zp 30 (0, 0)) from H7.out.2.2)
            go_wp2_with fail
            refine (same_zero w7).mono ?_
            rintro e w8 ⟨rfl, hb8⟩
            have HN := cover (H7.out.1.below hb8)
            clear hb8
            go_wp2
            go_meet
            exact ⟨rfl, cover ⟨v', HN.out⟩⟩
          · obtain ⟨p0, p1, p2, p3, p4, p5, p6, p7, p8⟩ := pdu_cells (show w7.heap[g5]? = some (.cells (tstC false none 0) 30 (0, 0)) from H7.out.2.1)
            obtain ⟨q0, q1, q2, q3, q4, q5, q6, q7, q8⟩ := pdu_cells (show w7.heap[g7]? = some (.cells (tstC false A6 c6) 30 (0, 0)) from H7.out.2.2)
            go_wp2_with fail
            refine (same_ask A6 c6 w7).mono ?_
            rintro e w8 ⟨rfl, hb8⟩
            have HN := cover (H7.out.1.below hb8)
            clear hb8
            go_wp2
            go_meet
            exact ⟨rfl, cover ⟨v', HN.out⟩⟩
        by_cases d2 : q.what ≤ 5
        case pos =>
          have sS := cover (tick_any H4.out.one.tw)
          obtain ⟨b, hb⟩ : ∃ b, b = ticksB v := ⟨_, rfl⟩
          obtain ⟨v', hv'⟩ : ∃ v', v' = tickB v := ⟨_, rfl⟩
          rw [← hb, ← hv'] at sS
          have HVB : Hid (v' = tickB v ∧ b = ticksB v) := cover ⟨hv', hb⟩
          clear hb hv'
          go_wp2_with fail
          refine sS.out.mono ?_
          rintro e w4 ⟨rfl, H5'⟩
          have hR := H4.out.late H5'.out
          have HP := cover (H5'.out)
          obtain ⟨w5, hw5, G5, hb5⟩ := sent_var w4 b none 0
          have sR := cover (rtick_any (hR.below hb5.out))
          rw [← HVB.out.1, ← HVB.out.2] at sR
          obtain ⟨g5, hg5⟩ : ∃ g, g = w4.heap.size := ⟨_, rfl⟩
          have HO5 : Hid (TwP w5 t v' ∧ OnlyB t wr w5 ∧ g5 ≠ r ∧ w5.heap[g5]? = some (.cells (sentC b none 0) 30 (0, 0))) := cover ⟨HP.out.1.below hb5.out, HP.out.2.trans (OnlyB.of_below hb5.out), by have := hR.lt; omega, by rw [hg5]; exact G5.out⟩
          clear hR H5' HP G5 hb5 sS
          go_upto_region 28 with (refine wpList_store_row rfl _ _ _ rfl w4.heap.size (sentC b none 0) rfl rfl 30 zp (heap_alloc_new _ _) (sent_size' _ _ _) (sent_nine _ _ _) (sent_one' _ _ _) ?_; rw [show World.setRow (World.alloc w4 _) w4.heap.size (sentC b none 0) = w5 from hw5.out.symm])
          rw [← hg5]
          clear hw5 hg5
          go_wp2_with fail
          refine sR.out.mono ?_
          rintro e w6 ⟨A6, c6, rfl, H6'⟩
          obtain ⟨w7, hw7, G7, hb7⟩ := sent_var w6 b A6 c6
          obtain ⟨g7, hg7⟩ : ∃ g, g = w6.heap.size := ⟨_, rfl⟩
          have G5b := only_keeps HO5.out.2.2.2 H6'.out.2 HO5.out.2.2.1
          have H7 : Hid (TwDuo B w w7 t r v' ∧ w7.heap[g5]? = some (.cells (sentC b none 0) 30 (0, 0)) ∧ w7.heap[g7]? = some (.cells (sentC b A6 c6) 30 (0, 0))) := cover ⟨(H4.out.turn ⟨HO5.out.1, HO5.out.2.1⟩ H6'.out).below hb7.out, (hb7.out.block g5 (block_lt G5b)).trans G5b, by rw [hg7]; exact G7.out⟩
          clear HO5 H6' G7 hb7 sR G5b
          go_upto_region 29 with (refine wpList_store_row rfl _ _ _ rfl w6.heap.size (sentC b A6 c6) rfl rfl 30 zp (heap_alloc_new _ _) (sent_size' _ _ _) (sent_nine _ _ _) (sent_one' _ _ _) ?_; rw [show World.setRow (World.alloc w6 _) w6.heap.size (sentC b A6 c6) = w7 from hw7.out.symm])
          rw [← hg7]
          clear hw7 hg7
          rcases b with _ | _
          · obtain ⟨p0, p1, p2, p3, p4, p5, p6, p7, p8⟩ := pdu_cells (show w7.heap[g5]? = some (.cells zp 30 (0, 0)) from H7.out.2.1)
            obtain ⟨q0, q1, q2, q3, q4, q5, q6, q7, q8⟩ := pdu_cells (show w7.heap[g7]? = some (.cells zp 30 (0, 0)) from H7.out.2.2)
            go_wp2_with fail
            refine (same_zero w7).mono ?_
            rintro e w8 ⟨rfl, hb8⟩
            have HN := cover (H7.out.1.below hb8)
            clear hb8
            go_wp2
            go_meet
            exact ⟨rfl, cover ⟨v', HN.out⟩⟩
          · obtain ⟨p0, p1, p2, p3, p4, p5, p6, p7, p8⟩ := pdu_cells (show w7.heap[g5]? = some (.cells (tstC false none 0) 30 (0, 0)) from H7.out.2.1)
            obtain ⟨q0, q1, q2, q3, q4, q5, q6, q7, q8⟩ := pdu_cells (show w7.heap[g7]? = some (.cells (tstC false A6 c6) 30 (0, 0)) from H7.out.2.2)
            go_wp2_with fail
            refine (same_ask A6 c6 w7).mono ?_
            rintro e w8 ⟨rfl, hb8⟩
            have HN := cover (H7.out.1.below hb8)
            clear hb8
            go_wp2
            go_meet
            exact ⟨rfl, cover ⟨v', HN.out⟩⟩
        obtain ⟨g, hg⟩ : ∃ g, g = wr.heap.size := ⟨_, rfl⟩
        obtain ⟨w4, hw4⟩ : ∃ w4, Hid (w4 = (wr.alloc (.cells zp 30)).setRow g #[.int .i64 q.p.to, .int .i64 q.p.frm, .bool q.p.resp, .int .i64 q.p.form, .int .i64 q.p.kind, .int .i64 q.p.ns, .int .i64 q.p.nr, .bool q.p.poll, .slice q.p_A q.p.info.length q.p_c]) := ⟨_, cover rfl⟩
        have hb4 : Below wr.heap.size wr w4 := by rw [hw4.out, hg]; exact Go.below_setRow ((Below.refl _ _).alloc (Nat.le_refl _) _) (Nat.le_refl _) _
        have G4 : Hid (w4.heap[g]? = some (.cells #[.int .i64 q.p.to, .int .i64 q.p.frm, .bool q.p.resp, .int .i64 q.p.form, .int .i64 q.p.kind, .int .i64 q.p.ns, .int .i64 q.p.nr, .bool q.p.poll, .slice q.p_A q.p.info.length q.p_c] 30 (0, 0))) := cover (by rw [hw4.out, hg]; exact setRow_heap _ _ _ _ _ _ (heap_alloc_new _ _))
        have H5 := cover (H4.out.below hb4)
        have HC4 := cover (HC.out.below (hb4.mono H4.out.one.siz))
        have HG : Hid (B ≤ g) := cover (by rw [hg]; exact H4.out.one.siz)
        have HRT : Hid (g ≠ t ∧ g ≠ r) := cover (by have := H4.out.one.tw.lt; have := H4.out.two.lt; exact ⟨by omega, by omega⟩)
        have c1 := HC.out.c1
        have c2 := HC.out.c2
        have c3 := HC.out.c3
        have c4 := HC.out.c4
        have c5 := HC.out.c5
        have c6 := HC.out.c6
        have c7 := HC.out.c7
        have c8 := HC.out.c8
        have c9 := HC.out.c9
        clear hb4 H4
        go_upto_region 16 with (refine wpList_store_row rfl _ _ _ rfl wr.heap.size #[.int .i64 q.p.to, .int .i64 q.p.frm, .bool q.p.resp, .int .i64 q.p.form, .int .i64 q.p.kind, .int .i64 q.p.ns, .int .i64 q.p.nr, .bool q.p.poll, .slice q.p_A q.p.info.length q.p_c] rfl rfl 30 zp (heap_alloc_new _ _) pdu_size rfl (pdu_one _ _ _ _ _ _ _ _ _ _ _) ?_; rw [← hg, ← hw4.out])
        clear hw4 c0 c1 c2 c3 c4 c5 c6 c7 c8 c9 hg
        have k0 := HC4.out.c0
        have k9 := HC4.out.c9
        go_upto_if 63 with fail
        go_cut [] (fun wx => Hid (∃ x : PV, x.info = q.p.info ∧ wx.heap[g]? = some (.cells #[.int .i64 x.to, .int .i64 x.frm, .bool x.resp, .int .i64 x.form, .int .i64 x.kind, .int .i64 x.ns, .int .i64 x.nr, .bool x.poll, .slice q.p_A x.info.length q.p_c] 30 (0, 0)) ∧ TwDuo B w wx t r v))
        case first =>
          by_cases d7 : q.what = 7
          · obtain ⟨w5, hw5⟩ : ∃ w5, Hid (w5 = w4.setRow g #[.int .i64 0, .int .i64 0, .bool true, .int .i64 2, .int .i64 2, .int .i64 0, .int .i64 0, .bool true, .slice q.p_A q.p.info.length q.p_c]) := ⟨_, cover rfl⟩
            have HN : Hid (∃ x : PV, x.info = q.p.info ∧ w5.heap[g]? = some (.cells #[.int .i64 x.to, .int .i64 x.frm, .bool x.resp, .int .i64 x.form, .int .i64 x.kind, .int .i64 x.ns, .int .i64 x.nr, .bool x.poll, .slice q.p_A x.info.length q.p_c] 30 (0, 0)) ∧ TwDuo B w w5 t r v) := cover ⟨⟨0, 0, true, 2, 2, 0, 0, true, q.p.info⟩, rfl, by rw [hw5.out]; exact setRow_heap _ _ _ _ _ _ G4.out, by
              have h := H5.out
              have e : ∀ i, i ≠ g → w5.heap[i]? = w4.heap[i]? := fun i hi => by rw [hw5.out]; exact setRow_other _ _ _ _ hi
              exact ⟨⟨h.one.tw.keep (e _ (Ne.symm HRT.out.1)), h.one.lo, by rw [hw5.out]; exact Go.below_setRow h.one.bel HG.out _, by rw [hw5.out]; simpa [World.setRow] using h.one.siz⟩, h.two.keep (e _ (Ne.symm HRT.out.2)), h.ne, h.lo⟩⟩
            go_wp2_with (refine wpList_store_row rfl _ _ _ rfl g #[.int .i64 0, .int .i64 0, .bool true, .int .i64 2, .int .i64 2, .int .i64 0, .int .i64 0, .bool true, .slice q.p_A q.p.info.length q.p_c] rfl rfl 30 #[.int .i64 q.p.to, .int .i64 q.p.frm, .bool q.p.resp, .int .i64 q.p.form, .int .i64 q.p.kind, .int .i64 q.p.ns, .int .i64 q.p.nr, .bool q.p.poll, .slice q.p_A q.p.info.length q.p_c] G4.out pdu_size rfl (pdu_one _ _ _ _ _ _ _ _ _ _ _) ?_; rw [← hw5.out])
            go_meet
            exact HN
          · have HN : Hid (∃ x : PV, x.info = q.p.info ∧ w4.heap[g]? = some (.cells #[.int .i64 x.to, .int .i64 x.frm, .bool x.resp, .int .i64 x.form, .int .i64 x.kind, .int .i64 x.ns, .int .i64 x.nr, .bool x.poll, .slice q.p_A x.info.length q.p_c] 30 (0, 0)) ∧ TwDuo B w w4 t r v) := cover ⟨q.p, rfl, G4.out, H5.out⟩
            go_wp2
            go_meet
            exact HN
        case rest =>
          obtain ⟨x, hx, hG, hT⟩ := hcut.out
          have HX := cover hx
          have G6 := cover hG
          have H6 := cover hT
          have HR : Hid (Row wc B q.p_A x.info.length x.info ∧ Bts x.info) := cover (by rw [hx]; exact ⟨HC0.out.row_p.below hT.one.bel, HQ.out.2.1⟩)
          obtain ⟨p0, p1, p2, p3, p4, p5, p6, p7, p8⟩ := pdu_cells G6.out
          clear hcut hx hG hT k0 k9
          by_cases hlong : 2000 < x.info.length
          · have hl2 : (2000 : Int) < (x.info.length : Int) := by omega
            clear hlong
            go_wp2
            go_ret
            exact ⟨rfl, H6.out.one.bel⟩
          have hl2 : ¬ (2000 : Int) < (x.info.length : Int) := by omega
          clear hlong
          have s7 := cover (hear_any H6.out.one.tw x q.p_A q.p_c B HR.out.1 H6.out.one.siz HR.out.2)
          go_wp2_with fail
          refine s7.out.mono ?_
          rintro e w7 ⟨rfl, H7'⟩
          have HP := cover H7'.out
          have G7 := cover (only_keeps G6.out HP.out.2 HRT.out.1)
          have s8 := cover (rhear_any (H6.out.late HP.out) x q.p_A q.p_c)
          obtain ⟨v', hv'⟩ : ∃ v', v' = hearB (ansB x) v := ⟨_, rfl⟩
          obtain ⟨y, hy⟩ : ∃ y, y = hearsB (ansB x) v := ⟨_, rfl⟩
          rw [← hv', ← hy] at s8
          rw [← hv'] at HP
          rw [← hy]
          clear hv' hy H7' s7 p0 p1 p2 p3 p4 p5 p6 p7 p8
          obtain ⟨p0, p1, p2, p3, p4, p5, p6, p7, p8⟩ := pdu_cells G7.out
          go_wp2_with fail
          refine s8.out.mono ?_
          rintro e w8 ⟨rfl, H8'⟩
          have HN : Hid (∃ v, TwDuo B w w8 t r v) := cover ⟨v', H6.out.turn HP.out H8'.out⟩
          clear H8' s8 p0 p1 p2 p3 p4 p5 p6 p7 p8
          go_wp2
          go_meet
          exact ⟨by simp, HN⟩
      case rest =>
        obtain ⟨rfl, hdone⟩ := hcut
        obtain ⟨v', h9⟩ := hdone.out
        have H9 := cover h9
        obtain ⟨u, hh, _⟩ := h9.one.tw.hd
        have sS : Hid (∀ d, Calls Try.prog 11 #[ptr t] (wc.drewN d) fun e W' => e = .returned (.int .i64 v'.s) ∧ W' = wc.drewN d) := cover fun d => state_any (W := wc.drewN d) hh
        obtain ⟨r0, r1, r2, r3, r4⟩ := five_cells h9.two.hd
        have HNX : Hid (∀ d, ∃ v, TwDuo B w (wc.drewN d) t r v) := cover fun d => ⟨v', ⟨H9.out.one.tw.keep rfl, H9.out.one.lo, below_drewN H9.out.one.bel d, H9.out.one.siz⟩, H9.out.two.keep rfl, H9.out.ne, H9.out.lo⟩
        obtain ⟨z, hz⟩ : ∃ z, z = v'.s := ⟨_, rfl⟩
        rw [← hz] at r2 sS
        clear hdone h9 hh hz H9 c0
        go_upto_region 30 with fail
        go_region_held3 (fun W' : World => W'.cell? ⟨r, 2, none⟩ = some (.int .i64 z) ∧ ∃ d, W' = wc.drewN d)
          (first
            | exact ⟨r2, 1, rfl⟩)
          ((go_at_call 11; refine (sS.out _).mono ?_; rintro e wX ⟨rfl, rfl⟩))
        go_wp2
        go_roundw
        case rel => exact ⟨j + 1, by omega, by go_num, HNX.out _⟩
        case measure => simp [intOf]; omega
    · have HE := hrel.out
      obtain ⟨v, h4⟩ := HE
      have HN := cover h4.one.bel
      obtain rfl : j = len := by omega
      clear hrel h4
      go_wp2
      go_ret
      exact ⟨rfl, HN.out⟩
end Go.Proofs.Ytbhdncbnjlgigaa
