/- What the document's own Twin does. -/
import Derived.Deep.CutBlock
import Derived.Deep.DeepCutAuto
import Derived.Test.YtbhdncbnjlgigaaOCopy
import Derived.Test.YtbhdncbnjlgigaaBHear
namespace Go.Proofs.Ytbhdncbnjlgigaa
open Go.RowKit
set_option linter.unusedVariables false
set_option linter.unusedSimpArgs false

/-- a Twin of the document's at block r that stands so -/
structure TwR (W : World) (r : Nat) (v : BV) : Prop where
  ok : BOk v
  hd : W.heap[r]? = some (.cells (twC v.n v.w v.s v.k v.l) 42 (0, 0))
theorem TwR.lt {W : World} {t : Nat} {v : BV} (h : TwR W t v) : t < W.heap.size := block_lt h.hd
theorem TwR.keep {W W' : World} {t : Nat} {v : BV} (h : TwR W t v) (hk : W'.heap[t]? = W.heap[t]?) : TwR W' t v := ⟨h.ok, hk.trans h.hd⟩
theorem TwR.below {W W' : World} {t : Nat} {v : BV} (h : TwR W t v) (hb : Below W.heap.size W W') : TwR W' t v := h.keep (hb.block t h.lt)
theorem TwR.only {W W' : World} {t g : Nat} {v : BV} (h : TwR W t v) (hb : OnlyB g W W') (hne : t ≠ g) : TwR W' t v := h.keep (hb.block t h.lt (fun e => hne (by injection e)))

theorem rcommand_nil (W : World) : Calls Try.prog 31 #[.int .i64 0, .int .i64 0, .int .i64 2, .bool true, .slice none 0 0] W fun e W' => ∃ A c, e = .returned (.agg (tstC false A c)) ∧ Below W.heap.size W W' := by
  obtain ⟨w1, hw1⟩ : ∃ w1, w1 = W.alloc (.cells zp 30) := ⟨_, rfl⟩
  obtain ⟨g, hg⟩ : ∃ g, g = W.heap.size := ⟨_, rfl⟩
  have HG := cover hg
  have H1 : Hid (Below g W w1) := cover (by rw [hw1, hg]; exact (Below.refl _ _).alloc (Nat.le_refl _) _)
  have G1 : Hid (w1.heap[g]? = some (.cells zp 30 (0, 0))) := cover (by rw [hw1, hg]; exact heap_alloc_new _ _)
  have HC := cover (copy_any none 0 0 0 [] w1 RowK.none_ (Nat.zero_le _) (by omega))
  go_enter Try.func31, Try.ntmps31
  go_upto_region 1 with fail
  rw [← hw1, ← hg]
  clear hw1 hg
  go_wp2_with fail
  refine HC.out.mono ?_
  rintro e w2 ⟨A, c, rfl, _, hb2⟩
  have G2 := cover ((hb2.block g (block_lt G1.out)).trans G1.out)
  have H2 := cover (H1.out.trans (hb2.mono (by have := HG.out; have := H1.out.size; omega)))
  clear hb2
  go_wp2_with (refine wpList_store_row rfl _ _ _ rfl g (tstC false A c) rfl rfl 30 zp G2.out pdu_size rfl (tst_one _ _ _) ?_)
  exact bodyPost_ret (v := .agg (tstC false A c)) (results_cell_row (by rfl) _ _ g _ (tstC false A c) (0, 0) _ rfl (setRow_heap _ _ _ _ _ _ G2.out) Try.underlying30 rfl pdu_size) rfl ⟨A, c, rfl, by rw [← HG.out]; exact Go.below_setRow H2.out (Nat.le_refl _) _⟩

set_option maxHeartbeats 800000 in
theorem rask_any {W : World} {t : Nat} {n w s k u : Int} (h : W.heap[t]? = some (.cells (twC n w s k u) 42 (0, 0))) (hk : 0 ≤ k ∧ k ≤ 1000) :
    Calls Try.prog 23 #[ptr t] W fun e W' => ∃ A c, e = .returned (.agg (tstC false A c)) ∧ Hid (W'.heap[t]? = some (.cells (twC n w s (k + 1) w) 42 (0, 0)) ∧ OnlyB t W W') := by
  obtain ⟨w1, hw1⟩ : ∃ w1, w1 = W.alloc (.cells zp 30) := ⟨_, rfl⟩
  obtain ⟨g, hg⟩ : ∃ g, g = W.heap.size := ⟨_, rfl⟩
  have hlt := block_lt h
  have hb1 : Below W.heap.size W w1 := by rw [hw1]; exact (Below.refl _ _).alloc (Nat.le_refl _) _
  have T1 := (hb1.block t hlt).trans h
  have G1 : w1.heap[g]? = some (.cells zp 30 (0, 0)) := by rw [hw1, hg]; exact heap_alloc_new _ _
  obtain ⟨w2, hw2⟩ : ∃ w2, Hid (w2 = w1.setCell ⟨t, 3, none⟩ (.int .i64 (k + 1))) := ⟨_, cover rfl⟩
  have T2 : w2.heap[t]? = some (.cells (twC n w s (k + 1) u) 42 (0, 0)) := by rw [hw2.out, set_block T1]; rfl
  obtain ⟨w3, hw3⟩ : ∃ w3, Hid (w3 = w2.setCell ⟨t, 4, none⟩ (.int .i64 w)) := ⟨_, cover rfl⟩
  have T3 : Hid (w3.heap[t]? = some (.cells (twC n w s (k + 1) w) 42 (0, 0))) := cover (by rw [hw3.out, set_block T2]; rfl)
  have G3 : Hid (w3.heap[g]? = some (.cells zp 30 (0, 0))) := cover (by rw [hw3.out, set_other _ _ (by omega), hw2.out, set_other _ _ (by omega)]; exact G1)
  have O3 : Hid (OnlyB t W w3) := cover (by
    rw [hw3.out, hw2.out]
    exact ((OnlyB.of_below hb1).setCell 3 _).setCell 4 _)
  have HW : wrap64 (k + 1) = k + 1 := IntWalk.wrap64_in _ ⟨by omega, by omega⟩
  have HNE : Hid (t ≠ g) := cover (by omega)
  have HG := cover hg
  obtain ⟨c0, c1, c2, c3, c4⟩ := five_cells T1
  obtain ⟨d0, d1, d2, d3, d4⟩ := five_cells T2
  have F1 := not_frozen T1 3
  have F2 := not_frozen T2 4
  clear hb1 hlt h G1 T1 T2 hk
  go_enter Try.func23, Try.ntmps23
  go_upto_region 1 with fail
  rw [← hw1, ← hg]
  clear hw1 hg
  go_wp2_with (first
    | (rw [← hw2.out])
    | (rw [← hw3.out]))
  refine (rcommand_nil w3).mono ?_
  rintro e w4 ⟨A, c, rfl, hb4⟩
  have T4 := cover ((hb4.block t (block_lt T3.out)).trans T3.out)
  have G4 := cover ((hb4.block g (block_lt G3.out)).trans G3.out)
  have O4 := cover (O3.out.trans (OnlyB.of_below hb4))
  clear hb4 c0 c1 c2 c3 c4 d0 d1 d2 d3 d4 F1 F2
  go_wp2_with (refine wpList_store_row rfl _ _ _ rfl g (tstC false A c) rfl rfl 30 zp G4.out pdu_size rfl (tst_one _ _ _) ?_)
  exact bodyPost_ret (v := .agg (tstC false A c)) (results_cell_row (by rfl) _ _ g _ (tstC false A c) (0, 0) _ rfl (setRow_heap _ _ _ _ _ _ G4.out) Try.underlying30 rfl pdu_size) rfl
    ⟨A, c, rfl, cover ⟨by rw [setRow_other _ _ _ _ HNE.out]; exact T4.out, OnlyB.setRow_new O4.out (by have := HG.out; omega) _⟩⟩

/-- what Start and Tick hand back, and what becomes of the Twin -/
def RSendOut (W : World) (r : Nat) (v : BV) (b : Bool) (e : Ending) (W' : World) : Prop :=
  ∃ A c, e = .returned (.tuple #[.agg (sentC b A c), .bool b]) ∧ Hid (TwR W' r v ∧ OnlyB r W W')

set_option maxHeartbeats 1600000 in
theorem rstart_any {W : World} {t : Nat} {v : BV} (h : TwR W t v) :
    Calls Try.prog 13 #[ptr t] W (RSendOut W t (startB v) (startsB v)) := by
  obtain ⟨w1, hw1⟩ : ∃ w1, w1 = W.alloc (.cells zp 30) := ⟨_, rfl⟩
  obtain ⟨g, hg⟩ : ∃ g, g = W.heap.size := ⟨_, rfl⟩
  have hb1 : Below W.heap.size W w1 := by rw [hw1]; exact (Below.refl _ _).alloc (Nat.le_refl _) _
  have H1 := h.below hb1
  have G1 : Hid (w1.heap[g]? = some (.cells zp 30 (0, 0))) := cover (by rw [hw1, hg]; exact heap_alloc_new _ _)
  have HNE : Hid (g ≠ t) := cover (by have := h.lt; omega)
  have HG := cover hg
  have O1 : Hid (OnlyB t W w1) := cover (OnlyB.of_below hb1)
  have T1 := cover H1.hd
  obtain ⟨c0, c1, c2, c3, c4⟩ := five_cells H1.hd
  have HOK := cover h.ok
  clear hb1 H1 h
  by_cases hs : v.s = 1
  · rw [(startB_not hs).1, (startB_not hs).2]
    rw [hs] at c2
    clear hs
    go_enter Try.func13, Try.ntmps13
    go_upto_region 1 with fail
    rw [← hw1, ← hg]
    clear hw1 hg
    go_wp2_with (refine wpList_store_row rfl _ _ _ rfl g zp rfl rfl 30 zp G1.out pdu_size rfl zp_one ?_)
    exact bodyPost_ret (v := .tuple #[.agg zp, .bool false]) (results_cell_and (by rfl) _ _ g _ zp (0, 0) _ (.bool false) rfl (setRow_heap _ _ _ _ _ _ G1.out) rfl Try.underlying30 rfl pdu_size) rfl
      ⟨none, 0, rfl, cover ⟨⟨HOK.out, by rw [setRow_other _ _ _ _ (Ne.symm HNE.out)]; exact T1.out⟩, OnlyB.setRow_new O1.out (by have := HG.out; omega) _⟩⟩
  · have hok := HOK.out.start
    rw [(startB_yes hs).1] at hok
    rw [(startB_yes hs).1, (startB_yes hs).2]
    have hs1 : (v.s == 1) = false := by simpa using hs
    obtain ⟨w2, hw2⟩ : ∃ w2, Hid (w2 = w1.setCell ⟨t, 2, none⟩ (.int .i64 1)) := ⟨_, cover rfl⟩
    have T2 : w2.heap[t]? = some (.cells (twC v.n v.w 1 v.k v.l) 42 (0, 0)) := by rw [hw2.out, set_block T1.out]; rfl
    obtain ⟨w3, hw3⟩ : ∃ w3, Hid (w3 = w2.setCell ⟨t, 3, none⟩ (.int .i64 0)) := ⟨_, cover rfl⟩
    have T3 : w3.heap[t]? = some (.cells (twC v.n v.w 1 0 v.l) 42 (0, 0)) := by rw [hw3.out, set_block T2]; rfl
    have G3 : Hid (w3.heap[g]? = some (.cells zp 30 (0, 0))) := cover (by rw [hw3.out, set_other _ _ HNE.out, hw2.out, set_other _ _ HNE.out]; exact G1.out)
    have O3 : Hid (OnlyB t W w3) := cover (by rw [hw3.out, hw2.out]; exact (O1.out.setCell 2 _).setCell 3 _)
    have HA := cover (rask_any T3 (by omega))
    obtain ⟨d0, d1, d2, d3, d4⟩ := five_cells T2
    have F1 := not_frozen T1.out 2
    have F2 := not_frozen T2 3
    have HOK' := cover hok
    clear T2 T3 hok hs
    go_enter Try.func13, Try.ntmps13
    go_upto_region 1 with fail
    rw [← hw1, ← hg]
    clear hw1 hg
    go_wp2_with (first
      | (rw [← hw2.out])
      | (rw [← hw3.out]))
    refine HA.out.mono ?_
    rintro e w4 ⟨A, c, rfl, H4⟩
    have G4 := cover (only_keeps G3.out H4.out.2 HNE.out)
    clear c0 c1 c2 c3 c4 d0 d1 d2 d3 d4 F1 F2
    go_wp2_with (refine wpList_store_row rfl _ _ _ rfl g (tstC false A c) rfl rfl 30 zp G4.out pdu_size rfl (tst_one _ _ _) ?_)
    exact bodyPost_ret (v := .tuple #[.agg (tstC false A c), .bool true]) (results_cell_and (by rfl) _ _ g _ (tstC false A c) (0, 0) _ (.bool true) rfl (setRow_heap _ _ _ _ _ _ G4.out) rfl Try.underlying30 rfl pdu_size) rfl
      ⟨A, c, rfl, cover ⟨⟨HOK'.out, by rw [setRow_other _ _ _ _ (Ne.symm HNE.out)]; exact H4.out.1⟩, OnlyB.setRow_new (O3.out.trans H4.out.2) (by have := HG.out; omega) _⟩⟩
set_option maxHeartbeats 1600000 in
theorem rtick_any {W : World} {t : Nat} {v : BV} (h : TwR W t v) :
    Calls Try.prog 16 #[ptr t] W (RSendOut W t (tickB v) (ticksB v)) := by
  obtain ⟨w1, hw1⟩ : ∃ w1, w1 = W.alloc (.cells zp 30) := ⟨_, rfl⟩
  obtain ⟨g, hg⟩ : ∃ g, g = W.heap.size := ⟨_, rfl⟩
  have hb1 : Below W.heap.size W w1 := by rw [hw1]; exact (Below.refl _ _).alloc (Nat.le_refl _) _
  have H1 := h.below hb1
  have G1 : Hid (w1.heap[g]? = some (.cells zp 30 (0, 0))) := cover (by rw [hw1, hg]; exact heap_alloc_new _ _)
  have HNE : Hid (g ≠ t) := cover (by have := h.lt; omega)
  have HG := cover hg
  have O1 : Hid (OnlyB t W w1) := cover (OnlyB.of_below hb1)
  have T1 := cover H1.hd
  obtain ⟨c0, c1, c2, c3, c4⟩ := five_cells H1.hd
  have HOK := cover h.ok
  clear hb1 H1 h
  by_cases hs : v.s = 1
  case neg =>
    rw [(tickB_rest hs).1, (tickB_rest hs).2]
    have hs1 : (v.s == 1) = false := by simpa using hs
    go_enter Try.func16, Try.ntmps16
    go_upto_region 1 with fail
    rw [← hw1, ← hg]
    clear hw1 hg
    go_wp2_with (refine wpList_store_row rfl _ _ _ rfl g zp rfl rfl 30 zp G1.out pdu_size rfl zp_one ?_)
    exact bodyPost_ret (v := .tuple #[.agg zp, .bool false]) (results_cell_and (by rfl) _ _ g _ zp (0, 0) _ (.bool false) rfl (setRow_heap _ _ _ _ _ _ G1.out) rfl Try.underlying30 rfl pdu_size) rfl
      ⟨none, 0, rfl, cover ⟨⟨HOK.out, by rw [setRow_other _ _ _ _ (Ne.symm HNE.out)]; exact T1.out⟩, OnlyB.setRow_new O1.out (by have := HG.out; omega) _⟩⟩
  have hok := HOK.out.tick
  have h5 := HOK.out.2.2.2.2 hs
  have h6 := HOK.out.1.2
  have h7 := HOK.out.2.2.2.1
  have h8 := HOK.out.2.2.1
  have h9 := HOK.out.1.1
  obtain ⟨x, hx⟩ : ∃ x, v.l - 1 = x := ⟨_, rfl⟩
  have HW : wrap64 (v.l - 1) = x := by rw [← hx]; exact IntWalk.wrap64_in _ ⟨by omega, by omega⟩
  obtain ⟨w2, hw2⟩ : ∃ w2, Hid (w2 = w1.setCell ⟨t, 4, none⟩ (.int .i64 x)) := ⟨_, cover rfl⟩
  have T2 : Hid (w2.heap[t]? = some (.cells (twC v.n v.w 1 v.k x) 42 (0, 0))) := cover (by rw [hw2.out, set_block T1.out, hs]; rfl)
  have G2 : Hid (w2.heap[g]? = some (.cells zp 30 (0, 0))) := cover (by rw [hw2.out, set_other _ _ HNE.out]; exact G1.out)
  have O2 : Hid (OnlyB t W w2) := cover (by rw [hw2.out]; exact O1.out.setCell 4 _)
  obtain ⟨d0, d1, d2, d3, d4⟩ := five_cells T2.out
  have F1 := not_frozen T1.out 4
  rw [hs] at c2
  have HX := cover hx
  by_cases hl : 1 < v.l
  case pos =>
    have e1 : tickB v = { v with l := v.l - 1 } := by unfold tickB; rw [if_pos hs, if_pos hl]
    have e2 : ticksB v = false := decide_eq_false (fun hx => by have := hx.2.1; omega)
    rw [e1] at hok
    rw [e1, e2, hx]
    rw [hx] at hok
    have HOK' := cover hok
    have HS := cover hs
    have hl0 : x > 0 := by omega
    have T2' : Hid (w2.heap[t]? = some (.cells (twC v.n v.w v.s v.k x) 42 (0, 0))) := cover (by rw [hs]; exact T2.out)
    clear e1 e2 hok hl h5 h6 h7 h8 h9 hx hs
    go_enter Try.func16, Try.ntmps16
    go_upto_region 1 with fail
    rw [← hw1, ← hg]
    clear hw1 hg
    go_wp2_with (first
      | (rw [← hw2.out])
      | (refine wpList_store_row rfl _ _ _ rfl g zp rfl rfl 30 zp G2.out pdu_size rfl zp_one ?_))
    exact bodyPost_ret (v := .tuple #[.agg zp, .bool false]) (results_cell_and (by rfl) _ _ g _ zp (0, 0) _ (.bool false) rfl (setRow_heap _ _ _ _ _ _ G2.out) rfl Try.underlying30 rfl pdu_size) rfl
      ⟨none, 0, rfl, cover ⟨⟨HOK'.out, by rw [setRow_other _ _ _ _ (Ne.symm HNE.out)]; exact T2'.out⟩, OnlyB.setRow_new O2.out (by have := HG.out; omega) _⟩⟩
  have hl0 : ¬ x > 0 := by omega
  have HL0 := cover hl0
  by_cases hk : v.k < v.n
  case pos =>
    have e1 : tickB v = { v with k := v.k + 1, l := v.w } := by unfold tickB; rw [if_pos hs, if_neg hl, if_pos hk]
    have e2 : ticksB v = true := decide_eq_true ⟨hs, by omega, hk⟩
    rw [e1] at hok
    rw [e1, e2]
    have HOK' := cover hok
    have hk2 : ¬ v.k ≥ v.n := by omega
    have HA : Hid (∀ d, Calls Try.prog 23 #[ptr t] (w2.drewN d) fun e W' => ∃ A c, e = .returned (.agg (tstC false A c)) ∧ Hid (W'.heap[t]? = some (.cells (twC v.n v.w 1 (v.k + 1) v.w) 42 (0, 0)) ∧ OnlyB t (w2.drewN d) W')) := cover fun d => rask_any (W := w2.drewN d) T2.out (by omega)
    have HS := cover hs
    clear e1 e2 hok hl h5 h6 h7 h8 h9 hx hs
    go_enter Try.func16, Try.ntmps16
    go_upto_region 1 with fail
    rw [← hw1, ← hg]
    clear hw1 hg
    go_wp2_with (rw [← hw2.out])
    go_quiet (fail)
    go_wp2_with fail
    refine (HA.out _).mono ?_
    rintro e w4 ⟨A, c, rfl, H4⟩
    have G4 : Hid (w4.heap[g]? = some (.cells zp 30 (0, 0))) := cover (only_keeps (w := World.drewN w2 _) G2.out H4.out.2 HNE.out)
    clear c0 c1 c2 c3 c4 d0 d1 d2 d3 d4 F1
    go_wp2_with (refine wpList_store_row rfl _ _ _ rfl g (tstC false A c) rfl rfl 30 zp G4.out pdu_size rfl (tst_one _ _ _) ?_)
    exact bodyPost_ret (v := .tuple #[.agg (tstC false A c), .bool true]) (results_cell_and (by rfl) _ _ g _ (tstC false A c) (0, 0) _ (.bool true) rfl (setRow_heap _ _ _ _ _ _ G4.out) rfl Try.underlying30 rfl pdu_size) rfl
      ⟨A, c, rfl, cover ⟨⟨HOK'.out, by rw [setRow_other _ _ _ _ (Ne.symm HNE.out), H4.out.1]; simp only [HS.out]⟩, OnlyB.setRow_new ((O2.out.drewN _).trans H4.out.2) (by have := HG.out; omega) _⟩⟩
  case neg =>
    have e1 : tickB v = { v with s := 2, l := 0 } := by unfold tickB; rw [if_pos hs, if_neg hl, if_neg hk]
    have e2 : ticksB v = false := decide_eq_false (fun hx => hk hx.2.2)
    rw [e1] at hok
    rw [e1, e2]
    have HOK' := cover hok
    have hk2 : v.k ≥ v.n := by omega
    have HX0 : Hid (x = 0) := cover (by omega)
    clear e1 e2 hok hl h5 h6 h7 h8 h9 hx hs
    go_enter Try.func16, Try.ntmps16
    go_upto_region 1 with fail
    rw [← hw1, ← hg]
    clear hw1 hg
    go_wp2_with (rw [← hw2.out])
    go_quiet (fail)
    generalize hw3 : World.drewN w2 _ = w3
    have T3 : w3.heap[t]? = some (.cells (twC v.n v.w 1 v.k x) 42 (0, 0)) := by rw [← hw3]; exact T2.out
    have G3 : w3.heap[g]? = some (.cells zp 30 (0, 0)) := by rw [← hw3]; exact G2.out
    have O3 : Hid (OnlyB t W w3) := cover (by rw [← hw3]; exact O2.out.drewN _)
    obtain ⟨w4, hw4⟩ : ∃ w4, Hid (w4 = w3.setCell ⟨t, 2, none⟩ (.int .i64 2)) := ⟨_, cover rfl⟩
    have T4 : Hid (w4.heap[t]? = some (.cells (twC v.n v.w 2 v.k 0) 42 (0, 0))) := cover (by rw [hw4.out, set_block T3, HX0.out]; rfl)
    have G4 : Hid (w4.heap[g]? = some (.cells zp 30 (0, 0))) := cover (by rw [hw4.out, set_other _ _ HNE.out]; exact G3)
    have O4 : Hid (OnlyB t W w4) := cover (by rw [hw4.out]; exact O3.out.setCell 2 _)
    have F3 := not_frozen T3 2
    obtain ⟨e0, e1, e2, e3, e4⟩ := five_cells T3
    clear hw3 c0 c1 c2 c3 c4 d0 d1 d2 d3 d4 F1 T3 G3
    go_wp2_with (first
      | (rw [← hw4.out])
      | (refine wpList_store_row rfl _ _ _ rfl g zp rfl rfl 30 zp G4.out pdu_size rfl zp_one ?_))
    exact bodyPost_ret (v := .tuple #[.agg zp, .bool false]) (results_cell_and (by rfl) _ _ g _ zp (0, 0) _ (.bool false) rfl (setRow_heap _ _ _ _ _ _ G4.out) rfl Try.underlying30 rfl pdu_size) rfl
      ⟨none, 0, rfl, cover ⟨⟨HOK'.out, by rw [setRow_other _ _ _ _ (Ne.symm HNE.out)]; exact T4.out⟩, OnlyB.setRow_new O4.out (by have := HG.out; omega) _⟩⟩

theorem ansB_iff {p : PV} : ansB p = true ↔ MayP p ∧ p.form = 2 ∧ p.kind = 2 ∧ p.resp = true ∧ p.to = 0 ∧ p.frm = 0 ∧ p.poll = true := by
  unfold ansB
  rw [Bool.and_eq_true, eqB_iff, mayB_iff]
  constructor
  · rintro ⟨h1, h2⟩
    exact ⟨h2, congrArg PV.form h1, congrArg PV.kind h1, congrArg PV.resp h1, congrArg PV.to h1, congrArg PV.frm h1, congrArg PV.poll h1⟩
  · rintro ⟨h2, h3, h4, h5, h6, h7, h8⟩
    have hf := h2.2
    unfold MayF at hf
    rcases hf with hf | hf | hf
    · omega
    · omega
    · exact ⟨PV.ext' h6 h7 h5 h3 h4 hf.2.1 hf.2.2.1 h8 rfl, h2⟩
theorem ansB_no {p : PV} (h : ¬ (MayP p ∧ p.form = 2 ∧ p.kind = 2 ∧ p.resp = true ∧ p.to = 0 ∧ p.frm = 0 ∧ p.poll = true)) : ansB p = false := by
  cases he : ansB p
  · rfl
  · exact absurd (ansB_iff.1 he) h
/-- what the document's Hear hands back -/
def RHearOut (W : World) (t : Nat) (v : BV) (b : Bool) (e : Ending) (W' : World) : Prop := e = .returned (.bool b) ∧ Hid (TwR W' t v ∧ OnlyB t W W')
set_option maxHeartbeats 3200000 in
theorem rhear_any {W : World} {t : Nat} {v : BV} (h : TwR W t v) (p : PV) (A : Option Addr) (c : Nat) :
    Calls Try.prog 17 #[ptr t, .agg #[.int .i64 p.to, .int .i64 p.frm, .bool p.resp, .int .i64 p.form, .int .i64 p.kind, .int .i64 p.ns, .int .i64 p.nr, .bool p.poll, .slice A p.info.length c]] W (RHearOut W t (hearB (ansB p) v) (hearsB (ansB p) v)) := by
  obtain ⟨g, hg⟩ : ∃ g, g = W.heap.size := ⟨_, rfl⟩
  obtain ⟨w1, hw1⟩ : ∃ w1, w1 = W.alloc (.cells #[.int .i64 p.to, .int .i64 p.frm, .bool p.resp, .int .i64 p.form, .int .i64 p.kind, .int .i64 p.ns, .int .i64 p.nr, .bool p.poll, .slice A p.info.length c] 30) := ⟨_, rfl⟩
  have hb1 : Below W.heap.size W w1 := by rw [hw1]; exact (Below.refl _ _).alloc (Nat.le_refl _) _
  have T1 := cover (h.below hb1)
  have O1 : Hid (OnlyB t W w1) := cover (OnlyB.of_below hb1)
  have G1 : Hid (w1.heap[g]? = some (.cells #[.int .i64 p.to, .int .i64 p.frm, .bool p.resp, .int .i64 p.form, .int .i64 p.kind, .int .i64 p.ns, .int .i64 p.nr, .bool p.poll, .slice A p.info.length c] 30 (0, 0))) := cover (by rw [hw1, hg]; exact heap_alloc_new _ _)
  obtain ⟨c0, c1, c2, c3, c4⟩ := five_cells T1.out.hd
  have HM := cover (ref_may_any p A c w1)
  have HOK := cover h.ok
  clear hb1 h
  by_cases hs : v.s = 1
  case neg =>
    have HT : Hid (hearB (ansB p) v = v ∧ hearsB (ansB p) v = false) := cover (hearB_rest _ hs)
    rw [HT.out.1, HT.out.2]
    have hs1 : (v.s == 1) = false := by simpa using hs
    clear HT
    go_enter Try.func17, Try.ntmps17
    go_upto_region 1 with fail
    rw [← hw1, ← hg]
    clear hw1 hg
    go_wp2
    go_ret
    exact ⟨rfl, cover ⟨T1.out, O1.out⟩⟩
  have HV := cover hs
  have HNO : Hid (∀ w2, Below w1.heap.size w1 w2 → ansB p = false → RHearOut W t (hearB (ansB p) v) (hearsB (ansB p) v) (.returned (.bool false)) w2) := cover fun w2 hb2 hn => by
    rw [hn, (hearB_not v).1, (hearB_not v).2]
    exact ⟨rfl, cover ⟨T1.out.below hb2, O1.out.trans (OnlyB.of_below hb2)⟩⟩
  have HYES : Hid (∀ w2, Below w1.heap.size w1 w2 → ansB p = true → RHearOut W t (hearB (ansB p) v) (hearsB (ansB p) v) (.returned (.bool true)) (w2.setCell ⟨t, 2, none⟩ (.int .i64 3))) := cover fun w2 hb2 hn => by
    have T2 := T1.out.below hb2
    rw [hn, (hearB_yes HV.out).1, (hearB_yes HV.out).2]
    refine ⟨rfl, cover ⟨⟨?_, by rw [set_block T2.hd]; rfl⟩, (O1.out.trans (OnlyB.of_below hb2)).setCell 2 _⟩⟩
    have := HOK.out.hear true
    rw [(hearB_yes HV.out).1] at this
    exact this
  obtain ⟨v', hv'⟩ : ∃ v', v' = hearB (ansB p) v := ⟨_, rfl⟩
  obtain ⟨b', hb'⟩ : ∃ b', b' = hearsB (ansB p) v := ⟨_, rfl⟩
  rw [← hv', ← hb'] at HNO HYES ⊢
  rw [hs] at c2
  clear hs hv' hb'
  go_enter Try.func17, Try.ntmps17
  go_upto_region 1 with fail
  rw [← hw1, ← hg]
  clear hw1 hg
  obtain ⟨p0, p1, p2, p3, p4, p5, p6, p7, p8⟩ := pdu_cells G1.out
  go_wp2_with fail
  refine HM.out.mono ?_
  rintro e w2 ⟨rfl, hb2⟩
  have G2 := (hb2.block g (block_lt G1.out)).trans G1.out
  have T2 := (hb2.block t (block_lt T1.out.hd)).trans T1.out.hd
  have HB2 := cover hb2
  clear hb2 c0 c1 c2 c3 c4 p0 p1 p2 p3 p4 p5 p6 p7 p8
  obtain ⟨p0, p1, p2, p3, p4, p5, p6, p7, p8⟩ := pdu_cells G2
  obtain ⟨c0, c1, c2, c3, c4⟩ := five_cells T2
  have F2 := not_frozen T2 2
  rw [HV.out] at c2
  clear G2 T2
  rcases h0 : mayB p with _ | _
  case false =>
    have HE : Hid (ansB p = false) := cover (ansB_no (fun e => by have := mayB_iff.2 e.1; rw [h0] at this; cases this))
    clear h0
    go_wp2
    go_ret
    exact HNO.out _ HB2.out HE.out
  by_cases h1 : p.form = 2
  case neg =>
    have HE : Hid (ansB p = false) := cover (ansB_no (fun e => h1 e.2.1))
    have hb1 : (p.form == 2) = false := by simpa using h1
    clear h0
    go_wp2
    go_ret
    exact HNO.out _ HB2.out HE.out
  by_cases h2 : p.kind = 2
  case neg =>
    have HE : Hid (ansB p = false) := cover (ansB_no (fun e => h2 e.2.2.1))
    have hb2 : (p.kind == 2) = false := by simpa using h2
    clear h0
    go_wp2
    go_ret
    exact HNO.out _ HB2.out HE.out
  rcases h3 : p.resp with _ | _
  case false =>
    have HE : Hid (ansB p = false) := cover (ansB_no (fun e => by have := e.2.2.2.1; rw [h3] at this; cases this))
    clear h0
    go_wp2
    go_ret
    exact HNO.out _ HB2.out HE.out
  by_cases h4 : p.to = 0
  case neg =>
    have HE : Hid (ansB p = false) := cover (ansB_no (fun e => h4 e.2.2.2.2.1))
    have hb4 : (p.to == 0) = false := by simpa using h4
    clear h0
    go_wp2
    go_ret
    exact HNO.out _ HB2.out HE.out
  by_cases h5 : p.frm = 0
  case neg =>
    have HE : Hid (ansB p = false) := cover (ansB_no (fun e => h5 e.2.2.2.2.2.1))
    have hb5 : (p.frm == 0) = false := by simpa using h5
    clear h0
    go_wp2
    go_ret
    exact HNO.out _ HB2.out HE.out
  rcases h6 : p.poll with _ | _
  case false =>
    have HE : Hid (ansB p = false) := cover (ansB_no (fun e => by have := e.2.2.2.2.2.2; rw [h6] at this; cases this))
    clear h0
    go_wp2
    go_ret
    exact HNO.out _ HB2.out HE.out
  have HE : Hid (ansB p = true) := cover (ansB_iff.2 ⟨mayB_iff.1 h0, h1, h2, h3, h4, h5, h6⟩)
  clear h0
  go_wp2
  go_ret
  exact HYES.out _ HB2.out HE.out
/-- a new one, or none -/
theorem rnew_yes {n wt : Int} (h : okB n wt) (W : World) : Calls Try.prog 12 #[.int .i64 n, .int .i64 wt] W fun e W' => ∃ t, e = .returned (.tuple #[ptr t, .int .i64 0]) ∧ Hid (TwR W' t (zB n wt) ∧ Below W.heap.size W W' ∧ W.heap.size ≤ t) := by
  obtain ⟨w1, hw1⟩ : ∃ w1, Hid (w1 = W.alloc (.cells (twC n wt 0 0 0) 42)) := ⟨_, cover rfl⟩
  have HN : Hid (TwR w1 W.heap.size (zB n wt) ∧ Below W.heap.size W w1 ∧ W.heap.size ≤ W.heap.size) := cover (by
    rw [hw1.out]
    exact ⟨⟨BOk.zero h, heap_alloc_new _ _⟩, (Below.refl _ _).alloc (Nat.le_refl _) _, Nat.le_refl _⟩)
  have h1 : ¬ n < 1 := by have := h.1; omega
  have h2 : ¬ n > 100 := by have := h.1; omega
  have h3 : ¬ wt < 1 := by have := h.2; omega
  have h4 : ¬ wt > 10000 := by have := h.2; omega
  clear h
  go_enter Try.func12, Try.ntmps12
  go_wp2_with (rw [← hw1.out])
  go_ret2
  exact ⟨_, rfl, cover HN.out⟩
theorem rnew_no {n wt : Int} (h : ¬ okB n wt) (W : World) : Calls Try.prog 12 #[.int .i64 n, .int .i64 wt] W fun e W' => e = .returned (.tuple #[.pointer none, .int .i64 1]) ∧ W' = W := by
  by_cases h1 : n < 1
  case pos =>
    clear h
    go_enter Try.func12, Try.ntmps12
    go_wp2
    go_ret2
    exact ⟨rfl, rfl⟩
  by_cases h2 : n > 100
  case pos =>
    clear h
    go_enter Try.func12, Try.ntmps12
    go_wp2
    go_ret2
    exact ⟨rfl, rfl⟩
  by_cases h3 : wt < 1
  case pos =>
    clear h
    go_enter Try.func12, Try.ntmps12
    go_wp2
    go_ret2
    exact ⟨rfl, rfl⟩
  have h4 : wt > 10000 := by unfold okB at h; omega
  clear h
  go_enter Try.func12, Try.ntmps12
  go_wp2
  go_ret2
  exact ⟨rfl, rfl⟩
end Go.Proofs.Ytbhdncbnjlgigaa
