/- What Unit, AskTest and AskXid hand back, the program's and the document's. -/
import Derived.Test.YtgpmimohoepeiaaHAsk
import Derived.Test.YtgpmimohoepeiaaSDo
namespace Go.Proofs.Ytgpmimohoepeiaa
open Go.RowKit
set_option linter.unusedVariables false
set_option linter.unusedSimpArgs false

theorem uiQ_bare (frm tt : Int) (b : List Int) : cmdP (uiQ frm tt) b = askP (uiQ frm tt) 0 b := cmdP_bare rfl (by unfold uiQ; simp) rfl rfl rfl rfl b
theorem testQ_bare (frm tt : Int) (b : List Int) : cmdP (testQ frm tt) b = askP (testQ frm tt) 0 b := cmdP_bare rfl (by unfold testQ; simp) rfl rfl rfl rfl b
theorem xidQ_bare (frm tt : Int) (b : List Int) : cmdP (xidQ frm tt) b = askP (xidQ frm tt) 0 b := cmdP_bare rfl (by unfold xidQ; simp) rfl rfl rfl rfl b
/-- a block of noughts for the result -/
theorem one_pdu (w : World) : ∃ w1, w1 = w.alloc (.cells zp 29) ∧ Hid (w1.heap[w.heap.size]? = some (.cells zp 29 (0, 0))) ∧ Hid (Below w.heap.size w w1) ∧ Hid (w1.heap.size = w.heap.size + 1) :=
  ⟨_, rfl, cover (heap_alloc_new _ _), cover ((Below.refl _ _).alloc (Nat.le_refl _) _), cover (by simp)⟩
/-- what was made is stored in the result's block -/
theorem ask_store {g : Nat} {w w1 w2 : World} {r : PV × Int} {A : Option Addr} {c : Nat} (hg : g = w.heap.size) (G1 : w1.heap[g]? = some (.cells zp 29 (0, 0))) (H1 : Below g w w1) (ho : OwnB w2 w1.heap.size (.slice A r.1.info.length c) r.1.info) (hb : Below w1.heap.size w1 w2) :
    w2.heap[g]? = some (.cells zp 29 (0, 0)) ∧ (w2.setRow g #[.int .i64 r.1.to, .int .i64 r.1.frm, .bool r.1.resp, .int .i64 r.1.form, .int .i64 r.1.kind, .int .i64 r.1.ns, .int .i64 r.1.nr, .bool r.1.poll, .slice A r.1.info.length c]).heap[g]? = some (.cells #[.int .i64 r.1.to, .int .i64 r.1.frm, .bool r.1.resp, .int .i64 r.1.form, .int .i64 r.1.kind, .int .i64 r.1.ns, .int .i64 r.1.nr, .bool r.1.poll, .slice A r.1.info.length c] 29 (0, 0)) ∧ AskOut r w (.returned (.tuple #[.agg #[.int .i64 r.1.to, .int .i64 r.1.frm, .bool r.1.resp, .int .i64 r.1.form, .int .i64 r.1.kind, .int .i64 r.1.ns, .int .i64 r.1.nr, .bool r.1.poll, .slice A r.1.info.length c], .int .i64 r.2])) (w2.setRow g #[.int .i64 r.1.to, .int .i64 r.1.frm, .bool r.1.resp, .int .i64 r.1.form, .int .i64 r.1.kind, .int .i64 r.1.ns, .int .i64 r.1.nr, .bool r.1.poll, .slice A r.1.info.length c]) := by
  have hs1 : g < w1.heap.size := block_lt G1
  have G2 := (hb.block g hs1).trans G1
  refine ⟨G2, setRow_heap _ _ _ _ _ _ G2, A, c, rfl, cover ⟨?_, ?_⟩⟩
  · refine OwnB.mono (base := w1.heap.size) ?_ (by omega)
    exact ownB_keep ho (fun i hi => setRow_other _ _ _ _ (by omega))
  · rw [← hg]; exact Go.below_setRow (H1.trans (hb.mono (by omega))) (Nat.le_refl _) _
set_option maxHeartbeats 3200000 in
theorem unit_any (A : Option Addr) (c B : Nat) (b : List Int) (frm tt : Int) (w : World) (hr : Row w B A b.length b) (hB : B ≤ w.heap.size) (hmax : b.length ≤ 140737488355328) :
    Calls Try.prog 14 #[.int .i64 frm, .int .i64 tt, .slice A b.length c] w (AskOut (askP (uiQ frm tt) 1 b) w) := by
  obtain ⟨g, hg⟩ : ∃ g, g = w.heap.size := ⟨_, rfl⟩
  obtain ⟨w1, hw1, G1, H1, hs1⟩ := one_pdu w
  rw [← hg] at G1 H1 hs1
  have HG := cover hg
  have HSZ : Hid (∀ W, Below g w W → g ≤ W.heap.size) := cover fun W hb => by rw [hg]; exact hb.size
  have HC := cover (command_any (uiQ frm tt) rfl A c B b w1 (hr.below (H1.out.mono (by rw [hg]; exact hB))) (Nat.le_trans hB (by rw [← hg]; exact HSZ.out _ H1.out)) hmax)
  obtain ⟨n, hn⟩ : ∃ n, n = b.length := ⟨_, rfl⟩
  rw [← hn] at HC ⊢
  clear hr hn
  by_cases h0 : tt = 0
  · have HE : Hid (askP (uiQ frm tt) 1 b = (zPV, 1)) := cover (askP_no (by rintro ⟨_, h, _⟩; have : (1 : Int) ≤ tt := h; omega))
    have hb0 : (tt == 0) = true := by simpa using h0
    clear h0 HC
    go_enter Try.func14, Try.ntmps14
    go_upto_region 1 with fail
    rw [← hw1, ← hg]
    clear hw1 hg
    go_wp2_with (refine wpList_store_row rfl _ _ _ rfl g zp rfl rfl 29 zp G1.out pdu_size rfl zp_one ?_)
    exact bodyPost_ret (v := .tuple #[.agg zp, .int .i64 1]) (results_cell_and (by rfl) _ _ g _ zp (0, 0) _ (.int .i64 1) rfl (setRow_heap _ _ _ _ _ _ G1.out) rfl Try.underlying29 rfl pdu_size) rfl (AskOut.zero HE.out (by rw [← HG.out]; exact Go.below_setRow H1.out (Nat.le_refl _) _))
  have HE : Hid (askP (uiQ frm tt) 1 b = cmdP (uiQ frm tt) b) := cover (by
    rw [uiQ_bare]
    unfold askP
    have e : (OkSap (uiQ frm tt).frm ∧ 1 ≤ (uiQ frm tt).to ∧ (uiQ frm tt).to ≤ 255) ↔ (OkSap (uiQ frm tt).frm ∧ 0 ≤ (uiQ frm tt).to ∧ (uiQ frm tt).to ≤ 255) := by
      have : (uiQ frm tt).to = tt := rfl
      rw [this]; constructor
      · rintro ⟨a, b, c⟩; exact ⟨a, by omega, c⟩
      · rintro ⟨a, b, c⟩; exact ⟨a, by omega, c⟩
    simp only [e])
  have hb0 : (tt == 0) = false := by simpa using h0
  clear h0
  go_enter Try.func14, Try.ntmps14
  go_upto_region 1 with fail
  rw [← hw1, ← hg]
  clear hw1 hg
  go_wp2_with fail
  refine (HC.out).mono ?_
  rintro e w2 ⟨A2, c2, rfl, HO⟩
  obtain ⟨G2, G3, HN⟩ := ask_store HG.out G1.out H1.out HO.out.1 HO.out.2
  have HN2 := cover HN
  clear HN
  go_wp2_with (refine wpList_store_row rfl _ _ _ rfl g _ rfl rfl 29 zp G2 pdu_size rfl (pdu_one _ _ _ _ _ _ _ _ _ _ _) ?_)
  exact bodyPost_ret (v := .tuple #[.agg _, .int .i64 _]) (results_cell_and (by rfl) _ _ g _ _ (0, 0) _ (.int .i64 _) rfl G3 rfl Try.underlying29 rfl pdu_size) rfl (by rw [HE.out]; exact HN2.out)
set_option maxHeartbeats 3200000 in
theorem askTest_any (A : Option Addr) (c B : Nat) (b : List Int) (frm tt : Int) (w : World) (hr : Row w B A b.length b) (hB : B ≤ w.heap.size) (hmax : b.length ≤ 140737488355328) :
    Calls Try.prog 12 #[.int .i64 frm, .int .i64 tt, .slice A b.length c] w (AskOut (askP (testQ frm tt) 0 b) w) := by
  obtain ⟨g, hg⟩ : ∃ g, g = w.heap.size := ⟨_, rfl⟩
  obtain ⟨w1, hw1, G1, H1, hs1⟩ := one_pdu w
  rw [← hg] at G1 H1 hs1
  have HG := cover hg
  have HSZ : Hid (∀ W, Below g w W → g ≤ W.heap.size) := cover fun W hb => by rw [hg]; exact hb.size
  have HC := cover (command_any (testQ frm tt) rfl A c B b w1 (hr.below (H1.out.mono (by rw [hg]; exact hB))) (Nat.le_trans hB (by rw [← hg]; exact HSZ.out _ H1.out)) hmax)
  obtain ⟨n, hn⟩ : ∃ n, n = b.length := ⟨_, rfl⟩
  rw [← hn] at HC ⊢
  clear hr hn
  have HE : Hid (askP (testQ frm tt) 0 b = cmdP (testQ frm tt) b) := cover (testQ_bare frm tt b).symm
  go_enter Try.func12, Try.ntmps12
  go_upto_region 1 with fail
  rw [← hw1, ← hg]
  clear hw1 hg
  go_wp2_with fail
  refine (HC.out).mono ?_
  rintro e w2 ⟨A2, c2, rfl, HO⟩
  obtain ⟨G2, G3, HN⟩ := ask_store HG.out G1.out H1.out HO.out.1 HO.out.2
  have HN2 := cover HN
  clear HN
  go_wp2_with (refine wpList_store_row rfl _ _ _ rfl g _ rfl rfl 29 zp G2 pdu_size rfl (pdu_one _ _ _ _ _ _ _ _ _ _ _) ?_)
  exact bodyPost_ret (v := .tuple #[.agg _, .int .i64 _]) (results_cell_and (by rfl) _ _ g _ _ (0, 0) _ (.int .i64 _) rfl G3 rfl Try.underlying29 rfl pdu_size) rfl (by rw [HE.out]; exact HN2.out)
theorem put_xid (wd : Int) (h : 0 ≤ wd ∧ wd ≤ 127) : putC ⟨129, 7, wd⟩ = ([129, 7, 2 * wd], 0) := by
  unfold putC
  rw [if_pos (by unfold OkC; simp only; omega)]
  rfl
theorem put_xid_no (wd : Int) (h : ¬ (0 ≤ wd ∧ wd ≤ 127)) : putC ⟨129, 7, wd⟩ = ([], 1) := by
  unfold putC
  rw [if_neg (by unfold OkC; simp only; omega)]
set_option maxHeartbeats 3200000 in
theorem askXid_any (frm tt wd : Int) (w : World) :
    Calls Try.prog 15 #[.int .i64 frm, .int .i64 tt, .int .i64 wd] w (AskOut (askX frm tt wd) w) := by
  obtain ⟨g, hg⟩ : ∃ g, g = w.heap.size := ⟨_, rfl⟩
  obtain ⟨w1, hw1, G1, H1, hs1⟩ := one_pdu w
  rw [← hg] at G1 H1 hs1
  have HG := cover hg
  have HSZ : Hid (∀ W, Below g w W → g ≤ W.heap.size) := cover fun W hb => by rw [hg]; exact hb.size
  by_cases hwd : 0 ≤ wd ∧ wd ≤ 127
  case neg =>
    have HE : Hid (askX frm tt wd = (zPV, 1)) := cover (by unfold askX; rw [if_neg hwd])
    have HC := cover (putClass_any ⟨129, 7, wd⟩ w1)
    rw [put_xid_no wd hwd] at HC
    clear hwd
    go_enter Try.func15, Try.ntmps15
    go_upto_region 1 with fail
    rw [← hw1, ← hg]
    clear hw1 hg
    go_wp2_with fail
    refine HC.out.mono ?_
    rintro e w2 ⟨A2, c2, rfl, ho2, hb2⟩
    have G2 := cover ((hb2.block _ (block_lt G1.out)).trans G1.out)
    have H2 := cover (H1.out.trans (hb2.mono (HSZ.out _ H1.out)))
    clear ho2 hb2 HC
    go_wp2_with (refine wpList_store_row rfl _ _ _ rfl g zp rfl rfl 29 zp G2.out pdu_size rfl zp_one ?_)
    exact bodyPost_ret (v := .tuple #[.agg zp, .int .i64 1]) (results_cell_and (by rfl) _ _ g _ zp (0, 0) _ (.int .i64 1) rfl (setRow_heap _ _ _ _ _ _ G2.out) rfl Try.underlying29 rfl pdu_size) rfl (AskOut.zero HE.out (by rw [← HG.out]; exact Go.below_setRow H2.out (Nat.le_refl _) _))
  have HE : Hid (askX frm tt wd = cmdP (xidQ frm tt) [129, 7, 2 * wd]) := cover (by unfold askX; rw [if_pos hwd, xidQ_bare])
  have HC := cover (putClass_any ⟨129, 7, wd⟩ w1)
  rw [put_xid wd hwd] at HC
  clear hwd
  go_enter Try.func15, Try.ntmps15
  go_upto_region 1 with fail
  rw [← hw1, ← hg]
  clear hw1 hg
  go_wp2_with fail
  refine HC.out.mono ?_
  rintro e w2 ⟨A2, c2, rfl, ho2, hb2⟩
  have HC2 := cover (command_any (xidQ frm tt) rfl A2 c2 w2.heap.size [129, 7, 2 * wd] w2 (OwnB.row ho2) (Nat.le_refl _) (by simp))
  have HB2 := cover hb2
  clear ho2 hb2 HC
  go_wp2_with fail
  refine HC2.out.mono ?_
  rintro e w3 h3
  obtain ⟨A3, c3, rfl, HO⟩ := askOut_below h3 HB2.out
  obtain ⟨G3, G4, HN⟩ := ask_store HG.out G1.out H1.out HO.out.1 HO.out.2
  have HN2 := cover HN
  clear HN h3
  go_wp2_with (refine wpList_store_row rfl _ _ _ rfl g _ rfl rfl 29 zp G3 pdu_size rfl (pdu_one _ _ _ _ _ _ _ _ _ _ _) ?_)
  exact bodyPost_ret (v := .tuple #[.agg _, .int .i64 _]) (results_cell_and (by rfl) _ _ g _ _ (0, 0) _ (.int .i64 _) rfl G4 rfl Try.underlying29 rfl pdu_size) rfl (by rw [HE.out]; exact HN2.out)
/-- a unit has been made -/
def MadeOut (q : PV) (w : World) (e : Ending) (w' : World) : Prop := ∃ A c, e = .returned (.agg #[.int .i64 q.to, .int .i64 q.frm, .bool q.resp, .int .i64 q.form, .int .i64 q.kind, .int .i64 q.ns, .int .i64 q.nr, .bool q.poll, .slice A q.info.length c]) ∧ Hid (OwnB w' w.heap.size (.slice A q.info.length c) q.info ∧ Below w.heap.size w w')
set_option maxHeartbeats 1600000 in
theorem rcommand_any (frm tt k : Int) (pl : Bool) (A : Option Addr) (c B : Nat) (b : List Int) (w : World) (hr : Row w B A b.length b) (hB : B ≤ w.heap.size) (hmax : b.length ≤ 140737488355328) :
    Calls Try.prog 37 #[.int .i64 frm, .int .i64 tt, .int .i64 k, .bool pl, .slice A b.length c] w (MadeOut ⟨tt, frm, false, 2, k, 0, 0, pl, b⟩ w) := by
  obtain ⟨g, hg⟩ : ∃ g, g = w.heap.size := ⟨_, rfl⟩
  obtain ⟨w1, hw1, G1, H1, hs1⟩ := one_pdu w
  rw [← hg] at G1 H1 hs1
  have HG := cover hg
  have HSZ : Hid (∀ W, Below g w W → g ≤ W.heap.size) := cover fun W hb => by rw [hg]; exact hb.size
  have HC := cover (copy_any A b.length c B b w1 (hr.below (H1.out.mono (by rw [hg]; exact hB))) (Nat.le_trans hB (by rw [← hg]; exact HSZ.out _ H1.out)) hmax)
  obtain ⟨n, hn⟩ : ∃ n, n = b.length := ⟨_, rfl⟩
  rw [← hn] at HC ⊢
  have HN := cover hn
  clear hr hn
  go_enter Try.func37, Try.ntmps37
  go_upto_region 1 with fail
  rw [← hw1, ← hg]
  clear hw1 hg
  go_wp2_with fail
  refine HC.out.mono ?_
  rintro e w2 ⟨A2, c2, rfl, ho2, hb2⟩
  obtain ⟨G2, G3, A9, c9, e9, HN2⟩ := ask_store (r := (⟨tt, frm, false, 2, k, 0, 0, pl, b⟩, 0)) HG.out G1.out H1.out ho2 hb2
  clear ho2 hb2 HC
  go_wp2_with (refine wpList_store_row rfl _ _ _ rfl g _ rfl rfl 29 zp G2 pdu_size rfl (pdu_one _ _ _ _ _ _ _ _ _ _ _) ?_)
  have e10 : A2 = A9 ∧ c2 = c9 := by
    injection e9 with e9; injection e9 with e9; simp at e9; exact e9
  obtain ⟨rfl, rfl⟩ := e10
  exact bodyPost_ret (v := .agg _) (results_cell_row (by rfl) _ _ g _ _ (0, 0) _ rfl G3 Try.underlying29 rfl pdu_size) rfl ⟨A2, c2, rfl, HN2⟩
set_option maxHeartbeats 3200000 in
theorem runit_any (A : Option Addr) (c B : Nat) (b : List Int) (frm tt : Int) (w : World) (hr : Row w B A b.length b) (hB : B ≤ w.heap.size) (hmax : b.length ≤ 140737488355328) :
    Calls Try.prog 17 #[.int .i64 frm, .int .i64 tt, .slice A b.length c] w (AskOut (askP (uiQ frm tt) 1 b) w) := by
  obtain ⟨g, hg⟩ : ∃ g, g = w.heap.size := ⟨_, rfl⟩
  obtain ⟨w1, hw1, G1, H1, hs1⟩ := one_pdu w
  rw [← hg] at G1 H1 hs1
  have HG := cover hg
  have HSZ : Hid (∀ W, Below g w W → g ≤ W.heap.size) := cover fun W hb => by rw [hg]; exact hb.size
  have HC := cover (rcommand_any frm tt 0 false A c B b w1 (hr.below (H1.out.mono (by rw [hg]; exact hB))) (Nat.le_trans hB (by rw [← hg]; exact HSZ.out _ H1.out)) hmax)
  obtain ⟨n, hn⟩ : ∃ n, n = b.length := ⟨_, rfl⟩
  rw [← hn] at HC ⊢
  have HN := cover hn
  have HS := cover (rsap_any frm)
  clear hr hn
  by_cases hs : OkSap frm
  case neg =>
    have HE : Hid (askP (uiQ frm tt) 1 b = (zPV, 1)) := cover (askP_no (fun h => hs h.1))
    rw [decide_eq_false hs] at HS
    clear hs HC
    go_enter Try.func17, Try.ntmps17
    go_upto_region 1 with fail
    rw [← hw1, ← hg]
    clear hw1 hg
    go_wp2_with fail
    refine (HS.out _).mono ?_
    rintro e w2 ⟨rfl, rfl⟩
    go_wp2_with (refine wpList_store_row rfl _ _ _ rfl g zp rfl rfl 29 zp G1.out pdu_size rfl zp_one ?_)
    exact bodyPost_ret (v := .tuple #[.agg zp, .int .i64 1]) (results_cell_and (by rfl) _ _ g _ zp (0, 0) _ (.int .i64 1) rfl (setRow_heap _ _ _ _ _ _ G1.out) rfl Try.underlying29 rfl pdu_size) rfl (AskOut.zero HE.out (by rw [← HG.out]; exact Go.below_setRow H1.out (Nat.le_refl _) _))
  rw [decide_eq_true hs] at HS
  by_cases h1 : tt < 1
  · have HE : Hid (askP (uiQ frm tt) 1 b = (zPV, 1)) := cover (askP_no (by rintro ⟨_, h, _⟩; have : (1 : Int) ≤ tt := h; omega))
    clear hs HC
    go_enter Try.func17, Try.ntmps17
    go_upto_region 1 with fail
    rw [← hw1, ← hg]
    clear hw1 hg
    go_wp2_with fail
    refine (HS.out _).mono ?_
    rintro e w2 ⟨rfl, rfl⟩
    go_wp2_with (refine wpList_store_row rfl _ _ _ rfl g zp rfl rfl 29 zp G1.out pdu_size rfl zp_one ?_)
    exact bodyPost_ret (v := .tuple #[.agg zp, .int .i64 1]) (results_cell_and (by rfl) _ _ g _ zp (0, 0) _ (.int .i64 1) rfl (setRow_heap _ _ _ _ _ _ G1.out) rfl Try.underlying29 rfl pdu_size) rfl (AskOut.zero HE.out (by rw [← HG.out]; exact Go.below_setRow H1.out (Nat.le_refl _) _))
  by_cases h2 : 255 < tt
  · have HE : Hid (askP (uiQ frm tt) 1 b = (zPV, 1)) := cover (askP_no (by rintro ⟨_, _, h⟩; have : tt ≤ (255 : Int) := h; omega))
    clear hs HC
    go_enter Try.func17, Try.ntmps17
    go_upto_region 1 with fail
    rw [← hw1, ← hg]
    clear hw1 hg
    go_wp2_with fail
    refine (HS.out _).mono ?_
    rintro e w2 ⟨rfl, rfl⟩
    go_wp2_with (refine wpList_store_row rfl _ _ _ rfl g zp rfl rfl 29 zp G1.out pdu_size rfl zp_one ?_)
    exact bodyPost_ret (v := .tuple #[.agg zp, .int .i64 1]) (results_cell_and (by rfl) _ _ g _ zp (0, 0) _ (.int .i64 1) rfl (setRow_heap _ _ _ _ _ _ G1.out) rfl Try.underlying29 rfl pdu_size) rfl (AskOut.zero HE.out (by rw [← HG.out]; exact Go.below_setRow H1.out (Nat.le_refl _) _))
  have HOK : Hid (OkSap (uiQ frm tt).frm ∧ 1 ≤ (uiQ frm tt).to ∧ (uiQ frm tt).to ≤ 255) := cover ⟨hs, by show (1 : Int) ≤ tt; omega, by show tt ≤ (255 : Int); omega⟩
  by_cases h3 : 1024 < n
  · have HE : Hid (askP (uiQ frm tt) 1 b = (zPV, 3)) := cover (askP_long HOK.out (by rw [← HN.out]; exact h3))
    have hl : (1024 : Int) < (n : Int) := by omega
    clear hs HC
    go_enter Try.func17, Try.ntmps17
    go_upto_region 1 with fail
    rw [← hw1, ← hg]
    clear hw1 hg
    go_wp2_with fail
    refine (HS.out _).mono ?_
    rintro e w2 ⟨rfl, rfl⟩
    go_wp2_with (refine wpList_store_row rfl _ _ _ rfl g zp rfl rfl 29 zp G1.out pdu_size rfl zp_one ?_)
    exact bodyPost_ret (v := .tuple #[.agg zp, .int .i64 3]) (results_cell_and (by rfl) _ _ g _ zp (0, 0) _ (.int .i64 3) rfl (setRow_heap _ _ _ _ _ _ G1.out) rfl Try.underlying29 rfl pdu_size) rfl (AskOut.zero HE.out (by rw [← HG.out]; exact Go.below_setRow H1.out (Nat.le_refl _) _))
  have HE : Hid (askP (uiQ frm tt) 1 b = (⟨tt, frm, false, 2, 0, 0, 0, false, b⟩, 0)) := cover (askP_yes HOK.out (by rw [← HN.out]; omega))
  have hl : ¬ (1024 : Int) < (n : Int) := by omega
  clear hs
  go_enter Try.func17, Try.ntmps17
  go_upto_region 1 with fail
  rw [← hw1, ← hg]
  clear hw1 hg
  go_wp2_with fail
  refine (HS.out _).mono ?_
  rintro e w2 ⟨rfl, rfl⟩
  go_wp2_with fail
  refine HC.out.mono ?_
  rintro e w2 ⟨A2, c2, rfl, HO⟩
  obtain ⟨G2, G3, HN3⟩ := ask_store (r := (⟨tt, frm, false, 2, 0, 0, 0, false, b⟩, 0)) HG.out G1.out H1.out HO.out.1 HO.out.2
  have HN2 := cover HN3
  clear HN3
  go_wp2_with (refine wpList_store_row rfl _ _ _ rfl g _ rfl rfl 29 zp G2 pdu_size rfl (pdu_one _ _ _ _ _ _ _ _ _ _ _) ?_)
  exact bodyPost_ret (v := .tuple #[.agg _, .int .i64 _]) (results_cell_and (by rfl) _ _ g _ _ (0, 0) _ (.int .i64 _) rfl G3 rfl Try.underlying29 rfl pdu_size) rfl (by rw [HE.out]; exact HN2.out)
set_option maxHeartbeats 3200000 in
theorem raskTest_any (A : Option Addr) (c B : Nat) (b : List Int) (frm tt : Int) (w : World) (hr : Row w B A b.length b) (hB : B ≤ w.heap.size) (hmax : b.length ≤ 140737488355328) :
    Calls Try.prog 18 #[.int .i64 frm, .int .i64 tt, .slice A b.length c] w (AskOut (askP (testQ frm tt) 0 b) w) := by
  obtain ⟨g, hg⟩ : ∃ g, g = w.heap.size := ⟨_, rfl⟩
  obtain ⟨w1, hw1, G1, H1, hs1⟩ := one_pdu w
  rw [← hg] at G1 H1 hs1
  have HG := cover hg
  have HSZ : Hid (∀ W, Below g w W → g ≤ W.heap.size) := cover fun W hb => by rw [hg]; exact hb.size
  have HC := cover (rcommand_any frm tt 2 true A c B b w1 (hr.below (H1.out.mono (by rw [hg]; exact hB))) (Nat.le_trans hB (by rw [← hg]; exact HSZ.out _ H1.out)) hmax)
  obtain ⟨n, hn⟩ : ∃ n, n = b.length := ⟨_, rfl⟩
  rw [← hn] at HC ⊢
  have HN := cover hn
  have HS := cover (rsap_any frm)
  clear hr hn
  by_cases hs : OkSap frm
  case neg =>
    have HE : Hid (askP (testQ frm tt) 0 b = (zPV, 1)) := cover (askP_no (fun h => hs h.1))
    rw [decide_eq_false hs] at HS
    clear hs HC
    go_enter Try.func18, Try.ntmps18
    go_upto_region 1 with fail
    rw [← hw1, ← hg]
    clear hw1 hg
    go_wp2_with fail
    refine (HS.out _).mono ?_
    rintro e w2 ⟨rfl, rfl⟩
    go_wp2_with (refine wpList_store_row rfl _ _ _ rfl g zp rfl rfl 29 zp G1.out pdu_size rfl zp_one ?_)
    exact bodyPost_ret (v := .tuple #[.agg zp, .int .i64 1]) (results_cell_and (by rfl) _ _ g _ zp (0, 0) _ (.int .i64 1) rfl (setRow_heap _ _ _ _ _ _ G1.out) rfl Try.underlying29 rfl pdu_size) rfl (AskOut.zero HE.out (by rw [← HG.out]; exact Go.below_setRow H1.out (Nat.le_refl _) _))
  rw [decide_eq_true hs] at HS
  by_cases h1 : tt < 0
  · have HE : Hid (askP (testQ frm tt) 0 b = (zPV, 1)) := cover (askP_no (by rintro ⟨_, h, _⟩; have : (0 : Int) ≤ tt := h; omega))
    clear hs HC
    go_enter Try.func18, Try.ntmps18
    go_upto_region 1 with fail
    rw [← hw1, ← hg]
    clear hw1 hg
    go_wp2_with fail
    refine (HS.out _).mono ?_
    rintro e w2 ⟨rfl, rfl⟩
    go_wp2_with (refine wpList_store_row rfl _ _ _ rfl g zp rfl rfl 29 zp G1.out pdu_size rfl zp_one ?_)
    exact bodyPost_ret (v := .tuple #[.agg zp, .int .i64 1]) (results_cell_and (by rfl) _ _ g _ zp (0, 0) _ (.int .i64 1) rfl (setRow_heap _ _ _ _ _ _ G1.out) rfl Try.underlying29 rfl pdu_size) rfl (AskOut.zero HE.out (by rw [← HG.out]; exact Go.below_setRow H1.out (Nat.le_refl _) _))
  by_cases h2 : 255 < tt
  · have HE : Hid (askP (testQ frm tt) 0 b = (zPV, 1)) := cover (askP_no (by rintro ⟨_, _, h⟩; have : tt ≤ (255 : Int) := h; omega))
    clear hs HC
    go_enter Try.func18, Try.ntmps18
    go_upto_region 1 with fail
    rw [← hw1, ← hg]
    clear hw1 hg
    go_wp2_with fail
    refine (HS.out _).mono ?_
    rintro e w2 ⟨rfl, rfl⟩
    go_wp2_with (refine wpList_store_row rfl _ _ _ rfl g zp rfl rfl 29 zp G1.out pdu_size rfl zp_one ?_)
    exact bodyPost_ret (v := .tuple #[.agg zp, .int .i64 1]) (results_cell_and (by rfl) _ _ g _ zp (0, 0) _ (.int .i64 1) rfl (setRow_heap _ _ _ _ _ _ G1.out) rfl Try.underlying29 rfl pdu_size) rfl (AskOut.zero HE.out (by rw [← HG.out]; exact Go.below_setRow H1.out (Nat.le_refl _) _))
  have HOK : Hid (OkSap (testQ frm tt).frm ∧ 0 ≤ (testQ frm tt).to ∧ (testQ frm tt).to ≤ 255) := cover ⟨hs, by show (0 : Int) ≤ tt; omega, by show tt ≤ (255 : Int); omega⟩
  by_cases h3 : 1024 < n
  · have HE : Hid (askP (testQ frm tt) 0 b = (zPV, 3)) := cover (askP_long HOK.out (by rw [← HN.out]; exact h3))
    have hl : (1024 : Int) < (n : Int) := by omega
    clear hs HC
    go_enter Try.func18, Try.ntmps18
    go_upto_region 1 with fail
    rw [← hw1, ← hg]
    clear hw1 hg
    go_wp2_with fail
    refine (HS.out _).mono ?_
    rintro e w2 ⟨rfl, rfl⟩
    go_wp2_with (refine wpList_store_row rfl _ _ _ rfl g zp rfl rfl 29 zp G1.out pdu_size rfl zp_one ?_)
    exact bodyPost_ret (v := .tuple #[.agg zp, .int .i64 3]) (results_cell_and (by rfl) _ _ g _ zp (0, 0) _ (.int .i64 3) rfl (setRow_heap _ _ _ _ _ _ G1.out) rfl Try.underlying29 rfl pdu_size) rfl (AskOut.zero HE.out (by rw [← HG.out]; exact Go.below_setRow H1.out (Nat.le_refl _) _))
  have HE : Hid (askP (testQ frm tt) 0 b = (⟨tt, frm, false, 2, 2, 0, 0, true, b⟩, 0)) := cover (askP_yes HOK.out (by rw [← HN.out]; omega))
  have hl : ¬ (1024 : Int) < (n : Int) := by omega
  clear hs
  go_enter Try.func18, Try.ntmps18
  go_upto_region 1 with fail
  rw [← hw1, ← hg]
  clear hw1 hg
  go_wp2_with fail
  refine (HS.out _).mono ?_
  rintro e w2 ⟨rfl, rfl⟩
  go_wp2_with fail
  refine HC.out.mono ?_
  rintro e w2 ⟨A2, c2, rfl, HO⟩
  obtain ⟨G2, G3, HN3⟩ := ask_store (r := (⟨tt, frm, false, 2, 2, 0, 0, true, b⟩, 0)) HG.out G1.out H1.out HO.out.1 HO.out.2
  have HN2 := cover HN3
  clear HN3
  go_wp2_with (refine wpList_store_row rfl _ _ _ rfl g _ rfl rfl 29 zp G2 pdu_size rfl (pdu_one _ _ _ _ _ _ _ _ _ _ _) ?_)
  exact bodyPost_ret (v := .tuple #[.agg _, .int .i64 _]) (results_cell_and (by rfl) _ _ g _ _ (0, 0) _ (.int .i64 _) rfl G3 rfl Try.underlying29 rfl pdu_size) rfl (by rw [HE.out]; exact HN2.out)
set_option maxHeartbeats 3200000 in
theorem raskXid_any (frm tt wd : Int) (w : World) :
    Calls Try.prog 19 #[.int .i64 frm, .int .i64 tt, .int .i64 wd] w (AskOut (askX frm tt wd) w) := by
  obtain ⟨g, hg⟩ : ∃ g, g = w.heap.size := ⟨_, rfl⟩
  obtain ⟨w1, hw1, G1, H1, hs1⟩ := one_pdu w
  rw [← hg] at G1 H1 hs1
  have HG := cover hg
  have HSZ : Hid (∀ W, Below g w W → g ≤ W.heap.size) := cover fun W hb => by rw [hg]; exact hb.size
  have HS := cover (rsap_any frm)
  by_cases hs : OkSap frm
  case neg =>
    have HE : Hid (askX frm tt wd = (zPV, 1)) := cover (by
      unfold askX
      split
      · exact askP_no (fun h => hs h.1)
      · rfl)
    rw [decide_eq_false hs] at HS
    clear hs
    go_enter Try.func19, Try.ntmps19
    go_upto_region 1 with fail
    rw [← hw1, ← hg]
    clear hw1 hg
    go_wp2_with fail
    refine (HS.out _).mono ?_
    rintro e w2 ⟨rfl, rfl⟩
    go_wp2_with (refine wpList_store_row rfl _ _ _ rfl g zp rfl rfl 29 zp G1.out pdu_size rfl zp_one ?_)
    exact bodyPost_ret (v := .tuple #[.agg zp, .int .i64 1]) (results_cell_and (by rfl) _ _ g _ zp (0, 0) _ (.int .i64 1) rfl (setRow_heap _ _ _ _ _ _ G1.out) rfl Try.underlying29 rfl pdu_size) rfl (AskOut.zero HE.out (by rw [← HG.out]; exact Go.below_setRow H1.out (Nat.le_refl _) _))
  rw [decide_eq_true hs] at HS
  by_cases h1 : tt < 0
  · have HE : Hid (askX frm tt wd = (zPV, 1)) := cover (by
      unfold askX
      split
      · exact askP_no (by rintro ⟨_, h, _⟩; have : (0 : Int) ≤ tt := h; omega)
      · rfl)
    clear hs
    go_enter Try.func19, Try.ntmps19
    go_upto_region 1 with fail
    rw [← hw1, ← hg]
    clear hw1 hg
    go_wp2_with fail
    refine (HS.out _).mono ?_
    rintro e w2 ⟨rfl, rfl⟩
    go_wp2_with (refine wpList_store_row rfl _ _ _ rfl g zp rfl rfl 29 zp G1.out pdu_size rfl zp_one ?_)
    exact bodyPost_ret (v := .tuple #[.agg zp, .int .i64 1]) (results_cell_and (by rfl) _ _ g _ zp (0, 0) _ (.int .i64 1) rfl (setRow_heap _ _ _ _ _ _ G1.out) rfl Try.underlying29 rfl pdu_size) rfl (AskOut.zero HE.out (by rw [← HG.out]; exact Go.below_setRow H1.out (Nat.le_refl _) _))
  by_cases h2 : 255 < tt
  · have HE : Hid (askX frm tt wd = (zPV, 1)) := cover (by
      unfold askX
      split
      · exact askP_no (by rintro ⟨_, _, h⟩; have : tt ≤ (255 : Int) := h; omega)
      · rfl)
    clear hs
    go_enter Try.func19, Try.ntmps19
    go_upto_region 1 with fail
    rw [← hw1, ← hg]
    clear hw1 hg
    go_wp2_with fail
    refine (HS.out _).mono ?_
    rintro e w2 ⟨rfl, rfl⟩
    go_wp2_with (refine wpList_store_row rfl _ _ _ rfl g zp rfl rfl 29 zp G1.out pdu_size rfl zp_one ?_)
    exact bodyPost_ret (v := .tuple #[.agg zp, .int .i64 1]) (results_cell_and (by rfl) _ _ g _ zp (0, 0) _ (.int .i64 1) rfl (setRow_heap _ _ _ _ _ _ G1.out) rfl Try.underlying29 rfl pdu_size) rfl (AskOut.zero HE.out (by rw [← HG.out]; exact Go.below_setRow H1.out (Nat.le_refl _) _))
  by_cases h3 : wd < 0
  · have HE : Hid (askX frm tt wd = (zPV, 1)) := cover (by unfold askX; rw [if_neg (by omega)])
    clear hs
    go_enter Try.func19, Try.ntmps19
    go_upto_region 1 with fail
    rw [← hw1, ← hg]
    clear hw1 hg
    go_wp2_with fail
    refine (HS.out _).mono ?_
    rintro e w2 ⟨rfl, rfl⟩
    go_wp2_with (refine wpList_store_row rfl _ _ _ rfl g zp rfl rfl 29 zp G1.out pdu_size rfl zp_one ?_)
    exact bodyPost_ret (v := .tuple #[.agg zp, .int .i64 1]) (results_cell_and (by rfl) _ _ g _ zp (0, 0) _ (.int .i64 1) rfl (setRow_heap _ _ _ _ _ _ G1.out) rfl Try.underlying29 rfl pdu_size) rfl (AskOut.zero HE.out (by rw [← HG.out]; exact Go.below_setRow H1.out (Nat.le_refl _) _))
  by_cases h4 : 127 < wd
  · have HE : Hid (askX frm tt wd = (zPV, 1)) := cover (by unfold askX; rw [if_neg (by omega)])
    clear hs
    go_enter Try.func19, Try.ntmps19
    go_upto_region 1 with fail
    rw [← hw1, ← hg]
    clear hw1 hg
    go_wp2_with fail
    refine (HS.out _).mono ?_
    rintro e w2 ⟨rfl, rfl⟩
    go_wp2_with (refine wpList_store_row rfl _ _ _ rfl g zp rfl rfl 29 zp G1.out pdu_size rfl zp_one ?_)
    exact bodyPost_ret (v := .tuple #[.agg zp, .int .i64 1]) (results_cell_and (by rfl) _ _ g _ zp (0, 0) _ (.int .i64 1) rfl (setRow_heap _ _ _ _ _ _ G1.out) rfl Try.underlying29 rfl pdu_size) rfl (AskOut.zero HE.out (by rw [← HG.out]; exact Go.below_setRow H1.out (Nat.le_refl _) _))
  have HE : Hid (askX frm tt wd = (⟨tt, frm, false, 2, 1, 0, 0, true, [129, 7, 2 * wd]⟩, 0)) := cover (by
    unfold askX
    rw [if_pos (by omega)]
    exact askP_yes ⟨hs, by show (0 : Int) ≤ tt; omega, by show tt ≤ (255 : Int); omega⟩ (by simp))
  have HC := cover (ref_putClass_any ⟨129, 7, wd⟩ w1)
  rw [put_xid wd (by omega)] at HC
  clear hs
  go_enter Try.func19, Try.ntmps19
  go_upto_region 1 with fail
  rw [← hw1, ← hg]
  clear hw1 hg
  go_wp2_with fail
  refine (HS.out _).mono ?_
  rintro e w2 ⟨rfl, rfl⟩
  go_wp2_with fail
  refine HC.out.mono ?_
  rintro e w2 ⟨A2, c2, rfl, ho2, hb2⟩
  have HC2 := cover (rcommand_any frm tt 1 true A2 c2 w2.heap.size [129, 7, 2 * wd] w2 (OwnB.row ho2) (Nat.le_refl _) (by simp))
  have HB2 := cover hb2
  clear ho2 hb2 HC
  go_wp2_with fail
  refine HC2.out.mono ?_
  rintro e w3 ⟨A3, c3, rfl, HO⟩
  obtain ⟨G3, G4, HN3⟩ := ask_store (r := (⟨tt, frm, false, 2, 1, 0, 0, true, [129, 7, 2 * wd]⟩, 0)) HG.out G1.out H1.out (HO.out.1.mono HB2.out.size) (HB2.out.trans (HO.out.2.mono HB2.out.size))
  have HN2 := cover HN3
  clear HN3
  go_wp2_with (refine wpList_store_row rfl _ _ _ rfl g _ rfl rfl 29 zp G3 pdu_size rfl (pdu_one _ _ _ _ _ _ _ _ _ _ _) ?_)
  exact bodyPost_ret (v := .tuple #[.agg _, .int .i64 _]) (results_cell_and (by rfl) _ _ g _ _ (0, 0) _ (.int .i64 _) rfl G4 rfl Try.underlying29 rfl pdu_size) rfl (by rw [HE.out]; exact HN2.out)
end Go.Proofs.Ytgpmimohoepeiaa
