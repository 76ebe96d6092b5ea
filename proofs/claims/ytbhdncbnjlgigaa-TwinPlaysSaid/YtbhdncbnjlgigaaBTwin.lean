/- What New, Start, Tick and Hear of twin's do. -/
import Derived.Deep.CutBlock
import Derived.Deep.DeepCutAuto
import Derived.Test.YtbhdncbnjlgigaaBFun
namespace Go.Proofs.Ytbhdncbnjlgigaa
open Go.RowKit
set_option linter.unusedVariables false
set_option linter.unusedSimpArgs false

/-- a Twin of the program's at block t that stands so -/
structure TwP (W : World) (t : Nat) (v : BV) : Prop where
  ok : BOk v
  hd : ∃ u, W.heap[t]? = some (.cells (twC v.n v.w v.s v.k u) 49 (0, 0)) ∧ (0 ≤ u ∧ u ≤ 10000) ∧ (v.s = 1 → u = v.w - v.l)
theorem TwP.lt {W : World} {t : Nat} {v : BV} (h : TwP W t v) : t < W.heap.size := by
  obtain ⟨u, h1, _⟩ := h.hd
  exact block_lt h1
theorem TwP.keep {W W' : World} {t : Nat} {v : BV} (h : TwP W t v) (hk : W'.heap[t]? = W.heap[t]?) : TwP W' t v := by
  obtain ⟨u, h1, h2⟩ := h.hd
  exact ⟨h.ok, u, hk.trans h1, h2⟩
theorem TwP.below {W W' : World} {t : Nat} {v : BV} (h : TwP W t v) (hb : Below W.heap.size W W') : TwP W' t v := h.keep (hb.block t h.lt)
theorem TwP.only {W W' : World} {t g : Nat} {v : BV} (h : TwP W t v) (hb : OnlyB g W W') (hne : t ≠ g) : TwP W' t v := h.keep (hb.block t h.lt (fun e => hne (by injection e)))

/-- ask, as a value -/
abbrev askF (t : Nat) : Value := .func (.func 30) #[ptr t] #[]
theorem begin_no {W : World} {t : Nat} {n w s k u : Int} (h : W.heap[t]? = some (.cells (twC n w s k u) 49 (0, 0))) (hs : s = 1) :
    Calls Try.prog 22 #[ptr t] W fun e W' => e = .returned Value.nilFunc ∧ W' = W := by
  subst hs
  obtain ⟨c0, c1, c2, c3, c4⟩ := five_cells h
  go_enter Try.func22, Try.ntmps22
  go_wp2
  go_ret
  exact ⟨rfl, rfl⟩
theorem begin_yes {W : World} {t : Nat} {n w s k u : Int} (h : W.heap[t]? = some (.cells (twC n w s k u) 49 (0, 0))) (hs : s ≠ 1) (hn : 1 ≤ n) :
    Calls Try.prog 22 #[ptr t] W fun e W' => e = .returned (askF t) ∧ W'.heap[t]? = some (.cells (twC n w 1 0 u) 49 (0, 0)) ∧ OnlyB t W W' := by
  have hn0 : n ≠ 0 := by omega
  have hs1 : (s == 1) = false := by simpa using hs
  have hn1 : (n == 0) = false := by simpa using hn0
  obtain ⟨w2, hw2⟩ : ∃ w2, Hid (w2 = W.setCell ⟨t, 2, none⟩ (.int .i64 1)) := ⟨_, cover rfl⟩
  have T2 : w2.heap[t]? = some (.cells (twC n w 1 k u) 49 (0, 0)) := by rw [hw2.out, set_block h]; rfl
  obtain ⟨w3, hw3⟩ : ∃ w3, Hid (w3 = w2.setCell ⟨t, 3, none⟩ (.int .i64 0)) := ⟨_, cover rfl⟩
  have T3 : Hid (w3.heap[t]? = some (.cells (twC n w 1 0 u) 49 (0, 0))) := cover (by rw [hw3.out, set_block T2]; rfl)
  have O3 : Hid (OnlyB t W w3) := cover (by
    rw [hw3.out, hw2.out]
    exact ((OnlyB.refl t W).setCell 2 _).setCell 3 _)
  obtain ⟨c0, c1, c2, c3, c4⟩ := five_cells h
  obtain ⟨d0, d1, d2, d3, d4⟩ := five_cells T2
  have F1 := not_frozen h 2
  have F2 := not_frozen T2 3
  clear h T2 hs hn
  go_enter Try.func22, Try.ntmps22
  go_wp2_with (first
    | (rw [← hw2.out])
    | (rw [← hw3.out]))
  go_ret
  exact ⟨rfl, T3.out, O3.out⟩
theorem made_no (W : World) : Calls Try.prog 21 #[Value.nilFunc] W fun e W' => e = .returned (.tuple #[.agg zp, .bool false]) ∧ Below W.heap.size W W' := by
  have hfn : ∀ w : World, (binOp .eql 51 Value.nilFunc Value.nilFunc).run Try.prog w = .ok (.bool true) w := fun _ => by kernel_rfl
  go_enter Try.func21, Try.ntmps21
  go_wp2_with (refine wpList_store_row rfl _ _ _ rfl W.heap.size zp rfl rfl 30 zp (heap_alloc_new _ _) pdu_size rfl zp_one ?_)
  exact bodyPost_ret (v := .tuple #[.agg zp, .bool false]) (results_cell_and (by rfl) _ _ W.heap.size _ zp (0, 0) _ (.bool false) rfl (setRow_heap _ _ _ _ _ _ (heap_alloc_new _ _)) rfl Try.underlying30 rfl pdu_size) rfl ⟨rfl, Go.below_setRow ((Below.refl _ _).alloc (Nat.le_refl _) _) (Nat.le_refl _) _⟩
theorem OnlyB.setRow_new {t g : Nat} {a b : World} (h : OnlyB t a b) (hg : a.heap.size ≤ g) (cs : Array Value) : OnlyB t a (b.setRow g cs) :=
  ⟨h.os, h.tape, h.output, by simpa [World.setRow] using h.size, fun i hi hne => by rw [setRow_other _ _ _ _ (by omega)]; exact h.block i hi hne⟩
theorem made_yes {W : World} {t : Nat} {n w s k u : Int} (h : W.heap[t]? = some (.cells (twC n w s k u) 49 (0, 0))) (hk : 0 ≤ k ∧ k ≤ 1000) :
    Calls Try.prog 21 #[askF t] W fun e W' => e = .returned (.tuple #[.agg (tstC false none 0), .bool true]) ∧ Hid (W'.heap[t]? = some (.cells (twC n w s (k + 1) 0) 49 (0, 0)) ∧ OnlyB t W W') := by
  obtain ⟨w1, hw1⟩ : ∃ w1, w1 = W.alloc (.cells zp 30) := ⟨_, rfl⟩
  obtain ⟨g, hg⟩ : ∃ g, g = W.heap.size := ⟨_, rfl⟩
  have hlt := block_lt h
  have hb1 : Below W.heap.size W w1 := by rw [hw1]; exact (Below.refl _ _).alloc (Nat.le_refl _) _
  have T1 := (hb1.block t hlt).trans h
  have G1 : Hid (w1.heap[g]? = some (.cells zp 30 (0, 0))) := cover (by rw [hw1, hg]; exact heap_alloc_new _ _)
  have HA := cover (ask_any T1 hk)
  have HB := cover (OnlyB.of_below (g := t) hb1)
  have HNE : Hid (g ≠ t) := cover (by omega)
  have HG := cover hg
  have hfn : ∀ w : World, (binOp .eql 51 (askF t) Value.nilFunc).run Try.prog w = .ok (.bool false) w := fun _ => by kernel_rfl
  clear hb1 hlt h T1 hk
  go_enter Try.func21, Try.ntmps21
  go_upto_region 1 with fail
  rw [← hw1, ← hg]
  clear hw1 hg
  go_wp2_with fail
  refine HA.out.mono ?_
  rintro e w2 ⟨rfl, H2⟩
  have G2 := cover (only_keeps G1.out H2.out.2 HNE.out)
  go_wp2_with (refine wpList_store_row rfl _ _ _ rfl g (tstC false none 0) rfl rfl 30 zp G2.out pdu_size rfl (tst_one _ _ _) ?_)
  exact bodyPost_ret (v := .tuple #[.agg (tstC false none 0), .bool true]) (results_cell_and (by rfl) _ _ g _ (tstC false none 0) (0, 0) _ (.bool true) rfl (setRow_heap _ _ _ _ _ _ G2.out) rfl Try.underlying30 rfl pdu_size) rfl
    ⟨rfl, cover ⟨by rw [setRow_other _ _ _ _ (Ne.symm HNE.out)]; exact H2.out.1, OnlyB.setRow_new (HB.out.trans H2.out.2) (by have := HG.out; omega) _⟩⟩

theorem pass_rest {W : World} {t : Nat} {n w s k u : Int} (h : W.heap[t]? = some (.cells (twC n w s k u) 49 (0, 0))) (hs : s ≠ 1) :
    Calls Try.prog 25 #[ptr t] W fun e W' => e = .returned Value.nilFunc ∧ W' = W := by
  have HS := cover (state_any h)
  go_enter Try.func25, Try.ntmps25
  go_wp2_with fail
  refine HS.out.mono ?_
  rintro e w' ⟨rfl, rfl⟩
  go_wp2
  go_ret
  exact ⟨rfl, rfl⟩
theorem pass_wait {W : World} {t : Nat} {n w k u : Int} (h : W.heap[t]? = some (.cells (twC n w 1 k u) 49 (0, 0))) (hu : 0 ≤ u ∧ u ≤ 10000) (hw : u + 1 < w) :
    Calls Try.prog 25 #[ptr t] W fun e W' => e = .returned Value.nilFunc ∧ Hid (W'.heap[t]? = some (.cells (twC n w 1 k (u + 1)) 49 (0, 0)) ∧ OnlyB t W W') := by
  have HS := cover (state_any h)
  obtain ⟨x, hx⟩ : ∃ x, u + 1 = x := ⟨_, rfl⟩
  have HW : wrap64 (u + 1) = x := by rw [← hx]; exact IntWalk.wrap64_in _ ⟨by omega, by omega⟩
  obtain ⟨w2, hw2⟩ : ∃ w2, Hid (w2 = W.setCell ⟨t, 4, none⟩ (.int .i64 x)) := ⟨_, cover rfl⟩
  have T2 : w2.heap[t]? = some (.cells (twC n w 1 k x) 49 (0, 0)) := by rw [hw2.out, set_block h]; rfl
  have O2 : Hid (OnlyB t W w2) := cover (by rw [hw2.out]; exact (OnlyB.refl t W).setCell 4 _)
  obtain ⟨c0, c1, c2, c3, c4⟩ := five_cells h
  obtain ⟨d0, d1, d2, d3, d4⟩ := five_cells T2
  have F1 := not_frozen h 4
  have HT := cover T2
  rw [hx] at hw ⊢
  clear h T2 hu hx
  go_enter Try.func25, Try.ntmps25
  go_wp2_with fail
  refine HS.out.mono ?_
  rintro e w' ⟨rfl, rfl⟩
  go_wp2_with (rw [← hw2.out])
  go_quiet (fail)
  go_wp2
  go_ret
  exact ⟨rfl, cover ⟨HT.out, O2.out.drewN _⟩⟩
theorem pass_ask {W : World} {t : Nat} {n w k u : Int} (h : W.heap[t]? = some (.cells (twC n w 1 k u) 49 (0, 0))) (hu : 0 ≤ u ∧ u ≤ 10000) (hw : w ≤ u + 1) (hk : k < n) :
    Calls Try.prog 25 #[ptr t] W fun e W' => e = .returned (askF t) ∧ Hid (W'.heap[t]? = some (.cells (twC n w 1 k (u + 1)) 49 (0, 0)) ∧ OnlyB t W W') := by
  have HS := cover (state_any h)
  obtain ⟨x, hx⟩ : ∃ x, u + 1 = x := ⟨_, rfl⟩
  have HW : wrap64 (u + 1) = x := by rw [← hx]; exact IntWalk.wrap64_in _ ⟨by omega, by omega⟩
  obtain ⟨w2, hw2⟩ : ∃ w2, Hid (w2 = W.setCell ⟨t, 4, none⟩ (.int .i64 x)) := ⟨_, cover rfl⟩
  have T2 : w2.heap[t]? = some (.cells (twC n w 1 k x) 49 (0, 0)) := by rw [hw2.out, set_block h]; rfl
  have O2 : Hid (OnlyB t W w2) := cover (by rw [hw2.out]; exact (OnlyB.refl t W).setCell 4 _)
  obtain ⟨c0, c1, c2, c3, c4⟩ := five_cells h
  obtain ⟨d0, d1, d2, d3, d4⟩ := five_cells T2
  have F1 := not_frozen h 4
  have HT := cover T2
  rw [hx] at hw ⊢
  clear h T2 hu hx
  go_enter Try.func25, Try.ntmps25
  go_wp2_with fail
  refine HS.out.mono ?_
  rintro e w' ⟨rfl, rfl⟩
  go_wp2_with (rw [← hw2.out])
  go_quiet (fail)
  go_wp2_with fail
  go_quiet (fail)
  go_wp2
  go_ret
  exact ⟨rfl, cover ⟨HT.out, O2.out.drewN _⟩⟩
theorem pass_last {W : World} {t : Nat} {n w k u : Int} (h : W.heap[t]? = some (.cells (twC n w 1 k u) 49 (0, 0))) (hu : 0 ≤ u ∧ u ≤ 10000) (hw : w ≤ u + 1) (hk : n ≤ k) :
    Calls Try.prog 25 #[ptr t] W fun e W' => e = .returned Value.nilFunc ∧ Hid (W'.heap[t]? = some (.cells (twC n w 2 k (u + 1)) 49 (0, 0)) ∧ OnlyB t W W') := by
  have HS := cover (state_any h)
  obtain ⟨x, hx⟩ : ∃ x, u + 1 = x := ⟨_, rfl⟩
  have HW : wrap64 (u + 1) = x := by rw [← hx]; exact IntWalk.wrap64_in _ ⟨by omega, by omega⟩
  obtain ⟨w2, hw2⟩ : ∃ w2, Hid (w2 = W.setCell ⟨t, 4, none⟩ (.int .i64 x)) := ⟨_, cover rfl⟩
  have T2 : w2.heap[t]? = some (.cells (twC n w 1 k x) 49 (0, 0)) := by rw [hw2.out, set_block h]; rfl
  have O2 : Hid (OnlyB t W w2) := cover (by rw [hw2.out]; exact (OnlyB.refl t W).setCell 4 _)
  obtain ⟨c0, c1, c2, c3, c4⟩ := five_cells h
  obtain ⟨d0, d1, d2, d3, d4⟩ := five_cells T2
  have F1 := not_frozen h 4
  have HT := cover T2
  rw [hx] at hw ⊢
  clear h T2 hu hx
  go_enter Try.func25, Try.ntmps25
  go_wp2_with fail
  refine HS.out.mono ?_
  rintro e w' ⟨rfl, rfl⟩
  go_wp2_with (rw [← hw2.out])
  go_quiet (fail)
  go_wp2_with fail
  go_quiet (fail)
  generalize hw3 : World.drewN (World.drewN w2 _) _ = w3
  have T3 : w3.heap[t]? = some (.cells (twC n w 1 k x) 49 (0, 0)) := by rw [← hw3]; exact HT.out
  have O3 : Hid (OnlyB t w' w3) := cover (by rw [← hw3]; exact (O2.out.drewN _).drewN _)
  obtain ⟨w4, hw4⟩ : ∃ w4, Hid (w4 = w3.setCell ⟨t, 2, none⟩ (.int .i64 2)) := ⟨_, cover rfl⟩
  have T4 : Hid (w4.heap[t]? = some (.cells (twC n w 2 k x) 49 (0, 0))) := cover (by rw [hw4.out, set_block T3]; rfl)
  have O4 : Hid (OnlyB t w' w4) := cover (by rw [hw4.out]; exact O3.out.setCell 2 _)
  have F3 := not_frozen T3 2
  obtain ⟨e0, e1, e2, e3, e4⟩ := five_cells T3
  clear hw3 HT O2 O3 d0 d1 d2 d3 d4 T3
  go_wp2_with (rw [← hw4.out])
  go_ret
  exact ⟨rfl, cover ⟨T4.out, O4.out⟩⟩

/-- the maker: ask, or none -/
def mkF : Bool → Nat → Value
  | true, t => askF t
  | false, _ => Value.nilFunc
/-- what Start and Tick hand back, and what becomes of the Twin -/
def SendOut (W : World) (t : Nat) (v : BV) (b : Bool) (e : Ending) (W' : World) : Prop :=
  e = .returned (.tuple #[.agg (sentC b none 0), .bool b]) ∧ Hid (TwP W' t v ∧ OnlyB t W W')
theorem sent_size (b : Bool) : (Try.prog.info? 30).map (fun x => x.size) = some (sentC b none 0).size := by cases b <;> exact pdu_size
theorem cell_store (b : Bool) : ((sentC b none 0).all fun x => x.oneCell') = true := by
  cases b
  · exact zp_one
  · exact tst_one _ _ _
/-- made behind begin or pass -/
theorem made_any {W : World} {t : Nat} {v : BV} (b : Bool) {n w s k u : Int} (h : W.heap[t]? = some (.cells (twC n w s k u) 49 (0, 0)))
    (hb : b = true → (0 ≤ k ∧ k ≤ 1000) ∧ v.n = n ∧ v.w = w ∧ v.s = s ∧ v.k = k + 1 ∧ v.l = v.w) (hn : b = false → TwP W t v) (hok : BOk v) :
    Calls Try.prog 21 #[mkF b t] W (SendOut W t v b) := by
  cases b
  · refine (made_no W).mono ?_
    rintro e W' ⟨rfl, hb'⟩
    exact ⟨rfl, cover ⟨(hn rfl).below hb', OnlyB.of_below hb'⟩⟩
  · obtain ⟨h1, h2, h3, h4, h5, h6⟩ := hb rfl
    refine (made_yes h h1).mono ?_
    rintro e W' ⟨rfl, H⟩
    refine ⟨rfl, cover ⟨⟨hok, 0, ?_, by omega, fun _ => by omega⟩, H.out.2⟩⟩
    rw [h2, h3, h4, h5]
    exact H.out.1
set_option maxHeartbeats 1600000 in
theorem start_any {W : World} {t : Nat} {v : BV} (h : TwP W t v) :
    Calls Try.prog 10 #[ptr t] W (SendOut W t (startB v) (startsB v)) := by
  obtain ⟨w1, hw1⟩ : ∃ w1, w1 = W.alloc (.cells zp 30) := ⟨_, rfl⟩
  obtain ⟨g, hg⟩ : ∃ g, g = W.heap.size := ⟨_, rfl⟩
  have hb1 : Below W.heap.size W w1 := by rw [hw1]; exact (Below.refl _ _).alloc (Nat.le_refl _) _
  have H1 := h.below hb1
  have G1 : Hid (w1.heap[g]? = some (.cells zp 30 (0, 0))) := cover (by rw [hw1, hg]; exact heap_alloc_new _ _)
  have HNE : Hid (g ≠ t) := cover (by have := h.lt; omega)
  have HG := cover hg
  have O1 : Hid (OnlyB t W w1) := cover (OnlyB.of_below hb1)
  have HB : Hid (∃ x, Calls Try.prog 22 #[ptr t] w1 fun e W' => e = .returned (mkF (startsB v) t) ∧ Hid (OnlyB t w1 W' ∧ Calls Try.prog 21 #[mkF (startsB v) t] W' (SendOut W' t (startB v) (startsB v)))) := cover (by
    obtain ⟨u, h1, h2, h3⟩ := H1.hd
    refine ⟨0, ?_⟩
    by_cases hs : v.s = 1
    · rw [(startB_not hs).1, (startB_not hs).2]
      refine (begin_no h1 hs).mono ?_
      rintro e W' ⟨rfl, rfl⟩
      exact ⟨rfl, cover ⟨OnlyB.refl _ _, made_any false h1 (fun e => by cases e) (fun _ => H1) h.ok⟩⟩
    · have hok := BOk.start h.ok
      rw [(startB_yes hs).1] at hok
      rw [(startB_yes hs).1, (startB_yes hs).2]
      refine (begin_yes h1 hs h.ok.1.1.1).mono ?_
      rintro e W' ⟨rfl, k1, k2⟩
      exact ⟨rfl, cover ⟨k2, made_any true k1 (fun _ => ⟨by omega, rfl, rfl, rfl, rfl, rfl⟩) (fun e => by cases e) hok⟩⟩)
  clear hb1 H1 h
  obtain ⟨b, hb⟩ : ∃ b, b = startsB v := ⟨_, rfl⟩
  obtain ⟨v', hv'⟩ : ∃ v', v' = startB v := ⟨_, rfl⟩
  rw [← hb, ← hv'] at HB ⊢
  obtain ⟨_, HB⟩ := HB.out
  have HB := cover HB
  clear hb hv'
  go_enter Try.func10, Try.ntmps10
  go_upto_region 1 with fail
  rw [← hw1, ← hg]
  clear hw1 hg
  go_wp2_with fail
  refine HB.out.mono ?_
  rintro e w2 ⟨rfl, H2⟩
  have G2 := cover (only_keeps G1.out H2.out.1 HNE.out)
  go_wp2_with fail
  refine H2.out.2.mono ?_
  rintro e w3 ⟨rfl, H3⟩
  have G3 := cover (only_keeps G2.out H3.out.2 HNE.out)
  go_wp2_with (refine wpList_store_row rfl _ _ _ rfl g (sentC b none 0) rfl rfl 30 zp G3.out (sent_size b) (by cases b <;> rfl) (cell_store _) ?_)
  exact bodyPost_ret (v := .tuple #[.agg (sentC b none 0), .bool b]) (results_cell_and (by rfl) _ _ g _ (sentC b none 0) (0, 0) _ (.bool b) rfl (setRow_heap _ _ _ _ _ _ G3.out) rfl Try.underlying30 rfl (sent_size b)) rfl
    ⟨rfl, cover ⟨H3.out.1.keep (setRow_other _ _ _ _ (Ne.symm HNE.out)), OnlyB.setRow_new ((O1.out.trans H2.out.1).trans H3.out.2) (by have := HG.out; omega) _⟩⟩
end Go.Proofs.Ytbhdncbnjlgigaa
