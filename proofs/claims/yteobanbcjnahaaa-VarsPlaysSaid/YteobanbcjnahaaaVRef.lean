/- The document's own Vars. -/
import Derived.Deep.CutBlock
import Derived.Deep.DeepCutAuto
import Derived.Deep.RegionHeld3
import Derived.BigQuiet
import Derived.Test.YteobanbcjnahaaaFHeld
import Derived.Test.YteobanbcjnahaaaNRef
import Derived.Test.YteobanbcjnahaaaVDo
namespace Go.Proofs.Yteobanbcjnahaaa
open Go.RowKit
set_option linter.unusedVariables false
set_option linter.unusedSimpArgs false

/-- a Vars of the document's at block r that stands so -/
structure VaR (W : World) (r : Nat) (v : VV) : Prop where
  ok : VOk v
  hd : W.heap[r]? = some (.cells (vC v.vs v.vr v.va) 32 (0, 0))
theorem VaR.lt {W : World} {t : Nat} {v : VV} (h : VaR W t v) : t < W.heap.size := block_lt h.hd
theorem VaR.keep {W W' : World} {t : Nat} {v : VV} (h : VaR W t v) (hk : W'.heap[t]? = W.heap[t]?) : VaR W' t v := ⟨h.ok, hk.trans h.hd⟩
theorem VaR.below {W W' : World} {t : Nat} {v : VV} (h : VaR W t v) (hb : Below W.heap.size W W') : VaR W' t v := h.keep (hb.block t h.lt)
theorem VaR.only {W W' : World} {t g : Nat} {v : VV} (h : VaR W t v) (hb : OnlyB g W W') (hne : t ≠ g) : VaR W' t v := h.keep (hb.block t h.lt (fun e => hne (by injection e)))
theorem VaR.drewN {W : World} {t : Nat} {v : VV} (h : VaR W t v) (n : Nat) : VaR (W.drewN n) t v := h.keep rfl
theorem OnlyB.of_draw {g : Nat} {W W' : World} {d : Nat} (h : W' = W.drewN d) : OnlyB g W W' := by rw [h]; exact (OnlyB.refl g W).drewN d

theorem rout_any {W : World} {t : Nat} {v : VV} (h : VaR W t v) :
    Calls Try.prog 17 #[ptr t] W fun e W' => e = .returned (.int .i64 (outV v)) ∧ ∃ d, W' = W.drewN d := by
  obtain ⟨c0, c1, c2⟩ := three_cells h.hd
  have HO : Hid (dist v.va v.vs = outV v) := cover rfl
  clear h
  go_enter Try.func17, Try.ntmps17
  go_upto_region 1 with fail
  go_region_held3 (fun W' : World => W'.cell? ⟨t, 0, none⟩ = some (.int .i64 v.vs) ∧ W'.cell? ⟨t, 2, none⟩ = some (.int .i64 v.va) ∧ ∃ d, W' = W.drewN d)
    (first
      | exact ⟨c0, c2, 1, rfl⟩)
    ((go_at_call 29; refine (dist_any v.va v.vs _).mono ?_; rintro e wX ⟨rfl, rfl⟩))
  go_wp2
  go_ret
  exact ⟨ret_int HO.out, _, rfl⟩
theorem rsent_any {W : World} {t : Nat} {v : VV} (h : VaR W t v) :
    Calls Try.prog 14 #[ptr t] W fun e W' => e = .returned (.int .i64 (sentV v)) ∧ Hid (VaR W' t (sentS v) ∧ OnlyB t W W') := by
  have HV := cover h
  clear h
  go_enter Try.func14, Try.ntmps14
  go_wp2_with fail
  refine (rout_any HV.out).mono ?_
  rintro e w1 ⟨rfl, d, hd⟩
  have H1 : Hid (VaR w1 t v ∧ OnlyB t W w1) := cover (by rw [hd]; exact ⟨HV.out.drewN d, (OnlyB.refl t W).drewN d⟩)
  clear hd d
  by_cases hf : outV v = 127
  · have E1 : Hid (sentV v = -1 ∧ sentS v = v) := cover ⟨if_pos hf, if_pos hf⟩
    rw [hf]
    clear hf
    go_wp2
    go_ret
    exact ⟨ret_int E1.out.1.symm, cover (by rw [E1.out.2]; exact H1.out)⟩
  · have E1 : Hid (sentV v = v.vs ∧ sentS v = { v with vs := addI v.vs 1 }) := cover ⟨if_neg hf, if_neg hf⟩
    have hfB : (outV v == 127) = false := by simpa using hf
    obtain ⟨c0, c1, c2⟩ := three_cells H1.out.1.hd
    have F1 := not_frozen H1.out.1.hd 0
    obtain ⟨w2, hw2⟩ : ∃ w2, Hid (w2 = w1.setCell ⟨t, 0, none⟩ (.int .i64 (addI v.vs 1))) := ⟨_, cover rfl⟩
    clear hf
    go_wp2_with fail
    refine (add_any v.vs 1 w1).mono ?_
    rintro e w3 ⟨rfl, rfl⟩
    go_wp2_with (rw [← hw2.out])
    go_ret
    refine ⟨ret_int E1.out.1.symm, cover ⟨⟨VOk.sent HV.out.ok, ?_⟩, ?_⟩⟩
    · rw [hw2.out, E1.out.2, set_block H1.out.1.hd]; rfl
    · rw [hw2.out]; exact H1.out.2.setCell 0 _
theorem rtook_any {W : World} {t : Nat} {v : VV} (h : VaR W t v) :
    Calls Try.prog 15 #[ptr t] W fun e W' => e = .returned (.int .i64 v.vr) ∧ Hid (VaR W' t (tookS v) ∧ OnlyB t W W') := by
  obtain ⟨c0, c1, c2⟩ := three_cells h.hd
  have F1 := not_frozen h.hd 1
  have HV := cover h
  obtain ⟨w2, hw2⟩ : ∃ w2, Hid (w2 = W.setCell ⟨t, 1, none⟩ (.int .i64 (addI v.vr 1))) := ⟨_, cover rfl⟩
  clear h
  go_enter Try.func15, Try.ntmps15
  go_wp2_with fail
  refine (add_any v.vr 1 W).mono ?_
  rintro e w3 ⟨rfl, rfl⟩
  go_wp2_with (rw [← hw2.out])
  go_ret
  refine ⟨rfl, cover ⟨⟨VOk.took HV.out.ok, ?_⟩, ?_⟩⟩
  · rw [hw2.out, set_block HV.out.hd]; rfl
  · rw [hw2.out]; exact (OnlyB.refl _ _).setCell 1 _
theorem rback_any {W : World} {t : Nat} {v : VV} (h : VaR W t v) :
    Calls Try.prog 18 #[ptr t] W fun e W' => e = .returned (.int .i64 (outV v)) ∧ Hid (VaR W' t (backS v) ∧ OnlyB t W W') := by
  have HV := cover h
  clear h
  go_enter Try.func18, Try.ntmps18
  go_wp2_with fail
  refine (rout_any HV.out).mono ?_
  rintro e w1 ⟨rfl, d, hd⟩
  have H1 : Hid (VaR w1 t v ∧ OnlyB t W w1) := cover (by rw [hd]; exact ⟨HV.out.drewN d, (OnlyB.refl t W).drewN d⟩)
  clear hd d
  obtain ⟨c0, c1, c2⟩ := three_cells H1.out.1.hd
  have F1 := not_frozen H1.out.1.hd 0
  obtain ⟨w2, hw2⟩ : ∃ w2, Hid (w2 = w1.setCell ⟨t, 0, none⟩ (.int .i64 v.va)) := ⟨_, cover rfl⟩
  go_wp2_with (rw [← hw2.out])
  go_ret
  refine ⟨rfl, cover ⟨⟨VOk.back HV.out.ok, ?_⟩, ?_⟩⟩
  · rw [hw2.out, set_block H1.out.1.hd]; rfl
  · rw [hw2.out]; exact H1.out.2.setCell 0 _
set_option maxHeartbeats 800000 in
theorem racked_any {W : World} {t : Nat} {v : VV} (h : VaR W t v) (nr : Int) :
    Calls Try.prog 16 #[ptr t, .int .i64 nr] W fun e W' => e = .returned (.int .i64 (ackV v nr)) ∧ Hid (VaR W' t (ackS v nr) ∧ OnlyB t W W') := by
  have HV := cover h
  obtain ⟨c0, c1, c2⟩ := three_cells h.hd
  have F1 := not_frozen h.hd 2
  clear h
  by_cases h0 : nr < 0
  · have E := cover (okA_lo (v := v) (.inl h0))
    go_enter Try.func16, Try.ntmps16
    go_upto_region 1 with fail
    go_quiet (fail)
    go_wp2
    go_ret
    exact ⟨ret_int E.out.1.symm, cover (by rw [E.out.2]; exact ⟨HV.out.drewN _, (OnlyB.refl _ _).drewN _⟩)⟩
  by_cases h1 : (127 : Int) < nr
  · have E := cover (okA_lo (v := v) (nr := nr) (.inr (by omega)))
    go_enter Try.func16, Try.ntmps16
    go_upto_region 1 with fail
    go_quiet (fail)
    go_wp2
    go_ret
    exact ⟨ret_int E.out.1.symm, cover (by rw [E.out.2]; exact ⟨HV.out.drewN _, (OnlyB.refl _ _).drewN _⟩)⟩
  have HN : Hid (0 ≤ nr ∧ nr ≤ 127) := cover (by omega)
  obtain ⟨b, hb⟩ : ∃ b, Hid (inR nr v.va v.vs = b) := ⟨_, cover rfl⟩
  go_enter Try.func16, Try.ntmps16
  go_upto_region 1 with fail
  go_region_held3 (fun W' : World => W'.cell? ⟨t, 0, none⟩ = some (.int .i64 v.vs) ∧ W'.cell? ⟨t, 2, none⟩ = some (.int .i64 v.va) ∧ ∃ d, W' = W.drewN d)
    (first
      | exact ⟨c0, c2, 1, rfl⟩)
    ((go_at_call 28; refine (in_any nr v.va v.vs _).mono ?_; rw [hb.out]; rintro e wX ⟨rfl, rfl⟩))
  rcases b with _ | _
  · have E : Hid (ackV v nr = -1 ∧ ackS v nr = v) := cover (acks_no (fun hk => by rw [hk.2] at hb; cases hb.out))
    clear hb
    go_wp2
    go_ret
    exact ⟨ret_int E.out.1.symm, cover (by rw [E.out.2]; exact ⟨HV.out.drewN _, (OnlyB.refl _ _).drewN _⟩)⟩
  · have E : Hid (ackV v nr = dist v.va nr ∧ ackS v nr = { v with va := nr }) := cover (by
      have hk : okA v nr := ⟨HN.out, hb.out⟩
      unfold ackV ackS; rw [if_pos hk, if_pos hk]; exact ⟨rfl, rfl⟩)
    clear hb
    go_wp2_with fail
    refine (dist_any v.va nr _).mono ?_
    rintro e w5 ⟨rfl, h5⟩
    have H5 : Hid (VaR w5 t v ∧ OnlyB t W w5) := cover (by rw [h5]; exact ⟨HV.out.drewN _, (OnlyB.refl _ _).drewN _⟩)
    clear h5 c0 c1 c2 F1
    obtain ⟨c0, c1, c2⟩ := three_cells H5.out.1.hd
    obtain ⟨w6, hw6⟩ : ∃ w6, Hid (w6 = w5.setCell ⟨t, 2, none⟩ (.int .i64 nr)) := ⟨_, cover rfl⟩
    have F1 := not_frozen H5.out.1.hd 2
    go_wp2_with (rw [← hw6.out])
    go_ret
    refine ⟨ret_int E.out.1.symm, cover ⟨⟨VOk.acked HV.out.ok nr, ?_⟩, ?_⟩⟩
    · rw [hw6.out, E.out.2, set_block H5.out.1.hd]; rfl
    · rw [hw6.out]; exact H5.out.2.setCell 2 _
end Go.Proofs.Yteobanbcjnahaaa
