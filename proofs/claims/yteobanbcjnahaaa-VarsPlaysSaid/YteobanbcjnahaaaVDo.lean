/- Sent, Took, Acked, Back and Clear of vars. -/
import Derived.Deep.CutBlock
import Derived.Deep.DeepCutAuto
import Derived.Deep.RegionHeld3
import Derived.Test.YteobanbcjnahaaaFHeld
import Derived.Test.YteobanbcjnahaaaVFun
namespace Go.Proofs.Yteobanbcjnahaaa
open Go.RowKit
set_option linter.unusedVariables false
set_option linter.unusedSimpArgs false

theorem VaP.drewN {W : World} {t : Nat} {v : VV} (h : VaP W t v) (n : Nat) : VaP (W.drewN n) t v := h.keep rfl
theorem VaP.drew {W : World} {t : Nat} {v : VV} (h : VaP W t v) : VaP W.drew t v := h.keep rfl
theorem below_any {W W1 W2 : World} (h : Below W.heap.size W W1) (k : Below W1.heap.size W1 W2) : Below W.heap.size W W2 := h.trans (k.mono h.size)
theorem below_drew {W W1 W2 : World} (h : Below W.heap.size W W1) (k : Below W1.drew.heap.size W1.drew W2) : Below W.heap.size W W2 := (below_drewN h 1).trans (k.mono h.size)

set_option maxHeartbeats 800000 in
theorem sent_any {W : World} {t : Nat} {v : VV} (h : VaP W t v) :
    Calls Try.prog 8 #[ptr t] W fun e W' => e = .returned (.int .i64 (sentV v)) ∧ Hid (VaP W' t (sentS v) ∧ OnlyB t W W') := by
  have hmf : ∀ (fn : Fn) (first cap : Array Value) (w : World), (Instr.makeFunc fn first cap).run Try.prog w = .ok (.func fn first cap) w := fun _ _ _ _ => rfl
  have HV := cover h
  clear h
  go_enter Try.func8, Try.ntmps8
  go_upto_region 3 with fail
  have mixed : Try.prog.follows .mixedOrders = true := by kernel_rfl
  refine (wpIn_wide (n := 0)).1 ?_
  refine held_begin (fun _ : World => True) 99 mixed ?_
  have HS : (fun _ : World => True) W.drew := trivial
  refine hold_take 0 _ rfl (by kernel_rfl) (by kernel_rfl) (by kernel_rfl) (by kernel_rfl) (by kernel_rfl) (fun _ _ _ h => h) (by rfl) (fun _ => rfl) HS (fun w' hS => by go_simp; rfl) ?_
  simp only [Act.put, List.setIfInBounds_toArray, List.set_cons_zero, List.set_cons_succ]
  refine hold_take 3 _ rfl (by kernel_rfl) (by kernel_rfl) (by kernel_rfl) (by kernel_rfl) (by kernel_rfl) (fun _ _ _ h => h) (by rfl) (fun _ => rfl) HS (fun w' hS => by go_simp; rfl) ?_
  simp only [Act.put, List.setIfInBounds_toArray, List.set_cons_zero, List.set_cons_succ]
  refine hold_take 4 _ rfl (by kernel_rfl) (by kernel_rfl) (by kernel_rfl) (by kernel_rfl) (by kernel_rfl) (fun _ _ _ h => h) (by rfl) (fun _ => rfl) HS (fun w' hS => by go_simp; rfl) ?_
  simp only [Act.put, List.setIfInBounds_toArray, List.set_cons_zero, List.set_cons_succ]
  refine hold_take 5 _ rfl (by kernel_rfl) (by kernel_rfl) (by kernel_rfl) (by kernel_rfl) (by kernel_rfl) (fun _ _ _ h => h) (by rfl) (fun _ => rfl) HS (fun w' hS => by go_simp; rfl) ?_
  simp only [Act.put, List.setIfInBounds_toArray, List.set_cons_zero, List.set_cons_succ]
  refine hold_take 6 _ rfl (by kernel_rfl) (by kernel_rfl) (by kernel_rfl) (by kernel_rfl) (by kernel_rfl) (fun _ _ _ h => h) (by rfl) (fun _ => rfl) HS (fun w' hS => by go_simp; rfl) ?_
  simp only [Act.put, List.setIfInBounds_toArray, List.set_cons_zero, List.set_cons_succ]
  refine hold_one 1 (by kernel_rfl) rfl (by rfl) fun K hK => ?_
  go_simp
  refine ⟨trivial, rfl, (callsIn_wide.2 (out_any HV.out.drew)).mono ?_⟩
  rintro e w1 ⟨rfl, hb1⟩
  refine hK _ _ (.inr trivial) ?_
  clear hK K
  have H1 := cover (HV.out.drew.below hb1)
  have HB : Hid (Below W.heap.size W w1) := cover (below_drew (Below.refl _ _) hb1)
  clear hb1
  by_cases hf : outV v = 127
  · have E1 : Hid (sentV v = -1 ∧ sentS v = v) := cover ⟨if_pos hf, if_pos hf⟩
    rw [hf]
    refine hold_take 2 (.bool false) rfl (by kernel_rfl) (by kernel_rfl) (by kernel_rfl) (by kernel_rfl) (by kernel_rfl) (fun _ _ _ h => h) (by rfl) (fun _ => rfl) HS (fun w' hS => by go_simp) ?_
    simp only [Act.put, List.setIfInBounds_toArray, List.set_cons_zero, List.set_cons_succ]
    refine hold_one 7 (by kernel_rfl) rfl (by rfl) fun K hK => ?_
    go_simp
    refine ⟨trivial, rfl, (callsIn_wide.2 (take_no (W := w1) _)).mono ?_⟩
    rintro e w2 ⟨rfl, rfl⟩
    refine hK _ _ (.inr trivial) ?_
    clear hK K
    refine hold_one 8 (by kernel_rfl) rfl (by rfl) fun K hK => ?_
    go_simp
    refine hK _ _ (.inr trivial) (held_done (by kernel_rfl) ?_ _)
    clear hK K
    go_wp2
    go_ret
    exact ⟨ret_int E1.out.1.symm, cover (by rw [E1.out.2]; exact ⟨H1.out, OnlyB.of_below HB.out⟩)⟩
  · have E1 : Hid (sentV v = v.vs ∧ sentS v = { v with vs := addI v.vs 1 }) := cover ⟨if_neg hf, if_neg hf⟩
    have hlt : outV v < 127 := by have := outV_bd v; omega
    have hdec : decide (outV v < 127) = true := decide_eq_true hlt
    have HC := cover (take_yes (three_cells H1.out.hd).1 (not_frozen H1.out.hd 0))
    refine hold_take 2 (.bool true) rfl (by kernel_rfl) (by kernel_rfl) (by kernel_rfl) (by kernel_rfl) (by kernel_rfl) (fun _ _ _ h => h) (by rfl) (fun _ => rfl) HS (fun w' hS => by go_simp) ?_
    simp only [Act.put, List.setIfInBounds_toArray, List.set_cons_zero, List.set_cons_succ]
    clear hf hlt hdec
    refine hold_one 7 (by kernel_rfl) rfl (by rfl) fun K hK => ?_
    go_simp
    refine ⟨trivial, rfl, (callsIn_wide.2 HC.out).mono ?_⟩
    rintro e w2 ⟨rfl, h2⟩
    have H2 := cover h2
    clear h2
    refine hK _ _ (.inr trivial) ?_
    clear hK K
    refine hold_one 8 (by kernel_rfl) rfl (by rfl) fun K hK => ?_
    go_simp
    refine hK _ _ (.inr trivial) (held_done (by kernel_rfl) ?_ _)
    clear hK K
    go_wp2
    go_ret
    refine ⟨ret_int E1.out.1.symm, cover ⟨⟨VOk.sent HV.out.ok, ?_⟩, ?_⟩⟩
    · rw [H2.out, E1.out.2, set_block H1.out.hd]; rfl
    · rw [H2.out]; exact (OnlyB.of_below HB.out).setCell 0 _
theorem took_any {W : World} {t : Nat} {v : VV} (h : VaP W t v) :
    Calls Try.prog 12 #[ptr t] W fun e W' => e = .returned (.int .i64 v.vr) ∧ Hid (VaP W' t (tookS v) ∧ OnlyB t W W') := by
  have hmf : ∀ (fn : Fn) (first cap : Array Value) (w : World), (Instr.makeFunc fn first cap).run Try.prog w = .ok (.func fn first cap) w := fun _ _ _ _ => rfl
  have HV := cover h
  have HC := cover (take_yes (three_cells h.hd).2.1 (not_frozen h.hd 1))
  clear h
  go_enter Try.func12, Try.ntmps12
  go_wp2_with fail
  refine HC.out.mono ?_
  rintro e w2 ⟨rfl, h2⟩
  have H2 := cover h2
  clear h2
  go_wp2
  go_ret
  refine ⟨rfl, cover ⟨⟨VOk.took HV.out.ok, ?_⟩, ?_⟩⟩
  · rw [H2.out, set_block HV.out.hd]; rfl
  · rw [H2.out]; exact (OnlyB.refl _ _).setCell 1 _
theorem back_any {W : World} {t : Nat} {v : VV} (h : VaP W t v) :
    Calls Try.prog 10 #[ptr t] W fun e W' => e = .returned (.int .i64 (outV v)) ∧ Hid (VaP W' t (backS v) ∧ OnlyB t W W') := by
  have HV := cover h
  clear h
  go_enter Try.func10, Try.ntmps10
  go_wp2_with fail
  refine (out_any HV.out).mono ?_
  rintro e w1 ⟨rfl, hb1⟩
  have H1 := cover (HV.out.below hb1)
  have HB := cover hb1
  obtain ⟨w2, hw2⟩ : ∃ w2, Hid (w2 = w1.setCell ⟨t, 0, none⟩ (.int .i64 v.va)) := ⟨_, cover rfl⟩
  obtain ⟨c0, c1, c2⟩ := three_cells H1.out.hd
  have F1 := not_frozen H1.out.hd 0
  clear hb1
  go_wp2_with (rw [← hw2.out])
  go_ret
  refine ⟨rfl, cover ⟨⟨VOk.back HV.out.ok, ?_⟩, ?_⟩⟩
  · rw [hw2.out, set_block H1.out.hd]; rfl
  · rw [hw2.out]; exact (OnlyB.of_below HB.out).setCell 0 _
theorem okA_lo {v : VV} {nr : Int} (h : nr < 0 ∨ 128 ≤ nr) : ackV v nr = -1 ∧ ackS v nr = v := acks_no (outI_far (by omega))
set_option maxHeartbeats 800000 in
theorem acked_any {W : World} {t : Nat} {v : VV} (h : VaP W t v) (nr : Int) :
    Calls Try.prog 9 #[ptr t, .int .i64 nr] W fun e W' => e = .returned (.int .i64 (ackV v nr)) ∧ Hid (VaP W' t (ackS v nr) ∧ OnlyB t W W') := by
  have HV := cover h
  clear h
  by_cases h0 : nr < 0
  · have E := cover (okA_lo (v := v) (.inl h0))
    go_enter Try.func9, Try.ntmps9
    go_wp2
    go_ret
    exact ⟨ret_int E.out.1.symm, cover (by rw [E.out.2]; exact ⟨HV.out, OnlyB.refl _ _⟩)⟩
  by_cases h1 : (128 : Int) ≤ nr
  · have E := cover (okA_lo (v := v) (.inr h1))
    go_enter Try.func9, Try.ntmps9
    go_wp2
    go_ret
    exact ⟨ret_int E.out.1.symm, cover (by rw [E.out.2]; exact ⟨HV.out, OnlyB.refl _ _⟩)⟩
  have HN : Hid (0 ≤ nr ∧ nr ≤ 127) := cover (by omega)
  go_enter Try.func9, Try.ntmps9
  go_wp2_with fail
  refine (va_any HV.out).mono ?_
  rintro e w1 ⟨rfl, hb1⟩
  have H1 := cover (HV.out.below hb1)
  have B1 := cover hb1
  clear hb1
  go_wp2_with fail
  refine (vs_any H1.out).mono ?_
  rintro e w2 ⟨rfl, hb2⟩
  have H2 := cover (H1.out.below hb2)
  have B2 := cover (below_any B1.out hb2)
  clear hb2 H1 B1
  go_wp2_with fail
  refine (sIn_any nr v.va v.vs w2).mono ?_
  rintro e w3 ⟨rfl, rfl⟩
  rcases hin : inR nr v.va v.vs with _ | _
  · have E : Hid (ackV v nr = -1 ∧ ackS v nr = v) := cover (acks_no (fun hk => by rw [hk.2] at hin; cases hin))
    clear hin
    go_wp2
    go_ret
    exact ⟨ret_int E.out.1.symm, cover (by rw [E.out.2]; exact ⟨H2.out, OnlyB.of_below B2.out⟩)⟩
  · have E : Hid (ackV v nr = dist v.va nr ∧ ackS v nr = { v with va := nr }) := cover (by
      have hk : okA v nr := ⟨HN.out, hin⟩
      unfold ackV ackS; rw [if_pos hk, if_pos hk]; exact ⟨rfl, rfl⟩)
    clear hin
    go_wp2_with fail
    refine (va_any H2.out).mono ?_
    rintro e w4 ⟨rfl, hb4⟩
    have H4 := cover (H2.out.below hb4)
    have B4 := cover (below_any B2.out hb4)
    clear hb4 H2 B2
    go_wp2_with fail
    refine (sDist_any v.va nr w4).mono ?_
    rintro e w5 ⟨rfl, rfl⟩
    obtain ⟨w6, hw6⟩ : ∃ w6, Hid (w6 = w5.setCell ⟨t, 2, none⟩ (.int .i64 nr)) := ⟨_, cover rfl⟩
    have F1 := not_frozen H4.out.hd 2
    obtain ⟨c0, c1, c2⟩ := three_cells H4.out.hd
    go_wp2_with (rw [← hw6.out])
    go_ret
    refine ⟨ret_int E.out.1.symm, cover ⟨⟨VOk.acked HV.out.ok nr, ?_⟩, ?_⟩⟩
    · rw [hw6.out, E.out.2, set_block H4.out.hd]; rfl
    · rw [hw6.out]; exact (OnlyB.of_below B4.out).setCell 2 _
theorem clear_any {W : World} {t : Nat} {v : VV} (h : VaP W t v) :
    Calls Try.prog 19 #[ptr t] W fun e W' => e = .returned (.tuple #[]) ∧ Hid (VaP W' t zVV ∧ OnlyB t W W') := by
  have HV := cover h
  clear h
  obtain ⟨w2, hw2⟩ : ∃ w2, Hid (w2 = W.setRow t (vC 0 0 0)) := ⟨_, cover rfl⟩
  go_enter Try.func19, Try.ntmps19
  go_wp2_with (refine wpList_store_row rfl _ _ _ rfl t (vC 0 0 0) rfl rfl 26 (vC v.vs v.vr v.va) HV.out.hd vars_size rfl (vC_one _ _ _) ?_; rw [← hw2.out])
  go_end0
  refine ⟨rfl, cover ⟨⟨VOk.zero, ?_⟩, ?_⟩⟩
  · rw [hw2.out]; exact setRow_heap _ _ _ _ _ _ HV.out.hd
  · rw [hw2.out]
    exact ⟨rfl, rfl, rfl, by simp [World.setRow], fun i hi hne => setRow_other _ _ _ _ (fun e => hne (by rw [e]))⟩
end Go.Proofs.Yteobanbcjnahaaa
