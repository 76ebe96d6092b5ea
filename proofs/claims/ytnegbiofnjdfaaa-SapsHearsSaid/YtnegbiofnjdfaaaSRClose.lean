/- What the document's own Close does. -/
import Derived.Test.YtnegbiofnjdfaaaSROpen
namespace Go.Proofs.Ytnegbiofnjdfaaa
open Go.RowKit
set_option linter.unusedVariables false

theorem cut_close {l : List SV} (h : l.Pairwise (fun a b => a.sap < b.sap)) {i : Nat} {s : SV} (hi : l[i]? = some s) : l.take i ++ l.drop (i + 1) = closeS l s.sap := by
  induction l generalizing i with
  | nil => simp at hi
  | cons y l ih =>
    rw [List.pairwise_cons] at h
    cases i with
    | zero =>
      simp at hi
      subst hi
      rw [close_cons, if_pos rfl]
      have hno : hasS l y.sap = false := by
        cases hc : hasS l y.sap
        · rfl
        · obtain ⟨s, hs, e⟩ := hasS_iff.1 hc
          have := h.1 s hs
          omega
      rw [close_no hno]
      rfl
    | succ i =>
      have hi' : l[i]? = some s := by simpa using hi
      have := h.1 s (List.mem_of_getElem? hi')
      rw [close_cons, if_neg (by omega), ← ih h.2 hi']
      rfl
set_option maxRecDepth 100000 in
set_option maxHeartbeats 1600000 in
theorem rclose_yes {w : World} {r : Nat} {V : Value} {us : List SU} (h : RSIn w r V us) (k : Int) (hk : hasS (us.map (·.1)) k = true) :
    Calls Try.prog 30 #[ptr r, .int .i64 k] w fun e w' => e = .returned (.int .i64 0) ∧ Hid (RSNow r V (closeS (us.map (·.1)) k) w w') := by
  obtain ⟨i, u, hi, hsk, hno⟩ := placeU_ex hk
  have HF := rat_at h k i u hi hsk hno
  have hil := (List.getElem?_eq_some_iff.1 hi).1
  obtain ⟨g, cp, hv, hncp, hgl, _⟩ := h.row.cell hi
  have HH := cover (And.intro h (And.intro hi hsk))
  have hlen := h.len
  have hcell : ∀ j u, (flat3 us)[j]? = some u → w.cell? ⟨g, j, none⟩ = some u := fun j u hj => by
    have hr := h.row
    rw [hv] at hr
    rw [World.ownsRow.cellAt hr j (by have := (List.getElem?_eq_some_iff.1 hj).1; rw [flat3_len] at this; omega)]; exact hj
  obtain ⟨n, hn⟩ : ∃ n, n = us.length := ⟨_, rfl⟩
  rw [← hn] at hv hncp hil hlen
  have HNL := cover hn
  have HCL := cover hcell
  have hrl := block_lt h.hd
  have hcl2 := h.cell0
  have hfr := h.thaw 0
  rw [hv] at hcl2
  have HV := cover hv
  have HG : Hid (∀ wx, Below w.heap.size w wx → ∀ u ∈ us, GrpIn wx u) := cover (fun wx hb u hu => row_keeps (h.grp u hu) (fun i hi => hb.block i ((h.grp u hu).lt i hi).2))
  clear h hk hno hi hcell hv hn hsk
  have h3 : (fun W' : World => W'.cell? ⟨r, 0, none⟩ = some (.slice (some ⟨g, 0, none⟩) n cp) ∧ W'.frozen? ⟨r, 0, none⟩ = false) w.drew := ⟨hcl2, hfr⟩
  have hin : (i : Int) + 1 ≤ (n : Int) := by omega
  have hin' : i + 1 ≤ n := by omega
  have hp0 : ¬ ((i : Int) + 1 < 0) := by omega
  have hic : i ≤ cp := by omega
  have hwr : IntKind.i64.wrap ((i : Int) + 1) = (i : Int) + 1 := by rw [IntKind.wrap_i64]; omega
  obtain ⟨tv, htv⟩ : ∃ tv, tv = Value.slice (if cp = i + 1 then some ⟨g, 0, none⟩ else some ⟨g, (i + 1) * 3, none⟩) (n - (i + 1)) (cp - (i + 1)) := ⟨_, rfl⟩
  have mixed : Try.prog.follows .mixedOrders = true := by kernel_rfl
  go_enter Try.func30, Try.ntmps30
  go_wp2_with fail
  refine HF.mono ?_
  rintro e w1 ⟨rfl, rfl⟩
  clear HF hcl2 hfr
  go_wp2_with fail
  refine (wpIn_wide (n := 0)).1 ?_
  refine held_begin (fun W' : World => W'.cell? ⟨r, 0, none⟩ = some (.slice (some ⟨g, 0, none⟩) n cp) ∧ W'.frozen? ⟨r, 0, none⟩ = false) 19 mixed ?_
  refine hold_take 0 _ rfl (by kernel_rfl) (by kernel_rfl) (by kernel_rfl) (by kernel_rfl) (by kernel_rfl) (fun _ _ _ h => h) (by rfl) (fun _ => rfl) h3 (fun w' hS => by obtain ⟨q0, q1⟩ := hS; go_simp; rfl) ?_
  simp only [Act.put, List.setIfInBounds_toArray, List.set_cons_zero, List.set_cons_succ]
  refine hold_take 2 _ rfl (by kernel_rfl) (by kernel_rfl) (by kernel_rfl) (by kernel_rfl) (by kernel_rfl) (fun _ _ _ h => h) (by rfl) (fun _ => rfl) h3 (fun w' hS => by obtain ⟨q0, q1⟩ := hS; go_simp; rfl) ?_
  simp only [Act.put, List.setIfInBounds_toArray, List.set_cons_zero, List.set_cons_succ]
  refine hold_take 3 _ rfl (by kernel_rfl) (by kernel_rfl) (by kernel_rfl) (by kernel_rfl) (by kernel_rfl) (fun _ _ _ h => h) (by rfl) (fun _ => rfl) h3 (fun w' hS => by obtain ⟨q0, q1⟩ := hS; go_simp; rfl) ?_
  simp only [Act.put, List.setIfInBounds_toArray, List.set_cons_zero, List.set_cons_succ]
  refine hold_take 4 _ rfl (by kernel_rfl) (by kernel_rfl) (by kernel_rfl) (by kernel_rfl) (by kernel_rfl) (fun _ _ _ h => h) (by rfl) (fun _ => rfl) h3 (fun w' hS => by obtain ⟨q0, q1⟩ := hS; go_simp; rfl) ?_
  simp only [Act.put, List.setIfInBounds_toArray, List.set_cons_zero, List.set_cons_succ]
  refine hold_take 5 _ rfl (by kernel_rfl) (by kernel_rfl) (by kernel_rfl) (by kernel_rfl) (by kernel_rfl) (fun _ _ _ h => h) (by rfl) (fun _ => rfl) h3 (fun w' hS => by obtain ⟨q0, q1⟩ := hS; go_simp; rfl) ?_
  simp only [Act.put, List.setIfInBounds_toArray, List.set_cons_zero, List.set_cons_succ]
  refine hold_take 6 _ rfl (by kernel_rfl) (by kernel_rfl) (by kernel_rfl) (by kernel_rfl) (by kernel_rfl) (fun _ _ _ h => h) (by rfl) (fun _ => rfl) h3 (fun w' hS => by obtain ⟨q0, q1⟩ := hS; go_simp; rfl) ?_
  simp only [Act.put, List.setIfInBounds_toArray, List.set_cons_zero, List.set_cons_succ]
  refine hold_take 7 (.slice (some ⟨g, 0, none⟩) i cp) rfl (by kernel_rfl) (by kernel_rfl) (by kernel_rfl) (by kernel_rfl) (by kernel_rfl) (fun _ _ _ h => h) (by rfl) (fun _ => rfl) h3 (fun w' hS => by obtain ⟨q0, q1⟩ := hS; go_simp; skip) ?_
  simp only [Act.put, List.setIfInBounds_toArray, List.set_cons_zero, List.set_cons_succ]
  refine hold_take 9 _ rfl (by kernel_rfl) (by kernel_rfl) (by kernel_rfl) (by kernel_rfl) (by kernel_rfl) (fun _ _ _ h => h) (by rfl) (fun _ => rfl) h3 (fun w' hS => by obtain ⟨q0, q1⟩ := hS; go_simp; rfl) ?_
  simp only [Act.put, List.setIfInBounds_toArray, List.set_cons_zero, List.set_cons_succ]
  refine hold_take 10 _ rfl (by kernel_rfl) (by kernel_rfl) (by kernel_rfl) (by kernel_rfl) (by kernel_rfl) (fun _ _ _ h => h) (by rfl) (fun _ => rfl) h3 (fun w' hS => by obtain ⟨q0, q1⟩ := hS; go_simp; rfl) ?_
  simp only [Act.put, List.setIfInBounds_toArray, List.set_cons_zero, List.set_cons_succ]
  refine hold_take 11 _ rfl (by kernel_rfl) (by kernel_rfl) (by kernel_rfl) (by kernel_rfl) (by kernel_rfl) (fun _ _ _ h => h) (by rfl) (fun _ => rfl) h3 (fun w' hS => by obtain ⟨q0, q1⟩ := hS; go_simp; rfl) ?_
  simp only [Act.put, List.setIfInBounds_toArray, List.set_cons_zero, List.set_cons_succ]
  refine hold_take 12 _ rfl (by kernel_rfl) (by kernel_rfl) (by kernel_rfl) (by kernel_rfl) (by kernel_rfl) (fun _ _ _ h => h) (by rfl) (fun _ => rfl) h3 (fun w' hS => by obtain ⟨q0, q1⟩ := hS; go_simp; rfl) ?_
  simp only [Act.put, List.setIfInBounds_toArray, List.set_cons_zero, List.set_cons_succ]
  refine hold_take 13 _ rfl (by kernel_rfl) (by kernel_rfl) (by kernel_rfl) (by kernel_rfl) (by kernel_rfl) (fun _ _ _ h => h) (by rfl) (fun _ => rfl) h3 (fun w' hS => by obtain ⟨q0, q1⟩ := hS; go_simp; rfl) ?_
  simp only [Act.put, List.setIfInBounds_toArray, List.set_cons_zero, List.set_cons_succ]
  refine hold_take 14 (.int .i64 ((i : Int) + 1)) rfl (by kernel_rfl) (by kernel_rfl) (by kernel_rfl) (by kernel_rfl) (by kernel_rfl) (fun _ _ _ h => h) (by rfl) (fun _ => rfl) h3 (fun w' hS => by obtain ⟨q0, q1⟩ := hS; go_simp; skip) ?_
  simp only [Act.put, List.setIfInBounds_toArray, List.set_cons_zero, List.set_cons_succ]
  refine hold_take 15 tv rfl (by kernel_rfl) (by kernel_rfl) (by kernel_rfl) (by kernel_rfl) (by kernel_rfl) (fun _ _ _ h => h) (by rfl) (fun _ => rfl) h3 (fun w' hS => by obtain ⟨q0, q1⟩ := hS; go_simp; skip) ?_
  simp only [Act.put, List.setIfInBounds_toArray, List.set_cons_zero, List.set_cons_succ]
  have HTV := cover htv
  clear htv
  refine hold_one 1 (by kernel_rfl) rfl (by rfl) fun K hK => ?_
  obtain ⟨y, hy⟩ : ∃ y, y = w.heap.size := ⟨_, rfl⟩
  obtain ⟨w3, hw3⟩ : ∃ w3, w3 = w.drew.alloc (.cells #[] 62) := ⟨_, rfl⟩
  have hb3 : Below w.heap.size w w3 := by rw [hw3]; exact (Below.refl _ _).drew.alloc (Nat.le_refl _) _
  have hn3 : w3.heap[y]? = some (.cells #[] 62 (0, 0)) := by rw [hw3, hy]; exact heap_alloc_new w.drew _
  refine run_in (fun c h => by cases h) (fun _ _ => trivial) (v := .slice (some ⟨y, 0, none⟩) 0 0) (w' := w3) (by rw [hw3, hy]; go_simp) ?_
  have hS : ∀ W', Below w.heap.size w W' → (fun W' : World => W'.cell? ⟨r, 0, none⟩ = some (.slice (some ⟨g, 0, none⟩) n cp) ∧ W'.frozen? ⟨r, 0, none⟩ = false) W' := fun W' hb => by
    obtain ⟨q0, q1⟩ := h3
    exact ⟨(hb.cell (p := ⟨r, 0, none⟩) hrl).trans q0, by have h0 := hb.block r hrl; unfold World.frozen? at q1 ⊢; rw [h0]; exact q1⟩
  have h33 := hS w3 hb3
  refine hK _ _ (.inr h33) ?_
  clear hK K hw3
  have hown3 : OwnU w3 (.slice (some ⟨y, 0, none⟩) 0 0) [] := ⟨rfl, .inr ⟨y, 0, #[], rfl, Nat.zero_le _, hn3, Nat.le_refl _, Nat.zero_le _, rfl, rfl⟩⟩
  refine hold_one 8 (by kernel_rfl) rfl (by rfl) fun K hK => ?_
  obtain ⟨v4, w4, hr4, ⟨A4, c4, hv4⟩, HO4⟩ := OwnU.append hown3 ⟨g, 0, none⟩ i cp (news := us.take i) (by rw [List.length_take, ← HNL.out]; omega) (fun x hx => HG.out w3 hb3 x (List.mem_of_mem_take hx)) (fun j u hj => by
      rw [add_off, Nat.zero_add, hb3.cell (p := ⟨g, j, none⟩) hgl]
      rw [flat3_take, List.getElem?_take] at hj
      split at hj
      · exact HCL.out j u hj
      · cases hj) (by simp; omega) 32
  refine run_in (fun c h => by cases h) (fun _ _ => trivial) (v := v4) (w' := w4) (appends_exec _ _ _ _ rfl (.slice (some ⟨y, 0, none⟩) 0 0) (.slice (some ⟨g, 0, none⟩) i cp) (by go_simp) (by go_simp) hr4) ?_
  have hS4 : ∀ k, (Value.slice (some ⟨y, 0, none⟩) 0 0).ownBlock = some k → w.heap.size ≤ k := fun k hk => by
    have : y = k := by simpa [Value.ownBlock] using hk
    omega
  have hb4 : Below w.heap.size w w4 := Moves.below hb3 HO4.out.2 hS4 hb3.size
  have h34 := hS w4 hb4
  refine hK _ _ (.inr h34) ?_
  clear hK K hr4
  have hS5 : ∀ k, v4.ownBlock = some k → w.heap.size ≤ k := fun k hk => (HO4.out.2.own k hk).elim (hS4 k) (fun h => Nat.le_trans hb3.size h)
  have hown4 : OwnU w4 v4 (us.take i) := by have := HO4.out.1; rwa [List.nil_append] at this
  have hlt4 : (us.take i).length = i := by rw [List.length_take, ← HNL.out]; omega
  refine hold_one 16 (by kernel_rfl) rfl (by rfl) fun K hK => ?_
  have happ : ∃ v5 w5, (Builtin.append_ #[32, 32] 32 #[v4, tv]).run Try.prog w4 = .ok v5 w5 ∧ (∃ A c', v5 = .slice A ((us.take i).length + (n - (i + 1))) c') ∧ Hid (OwnU w5 v5 (us.take i ++ us.drop (i + 1)) ∧ Moves (fun k => v4.ownBlock = some k) (fun k => v5.ownBlock = some k) w4 w5) := by
    rw [HTV.out]
    by_cases hc : cp = i + 1
    · have h0 : n - (i + 1) = 0 := by omega
      have hd0 : us.drop (i + 1) = [] := List.drop_eq_nil_of_le (by rw [← HNL.out]; omega)
      rw [if_pos hc]
      exact OwnU.append hown4 ⟨g, 0, none⟩ (n - (i + 1)) (cp - (i + 1)) (news := us.drop (i + 1)) (by rw [hd0, h0]; rfl) (fun x hx => by rw [hd0] at hx; cases hx) (fun j u hj => by rw [hd0] at hj; simp [flat3] at hj) (by omega) _
    · rw [if_neg hc]
      exact OwnU.append hown4 ⟨g, (i + 1) * 3, none⟩ (n - (i + 1)) (cp - (i + 1)) (news := us.drop (i + 1)) (by rw [List.length_drop, ← HNL.out]) (fun x hx => HG.out w4 hb4 x (List.mem_of_mem_drop hx)) (fun j u hj => by
        rw [add_off, hb4.cell (p := ⟨g, (i + 1) * 3 + j, none⟩) hgl]
        rw [flat3_drop, List.getElem?_drop] at hj
        exact HCL.out _ u hj) (by omega) _
  obtain ⟨v5, w5, hr5, ⟨A5, c5, hv5⟩, HO5⟩ := happ
  refine run_in (fun c h => by cases h) (fun _ _ => trivial) (v := v5) (w' := w5) (appends_exec _ _ _ _ rfl v4 tv (by go_simp) (by go_simp) hr5) ?_
  have hb5 : Below w.heap.size w w5 := Moves.below hb4 HO5.out.2 hS5 hb4.size
  have h35 := hS w5 hb5
  refine hK _ _ (.inr h35) ?_
  clear hK K hr5
  have HN : Hid (RSNow r (.slice (some ⟨g, 0, none⟩) n cp) (closeS (us.map (·.1)) k) w (w5.setCell ⟨r, 0, none⟩ v5)) := by
    obtain ⟨hh, hi, hsk⟩ := HH.out
    have hmap : (us.take i ++ us.drop (i + 1)).map (·.1) = closeS (us.map (·.1)) k := by
      rw [List.map_append, List.map_take, List.map_drop, ← hsk]
      exact cut_close hh.ok.rise (by rw [List.getElem?_map, hi]; rfl)
    obtain ⟨k1, k2⟩ := hh.turn (V' := v5) (w' := w5) (us' := us.take i ++ us.drop (i + 1)) ⟨hb5.os, hb5.tape, hb5.output, hb5.size, fun i hi _ => hb5.block i hi, fun i hi => .inr ((HO5.out.2.own i hi).elim (hS5 i) (fun h => Nat.le_trans hb4.size h))⟩ HO5.out.1 (fun x hx => HG.out w5 hb5 x (by
      rcases List.mem_append.1 hx with hx | hx
      · exact List.mem_of_mem_take hx
      · exact List.mem_of_mem_drop hx)) (by rw [hmap]; exact hh.ok.close k)
    rw [HV.out] at k2
    exact cover ⟨v5, _, hmap, k1, k2⟩
  rw [← HV.out] at HN
  refine hold_one 17 (by kernel_rfl) rfl (by rfl) fun K hK => ?_
  go_simp
  refine hK _ _ (.inr h35) ?_
  clear hK K
  refine hold_one 18 (by kernel_rfl) rfl (by rfl) fun K hK => ?_
  go_simp
  refine hK _ _ (.inr h35) ?_
  clear hK K
  refine hold_one 19 (by kernel_rfl) rfl (by rfl) fun K hK => ?_
  obtain ⟨q0, q1⟩ := h35
  rw [hlt4] at hv5
  subst hv5
  go_simp
  refine hK _ _ (.inl rfl) (held_done (by kernel_rfl) ?_ _)
  clear hK K
  go_wp2
  go_ret
  exact ⟨rfl, HN⟩
set_option maxHeartbeats 800000 in
theorem rclose_any {w : World} {r : Nat} {V : Value} {us : List SU} (h : RSIn w r V us) (k : Int) :
    Calls Try.prog 30 #[ptr r, .int .i64 k] w fun e w' => e = .returned (.int .i64 (closeE (us.map (·.1)) k)) ∧ Hid (RSNow r V (closeS (us.map (·.1)) k) w w') := by
  cases hk : hasS (us.map (·.1)) k
  · have e1 : closeE (us.map (·.1)) k = 7 := by unfold closeE; rw [hk]; rfl
    rw [e1, close_no hk]
    have HF := rat_none h k hk
    have HN := cover (RSNow.below h (Below.refl _ _))
    clear h hk e1
    go_enter Try.func30, Try.ntmps30
    go_wp2_with fail
    refine HF.mono ?_
    rintro e w1 ⟨rfl, rfl⟩
    go_wp2
    go_ret
    exact ⟨rfl, HN⟩
  · have e1 : closeE (us.map (·.1)) k = 0 := by unfold closeE; rw [hk]; rfl
    rw [e1]
    exact rclose_yes h k hk
end Go.Proofs.Ytnegbiofnjdfaaa
