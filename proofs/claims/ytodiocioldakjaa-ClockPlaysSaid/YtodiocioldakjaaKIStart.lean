/- What Start does. -/
import Derived.Test.YtodiocioldakjaaKIStop
namespace Go.Proofs.Ytodiocioldakjaa
open Go.RowKit
set_option linter.unusedVariables false

/-- what Start leaves behind -/
def StartI (S : Foot) (c m now : Nat) (l : List (Int × Int)) (k : Int) (t : Int) (w : World) (e : Ending) (w' : World) : Prop :=
  e = .returned (.bool (startB m l k t 10000)) ∧ Hid (CINow S c m now (if startB m l k t 10000 = true then startK l k t else l) w w')
set_option maxHeartbeats 800000 in
theorem startI_bad {w : World} {c : Nat} {V : Value} {m now : Nat} {l : List (Int × Int)} (h : CIIn w c V m now l) (k : Int) (t : Int) (ht : t < 1 ∨ 10000 < t) :
    Calls Try.prog 15 #[ptr c, .int .i64 k, .int .i64 t] w (StartI (cfoot c V) c m now l k t w) := by
  have HF : Hid (StartI (cfoot c V) c m now l k t w (.returned (.bool false)) w) := cover (by
    unfold StartI
    rw [startB_no ht]
    exact ⟨rfl, cover ⟨V, h, Moves.refl _ _⟩⟩)
  generalize StartI (cfoot c V) c m now l k t w = Post at HF ⊢
  clear h
  by_cases h1 : t < 1
  · clear ht
    go_enter Try.func15, Try.ntmps15
    go_wp2
    exact HF.out
  · have h2 : t > 10000 := by omega
    clear ht
    go_enter Try.func15, Try.ntmps15
    go_wp2
    exact HF.out
/-- what is started stands behind all others -/
theorem putI_is (now : Nat) (l : List (Int × Int)) (k : Int) (t : Int) : endsK now (stopK l k) ++ [(k, (now : Int) + t)] = endsK now (startK l k t) := by
  unfold startK endsK; rw [List.map_append]; rfl
set_option maxRecDepth 100000 in
set_option maxHeartbeats 1600000 in
theorem startI_again {w : World} {c : Nat} {V : Value} {m now : Nat} {l : List (Int × Int)} (h : CIIn w c V m now l) (k : Int) (t : Int) (h1 : 1 ≤ t) (h2 : t ≤ 10000) (hk : hasK l k = true) :
    Calls Try.prog 15 #[ptr c, .int .i64 k, .int .i64 t] w (StartI (cfoot c V) c m now l k t w) := by
  have HB : Hid (startB m l k t 10000 = true) := cover (by rw [startB_is h1 h2]; simp [hk])
  have hnb := h.nb
  have hmb := h.mb
  have mixed : Try.prog.follows .mixedOrders = true := by kernel_rfl
  have HOK : Hid (InK m 10000 (startK l k t)) := cover (h.ok.start HB.out)
  have HS := stopI_at h k hk
  have h3 : (fun W' : World => W'.cell? ⟨c, 0, none⟩ = some (.int .i64 m)) w.drew := h.cells.1
  have H := cover h
  have hg1 : ¬ t < 1 := by omega
  have hg2 : ¬ t > 10000 := by omega
  have HKK := cover hk
  clear h hk
  go_enter Try.func15, Try.ntmps15
  go_wp2_with fail
  refine (wpIn_wide (n := 0)).1 ?_
  refine held_begin (fun W' : World => W'.cell? ⟨c, 0, none⟩ = some (.int .i64 m)) 99 mixed ?_
  refine hold_take 0 _ rfl (by kernel_rfl) (by kernel_rfl) (by kernel_rfl) (by kernel_rfl) (by kernel_rfl) (fun _ _ _ h => h) (by rfl) (fun _ => rfl) h3 (fun w' hS => by have q0 := hS; go_simp; rfl) ?_
  simp only [Act.put, List.setIfInBounds_toArray, List.set_cons_zero, List.set_cons_succ]
  refine hold_take 1 _ rfl (by kernel_rfl) (by kernel_rfl) (by kernel_rfl) (by kernel_rfl) (by kernel_rfl) (fun _ _ _ h => h) (by rfl) (fun _ => rfl) h3 (fun w' hS => by have q0 := hS; go_simp; rfl) ?_
  simp only [Act.put, List.setIfInBounds_toArray, List.set_cons_zero, List.set_cons_succ]
  refine hold_one 2 (by kernel_rfl) rfl (by rfl) fun K hK => ?_
  go_simp
  refine ⟨trivial, rfl, (callsIn_wide.2 (stopI_at (H.out.drewN 1) k (by have := HB.out; exact HKK.out))).mono ?_⟩
  rintro e w2 ⟨rfl, hn2⟩
  obtain ⟨V2, hc2, hm2⟩ := hn2.out
  have H2 := cover (And.intro hc2 (show Moves (cfoot c V) (cfoot c V2) w w2 from ⟨hm2.os, hm2.tape, hm2.output, hm2.size, hm2.block, hm2.own⟩))
  have h32 : (fun W' : World => W'.cell? ⟨c, 0, none⟩ = some (.int .i64 m)) w2 := hc2.cells.1
  clear hn2 hc2 hm2
  refine hK _ _ (.inr h32) ?_
  clear hK K
  refine hold_take 3 _ rfl (by kernel_rfl) (by kernel_rfl) (by kernel_rfl) (by kernel_rfl) (by kernel_rfl) (fun _ _ _ h => h) (by rfl) (fun _ => rfl) h32 (fun w' hS => by have q0 := hS; go_simp; rfl) ?_
  simp only [Act.put, List.setIfInBounds_toArray, List.set_cons_zero, List.set_cons_succ]
  refine hold_take 4 _ rfl (by kernel_rfl) (by kernel_rfl) (by kernel_rfl) (by kernel_rfl) (by kernel_rfl) (fun _ _ _ h => h) (by rfl) (fun _ => rfl) h32 (fun w' hS => by have q0 := hS; go_simp; rfl) ?_
  simp only [Act.put, List.setIfInBounds_toArray, List.set_cons_zero, List.set_cons_succ]
  refine hold_skip 5 rfl (by kernel_rfl) (by kernel_rfl) (by kernel_rfl) (by kernel_rfl) (by kernel_rfl) (fun _ _ _ h => h) (by rfl) (fun _ => rfl) h32 ?_
  simp only [Act.put, List.setIfInBounds_toArray, List.set_cons_zero, List.set_cons_succ]
  refine hold_skip 7 rfl (by kernel_rfl) (by kernel_rfl) (by kernel_rfl) (by kernel_rfl) (by kernel_rfl) (fun _ _ _ h => h) (by rfl) (fun _ => rfl) h32 ?_
  simp only [Act.put, List.setIfInBounds_toArray, List.set_cons_zero, List.set_cons_succ]
  refine hold_skip 8 rfl (by kernel_rfl) (by kernel_rfl) (by kernel_rfl) (by kernel_rfl) (by kernel_rfl) (fun _ _ _ h => h) (by rfl) (fun _ => rfl) h32 ?_
  simp only [Act.put, List.setIfInBounds_toArray, List.set_cons_zero, List.set_cons_succ]
  refine hold_skip 9 rfl (by kernel_rfl) (by kernel_rfl) (by kernel_rfl) (by kernel_rfl) (by kernel_rfl) (fun _ _ _ h => h) (by rfl) (fun _ => rfl) h32 ?_
  simp only [Act.put, List.setIfInBounds_toArray, List.set_cons_zero, List.set_cons_succ]
  refine hold_skip 10 rfl (by kernel_rfl) (by kernel_rfl) (by kernel_rfl) (by kernel_rfl) (by kernel_rfl) (fun _ _ _ h => h) (by rfl) (fun _ => rfl) h32 ?_
  simp only [Act.put, List.setIfInBounds_toArray, List.set_cons_zero, List.set_cons_succ]
  refine hold_pass 6 (by kernel_rfl) rfl (by rfl) (fun _ _ => trivial) h32 ?_
  simp only [Act.put, List.setIfInBounds_toArray, List.set_cons_zero, List.set_cons_succ]
  refine hold_skip 11 rfl (by kernel_rfl) (by kernel_rfl) (by kernel_rfl) (by kernel_rfl) (by kernel_rfl) (fun _ _ _ h => h) (by rfl) (fun _ => rfl) h32 ?_
  simp only [Act.put, List.setIfInBounds_toArray, List.set_cons_zero, List.set_cons_succ]
  refine hold_take 12 _ rfl (by kernel_rfl) (by kernel_rfl) (by kernel_rfl) (by kernel_rfl) (by kernel_rfl) (fun _ _ _ h => h) (by rfl) (fun _ => rfl) h32 (fun w' hS => by have q0 := hS; go_simp; rfl) ?_
  simp only [Act.put, List.setIfInBounds_toArray, List.set_cons_zero, List.set_cons_succ]
  refine held_done (by kernel_rfl) ?_ _
  obtain ⟨A2, cp2, hsh⟩ := H2.out.1.shape
  obtain ⟨L2, hL2⟩ : ∃ L2, L2 = (stopK l k).length := ⟨_, rfl⟩
  rw [← hL2] at hsh
  subst hsh
  have hcl2 := block_lt H2.out.1.hd
  have h5 : (fun W' : World => W'.cell? ⟨c, 1, none⟩ = some (.int .i64 now) ∧ W'.cell? ⟨c, 2, none⟩ = some (.slice A2 L2 cp2) ∧ W'.frozen? ⟨c, 2, none⟩ = false) w2.drew := ⟨H2.out.1.cells.2.1, H2.out.1.cells.2.2, H2.out.1.thaw 2⟩
  obtain ⟨z, hz⟩ : ∃ z : Int, z = (now : Int) + t := ⟨_, rfl⟩
  have hzw : IntKind.i64.wrap ((now : Int) + t) = z := by rw [IntKind.wrap_i64]; omega
  go_wp2_with fail
  refine (wpIn_wide (n := 0)).1 ?_
  refine held_begin (fun W' : World => W'.cell? ⟨c, 1, none⟩ = some (.int .i64 now) ∧ W'.cell? ⟨c, 2, none⟩ = some (.slice A2 L2 cp2) ∧ W'.frozen? ⟨c, 2, none⟩ = false) 17 mixed ?_
  refine hold_take 0 _ rfl (by kernel_rfl) (by kernel_rfl) (by kernel_rfl) (by kernel_rfl) (by kernel_rfl) (fun _ _ _ h => h) (by rfl) (fun _ => rfl) h5 (fun w' hS => by obtain ⟨q0, q1, q2⟩ := hS; go_simp; rfl) ?_
  simp only [Act.put, List.setIfInBounds_toArray, List.set_cons_zero, List.set_cons_succ]
  refine hold_take 1 _ rfl (by kernel_rfl) (by kernel_rfl) (by kernel_rfl) (by kernel_rfl) (by kernel_rfl) (fun _ _ _ h => h) (by rfl) (fun _ => rfl) h5 (fun w' hS => by obtain ⟨q0, q1, q2⟩ := hS; go_simp; rfl) ?_
  simp only [Act.put, List.setIfInBounds_toArray, List.set_cons_zero, List.set_cons_succ]
  refine hold_take 2 _ rfl (by kernel_rfl) (by kernel_rfl) (by kernel_rfl) (by kernel_rfl) (by kernel_rfl) (fun _ _ _ h => h) (by rfl) (fun _ => rfl) h5 (fun w' hS => by obtain ⟨q0, q1, q2⟩ := hS; go_simp; rfl) ?_
  simp only [Act.put, List.setIfInBounds_toArray, List.set_cons_zero, List.set_cons_succ]
  refine hold_take 3 _ rfl (by kernel_rfl) (by kernel_rfl) (by kernel_rfl) (by kernel_rfl) (by kernel_rfl) (fun _ _ _ h => h) (by rfl) (fun _ => rfl) h5 (fun w' hS => by obtain ⟨q0, q1, q2⟩ := hS; go_simp; rfl) ?_
  simp only [Act.put, List.setIfInBounds_toArray, List.set_cons_zero, List.set_cons_succ]
  refine hold_take 4 _ rfl (by kernel_rfl) (by kernel_rfl) (by kernel_rfl) (by kernel_rfl) (by kernel_rfl) (fun _ _ _ h => h) (by rfl) (fun _ => rfl) h5 (fun w' hS => by obtain ⟨q0, q1, q2⟩ := hS; go_simp; rfl) ?_
  simp only [Act.put, List.setIfInBounds_toArray, List.set_cons_zero, List.set_cons_succ]
  refine hold_take 5 _ rfl (by kernel_rfl) (by kernel_rfl) (by kernel_rfl) (by kernel_rfl) (by kernel_rfl) (fun _ _ _ h => h) (by rfl) (fun _ => rfl) h5 (fun w' hS => by obtain ⟨q0, q1, q2⟩ := hS; go_simp; rfl) ?_
  simp only [Act.put, List.setIfInBounds_toArray, List.set_cons_zero, List.set_cons_succ]
  refine hold_take 6 _ rfl (by kernel_rfl) (by kernel_rfl) (by kernel_rfl) (by kernel_rfl) (by kernel_rfl) (fun _ _ _ h => h) (by rfl) (fun _ => rfl) h5 (fun w' hS => by obtain ⟨q0, q1, q2⟩ := hS; go_simp; rfl) ?_
  simp only [Act.put, List.setIfInBounds_toArray, List.set_cons_zero, List.set_cons_succ]
  refine hold_take 7 _ rfl (by kernel_rfl) (by kernel_rfl) (by kernel_rfl) (by kernel_rfl) (by kernel_rfl) (fun _ _ _ h => h) (by rfl) (fun _ => rfl) h5 (fun w' hS => by obtain ⟨q0, q1, q2⟩ := hS; go_simp; rfl) ?_
  simp only [Act.put, List.setIfInBounds_toArray, List.set_cons_zero, List.set_cons_succ]
  refine hold_take 8 _ rfl (by kernel_rfl) (by kernel_rfl) (by kernel_rfl) (by kernel_rfl) (by kernel_rfl) (fun _ _ _ h => h) (by rfl) (fun _ => rfl) h5 (fun w' hS => by obtain ⟨q0, q1, q2⟩ := hS; go_simp; rfl) ?_
  simp only [Act.put, List.setIfInBounds_toArray, List.set_cons_zero, List.set_cons_succ]
  refine hold_take 9 _ rfl (by kernel_rfl) (by kernel_rfl) (by kernel_rfl) (by kernel_rfl) (by kernel_rfl) (fun _ _ _ h => h) (by rfl) (fun _ => rfl) h5 (fun w' hS => by obtain ⟨q0, q1, q2⟩ := hS; go_simp; rfl) ?_
  simp only [Act.put, List.setIfInBounds_toArray, List.set_cons_zero, List.set_cons_succ]
  refine hold_take 10 _ rfl (by kernel_rfl) (by kernel_rfl) (by kernel_rfl) (by kernel_rfl) (by kernel_rfl) (fun _ _ _ h => h) (by rfl) (fun _ => rfl) h5 (fun w' hS => by obtain ⟨q0, q1, q2⟩ := hS; go_simp; rfl) ?_
  simp only [Act.put, List.setIfInBounds_toArray, List.set_cons_zero, List.set_cons_succ]
  refine hold_take 11 (.int .i64 z) rfl (by kernel_rfl) (by kernel_rfl) (by kernel_rfl) (by kernel_rfl) (by kernel_rfl) (fun _ _ _ h => h) (by rfl) (fun _ => rfl) h5 (fun w' hS => by obtain ⟨q0, q1, q2⟩ := hS; go_simp; skip) ?_
  simp only [Act.put, List.setIfInBounds_toArray, List.set_cons_zero, List.set_cons_succ]
  refine hold_take 12 _ rfl (by kernel_rfl) (by kernel_rfl) (by kernel_rfl) (by kernel_rfl) (by kernel_rfl) (fun _ _ _ h => h) (by rfl) (fun _ => rfl) h5 (fun w' hS => by obtain ⟨q0, q1, q2⟩ := hS; go_simp; rfl) ?_
  simp only [Act.put, List.setIfInBounds_toArray, List.set_cons_zero, List.set_cons_succ]
  refine hold_one 13 (by kernel_rfl) rfl (by rfl) fun K hK => ?_
  obtain ⟨y, hy⟩ : ∃ y, y = w2.heap.size := ⟨_, rfl⟩
  obtain ⟨w3, hw3⟩ : ∃ w3, w3 = w2.drew.alloc (.cells #[.int .i64 k, .int .i64 z] 72) := ⟨_, rfl⟩
  have hb3 : Below w2.heap.size w2 w3 := by rw [hw3]; exact (Below.refl _ _).drew.alloc (Nat.le_refl _) _
  have hn3 : w3.heap[y]? = some (.cells #[.int .i64 k, .int .i64 z] 72 (0, 0)) := by rw [hw3, hy]; exact heap_alloc_new w2.drew _
  refine run_in (fun c h => by cases h) (fun _ _ => trivial) (v := .slice (some ⟨y, 0, none⟩) 1 1) (w' := w3) (by rw [hw3, hy]; go_simp) ?_
  have hf3 : ∀ o, w3.cell? ⟨c, o, none⟩ = w2.cell? ⟨c, o, none⟩ := fun o => hb3.cell (p := ⟨c, o, none⟩) hcl2
  have hd3 := (hb3.block c hcl2).trans H2.out.1.hd
  have h53 : (fun W' : World => W'.cell? ⟨c, 1, none⟩ = some (.int .i64 now) ∧ W'.cell? ⟨c, 2, none⟩ = some (.slice A2 L2 cp2) ∧ W'.frozen? ⟨c, 2, none⟩ = false) w3 := ⟨(hf3 1).trans h5.1, (hf3 2).trans h5.2.1, by simp [World.frozen?, hd3]⟩
  refine hK _ _ (.inr h53) ?_
  clear hK K hw3
  refine hold_one 14 (by kernel_rfl) rfl (by rfl) fun K2 hK2 => ?_
  obtain ⟨i0, hi0, hz0, hz1, hz2⟩ := info_parts timerI_info
  have hrow3 : OwnI 72 w3 (.slice A2 L2 cp2) (endsK now (stopK l k)) := (H2.out.1.below hb3).row
  have hlen2 := H2.out.1.len
  obtain ⟨v', w4, hr4, ⟨A4, c4, hv4⟩, HO⟩ := OwnI.append Try.underlying68 hi0 hz0 rfl hz1 (by rw [hz2]; decide) hrow3 ⟨y, 0, none⟩ 1 1 (news := [(k, z)]) rfl (fun j u hj => by
      rw [add_off, cell_of_row _ _ _ _ _ _ hn3, Nat.zero_add]
      simpa [flatI] using hj) (by rw [endsK_len]; omega) 68
  refine run_in (fun c h => by cases h) (fun _ _ => trivial) (v := v') (w' := w4) (appends_exec _ _ _ _ rfl (.slice A2 L2 cp2) (.slice (some ⟨y, 0, none⟩) 1 1) (by go_simp) (by go_simp) hr4) ?_
  have hd4 : w4.heap[c]? = _ := HO.out.2.at_ hd3 H2.out.1.apart
  have h54 : (fun W' : World => W'.cell? ⟨c, 1, none⟩ = some (.int .i64 now) ∧ W'.cell? ⟨c, 2, none⟩ = some (.slice A2 L2 cp2) ∧ W'.frozen? ⟨c, 2, none⟩ = false) w4 := ⟨by rw [cell_of_row _ _ _ _ _ _ hd4]; rfl, by rw [cell_of_row _ _ _ _ _ _ hd4]; rfl, by simp [World.frozen?, hd4]⟩
  refine hK2 _ _ (.inr h54) ?_
  have HN : Hid (CINow (cfoot c V) c m now (startK l k t) w (w4.setCell ⟨c, 2, none⟩ v')) := by
    obtain ⟨ho, hm⟩ := HO.out
    rw [hz, putI_is] at ho
    obtain ⟨k1, k2⟩ := H2.out.1.raw.turn (Moves.after hb3 hm) ho (HOK.out)
    exact cover ⟨v', k1, H2.out.2.trans k2⟩
  clear hK2 K2 hr4 HO hrow3
  subst hv4
  refine hold_one 15 (by kernel_rfl) rfl (by rfl) fun K4 hK4 => ?_
  go_simp
  refine hK4 _ _ (.inr h54) ?_
  clear hK4 K4
  refine hold_one 16 (by kernel_rfl) rfl (by rfl) fun K4 hK4 => ?_
  go_simp
  refine hK4 _ _ (.inr h54) ?_
  clear hK4 K4
  refine hold_one 17 (by kernel_rfl) rfl (by rfl) fun K3 hK3 => ?_
  obtain ⟨q0, q1, q2⟩ := h54
  go_simp
  refine hK3 _ _ (.inl rfl) (held_done (by kernel_rfl) ?_ _)
  clear hK3 K3
  go_wp2
  go_ret
  unfold StartI
  rw [HB.out, if_pos rfl]
  exact ⟨rfl, HN⟩
set_option maxRecDepth 100000 in
set_option maxHeartbeats 1600000 in
theorem startI_more {w : World} {c : Nat} {V : Value} {m now : Nat} {l : List (Int × Int)} (h : CIIn w c V m now l) (k : Int) (t : Int) (h1 : 1 ≤ t) (h2 : t ≤ 10000) (hk : hasK l k = false) (hr : l.length < m) :
    Calls Try.prog 15 #[ptr c, .int .i64 k, .int .i64 t] w (StartI (cfoot c V) c m now l k t w) := by
  have HB : Hid (startB m l k t 10000 = true) := cover (by rw [startB_is h1 h2]; simp [hk, hr])
  have hnb := h.nb
  have hmb := h.mb
  have mixed : Try.prog.follows .mixedOrders = true := by kernel_rfl
  have HOK : Hid (InK m 10000 (startK l k t)) := cover (h.ok.start HB.out)
  have hge : decide ((m : Int) ≤ (l.length : Int)) = false := by rw [decide_eq_false_iff_not]; omega
  have hge2 : ¬ ((m : Int) ≤ (l.length : Int)) := by omega
  have hst : stopK l k = l := stopK_no hk
  have h3 : (fun W' : World => W'.cell? ⟨c, 0, none⟩ = some (.int .i64 m)) w.drew := h.cells.1
  have H := cover h
  have hg1 : ¬ t < 1 := by omega
  have hg2 : ¬ t > 10000 := by omega
  have HKK := cover hk
  have hln := h.len
  clear h hk
  go_enter Try.func15, Try.ntmps15
  go_wp2_with fail
  refine (wpIn_wide (n := 0)).1 ?_
  refine held_begin (fun W' : World => W'.cell? ⟨c, 0, none⟩ = some (.int .i64 m)) 99 mixed ?_
  refine hold_take 0 _ rfl (by kernel_rfl) (by kernel_rfl) (by kernel_rfl) (by kernel_rfl) (by kernel_rfl) (fun _ _ _ h => h) (by rfl) (fun _ => rfl) h3 (fun w' hS => by have q0 := hS; go_simp; rfl) ?_
  simp only [Act.put, List.setIfInBounds_toArray, List.set_cons_zero, List.set_cons_succ]
  refine hold_take 1 _ rfl (by kernel_rfl) (by kernel_rfl) (by kernel_rfl) (by kernel_rfl) (by kernel_rfl) (fun _ _ _ h => h) (by rfl) (fun _ => rfl) h3 (fun w' hS => by have q0 := hS; go_simp; rfl) ?_
  simp only [Act.put, List.setIfInBounds_toArray, List.set_cons_zero, List.set_cons_succ]
  refine hold_one 2 (by kernel_rfl) rfl (by rfl) fun K hK => ?_
  go_simp
  refine ⟨trivial, rfl, (callsIn_wide.2 (stopI_none (H.out.drewN 1) k HKK.out)).mono ?_⟩
  rintro e w2 ⟨rfl, hb2⟩
  have hc2 : CIIn w2 c V m now l := (H.out.drewN 1).below hb2
  have h32 : (fun W' : World => W'.cell? ⟨c, 0, none⟩ = some (.int .i64 m)) w2 := hc2.cells.1
  obtain ⟨V2, H2⟩ : ∃ V2, Hid (CIIn w2 c V2 m now (stopK l k) ∧ Moves (cfoot c V) (cfoot c V2) w w2) := ⟨V, cover ⟨by rw [hst]; exact hc2, Moves.of_below _ ⟨hb2.os, hb2.tape, hb2.output, hb2.size, hb2.block⟩⟩⟩
  have HL := cover (lenI_any hc2)
  have HST := cover hst
  clear hst
  clear hc2 hb2
  refine hK _ _ (.inr h32) ?_
  clear hK K
  refine hold_take 3 _ rfl (by kernel_rfl) (by kernel_rfl) (by kernel_rfl) (by kernel_rfl) (by kernel_rfl) (fun _ _ _ h => h) (by rfl) (fun _ => rfl) h32 (fun w' hS => by have q0 := hS; go_simp; rfl) ?_
  simp only [Act.put, List.setIfInBounds_toArray, List.set_cons_zero, List.set_cons_succ]
  refine hold_take 4 _ rfl (by kernel_rfl) (by kernel_rfl) (by kernel_rfl) (by kernel_rfl) (by kernel_rfl) (fun _ _ _ h => h) (by rfl) (fun _ => rfl) h32 (fun w' hS => by have q0 := hS; go_simp; rfl) ?_
  simp only [Act.put, List.setIfInBounds_toArray, List.set_cons_zero, List.set_cons_succ]
  refine hold_take 5 _ rfl (by kernel_rfl) (by kernel_rfl) (by kernel_rfl) (by kernel_rfl) (by kernel_rfl) (fun _ _ _ h => h) (by rfl) (fun _ => rfl) h32 (fun w' hS => by have q0 := hS; go_simp; rfl) ?_
  simp only [Act.put, List.setIfInBounds_toArray, List.set_cons_zero, List.set_cons_succ]
  refine hold_take 7 _ rfl (by kernel_rfl) (by kernel_rfl) (by kernel_rfl) (by kernel_rfl) (by kernel_rfl) (fun _ _ _ h => h) (by rfl) (fun _ => rfl) h32 (fun w' hS => by have q0 := hS; go_simp; rfl) ?_
  simp only [Act.put, List.setIfInBounds_toArray, List.set_cons_zero, List.set_cons_succ]
  refine hold_take 8 _ rfl (by kernel_rfl) (by kernel_rfl) (by kernel_rfl) (by kernel_rfl) (by kernel_rfl) (fun _ _ _ h => h) (by rfl) (fun _ => rfl) h32 (fun w' hS => by have q0 := hS; go_simp; rfl) ?_
  simp only [Act.put, List.setIfInBounds_toArray, List.set_cons_zero, List.set_cons_succ]
  refine hold_take 9 _ rfl (by kernel_rfl) (by kernel_rfl) (by kernel_rfl) (by kernel_rfl) (by kernel_rfl) (fun _ _ _ h => h) (by rfl) (fun _ => rfl) h32 (fun w' hS => by have q0 := hS; go_simp; rfl) ?_
  simp only [Act.put, List.setIfInBounds_toArray, List.set_cons_zero, List.set_cons_succ]
  refine hold_take 10 _ rfl (by kernel_rfl) (by kernel_rfl) (by kernel_rfl) (by kernel_rfl) (by kernel_rfl) (fun _ _ _ h => h) (by rfl) (fun _ => rfl) h32 (fun w' hS => by have q0 := hS; go_simp; rfl) ?_
  simp only [Act.put, List.setIfInBounds_toArray, List.set_cons_zero, List.set_cons_succ]
  refine hold_one 6 (by kernel_rfl) rfl (by rfl) fun K hK => ?_
  go_simp
  refine ⟨trivial, rfl, (callsIn_wide.2 HL.out).mono ?_⟩
  rintro e w' ⟨rfl, rfl⟩
  refine hK _ _ (.inr h32) ?_
  clear hK K
  refine hold_take 11 (.bool false) rfl (by kernel_rfl) (by kernel_rfl) (by kernel_rfl) (by kernel_rfl) (by kernel_rfl) (fun _ _ _ h => h) (by rfl) (fun _ => rfl) h32 (fun w' hS => by have q0 := hS; go_simp; skip) ?_
  simp only [Act.put, List.setIfInBounds_toArray, List.set_cons_zero, List.set_cons_succ]
  refine hold_take 12 _ rfl (by kernel_rfl) (by kernel_rfl) (by kernel_rfl) (by kernel_rfl) (by kernel_rfl) (fun _ _ _ h => h) (by rfl) (fun _ => rfl) h32 (fun w' hS => by have q0 := hS; go_simp; rfl) ?_
  simp only [Act.put, List.setIfInBounds_toArray, List.set_cons_zero, List.set_cons_succ]
  refine held_done (by kernel_rfl) ?_ _
  obtain ⟨A2, cp2, hsh⟩ := H2.out.1.shape
  obtain ⟨L2, hL2⟩ : ∃ L2, L2 = (stopK l k).length := ⟨_, rfl⟩
  rw [← hL2] at hsh
  subst hsh
  have hcl2 := block_lt H2.out.1.hd
  have h5 : (fun W' : World => W'.cell? ⟨c, 1, none⟩ = some (.int .i64 now) ∧ W'.cell? ⟨c, 2, none⟩ = some (.slice A2 L2 cp2) ∧ W'.frozen? ⟨c, 2, none⟩ = false) w2.drew := ⟨H2.out.1.cells.2.1, H2.out.1.cells.2.2, H2.out.1.thaw 2⟩
  obtain ⟨z, hz⟩ : ∃ z : Int, z = (now : Int) + t := ⟨_, rfl⟩
  have hzw : IntKind.i64.wrap ((now : Int) + t) = z := by rw [IntKind.wrap_i64]; omega
  go_wp2_with fail
  refine (wpIn_wide (n := 0)).1 ?_
  refine held_begin (fun W' : World => W'.cell? ⟨c, 1, none⟩ = some (.int .i64 now) ∧ W'.cell? ⟨c, 2, none⟩ = some (.slice A2 L2 cp2) ∧ W'.frozen? ⟨c, 2, none⟩ = false) 17 mixed ?_
  refine hold_take 0 _ rfl (by kernel_rfl) (by kernel_rfl) (by kernel_rfl) (by kernel_rfl) (by kernel_rfl) (fun _ _ _ h => h) (by rfl) (fun _ => rfl) h5 (fun w' hS => by obtain ⟨q0, q1, q2⟩ := hS; go_simp; rfl) ?_
  simp only [Act.put, List.setIfInBounds_toArray, List.set_cons_zero, List.set_cons_succ]
  refine hold_take 1 _ rfl (by kernel_rfl) (by kernel_rfl) (by kernel_rfl) (by kernel_rfl) (by kernel_rfl) (fun _ _ _ h => h) (by rfl) (fun _ => rfl) h5 (fun w' hS => by obtain ⟨q0, q1, q2⟩ := hS; go_simp; rfl) ?_
  simp only [Act.put, List.setIfInBounds_toArray, List.set_cons_zero, List.set_cons_succ]
  refine hold_take 2 _ rfl (by kernel_rfl) (by kernel_rfl) (by kernel_rfl) (by kernel_rfl) (by kernel_rfl) (fun _ _ _ h => h) (by rfl) (fun _ => rfl) h5 (fun w' hS => by obtain ⟨q0, q1, q2⟩ := hS; go_simp; rfl) ?_
  simp only [Act.put, List.setIfInBounds_toArray, List.set_cons_zero, List.set_cons_succ]
  refine hold_take 3 _ rfl (by kernel_rfl) (by kernel_rfl) (by kernel_rfl) (by kernel_rfl) (by kernel_rfl) (fun _ _ _ h => h) (by rfl) (fun _ => rfl) h5 (fun w' hS => by obtain ⟨q0, q1, q2⟩ := hS; go_simp; rfl) ?_
  simp only [Act.put, List.setIfInBounds_toArray, List.set_cons_zero, List.set_cons_succ]
  refine hold_take 4 _ rfl (by kernel_rfl) (by kernel_rfl) (by kernel_rfl) (by kernel_rfl) (by kernel_rfl) (fun _ _ _ h => h) (by rfl) (fun _ => rfl) h5 (fun w' hS => by obtain ⟨q0, q1, q2⟩ := hS; go_simp; rfl) ?_
  simp only [Act.put, List.setIfInBounds_toArray, List.set_cons_zero, List.set_cons_succ]
  refine hold_take 5 _ rfl (by kernel_rfl) (by kernel_rfl) (by kernel_rfl) (by kernel_rfl) (by kernel_rfl) (fun _ _ _ h => h) (by rfl) (fun _ => rfl) h5 (fun w' hS => by obtain ⟨q0, q1, q2⟩ := hS; go_simp; rfl) ?_
  simp only [Act.put, List.setIfInBounds_toArray, List.set_cons_zero, List.set_cons_succ]
  refine hold_take 6 _ rfl (by kernel_rfl) (by kernel_rfl) (by kernel_rfl) (by kernel_rfl) (by kernel_rfl) (fun _ _ _ h => h) (by rfl) (fun _ => rfl) h5 (fun w' hS => by obtain ⟨q0, q1, q2⟩ := hS; go_simp; rfl) ?_
  simp only [Act.put, List.setIfInBounds_toArray, List.set_cons_zero, List.set_cons_succ]
  refine hold_take 7 _ rfl (by kernel_rfl) (by kernel_rfl) (by kernel_rfl) (by kernel_rfl) (by kernel_rfl) (fun _ _ _ h => h) (by rfl) (fun _ => rfl) h5 (fun w' hS => by obtain ⟨q0, q1, q2⟩ := hS; go_simp; rfl) ?_
  simp only [Act.put, List.setIfInBounds_toArray, List.set_cons_zero, List.set_cons_succ]
  refine hold_take 8 _ rfl (by kernel_rfl) (by kernel_rfl) (by kernel_rfl) (by kernel_rfl) (by kernel_rfl) (fun _ _ _ h => h) (by rfl) (fun _ => rfl) h5 (fun w' hS => by obtain ⟨q0, q1, q2⟩ := hS; go_simp; rfl) ?_
  simp only [Act.put, List.setIfInBounds_toArray, List.set_cons_zero, List.set_cons_succ]
  refine hold_take 9 _ rfl (by kernel_rfl) (by kernel_rfl) (by kernel_rfl) (by kernel_rfl) (by kernel_rfl) (fun _ _ _ h => h) (by rfl) (fun _ => rfl) h5 (fun w' hS => by obtain ⟨q0, q1, q2⟩ := hS; go_simp; rfl) ?_
  simp only [Act.put, List.setIfInBounds_toArray, List.set_cons_zero, List.set_cons_succ]
  refine hold_take 10 _ rfl (by kernel_rfl) (by kernel_rfl) (by kernel_rfl) (by kernel_rfl) (by kernel_rfl) (fun _ _ _ h => h) (by rfl) (fun _ => rfl) h5 (fun w' hS => by obtain ⟨q0, q1, q2⟩ := hS; go_simp; rfl) ?_
  simp only [Act.put, List.setIfInBounds_toArray, List.set_cons_zero, List.set_cons_succ]
  refine hold_take 11 (.int .i64 z) rfl (by kernel_rfl) (by kernel_rfl) (by kernel_rfl) (by kernel_rfl) (by kernel_rfl) (fun _ _ _ h => h) (by rfl) (fun _ => rfl) h5 (fun w' hS => by obtain ⟨q0, q1, q2⟩ := hS; go_simp; skip) ?_
  simp only [Act.put, List.setIfInBounds_toArray, List.set_cons_zero, List.set_cons_succ]
  refine hold_take 12 _ rfl (by kernel_rfl) (by kernel_rfl) (by kernel_rfl) (by kernel_rfl) (by kernel_rfl) (fun _ _ _ h => h) (by rfl) (fun _ => rfl) h5 (fun w' hS => by obtain ⟨q0, q1, q2⟩ := hS; go_simp; rfl) ?_
  simp only [Act.put, List.setIfInBounds_toArray, List.set_cons_zero, List.set_cons_succ]
  refine hold_one 13 (by kernel_rfl) rfl (by rfl) fun K hK => ?_
  obtain ⟨y, hy⟩ : ∃ y, y = w2.heap.size := ⟨_, rfl⟩
  obtain ⟨w3, hw3⟩ : ∃ w3, w3 = w2.drew.alloc (.cells #[.int .i64 k, .int .i64 z] 72) := ⟨_, rfl⟩
  have hb3 : Below w2.heap.size w2 w3 := by rw [hw3]; exact (Below.refl _ _).drew.alloc (Nat.le_refl _) _
  have hn3 : w3.heap[y]? = some (.cells #[.int .i64 k, .int .i64 z] 72 (0, 0)) := by rw [hw3, hy]; exact heap_alloc_new w2.drew _
  refine run_in (fun c h => by cases h) (fun _ _ => trivial) (v := .slice (some ⟨y, 0, none⟩) 1 1) (w' := w3) (by rw [hw3, hy]; go_simp) ?_
  have hf3 : ∀ o, w3.cell? ⟨c, o, none⟩ = w2.cell? ⟨c, o, none⟩ := fun o => hb3.cell (p := ⟨c, o, none⟩) hcl2
  have hd3 := (hb3.block c hcl2).trans H2.out.1.hd
  have h53 : (fun W' : World => W'.cell? ⟨c, 1, none⟩ = some (.int .i64 now) ∧ W'.cell? ⟨c, 2, none⟩ = some (.slice A2 L2 cp2) ∧ W'.frozen? ⟨c, 2, none⟩ = false) w3 := ⟨(hf3 1).trans h5.1, (hf3 2).trans h5.2.1, by simp [World.frozen?, hd3]⟩
  refine hK _ _ (.inr h53) ?_
  clear hK K hw3
  refine hold_one 14 (by kernel_rfl) rfl (by rfl) fun K2 hK2 => ?_
  obtain ⟨i0, hi0, hz0, hz1, hz2⟩ := info_parts timerI_info
  have hrow3 : OwnI 72 w3 (.slice A2 L2 cp2) (endsK now (stopK l k)) := (H2.out.1.below hb3).row
  have hlen2 := H2.out.1.len
  obtain ⟨v', w4, hr4, ⟨A4, c4, hv4⟩, HO⟩ := OwnI.append Try.underlying68 hi0 hz0 rfl hz1 (by rw [hz2]; decide) hrow3 ⟨y, 0, none⟩ 1 1 (news := [(k, z)]) rfl (fun j u hj => by
      rw [add_off, cell_of_row _ _ _ _ _ _ hn3, Nat.zero_add]
      simpa [flatI] using hj) (by rw [endsK_len]; omega) 68
  refine run_in (fun c h => by cases h) (fun _ _ => trivial) (v := v') (w' := w4) (appends_exec _ _ _ _ rfl (.slice A2 L2 cp2) (.slice (some ⟨y, 0, none⟩) 1 1) (by go_simp) (by go_simp) hr4) ?_
  have hd4 : w4.heap[c]? = _ := HO.out.2.at_ hd3 H2.out.1.apart
  have h54 : (fun W' : World => W'.cell? ⟨c, 1, none⟩ = some (.int .i64 now) ∧ W'.cell? ⟨c, 2, none⟩ = some (.slice A2 L2 cp2) ∧ W'.frozen? ⟨c, 2, none⟩ = false) w4 := ⟨by rw [cell_of_row _ _ _ _ _ _ hd4]; rfl, by rw [cell_of_row _ _ _ _ _ _ hd4]; rfl, by simp [World.frozen?, hd4]⟩
  refine hK2 _ _ (.inr h54) ?_
  have HN : Hid (CINow (cfoot c V) c m now (startK l k t) w (w4.setCell ⟨c, 2, none⟩ v')) := by
    obtain ⟨ho, hm⟩ := HO.out
    rw [hz, putI_is] at ho
    obtain ⟨k1, k2⟩ := H2.out.1.raw.turn (Moves.after hb3 hm) ho (HOK.out)
    exact cover ⟨v', k1, H2.out.2.trans k2⟩
  clear hK2 K2 hr4 HO hrow3
  subst hv4
  refine hold_one 15 (by kernel_rfl) rfl (by rfl) fun K4 hK4 => ?_
  go_simp
  refine hK4 _ _ (.inr h54) ?_
  clear hK4 K4
  refine hold_one 16 (by kernel_rfl) rfl (by rfl) fun K4 hK4 => ?_
  go_simp
  refine hK4 _ _ (.inr h54) ?_
  clear hK4 K4
  refine hold_one 17 (by kernel_rfl) rfl (by rfl) fun K3 hK3 => ?_
  obtain ⟨q0, q1, q2⟩ := h54
  go_simp
  refine hK3 _ _ (.inl rfl) (held_done (by kernel_rfl) ?_ _)
  clear hK3 K3
  go_wp2
  go_ret
  unfold StartI
  rw [HB.out, if_pos rfl]
  exact ⟨rfl, HN⟩
set_option maxRecDepth 100000 in
set_option maxHeartbeats 1600000 in
theorem startI_full {w : World} {c : Nat} {V : Value} {m now : Nat} {l : List (Int × Int)} (h : CIIn w c V m now l) (k : Int) (t : Int) (h1 : 1 ≤ t) (h2 : t ≤ 10000) (hk : hasK l k = false) (hr : m ≤ l.length) :
    Calls Try.prog 15 #[ptr c, .int .i64 k, .int .i64 t] w (StartI (cfoot c V) c m now l k t w) := by
  have HB : Hid (startB m l k t 10000 = false) := cover (by rw [startB_is h1 h2]; simp [hk]; omega)
  have hnb := h.nb
  have hmb := h.mb
  have mixed : Try.prog.follows .mixedOrders = true := by kernel_rfl
  have hge : decide ((m : Int) ≤ (l.length : Int)) = true := decide_eq_true (by omega)
  have hge2 : (m : Int) ≤ (l.length : Int) := by omega
  have hst : stopK l k = l := stopK_no hk
  have h3 : (fun W' : World => W'.cell? ⟨c, 0, none⟩ = some (.int .i64 m)) w.drew := h.cells.1
  have H := cover h
  have hg1 : ¬ t < 1 := by omega
  have hg2 : ¬ t > 10000 := by omega
  have HKK := cover hk
  have hln := h.len
  clear h hk
  go_enter Try.func15, Try.ntmps15
  go_wp2_with fail
  refine (wpIn_wide (n := 0)).1 ?_
  refine held_begin (fun W' : World => W'.cell? ⟨c, 0, none⟩ = some (.int .i64 m)) 99 mixed ?_
  refine hold_take 0 _ rfl (by kernel_rfl) (by kernel_rfl) (by kernel_rfl) (by kernel_rfl) (by kernel_rfl) (fun _ _ _ h => h) (by rfl) (fun _ => rfl) h3 (fun w' hS => by have q0 := hS; go_simp; rfl) ?_
  simp only [Act.put, List.setIfInBounds_toArray, List.set_cons_zero, List.set_cons_succ]
  refine hold_take 1 _ rfl (by kernel_rfl) (by kernel_rfl) (by kernel_rfl) (by kernel_rfl) (by kernel_rfl) (fun _ _ _ h => h) (by rfl) (fun _ => rfl) h3 (fun w' hS => by have q0 := hS; go_simp; rfl) ?_
  simp only [Act.put, List.setIfInBounds_toArray, List.set_cons_zero, List.set_cons_succ]
  refine hold_one 2 (by kernel_rfl) rfl (by rfl) fun K hK => ?_
  go_simp
  refine ⟨trivial, rfl, (callsIn_wide.2 (stopI_none (H.out.drewN 1) k HKK.out)).mono ?_⟩
  rintro e w2 ⟨rfl, hb2⟩
  have hc2 : CIIn w2 c V m now l := (H.out.drewN 1).below hb2
  have h32 : (fun W' : World => W'.cell? ⟨c, 0, none⟩ = some (.int .i64 m)) w2 := hc2.cells.1
  obtain ⟨V2, H2⟩ : ∃ V2, Hid (CIIn w2 c V2 m now (stopK l k) ∧ Moves (cfoot c V) (cfoot c V2) w w2) := ⟨V, cover ⟨by rw [hst]; exact hc2, Moves.of_below _ ⟨hb2.os, hb2.tape, hb2.output, hb2.size, hb2.block⟩⟩⟩
  have HL := cover (lenI_any hc2)
  have HST := cover hst
  clear hst
  clear hc2 hb2
  refine hK _ _ (.inr h32) ?_
  clear hK K
  refine hold_take 3 _ rfl (by kernel_rfl) (by kernel_rfl) (by kernel_rfl) (by kernel_rfl) (by kernel_rfl) (fun _ _ _ h => h) (by rfl) (fun _ => rfl) h32 (fun w' hS => by have q0 := hS; go_simp; rfl) ?_
  simp only [Act.put, List.setIfInBounds_toArray, List.set_cons_zero, List.set_cons_succ]
  refine hold_take 4 _ rfl (by kernel_rfl) (by kernel_rfl) (by kernel_rfl) (by kernel_rfl) (by kernel_rfl) (fun _ _ _ h => h) (by rfl) (fun _ => rfl) h32 (fun w' hS => by have q0 := hS; go_simp; rfl) ?_
  simp only [Act.put, List.setIfInBounds_toArray, List.set_cons_zero, List.set_cons_succ]
  refine hold_take 5 _ rfl (by kernel_rfl) (by kernel_rfl) (by kernel_rfl) (by kernel_rfl) (by kernel_rfl) (fun _ _ _ h => h) (by rfl) (fun _ => rfl) h32 (fun w' hS => by have q0 := hS; go_simp; rfl) ?_
  simp only [Act.put, List.setIfInBounds_toArray, List.set_cons_zero, List.set_cons_succ]
  refine hold_take 7 _ rfl (by kernel_rfl) (by kernel_rfl) (by kernel_rfl) (by kernel_rfl) (by kernel_rfl) (fun _ _ _ h => h) (by rfl) (fun _ => rfl) h32 (fun w' hS => by have q0 := hS; go_simp; rfl) ?_
  simp only [Act.put, List.setIfInBounds_toArray, List.set_cons_zero, List.set_cons_succ]
  refine hold_take 8 _ rfl (by kernel_rfl) (by kernel_rfl) (by kernel_rfl) (by kernel_rfl) (by kernel_rfl) (fun _ _ _ h => h) (by rfl) (fun _ => rfl) h32 (fun w' hS => by have q0 := hS; go_simp; rfl) ?_
  simp only [Act.put, List.setIfInBounds_toArray, List.set_cons_zero, List.set_cons_succ]
  refine hold_take 9 _ rfl (by kernel_rfl) (by kernel_rfl) (by kernel_rfl) (by kernel_rfl) (by kernel_rfl) (fun _ _ _ h => h) (by rfl) (fun _ => rfl) h32 (fun w' hS => by have q0 := hS; go_simp; rfl) ?_
  simp only [Act.put, List.setIfInBounds_toArray, List.set_cons_zero, List.set_cons_succ]
  refine hold_take 10 _ rfl (by kernel_rfl) (by kernel_rfl) (by kernel_rfl) (by kernel_rfl) (by kernel_rfl) (fun _ _ _ h => h) (by rfl) (fun _ => rfl) h32 (fun w' hS => by have q0 := hS; go_simp; rfl) ?_
  simp only [Act.put, List.setIfInBounds_toArray, List.set_cons_zero, List.set_cons_succ]
  refine hold_one 6 (by kernel_rfl) rfl (by rfl) fun K hK => ?_
  go_simp
  refine ⟨trivial, rfl, (callsIn_wide.2 HL.out).mono ?_⟩
  rintro e w' ⟨rfl, rfl⟩
  refine hK _ _ (.inr h32) ?_
  clear hK K
  refine hold_take 11 (.bool true) rfl (by kernel_rfl) (by kernel_rfl) (by kernel_rfl) (by kernel_rfl) (by kernel_rfl) (fun _ _ _ h => h) (by rfl) (fun _ => rfl) h32 (fun w' hS => by have q0 := hS; go_simp; skip) ?_
  simp only [Act.put, List.setIfInBounds_toArray, List.set_cons_zero, List.set_cons_succ]
  refine hold_take 12 _ rfl (by kernel_rfl) (by kernel_rfl) (by kernel_rfl) (by kernel_rfl) (by kernel_rfl) (fun _ _ _ h => h) (by rfl) (fun _ => rfl) h32 (fun w' hS => by have q0 := hS; go_simp; rfl) ?_
  simp only [Act.put, List.setIfInBounds_toArray, List.set_cons_zero, List.set_cons_succ]
  refine held_done (by kernel_rfl) ?_ _
  have HN : Hid (CINow (cfoot c V) c m now l w w2) := by
    obtain ⟨k1, k2⟩ := H2.out
    rw [HST.out] at k1
    exact cover ⟨V2, k1, k2⟩
  go_wp2
  go_ret
  unfold StartI
  rw [HB.out, if_neg (by decide)]
  exact ⟨rfl, HN⟩
theorem startI_any {w : World} {c : Nat} {V : Value} {m now : Nat} {l : List (Int × Int)} (h : CIIn w c V m now l) (k : Int) (t : Int) :
    Calls Try.prog 15 #[ptr c, .int .i64 k, .int .i64 t] w (StartI (cfoot c V) c m now l k t w) := by
  by_cases h1 : t < 1 ∨ 10000 < t
  · exact startI_bad h k t h1
  · cases hk : hasK l k with
    | true => exact startI_again h k t (by omega) (by omega) hk
    | false =>
      by_cases hr : l.length < m
      · exact startI_more h k t (by omega) (by omega) hk hr
      · exact startI_full h k t (by omega) (by omega) hk (by omega)
end Go.Proofs.Ytodiocioldakjaa
