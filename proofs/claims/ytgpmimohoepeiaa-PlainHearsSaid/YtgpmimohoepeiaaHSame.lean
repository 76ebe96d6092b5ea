/- Lists that hold the same are the same: SamePdus, SameInds. -/
import Derived.Deep.CutBlock
import Derived.Deep.DeepCutAuto
import Derived.Test.YtgpmimohoepeiaaFNet
import Derived.Test.YtgpmimohoepeiaaEHold
import Derived.Test.YtgpmimohoepeiaaUSame
import Derived.Test.YtgpmimohoepeiaaMSix
import Derived.Test.YtgpmimohoepeiaaHMem
namespace Go.Proofs.Ytgpmimohoepeiaa
open Go.RowKit
set_option linter.unusedVariables false
set_option linter.unusedSimpArgs false
attribute [local go_sem] run_eq6

theorem inf_row {w : World} {A : Option Addr} {c : Nat} {l : List Int} (h : OwnB w 0 (.slice A l.length c) l) : Row w w.heap.size A l.length l := OwnB.row h
set_option maxRecDepth 100000 in
set_option maxHeartbeats 6400000 in
theorem pdus_same {w : World} {B B' n c c' : Nat} {A A' : Option Addr} {ps : List PV} (hn : ps.length = n) (h1 : PdusIn B w (.slice A n c) ps) (h2 : PdusIn B' w (.slice A' n c') ps) (hbig : n ≤ 1000) (hpl : ∀ p ∈ ps, p.info.length ≤ 100000) :
    Calls Try.prog 24 #[.slice A n c, .slice A' n c'] w fun e w' => e = .returned (.bool true) ∧ Below w.heap.size w w' := by
  have H1 := cover h1
  have H2 := cover h2
  have HN := cover hn
  have HPL := cover hpl
  have mixed : Try.prog.follows .mixedOrders = true := by kernel_rfl
  clear h1 h2 hn hpl
  go_enter Try.func24, Try.ntmps24
  go_wp2_with fail
  go_loopw [5] (fun i wr => ∃ j : Nat, j ≤ n ∧ i = .int .i64 j ∧ Hid (Below w.heap.size w wr)) (fun i _ => n - (intOf i).toNat)
  case atStart => exact ⟨0, Nat.zero_le _, rfl, cover (Below.refl _ _)⟩
  case round =>
    obtain ⟨j, hj, rfl, hrel⟩ := hrel
    by_cases hlt : j < n
    · obtain ⟨p, hx⟩ : ∃ x, ps[j]? = some x := ⟨_, List.getElem?_eq_getElem (by rw [HN.out]; exact hlt)⟩
      have hL0 := HPL.out p (List.mem_of_getElem? hx)
      obtain ⟨g, ca, Ai, mi, hv1, _, _, hgl, hc1, hi1, _⟩ := (H1.out.below hrel.out).at_ hx
      obtain ⟨g', cb, Aj, mj, hv2, _, _, hgl', hc2, hi2, _⟩ := (H2.out.below hrel.out).at_ hx
      have hA : A = some ⟨g, 0, none⟩ := by injection hv1
      have hA' : A' = some ⟨g', 0, none⟩ := by injection hv2
      subst hA hA'
      obtain ⟨L, hL⟩ : ∃ L, L = p.info.length := ⟨_, rfl⟩
      have HS : Hid (∀ W', Below wr.heap.size wr W' → (fun W' : World => (W'.cell? ⟨g, j * 9, none⟩ = some (.int .i64 p.to) ∧ W'.cell? ⟨g, j * 9 + 1, none⟩ = some (.int .i64 p.frm) ∧ W'.cell? ⟨g, j * 9 + 2, none⟩ = some (.bool p.resp) ∧ W'.cell? ⟨g, j * 9 + 3, none⟩ = some (.int .i64 p.form) ∧ W'.cell? ⟨g, j * 9 + 4, none⟩ = some (.int .i64 p.kind) ∧ W'.cell? ⟨g, j * 9 + 5, none⟩ = some (.int .i64 p.ns) ∧ W'.cell? ⟨g, j * 9 + 6, none⟩ = some (.int .i64 p.nr) ∧ W'.cell? ⟨g, j * 9 + 7, none⟩ = some (.bool p.poll) ∧ W'.cell? ⟨g, j * 9 + 8, none⟩ = some (.slice Ai L mi)) ∧ (W'.cell? ⟨g', j * 9, none⟩ = some (.int .i64 p.to) ∧ W'.cell? ⟨g', j * 9 + 1, none⟩ = some (.int .i64 p.frm) ∧ W'.cell? ⟨g', j * 9 + 2, none⟩ = some (.bool p.resp) ∧ W'.cell? ⟨g', j * 9 + 3, none⟩ = some (.int .i64 p.form) ∧ W'.cell? ⟨g', j * 9 + 4, none⟩ = some (.int .i64 p.kind) ∧ W'.cell? ⟨g', j * 9 + 5, none⟩ = some (.int .i64 p.ns) ∧ W'.cell? ⟨g', j * 9 + 6, none⟩ = some (.int .i64 p.nr) ∧ W'.cell? ⟨g', j * 9 + 7, none⟩ = some (.bool p.poll) ∧ W'.cell? ⟨g', j * 9 + 8, none⟩ = some (.slice Aj L mj)) ∧ Below wr.heap.size wr W') W') := cover fun W' hb => by
        have e : ∀ q : Addr, q.block < wr.heap.size → W'.cell? q = wr.cell? q := fun q hq => hb.cell hq
        rw [hL]
        refine ⟨⟨(e ⟨g, j * 9, none⟩ hgl).trans (hc1 0 (by decide)), (e ⟨g, j * 9 + 1, none⟩ hgl).trans (hc1 1 (by decide)), (e ⟨g, j * 9 + 2, none⟩ hgl).trans (hc1 2 (by decide)), (e ⟨g, j * 9 + 3, none⟩ hgl).trans (hc1 3 (by decide)), (e ⟨g, j * 9 + 4, none⟩ hgl).trans (hc1 4 (by decide)), (e ⟨g, j * 9 + 5, none⟩ hgl).trans (hc1 5 (by decide)), (e ⟨g, j * 9 + 6, none⟩ hgl).trans (hc1 6 (by decide)), (e ⟨g, j * 9 + 7, none⟩ hgl).trans (hc1 7 (by decide)), (e ⟨g, j * 9 + 8, none⟩ hgl).trans (hc1 8 (by decide))⟩, ⟨(e ⟨g', j * 9, none⟩ hgl').trans (hc2 0 (by decide)), (e ⟨g', j * 9 + 1, none⟩ hgl').trans (hc2 1 (by decide)), (e ⟨g', j * 9 + 2, none⟩ hgl').trans (hc2 2 (by decide)), (e ⟨g', j * 9 + 3, none⟩ hgl').trans (hc2 3 (by decide)), (e ⟨g', j * 9 + 4, none⟩ hgl').trans (hc2 4 (by decide)), (e ⟨g', j * 9 + 5, none⟩ hgl').trans (hc2 5 (by decide)), (e ⟨g', j * 9 + 6, none⟩ hgl').trans (hc2 6 (by decide)), (e ⟨g', j * 9 + 7, none⟩ hgl').trans (hc2 7 (by decide)), (e ⟨g', j * 9 + 8, none⟩ hgl').trans (hc2 8 (by decide))⟩, hb⟩
      have HI := cover (And.intro hi1 (And.intro hi2 (And.intro hL hL0)))
      have hjc : j < ca ∧ j < cb := by
        have := HN.out
        injection hv1 with _ _ e1; injection hv2 with _ _ e2
        constructor <;> omega
      clear hx hv1 hv2 hc1 hc2 hi1 hi2 hL
      have hb0 : Below wr.heap.size wr wr.drew := (Below.refl _ _).drew
      have h3 : (fun W' : World => (W'.cell? ⟨g, j * 9, none⟩ = some (.int .i64 p.to) ∧ W'.cell? ⟨g, j * 9 + 1, none⟩ = some (.int .i64 p.frm) ∧ W'.cell? ⟨g, j * 9 + 2, none⟩ = some (.bool p.resp) ∧ W'.cell? ⟨g, j * 9 + 3, none⟩ = some (.int .i64 p.form) ∧ W'.cell? ⟨g, j * 9 + 4, none⟩ = some (.int .i64 p.kind) ∧ W'.cell? ⟨g, j * 9 + 5, none⟩ = some (.int .i64 p.ns) ∧ W'.cell? ⟨g, j * 9 + 6, none⟩ = some (.int .i64 p.nr) ∧ W'.cell? ⟨g, j * 9 + 7, none⟩ = some (.bool p.poll) ∧ W'.cell? ⟨g, j * 9 + 8, none⟩ = some (.slice Ai L mi)) ∧ (W'.cell? ⟨g', j * 9, none⟩ = some (.int .i64 p.to) ∧ W'.cell? ⟨g', j * 9 + 1, none⟩ = some (.int .i64 p.frm) ∧ W'.cell? ⟨g', j * 9 + 2, none⟩ = some (.bool p.resp) ∧ W'.cell? ⟨g', j * 9 + 3, none⟩ = some (.int .i64 p.form) ∧ W'.cell? ⟨g', j * 9 + 4, none⟩ = some (.int .i64 p.kind) ∧ W'.cell? ⟨g', j * 9 + 5, none⟩ = some (.int .i64 p.ns) ∧ W'.cell? ⟨g', j * 9 + 6, none⟩ = some (.int .i64 p.nr) ∧ W'.cell? ⟨g', j * 9 + 7, none⟩ = some (.bool p.poll) ∧ W'.cell? ⟨g', j * 9 + 8, none⟩ = some (.slice Aj L mj)) ∧ Below wr.heap.size wr W') wr.drew := HS.out _ hb0
      go_wp2_with fail
      refine (wpIn_wide (n := 0)).1 ?_
      refine held_begin (fun W' : World => (W'.cell? ⟨g, j * 9, none⟩ = some (.int .i64 p.to) ∧ W'.cell? ⟨g, j * 9 + 1, none⟩ = some (.int .i64 p.frm) ∧ W'.cell? ⟨g, j * 9 + 2, none⟩ = some (.bool p.resp) ∧ W'.cell? ⟨g, j * 9 + 3, none⟩ = some (.int .i64 p.form) ∧ W'.cell? ⟨g, j * 9 + 4, none⟩ = some (.int .i64 p.kind) ∧ W'.cell? ⟨g, j * 9 + 5, none⟩ = some (.int .i64 p.ns) ∧ W'.cell? ⟨g, j * 9 + 6, none⟩ = some (.int .i64 p.nr) ∧ W'.cell? ⟨g, j * 9 + 7, none⟩ = some (.bool p.poll) ∧ W'.cell? ⟨g, j * 9 + 8, none⟩ = some (.slice Ai L mi)) ∧ (W'.cell? ⟨g', j * 9, none⟩ = some (.int .i64 p.to) ∧ W'.cell? ⟨g', j * 9 + 1, none⟩ = some (.int .i64 p.frm) ∧ W'.cell? ⟨g', j * 9 + 2, none⟩ = some (.bool p.resp) ∧ W'.cell? ⟨g', j * 9 + 3, none⟩ = some (.int .i64 p.form) ∧ W'.cell? ⟨g', j * 9 + 4, none⟩ = some (.int .i64 p.kind) ∧ W'.cell? ⟨g', j * 9 + 5, none⟩ = some (.int .i64 p.ns) ∧ W'.cell? ⟨g', j * 9 + 6, none⟩ = some (.int .i64 p.nr) ∧ W'.cell? ⟨g', j * 9 + 7, none⟩ = some (.bool p.poll) ∧ W'.cell? ⟨g', j * 9 + 8, none⟩ = some (.slice Aj L mj)) ∧ Below wr.heap.size wr W') 99 mixed ?_
      refine hold_take 0 _ rfl (by kernel_rfl) (by kernel_rfl) (by kernel_rfl) (by kernel_rfl) (by kernel_rfl) (fun _ _ _ h => h) (by rfl) (fun _ => rfl) h3 (fun w' hS => by obtain ⟨⟨q0, q1, q2, q3, q4, q5, q6, q7, q8⟩, ⟨r0, r1, r2, r3, r4, r5, r6, r7, r8⟩, qq⟩ := hS; go_simp; rfl) ?_
      simp only [Act.put, List.setIfInBounds_toArray, List.set_cons_zero, List.set_cons_succ]
      refine hold_take 1 _ rfl (by kernel_rfl) (by kernel_rfl) (by kernel_rfl) (by kernel_rfl) (by kernel_rfl) (fun _ _ _ h => h) (by rfl) (fun _ => rfl) h3 (fun w' hS => by obtain ⟨⟨q0, q1, q2, q3, q4, q5, q6, q7, q8⟩, ⟨r0, r1, r2, r3, r4, r5, r6, r7, r8⟩, qq⟩ := hS; go_simp; rfl) ?_
      simp only [Act.put, List.setIfInBounds_toArray, List.set_cons_zero, List.set_cons_succ]
      refine hold_take 2 _ rfl (by kernel_rfl) (by kernel_rfl) (by kernel_rfl) (by kernel_rfl) (by kernel_rfl) (fun _ _ _ h => h) (by rfl) (fun _ => rfl) h3 (fun w' hS => by obtain ⟨⟨q0, q1, q2, q3, q4, q5, q6, q7, q8⟩, ⟨r0, r1, r2, r3, r4, r5, r6, r7, r8⟩, qq⟩ := hS; go_simp; rfl) ?_
      simp only [Act.put, List.setIfInBounds_toArray, List.set_cons_zero, List.set_cons_succ]
      refine hold_take 3 _ rfl (by kernel_rfl) (by kernel_rfl) (by kernel_rfl) (by kernel_rfl) (by kernel_rfl) (fun _ _ _ h => h) (by rfl) (fun _ => rfl) h3 (fun w' hS => by obtain ⟨⟨q0, q1, q2, q3, q4, q5, q6, q7, q8⟩, ⟨r0, r1, r2, r3, r4, r5, r6, r7, r8⟩, qq⟩ := hS; go_simp; rfl) ?_
      simp only [Act.put, List.setIfInBounds_toArray, List.set_cons_zero, List.set_cons_succ]
      refine hold_take 4 _ rfl (by kernel_rfl) (by kernel_rfl) (by kernel_rfl) (by kernel_rfl) (by kernel_rfl) (fun _ _ _ h => h) (by rfl) (fun _ => rfl) h3 (fun w' hS => by obtain ⟨⟨q0, q1, q2, q3, q4, q5, q6, q7, q8⟩, ⟨r0, r1, r2, r3, r4, r5, r6, r7, r8⟩, qq⟩ := hS; go_simp; rfl) ?_
      simp only [Act.put, List.setIfInBounds_toArray, List.set_cons_zero, List.set_cons_succ]
      refine hold_take 5 _ rfl (by kernel_rfl) (by kernel_rfl) (by kernel_rfl) (by kernel_rfl) (by kernel_rfl) (fun _ _ _ h => h) (by rfl) (fun _ => rfl) h3 (fun w' hS => by obtain ⟨⟨q0, q1, q2, q3, q4, q5, q6, q7, q8⟩, ⟨r0, r1, r2, r3, r4, r5, r6, r7, r8⟩, qq⟩ := hS; go_simp; rfl) ?_
      simp only [Act.put, List.setIfInBounds_toArray, List.set_cons_zero, List.set_cons_succ]
      refine hold_take 6 _ rfl (by kernel_rfl) (by kernel_rfl) (by kernel_rfl) (by kernel_rfl) (by kernel_rfl) (fun _ _ _ h => h) (by rfl) (fun _ => rfl) h3 (fun w' hS => by obtain ⟨⟨q0, q1, q2, q3, q4, q5, q6, q7, q8⟩, ⟨r0, r1, r2, r3, r4, r5, r6, r7, r8⟩, qq⟩ := hS; go_simp; rfl) ?_
      simp only [Act.put, List.setIfInBounds_toArray, List.set_cons_zero, List.set_cons_succ]
      refine hold_take 7 _ rfl (by kernel_rfl) (by kernel_rfl) (by kernel_rfl) (by kernel_rfl) (by kernel_rfl) (fun _ _ _ h => h) (by rfl) (fun _ => rfl) h3 (fun w' hS => by obtain ⟨⟨q0, q1, q2, q3, q4, q5, q6, q7, q8⟩, ⟨r0, r1, r2, r3, r4, r5, r6, r7, r8⟩, qq⟩ := hS; go_simp; rfl) ?_
      simp only [Act.put, List.setIfInBounds_toArray, List.set_cons_zero, List.set_cons_succ]
      refine hold_one 8 (by kernel_rfl) rfl (by rfl) fun K hK => ?_
      have HC := ref_pduSame_any p p Ai Aj mi mj wr.drew.heap.size wr.drew.heap.size wr.drew (OwnB.row (own_blocks HI.out.1 hb0)) (OwnB.row (own_blocks HI.out.2.1 hb0)) (Nat.le_refl _) (Nat.le_refl _) (by have := HI.out.2.2.2; omega)
      rw [eqB_refl, ← HI.out.2.2.1] at HC
      go_simp
      refine ⟨trivial, rfl, (callsIn_wide.2 HC).mono ?_⟩
      rintro e w3 ⟨rfl, hb3⟩
      have hB3 : Below wr.heap.size wr w3 := hb0.trans (hb3.mono hb0.size)
      have hS3 := HS.out _ hB3
      refine hK _ _ (.inr hS3) ?_
      clear hK K HC
      refine hold_take 9 (.bool false) rfl (by kernel_rfl) (by kernel_rfl) (by kernel_rfl) (by kernel_rfl) (by kernel_rfl) (fun _ _ _ h => h) (by rfl) (fun _ => rfl) hS3 (fun w' hS => by obtain ⟨⟨q0, q1, q2, q3, q4, q5, q6, q7, q8⟩, ⟨r0, r1, r2, r3, r4, r5, r6, r7, r8⟩, qq⟩ := hS; go_simp; skip) ?_
      simp only [Act.put, List.setIfInBounds_toArray, List.set_cons_zero, List.set_cons_succ]
      refine held_done (by kernel_rfl) ?_ _
      have HB := cover (hrel.out.trans (hB3.mono hrel.out.size))
      clear h3 hS3 hB3 hb3 hb0 HS HI hrel
      go_wp2
      go_roundw
      case rel => exact ⟨j + 1, by omega, by go_num, HB⟩
      case measure => simp [intOf]; omega
    · obtain rfl : j = n := by omega
      go_wp2
      go_ret
      exact ⟨rfl, hrel.out⟩
theorem ind_size : (Try.prog.info? 60).map (fun x => x.size) = some 11 := by kernel_rfl
theorem ind_cells {w : World} {g : Nat} {v0 v1 v2 v3 v4 v5 v6 v7 v8 v9 v10 : Value} {T : TypeId} {fr : Nat × Nat} (h : w.heap[g]? = some (.cells #[v0, v1, v2, v3, v4, v5, v6, v7, v8, v9, v10] T fr)) :
    w.cell? ⟨g, 0, none⟩ = some v0 ∧ w.cell? ⟨g, 1, none⟩ = some v1 ∧ w.cell? ⟨g, 2, none⟩ = some v2 ∧ w.cell? ⟨g, 3, none⟩ = some v3 ∧ w.cell? ⟨g, 4, none⟩ = some v4 ∧ w.cell? ⟨g, 5, none⟩ = some v5 ∧ w.cell? ⟨g, 6, none⟩ = some v6 ∧ w.cell? ⟨g, 7, none⟩ = some v7 ∧ w.cell? ⟨g, 8, none⟩ = some v8 ∧ w.cell? ⟨g, 9, none⟩ = some v9 ∧ w.cell? ⟨g, 10, none⟩ = some v10 := by
  refine ⟨?_, ?_, ?_, ?_, ?_, ?_, ?_, ?_, ?_, ?_, ?_⟩
  all_goals (rw [cell_of_row w g _ _ _ _ h]; rfl)
set_option maxRecDepth 100000 in
set_option maxHeartbeats 6400000 in
theorem inds_same {w : World} {B B' n c c' : Nat} {A A' : Option Addr} {ps : List IV} (hn : ps.length = n) (h1 : IndsIn B w (.slice A n c) ps) (h2 : IndsIn B' w (.slice A' n c') ps) (hbig : n ≤ 1000) (hpl : ∀ p ∈ ps, p.b.length ≤ 100000) :
    Calls Try.prog 23 #[.slice A n c, .slice A' n c'] w fun e w' => e = .returned (.bool true) ∧ Below w.heap.size w w' := by
  have H1 := cover h1
  have H2 := cover h2
  have HN := cover hn
  have HPL := cover hpl
  have mixed : Try.prog.follows .mixedOrders = true := by kernel_rfl
  clear h1 h2 hn hpl
  go_enter Try.func23, Try.ntmps23
  go_wp2_with fail
  go_loopw [5] (fun i wr => ∃ j : Nat, j ≤ n ∧ i = .int .i64 j ∧ Hid (Below w.heap.size w wr)) (fun i _ => n - (intOf i).toNat)
  case atStart => exact ⟨0, Nat.zero_le _, rfl, cover (Below.refl _ _)⟩
  case round =>
    obtain ⟨j, hj, rfl, hrel⟩ := hrel
    by_cases hlt : j < n
    · obtain ⟨x, hx⟩ : ∃ x, ps[j]? = some x := ⟨_, List.getElem?_eq_getElem (by rw [HN.out]; exact hlt)⟩
      have hL0 := HPL.out x (List.mem_of_getElem? hx)
      obtain ⟨g, ca, Ai, mi, hv1, _, _, hgl, hc1, hi1, _⟩ := (H1.out.below hrel.out).at_ hx
      obtain ⟨g', cb, Aj, mj, hv2, _, _, hgl', hc2, hi2, _⟩ := (H2.out.below hrel.out).at_ hx
      have hA : A = some ⟨g, 0, none⟩ := by injection hv1
      have hA' : A' = some ⟨g', 0, none⟩ := by injection hv2
      subst hA hA'
      obtain ⟨L, hL⟩ : ∃ L, L = x.b.length := ⟨_, rfl⟩
      have HS : Hid (∀ W', Below wr.heap.size wr W' → (fun W' : World => (W'.cell? ⟨g, j * 11, none⟩ = some (.int .i64 x.kind) ∧ W'.cell? ⟨g, j * 11 + 1, none⟩ = some (.int .i64 x.sap) ∧ W'.cell? ⟨g, j * 11 + 2, none⟩ = some (.int .i64 x.far) ∧ W'.cell? ⟨g, j * 11 + 3, none⟩ = some (.int .u8 x.peer.a0) ∧ W'.cell? ⟨g, j * 11 + 4, none⟩ = some (.int .u8 x.peer.a1) ∧ W'.cell? ⟨g, j * 11 + 5, none⟩ = some (.int .u8 x.peer.a2) ∧ W'.cell? ⟨g, j * 11 + 6, none⟩ = some (.int .u8 x.peer.a3) ∧ W'.cell? ⟨g, j * 11 + 7, none⟩ = some (.int .u8 x.peer.a4) ∧ W'.cell? ⟨g, j * 11 + 8, none⟩ = some (.int .u8 x.peer.a5) ∧ W'.cell? ⟨g, j * 11 + 9, none⟩ = some (.slice Ai L mi) ∧ W'.cell? ⟨g, j * 11 + 10, none⟩ = some (.int .i64 x.st)) ∧ (W'.cell? ⟨g', j * 11, none⟩ = some (.int .i64 x.kind) ∧ W'.cell? ⟨g', j * 11 + 1, none⟩ = some (.int .i64 x.sap) ∧ W'.cell? ⟨g', j * 11 + 2, none⟩ = some (.int .i64 x.far) ∧ W'.cell? ⟨g', j * 11 + 3, none⟩ = some (.int .u8 x.peer.a0) ∧ W'.cell? ⟨g', j * 11 + 4, none⟩ = some (.int .u8 x.peer.a1) ∧ W'.cell? ⟨g', j * 11 + 5, none⟩ = some (.int .u8 x.peer.a2) ∧ W'.cell? ⟨g', j * 11 + 6, none⟩ = some (.int .u8 x.peer.a3) ∧ W'.cell? ⟨g', j * 11 + 7, none⟩ = some (.int .u8 x.peer.a4) ∧ W'.cell? ⟨g', j * 11 + 8, none⟩ = some (.int .u8 x.peer.a5) ∧ W'.cell? ⟨g', j * 11 + 9, none⟩ = some (.slice Aj L mj) ∧ W'.cell? ⟨g', j * 11 + 10, none⟩ = some (.int .i64 x.st)) ∧ Below wr.heap.size wr W') W') := cover fun W' hb => by
        have e : ∀ q : Addr, q.block < wr.heap.size → W'.cell? q = wr.cell? q := fun q hq => hb.cell hq
        rw [hL]
        refine ⟨⟨(e ⟨g, j * 11, none⟩ hgl).trans (hc1 0 (by decide)), (e ⟨g, j * 11 + 1, none⟩ hgl).trans (hc1 1 (by decide)), (e ⟨g, j * 11 + 2, none⟩ hgl).trans (hc1 2 (by decide)), (e ⟨g, j * 11 + 3, none⟩ hgl).trans (hc1 3 (by decide)), (e ⟨g, j * 11 + 4, none⟩ hgl).trans (hc1 4 (by decide)), (e ⟨g, j * 11 + 5, none⟩ hgl).trans (hc1 5 (by decide)), (e ⟨g, j * 11 + 6, none⟩ hgl).trans (hc1 6 (by decide)), (e ⟨g, j * 11 + 7, none⟩ hgl).trans (hc1 7 (by decide)), (e ⟨g, j * 11 + 8, none⟩ hgl).trans (hc1 8 (by decide)), (e ⟨g, j * 11 + 9, none⟩ hgl).trans (hc1 9 (by decide)), (e ⟨g, j * 11 + 10, none⟩ hgl).trans (hc1 10 (by decide))⟩, ⟨(e ⟨g', j * 11, none⟩ hgl').trans (hc2 0 (by decide)), (e ⟨g', j * 11 + 1, none⟩ hgl').trans (hc2 1 (by decide)), (e ⟨g', j * 11 + 2, none⟩ hgl').trans (hc2 2 (by decide)), (e ⟨g', j * 11 + 3, none⟩ hgl').trans (hc2 3 (by decide)), (e ⟨g', j * 11 + 4, none⟩ hgl').trans (hc2 4 (by decide)), (e ⟨g', j * 11 + 5, none⟩ hgl').trans (hc2 5 (by decide)), (e ⟨g', j * 11 + 6, none⟩ hgl').trans (hc2 6 (by decide)), (e ⟨g', j * 11 + 7, none⟩ hgl').trans (hc2 7 (by decide)), (e ⟨g', j * 11 + 8, none⟩ hgl').trans (hc2 8 (by decide)), (e ⟨g', j * 11 + 9, none⟩ hgl').trans (hc2 9 (by decide)), (e ⟨g', j * 11 + 10, none⟩ hgl').trans (hc2 10 (by decide))⟩, hb⟩
      have HI := cover (And.intro hi1 (And.intro hi2 (And.intro hL hL0)))
      have hjc : j < ca ∧ j < cb := by
        have := HN.out
        injection hv1 with _ _ e1; injection hv2 with _ _ e2
        constructor <;> omega
      clear hx hv1 hv2 hc1 hc2 hi1 hi2 hL
      have hb0 : Below wr.heap.size wr wr.drew := (Below.refl _ _).drew
      have h3 : (fun W' : World => (W'.cell? ⟨g, j * 11, none⟩ = some (.int .i64 x.kind) ∧ W'.cell? ⟨g, j * 11 + 1, none⟩ = some (.int .i64 x.sap) ∧ W'.cell? ⟨g, j * 11 + 2, none⟩ = some (.int .i64 x.far) ∧ W'.cell? ⟨g, j * 11 + 3, none⟩ = some (.int .u8 x.peer.a0) ∧ W'.cell? ⟨g, j * 11 + 4, none⟩ = some (.int .u8 x.peer.a1) ∧ W'.cell? ⟨g, j * 11 + 5, none⟩ = some (.int .u8 x.peer.a2) ∧ W'.cell? ⟨g, j * 11 + 6, none⟩ = some (.int .u8 x.peer.a3) ∧ W'.cell? ⟨g, j * 11 + 7, none⟩ = some (.int .u8 x.peer.a4) ∧ W'.cell? ⟨g, j * 11 + 8, none⟩ = some (.int .u8 x.peer.a5) ∧ W'.cell? ⟨g, j * 11 + 9, none⟩ = some (.slice Ai L mi) ∧ W'.cell? ⟨g, j * 11 + 10, none⟩ = some (.int .i64 x.st)) ∧ (W'.cell? ⟨g', j * 11, none⟩ = some (.int .i64 x.kind) ∧ W'.cell? ⟨g', j * 11 + 1, none⟩ = some (.int .i64 x.sap) ∧ W'.cell? ⟨g', j * 11 + 2, none⟩ = some (.int .i64 x.far) ∧ W'.cell? ⟨g', j * 11 + 3, none⟩ = some (.int .u8 x.peer.a0) ∧ W'.cell? ⟨g', j * 11 + 4, none⟩ = some (.int .u8 x.peer.a1) ∧ W'.cell? ⟨g', j * 11 + 5, none⟩ = some (.int .u8 x.peer.a2) ∧ W'.cell? ⟨g', j * 11 + 6, none⟩ = some (.int .u8 x.peer.a3) ∧ W'.cell? ⟨g', j * 11 + 7, none⟩ = some (.int .u8 x.peer.a4) ∧ W'.cell? ⟨g', j * 11 + 8, none⟩ = some (.int .u8 x.peer.a5) ∧ W'.cell? ⟨g', j * 11 + 9, none⟩ = some (.slice Aj L mj) ∧ W'.cell? ⟨g', j * 11 + 10, none⟩ = some (.int .i64 x.st)) ∧ Below wr.heap.size wr W') wr.drew := HS.out _ hb0
      go_upto_region 6 with fail
      go_cut [6, 7] (fun u v wx => ∃ (y y' : Nat) (Ak Al : Option Addr) (mk ml : Nat), u = ptr y ∧ v = ptr y' ∧ Hid (wx.heap[y]? = some (.cells #[.int .i64 x.kind, .int .i64 x.sap, .int .i64 x.far, .int .u8 x.peer.a0, .int .u8 x.peer.a1, .int .u8 x.peer.a2, .int .u8 x.peer.a3, .int .u8 x.peer.a4, .int .u8 x.peer.a5, .slice Ak L mk, .int .i64 x.st] 60 (0, 0)) ∧ wx.heap[y']? = some (.cells #[.int .i64 x.kind, .int .i64 x.sap, .int .i64 x.far, .int .u8 x.peer.a0, .int .u8 x.peer.a1, .int .u8 x.peer.a2, .int .u8 x.peer.a3, .int .u8 x.peer.a4, .int .u8 x.peer.a5, .slice Al L ml, .int .i64 x.st] 60 (0, 0)) ∧ InfI wx (x, Ak, mk) ∧ InfI wx (x, Al, ml) ∧ Below wr.heap.size wr wx))
      case first =>
        refine (wpIn_wide (n := 0)).1 ?_
        refine held_begin (fun W' : World => (W'.cell? ⟨g, j * 11, none⟩ = some (.int .i64 x.kind) ∧ W'.cell? ⟨g, j * 11 + 1, none⟩ = some (.int .i64 x.sap) ∧ W'.cell? ⟨g, j * 11 + 2, none⟩ = some (.int .i64 x.far) ∧ W'.cell? ⟨g, j * 11 + 3, none⟩ = some (.int .u8 x.peer.a0) ∧ W'.cell? ⟨g, j * 11 + 4, none⟩ = some (.int .u8 x.peer.a1) ∧ W'.cell? ⟨g, j * 11 + 5, none⟩ = some (.int .u8 x.peer.a2) ∧ W'.cell? ⟨g, j * 11 + 6, none⟩ = some (.int .u8 x.peer.a3) ∧ W'.cell? ⟨g, j * 11 + 7, none⟩ = some (.int .u8 x.peer.a4) ∧ W'.cell? ⟨g, j * 11 + 8, none⟩ = some (.int .u8 x.peer.a5) ∧ W'.cell? ⟨g, j * 11 + 9, none⟩ = some (.slice Ai L mi) ∧ W'.cell? ⟨g, j * 11 + 10, none⟩ = some (.int .i64 x.st)) ∧ (W'.cell? ⟨g', j * 11, none⟩ = some (.int .i64 x.kind) ∧ W'.cell? ⟨g', j * 11 + 1, none⟩ = some (.int .i64 x.sap) ∧ W'.cell? ⟨g', j * 11 + 2, none⟩ = some (.int .i64 x.far) ∧ W'.cell? ⟨g', j * 11 + 3, none⟩ = some (.int .u8 x.peer.a0) ∧ W'.cell? ⟨g', j * 11 + 4, none⟩ = some (.int .u8 x.peer.a1) ∧ W'.cell? ⟨g', j * 11 + 5, none⟩ = some (.int .u8 x.peer.a2) ∧ W'.cell? ⟨g', j * 11 + 6, none⟩ = some (.int .u8 x.peer.a3) ∧ W'.cell? ⟨g', j * 11 + 7, none⟩ = some (.int .u8 x.peer.a4) ∧ W'.cell? ⟨g', j * 11 + 8, none⟩ = some (.int .u8 x.peer.a5) ∧ W'.cell? ⟨g', j * 11 + 9, none⟩ = some (.slice Aj L mj) ∧ W'.cell? ⟨g', j * 11 + 10, none⟩ = some (.int .i64 x.st)) ∧ Below wr.heap.size wr W') 11 mixed ?_
        refine hold_take 0 _ rfl (by kernel_rfl) (by kernel_rfl) (by kernel_rfl) (by kernel_rfl) (by kernel_rfl) (fun _ _ _ h => h) (by rfl) (fun _ => rfl) h3 (fun w' hS => by obtain ⟨⟨q0, q1, q2, q3, q4, q5, q6, q7, q8, q9, q10⟩, ⟨r0, r1, r2, r3, r4, r5, r6, r7, r8, r9, r10⟩, qq⟩ := hS; go_simp; rfl) ?_
        simp only [Act.put, List.setIfInBounds_toArray, List.set_cons_zero, List.set_cons_succ]
        refine hold_take 1 _ rfl (by kernel_rfl) (by kernel_rfl) (by kernel_rfl) (by kernel_rfl) (by kernel_rfl) (fun _ _ _ h => h) (by rfl) (fun _ => rfl) h3 (fun w' hS => by obtain ⟨⟨q0, q1, q2, q3, q4, q5, q6, q7, q8, q9, q10⟩, ⟨r0, r1, r2, r3, r4, r5, r6, r7, r8, r9, r10⟩, qq⟩ := hS; go_simp; rfl) ?_
        simp only [Act.put, List.setIfInBounds_toArray, List.set_cons_zero, List.set_cons_succ]
        refine hold_take 2 _ rfl (by kernel_rfl) (by kernel_rfl) (by kernel_rfl) (by kernel_rfl) (by kernel_rfl) (fun _ _ _ h => h) (by rfl) (fun _ => rfl) h3 (fun w' hS => by obtain ⟨⟨q0, q1, q2, q3, q4, q5, q6, q7, q8, q9, q10⟩, ⟨r0, r1, r2, r3, r4, r5, r6, r7, r8, r9, r10⟩, qq⟩ := hS; go_simp; rfl) ?_
        simp only [Act.put, List.setIfInBounds_toArray, List.set_cons_zero, List.set_cons_succ]
        refine hold_take 3 _ rfl (by kernel_rfl) (by kernel_rfl) (by kernel_rfl) (by kernel_rfl) (by kernel_rfl) (fun _ _ _ h => h) (by rfl) (fun _ => rfl) h3 (fun w' hS => by obtain ⟨⟨q0, q1, q2, q3, q4, q5, q6, q7, q8, q9, q10⟩, ⟨r0, r1, r2, r3, r4, r5, r6, r7, r8, r9, r10⟩, qq⟩ := hS; go_simp; rfl) ?_
        simp only [Act.put, List.setIfInBounds_toArray, List.set_cons_zero, List.set_cons_succ]
        refine hold_take 4 _ rfl (by kernel_rfl) (by kernel_rfl) (by kernel_rfl) (by kernel_rfl) (by kernel_rfl) (fun _ _ _ h => h) (by rfl) (fun _ => rfl) h3 (fun w' hS => by obtain ⟨⟨q0, q1, q2, q3, q4, q5, q6, q7, q8, q9, q10⟩, ⟨r0, r1, r2, r3, r4, r5, r6, r7, r8, r9, r10⟩, qq⟩ := hS; go_simp; rfl) ?_
        simp only [Act.put, List.setIfInBounds_toArray, List.set_cons_zero, List.set_cons_succ]
        refine hold_take 5 _ rfl (by kernel_rfl) (by kernel_rfl) (by kernel_rfl) (by kernel_rfl) (by kernel_rfl) (fun _ _ _ h => h) (by rfl) (fun _ => rfl) h3 (fun w' hS => by obtain ⟨⟨q0, q1, q2, q3, q4, q5, q6, q7, q8, q9, q10⟩, ⟨r0, r1, r2, r3, r4, r5, r6, r7, r8, r9, r10⟩, qq⟩ := hS; go_simp; rfl) ?_
        simp only [Act.put, List.setIfInBounds_toArray, List.set_cons_zero, List.set_cons_succ]
        refine hold_take 6 _ rfl (by kernel_rfl) (by kernel_rfl) (by kernel_rfl) (by kernel_rfl) (by kernel_rfl) (fun _ _ _ h => h) (by rfl) (fun _ => rfl) h3 (fun w' hS => by obtain ⟨⟨q0, q1, q2, q3, q4, q5, q6, q7, q8, q9, q10⟩, ⟨r0, r1, r2, r3, r4, r5, r6, r7, r8, r9, r10⟩, qq⟩ := hS; go_simp; rfl) ?_
        simp only [Act.put, List.setIfInBounds_toArray, List.set_cons_zero, List.set_cons_succ]
        refine hold_take 7 _ rfl (by kernel_rfl) (by kernel_rfl) (by kernel_rfl) (by kernel_rfl) (by kernel_rfl) (fun _ _ _ h => h) (by rfl) (fun _ => rfl) h3 (fun w' hS => by obtain ⟨⟨q0, q1, q2, q3, q4, q5, q6, q7, q8, q9, q10⟩, ⟨r0, r1, r2, r3, r4, r5, r6, r7, r8, r9, r10⟩, qq⟩ := hS; go_simp; rfl) ?_
        simp only [Act.put, List.setIfInBounds_toArray, List.set_cons_zero, List.set_cons_succ]
        obtain ⟨s, hs⟩ : ∃ s, s = wr.heap.size := ⟨_, rfl⟩
        obtain ⟨w4, hw4⟩ : ∃ w4, w4 = wr.drew.alloc (.cells #[.int .i64 0, .int .i64 0, .int .i64 0, .int .u8 0, .int .u8 0, .int .u8 0, .int .u8 0, .int .u8 0, .int .u8 0, .slice none 0 0, .int .i64 0] 60) := ⟨_, rfl⟩
        obtain ⟨w5, hw5⟩ : ∃ w5, w5 = w4.alloc (.cells #[.int .i64 0, .int .i64 0, .int .i64 0, .int .u8 0, .int .u8 0, .int .u8 0, .int .u8 0, .int .u8 0, .int .u8 0, .slice none 0 0, .int .i64 0] 60) := ⟨_, rfl⟩
        have hb4 : Below wr.heap.size wr w4 := by rw [hw4]; exact hb0.alloc (Nat.le_refl _) _
        have hz4 : w4.heap.size = s + 1 := by rw [hw4, hs]; simp
        have hb5 : Below wr.heap.size wr w5 := by rw [hw5]; exact hb4.alloc (by omega) _
        have g4 : w5.heap[s]? = some (.cells #[.int .i64 0, .int .i64 0, .int .i64 0, .int .u8 0, .int .u8 0, .int .u8 0, .int .u8 0, .int .u8 0, .int .u8 0, .slice none 0 0, .int .i64 0] 60 (0, 0)) := by rw [hw5, Below.heap_alloc _ _ _ (by omega), hw4, hs]; exact heap_alloc_new _ _
        have g5 : w5.heap[s + 1]? = some (.cells #[.int .i64 0, .int .i64 0, .int .i64 0, .int .u8 0, .int .u8 0, .int .u8 0, .int .u8 0, .int .u8 0, .int .u8 0, .slice none 0 0, .int .i64 0] 60 (0, 0)) := by rw [hw5, ← hz4]; exact heap_alloc_new _ _
        have hs4 := HS.out _ hb4
        have hs5 := HS.out _ hb5
        have HM : Hid (∀ (y y' : Nat) (C D : Array Value), y ≠ y' → s ≤ y → s ≤ y' → (w5.heap[y]? = some (.cells #[.int .i64 0, .int .i64 0, .int .i64 0, .int .u8 0, .int .u8 0, .int .u8 0, .int .u8 0, .int .u8 0, .int .u8 0, .slice none 0 0, .int .i64 0] 60 (0, 0))) → (w5.heap[y']? = some (.cells #[.int .i64 0, .int .i64 0, .int .i64 0, .int .u8 0, .int .u8 0, .int .u8 0, .int .u8 0, .int .u8 0, .int .u8 0, .slice none 0 0, .int .i64 0] 60 (0, 0))) → Below wr.heap.size wr (w5.setRow y C) ∧ (w5.setRow y C).heap[y']? = some (.cells #[.int .i64 0, .int .i64 0, .int .i64 0, .int .u8 0, .int .u8 0, .int .u8 0, .int .u8 0, .int .u8 0, .int .u8 0, .slice none 0 0, .int .i64 0] 60 (0, 0)) ∧ Below wr.heap.size wr ((w5.setRow y C).setRow y' D) ∧ ((w5.setRow y C).setRow y' D).heap[y]? = some (.cells C 60 (0, 0)) ∧ ((w5.setRow y C).setRow y' D).heap[y']? = some (.cells D 60 (0, 0))) := cover fun y y' C D hne h1 h2 k1 k2 => by
          have b1 := Go.below_setRow hb5 (by omega : wr.heap.size ≤ y) C
          have e1 : (w5.setRow y C).heap[y']? = some (.cells #[.int .i64 0, .int .i64 0, .int .i64 0, .int .u8 0, .int .u8 0, .int .u8 0, .int .u8 0, .int .u8 0, .int .u8 0, .slice none 0 0, .int .i64 0] 60 (0, 0)) := by rw [setRow_other _ _ _ _ (by omega)]; exact k2
          refine ⟨b1, e1, Go.below_setRow b1 (by omega) D, ?_, setRow_heap _ _ _ _ _ _ e1⟩
          rw [setRow_other _ _ _ _ (by omega)]
          exact setRow_heap _ _ _ _ _ _ k1
        refine hold_two 8 9 (by kernel_rfl) rfl rfl (by rfl) (by rfl) (fun K hK => ?_) (fun K hK => ?_)
        · refine run_in (fun c h => by cases h) (fun _ h => by cases h) (v := ptr s) (w' := w4) (by rw [hw4, hs]; go_simp) ?_
          refine hK _ _ (.inr hs4) ?_
          clear hK K
          simp only [Act.put, List.setIfInBounds_toArray, List.set_cons_zero, List.set_cons_succ]
          refine hold_one 9 (by kernel_rfl) rfl (by rfl) fun K hK => ?_
          refine run_in (fun c h => by cases h) (fun _ h => by cases h) (v := ptr (s + 1)) (w' := w5) (by rw [hw5, ← hz4]; go_simp) ?_
          refine hK _ _ (.inr hs5) ?_
          clear hK K
          simp only [Act.put, List.setIfInBounds_toArray, List.set_cons_zero, List.set_cons_succ]
          obtain ⟨k1, k2, k3, k4, k5⟩ := HM.out (s) (s + 1) #[.int .i64 x.kind, .int .i64 x.sap, .int .i64 x.far, .int .u8 x.peer.a0, .int .u8 x.peer.a1, .int .u8 x.peer.a2, .int .u8 x.peer.a3, .int .u8 x.peer.a4, .int .u8 x.peer.a5, .slice Ai L mi, .int .i64 x.st] #[.int .i64 x.kind, .int .i64 x.sap, .int .i64 x.far, .int .u8 x.peer.a0, .int .u8 x.peer.a1, .int .u8 x.peer.a2, .int .u8 x.peer.a3, .int .u8 x.peer.a4, .int .u8 x.peer.a5, .slice Aj L mj, .int .i64 x.st] (by omega) (by omega) (by omega) g4 g5
          have HFIN := cover (And.intro k4 (And.intro k5 (And.intro (own_blocks HI.out.1 k3) (And.intro (own_blocks HI.out.2.1 k3) k3))))
          clear HM
          refine hold_one 10 (by kernel_rfl) rfl (by rfl) fun K hK => ?_
          refine run_skip_u (w' := w5.setRow (s) #[.int .i64 x.kind, .int .i64 x.sap, .int .i64 x.far, .int .u8 x.peer.a0, .int .u8 x.peer.a1, .int .u8 x.peer.a2, .int .u8 x.peer.a3, .int .u8 x.peer.a4, .int .u8 x.peer.a5, .slice Ai L mi, .int .i64 x.st]) (fun c h => by cases h) (fun _ h => by cases h) (exec_store_row _ _ _ rfl (s) #[.int .i64 x.kind, .int .i64 x.sap, .int .i64 x.far, .int .u8 x.peer.a0, .int .u8 x.peer.a1, .int .u8 x.peer.a2, .int .u8 x.peer.a3, .int .u8 x.peer.a4, .int .u8 x.peer.a5, .slice Ai L mi, .int .i64 x.st] (by go_simp) (by go_simp) 60 #[.int .i64 0, .int .i64 0, .int .i64 0, .int .u8 0, .int .u8 0, .int .u8 0, .int .u8 0, .int .u8 0, .int .u8 0, .slice none 0 0, .int .i64 0] g4 ind_size rfl (by simp [Value.oneCell'])) ?_
          refine hK _ _ (.inr (HS.out _ k1)) ?_
          clear hK K
          simp only [Act.put, List.setIfInBounds_toArray, List.set_cons_zero, List.set_cons_succ]
          refine hold_one 11 (by kernel_rfl) rfl (by rfl) fun K hK => ?_
          refine run_skip_u (w' := (w5.setRow (s) #[.int .i64 x.kind, .int .i64 x.sap, .int .i64 x.far, .int .u8 x.peer.a0, .int .u8 x.peer.a1, .int .u8 x.peer.a2, .int .u8 x.peer.a3, .int .u8 x.peer.a4, .int .u8 x.peer.a5, .slice Ai L mi, .int .i64 x.st]).setRow (s + 1) #[.int .i64 x.kind, .int .i64 x.sap, .int .i64 x.far, .int .u8 x.peer.a0, .int .u8 x.peer.a1, .int .u8 x.peer.a2, .int .u8 x.peer.a3, .int .u8 x.peer.a4, .int .u8 x.peer.a5, .slice Aj L mj, .int .i64 x.st]) (fun c h => by cases h) (fun _ h => by cases h) (exec_store_row _ _ _ rfl (s + 1) #[.int .i64 x.kind, .int .i64 x.sap, .int .i64 x.far, .int .u8 x.peer.a0, .int .u8 x.peer.a1, .int .u8 x.peer.a2, .int .u8 x.peer.a3, .int .u8 x.peer.a4, .int .u8 x.peer.a5, .slice Aj L mj, .int .i64 x.st] (by go_simp) (by go_simp) 60 #[.int .i64 0, .int .i64 0, .int .i64 0, .int .u8 0, .int .u8 0, .int .u8 0, .int .u8 0, .int .u8 0, .int .u8 0, .slice none 0 0, .int .i64 0] k2 ind_size rfl (by simp [Value.oneCell'])) ?_
          refine hK _ _ (.inl rfl) (held_done (by kernel_rfl) ?_ _)
          clear hK K hw4 hw5 hs hz4 hb4 hb5 g4 g5 hs4 hs5 k1 k2 k3 k4 k5
          go_wp2_with fail
          go_meet
          exact ⟨_, _, _, _, _, _, rfl, rfl, HFIN⟩
        · refine run_in (fun c h => by cases h) (fun _ h => by cases h) (v := ptr s) (w' := w4) (by rw [hw4, hs]; go_simp) ?_
          refine hK _ _ (.inr hs4) ?_
          clear hK K
          simp only [Act.put, List.setIfInBounds_toArray, List.set_cons_zero, List.set_cons_succ]
          refine hold_one 8 (by kernel_rfl) rfl (by rfl) fun K hK => ?_
          refine run_in (fun c h => by cases h) (fun _ h => by cases h) (v := ptr (s + 1)) (w' := w5) (by rw [hw5, ← hz4]; go_simp) ?_
          refine hK _ _ (.inr hs5) ?_
          clear hK K
          simp only [Act.put, List.setIfInBounds_toArray, List.set_cons_zero, List.set_cons_succ]
          obtain ⟨k1, k2, k3, k4, k5⟩ := HM.out (s + 1) (s) #[.int .i64 x.kind, .int .i64 x.sap, .int .i64 x.far, .int .u8 x.peer.a0, .int .u8 x.peer.a1, .int .u8 x.peer.a2, .int .u8 x.peer.a3, .int .u8 x.peer.a4, .int .u8 x.peer.a5, .slice Ai L mi, .int .i64 x.st] #[.int .i64 x.kind, .int .i64 x.sap, .int .i64 x.far, .int .u8 x.peer.a0, .int .u8 x.peer.a1, .int .u8 x.peer.a2, .int .u8 x.peer.a3, .int .u8 x.peer.a4, .int .u8 x.peer.a5, .slice Aj L mj, .int .i64 x.st] (by omega) (by omega) (by omega) g5 g4
          have HFIN := cover (And.intro k4 (And.intro k5 (And.intro (own_blocks HI.out.1 k3) (And.intro (own_blocks HI.out.2.1 k3) k3))))
          clear HM
          refine hold_one 10 (by kernel_rfl) rfl (by rfl) fun K hK => ?_
          refine run_skip_u (w' := w5.setRow (s + 1) #[.int .i64 x.kind, .int .i64 x.sap, .int .i64 x.far, .int .u8 x.peer.a0, .int .u8 x.peer.a1, .int .u8 x.peer.a2, .int .u8 x.peer.a3, .int .u8 x.peer.a4, .int .u8 x.peer.a5, .slice Ai L mi, .int .i64 x.st]) (fun c h => by cases h) (fun _ h => by cases h) (exec_store_row _ _ _ rfl (s + 1) #[.int .i64 x.kind, .int .i64 x.sap, .int .i64 x.far, .int .u8 x.peer.a0, .int .u8 x.peer.a1, .int .u8 x.peer.a2, .int .u8 x.peer.a3, .int .u8 x.peer.a4, .int .u8 x.peer.a5, .slice Ai L mi, .int .i64 x.st] (by go_simp) (by go_simp) 60 #[.int .i64 0, .int .i64 0, .int .i64 0, .int .u8 0, .int .u8 0, .int .u8 0, .int .u8 0, .int .u8 0, .int .u8 0, .slice none 0 0, .int .i64 0] g5 ind_size rfl (by simp [Value.oneCell'])) ?_
          refine hK _ _ (.inr (HS.out _ k1)) ?_
          clear hK K
          simp only [Act.put, List.setIfInBounds_toArray, List.set_cons_zero, List.set_cons_succ]
          refine hold_one 11 (by kernel_rfl) rfl (by rfl) fun K hK => ?_
          refine run_skip_u (w' := (w5.setRow (s + 1) #[.int .i64 x.kind, .int .i64 x.sap, .int .i64 x.far, .int .u8 x.peer.a0, .int .u8 x.peer.a1, .int .u8 x.peer.a2, .int .u8 x.peer.a3, .int .u8 x.peer.a4, .int .u8 x.peer.a5, .slice Ai L mi, .int .i64 x.st]).setRow (s) #[.int .i64 x.kind, .int .i64 x.sap, .int .i64 x.far, .int .u8 x.peer.a0, .int .u8 x.peer.a1, .int .u8 x.peer.a2, .int .u8 x.peer.a3, .int .u8 x.peer.a4, .int .u8 x.peer.a5, .slice Aj L mj, .int .i64 x.st]) (fun c h => by cases h) (fun _ h => by cases h) (exec_store_row _ _ _ rfl (s) #[.int .i64 x.kind, .int .i64 x.sap, .int .i64 x.far, .int .u8 x.peer.a0, .int .u8 x.peer.a1, .int .u8 x.peer.a2, .int .u8 x.peer.a3, .int .u8 x.peer.a4, .int .u8 x.peer.a5, .slice Aj L mj, .int .i64 x.st] (by go_simp) (by go_simp) 60 #[.int .i64 0, .int .i64 0, .int .i64 0, .int .u8 0, .int .u8 0, .int .u8 0, .int .u8 0, .int .u8 0, .int .u8 0, .slice none 0 0, .int .i64 0] k2 ind_size rfl (by simp [Value.oneCell'])) ?_
          refine hK _ _ (.inl rfl) (held_done (by kernel_rfl) ?_ _)
          clear hK K hw4 hw5 hs hz4 hb4 hb5 g4 g5 hs4 hs5 k1 k2 k3 k4 k5
          go_wp2_with fail
          go_meet
          exact ⟨_, _, _, _, _, _, rfl, rfl, HFIN⟩
      case rest =>
        obtain ⟨y, y', Ak, Al, mk, ml, rfl, rfl, HC⟩ := hcut
        obtain ⟨w9, hw9⟩ : ∃ w9, w9 = wc := ⟨_, rfl⟩
        subst hw9
        obtain ⟨a0, a1, a2, a3, a4, a5, a6, a7, a8, a9, a10⟩ := ind_cells HC.out.1
        obtain ⟨b0, b1, b2, b3, b4, b5, b6, b7, b8, b9, b10⟩ := ind_cells HC.out.2.1
        have hsame : sameL [x.peer.a0, x.peer.a1, x.peer.a2, x.peer.a3, x.peer.a4, x.peer.a5] [x.peer.a0, x.peer.a1, x.peer.a2, x.peer.a3, x.peer.a4, x.peer.a5] = true := sameL_refl _
        have hsm := (same_any Ak Al x.b.length mk ml w9.heap.size w9.heap.size x.b x.b w9 (OwnB.row HC.out.2.2.1) (OwnB.row HC.out.2.2.2.1) (by have := HI.out.2.2.2; omega))
        rw [← HI.out.2.2.1, show decide (x.b = x.b) = true from decide_eq_true rfl] at hsm
        have HSM := cover hsm
        clear hsm
        have HB := cover (hrel.out.trans (HC.out.2.2.2.2.mono hrel.out.size))
        clear HC h3 hb0 HS hrel
        go_wp2_with fail
        refine HSM.out.mono ?_
        rintro e w3 ⟨rfl, dd, rfl⟩
        clear HSM
        go_wp2
        go_roundw
        case rel => exact ⟨j + 1, by omega, by go_num, cover (below_drewN HB.out dd)⟩
        case measure => simp [intOf]; omega
    · obtain rfl : j = n := by omega
      go_wp2
      go_ret
      exact ⟨rfl, hrel.out⟩
end Go.Proofs.Ytgpmimohoepeiaa
