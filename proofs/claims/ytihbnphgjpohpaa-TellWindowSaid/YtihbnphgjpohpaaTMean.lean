/- What meanings, meaningOf and Type answer. -/
import Derived.Test.YtihbnphgjpohpaaUMay
import Derived.Test.YtihbnphgjpohpaaFHeld
import Derived.Test.YtihbnphgjpohpaaTFun
namespace Go.Proofs.Ytihbnphgjpohpaa
open Go.RowKit
set_option linter.unusedVariables false
set_option linter.unusedSimpArgs false

theorem mean_size : (Try.prog.info? 38).map (fun x => x.size) = some 2 := by kernel_rfl
theorem mean_one (a b : Int) : ((#[.int .i64 a, .int .i64 b] : Array Value).all fun x => x.oneCell') = true := by simp [Value.oneCell']
def meansI : List (Int × Int) := [(2, 13)]
def meansS : List (Int × Int) := [(2, 19), (2, 22), (2, 25)]
def meansU : List (Int × Int) := [(1, -1), (1, -1), (1, -1), (2, 8), (2, 9), (2, 10), (2, 11), (2, 12), (3, -1), (3, -1)]
def meansF (f : Int) : List (Int × Int) := if f = 0 then meansI else if f = 1 then meansS else if f = 2 then meansU else []
/-- what a unit is -/
noncomputable def meanP (p : PV) : Int × Int := if mayB p = true then (meansF p.form)[p.kind.toNat]?.getD (0, -1) else (0, -1)
structure MeanIn (w : World) (B : Nat) (A : Option Addr) (L : List (Int × Int)) : Prop where
  cells : ∀ k (h : k < L.length), ∃ ad, A = some ad ∧ ad.block < B ∧ w.cell? (ad.add (k * 2)) = some (.int .i64 L[k].1) ∧ w.cell? ⟨(ad.add (k * 2)).block, (ad.add (k * 2)).off + 1, none⟩ = some (.int .i64 L[k].2)
def mcellsL : List (Int × Int) → List Value
  | [] => []
  | r :: L => [.int .i64 r.1, .int .i64 r.2] ++ mcellsL L
theorem mcellsL_at (L : List (Int × Int)) (k : Nat) (h : k < L.length) (j : Nat) (hj : j < 2) : (mcellsL L)[k * 2 + j]? = ([.int .i64 L[k].1, .int .i64 L[k].2] : List Value)[j]? := by
  induction L generalizing k with
  | nil => simp at h
  | cons r L ih =>
    cases k with
    | zero =>
      rw [Nat.zero_mul, Nat.zero_add, mcellsL, List.getElem?_append_left (by simp; omega)]
      rfl
    | succ k =>
      rw [mcellsL, List.getElem?_append_right (by simp; omega)]
      have : (k + 1) * 2 + j - ([.int .i64 r.1, .int .i64 r.2] : List Value).length = k * 2 + j := by simp; omega
      rw [this, ih k (by simpa using h)]
      rfl
theorem MeanIn.made (w : World) (L : List (Int × Int)) (a : Array Value) (T : TypeId) (ha : a.toList = mcellsL L) : MeanIn (w.alloc (.cells a T)) (w.heap.size + 1) (some ⟨w.heap.size, 0, none⟩) L := by
  refine ⟨fun k h => ⟨_, rfl, Nat.lt_succ_self _, ?_⟩⟩
  have hadd : (⟨w.heap.size, 0, none⟩ : Addr).add (k * 2) = ⟨w.heap.size, k * 2, none⟩ := by
    unfold Addr.add; split <;> simp_all
  rw [hadd]
  have hc : ∀ j (hj : j < 2), (w.alloc (.cells a T)).cell? ⟨w.heap.size, k * 2 + j, none⟩ = ([.int .i64 L[k].1, .int .i64 L[k].2] : List Value)[j]? := fun j hj => by
    rw [cell_of_row _ _ (k * 2 + j) _ _ (0, 0) (heap_alloc_new w _), ← mcellsL_at L k h j hj, ← ha, Array.getElem?_toList]
  exact ⟨hc 0 (by omega), hc 1 (by omega)⟩
def MeanB (L : List (Int × Int)) (w : World) (e : Ending) (w' : World) : Prop :=
  ∃ A, e = .returned (.slice A L.length L.length) ∧ MeanIn w' w'.heap.size A L ∧ Below w.heap.size w w'
theorem MeanB.made {w : World} {L : List (Int × Int)} {a : Array Value} {T : TypeId} (n : Nat) (hn : n = L.length) (ha : a.toList = mcellsL L) : MeanB L w (.returned (.slice (some ⟨w.heap.size, 0, none⟩) n n)) (w.alloc (.cells a T)) :=
  ⟨_, by rw [hn], by have := MeanIn.made w L a T ha; simpa using this, (Below.refl _ _).alloc (Nat.le_refl _) _⟩
theorem meanings_i (w : World) : Calls Try.prog 26 #[.int .i64 0] w (MeanB meansI w) := by
  go_enter Try.func26, Try.ntmps26
  go_wp2
  go_ret
  exact MeanB.made 1 rfl rfl
theorem meanings_s (w : World) : Calls Try.prog 26 #[.int .i64 1] w (MeanB meansS w) := by
  go_enter Try.func26, Try.ntmps26
  go_wp2
  go_ret
  exact MeanB.made 3 rfl rfl
set_option maxHeartbeats 1600000 in
theorem meanings_u (w : World) : Calls Try.prog 26 #[.int .i64 2] w (MeanB meansU w) := by
  go_enter Try.func26, Try.ntmps26
  go_wp2
  go_ret
  exact MeanB.made 10 rfl rfl
theorem meanings_any {f : Int} (hf : f = 0 ∨ f = 1 ∨ f = 2) (w : World) : Calls Try.prog 26 #[.int .i64 f] w (MeanB (meansF f) w) := by
  rcases hf with rfl | rfl | rfl
  · exact meanings_i w
  · exact meanings_s w
  · exact meanings_u w
theorem meanP_no {p : PV} (h : mayB p = false) : meanP p = (0, -1) := by unfold meanP; rw [h]; rfl
theorem meanP_yes {p : PV} (h : mayB p = true) : (p.form = 0 ∨ p.form = 1 ∨ p.form = 2) ∧ ∃ (k : Nat) (hk : k < (meansF p.form).length), p.kind = (k : Int) ∧ (meansF p.form)[k] = meanP p := by
  have hm := mayB_iff.1 h
  have main : ∀ L, meansF p.form = L → 0 ≤ p.kind → p.kind < (L.length : Int) → ∃ (k : Nat) (hk : k < (meansF p.form).length), p.kind = (k : Int) ∧ (meansF p.form)[k] = meanP p := fun L hL h0 h1 => by
    refine ⟨p.kind.toNat, by rw [hL]; omega, by omega, ?_⟩
    unfold meanP
    rw [if_pos h, List.getElem?_eq_getElem (by rw [hL]; omega)]
    rfl
  rcases hm.2 with ⟨hf, hk, _⟩ | ⟨hf, ⟨hk0, hk1⟩, _⟩ | ⟨hf, _, _, hu⟩
  · exact ⟨.inl hf, main meansI (by rw [hf]; rfl) (by omega) (by rw [hk]; decide)⟩
  · exact ⟨.inr (.inl hf), main meansS (by rw [hf]; rfl) hk0 (by show p.kind < 3; omega)⟩
  · have := hm.fits.2
    exact ⟨.inr (.inr hf), main meansU (by rw [hf]; rfl) (by omega) (by show p.kind < 10; omega)⟩
theorem meanP_1 (p : PV) : (meanP p).1 = typeP p := by
  rcases h : mayB p with _ | _
  · rw [meanP_no h, typeP_no (fun hm => by rw [mayB_yes hm] at h; cases h)]
  · have hm := mayB_iff.1 h
    rw [typeP_yes hm]
    unfold meanP
    rw [if_pos h]
    rcases hm.2 with ⟨hf, hk, _⟩ | ⟨hf, ⟨hk0, hk1⟩, _⟩ | ⟨hf, _, _, hu⟩
    · rw [hf, hk]; rfl
    · obtain ⟨k, hk⟩ : ∃ k : Nat, p.kind = (k : Int) := ⟨p.kind.toNat, by omega⟩
      have : k < 3 := by omega
      rw [hf, hk]
      match k, this with
      | 0, _ | 1, _ | 2, _ => rfl
    · have := hm.fits.2
      obtain ⟨k, hk⟩ : ∃ k : Nat, p.kind = (k : Int) := ⟨p.kind.toNat, by omega⟩
      have : k < 10 := by omega
      rw [hf, hk]
      match k, this with
      | 0, _ | 1, _ | 2, _ | 3, _ | 4, _ | 5, _ | 6, _ | 7, _ | 8, _ | 9, _ => rfl
def MeanD (m : Int × Int) (w : World) (e : Ending) (w' : World) : Prop := e = .returned (.agg #[.int .i64 m.1, .int .i64 m.2]) ∧ Below w.heap.size w w'

set_option maxHeartbeats 1600000 in
theorem meaningOf_any (p : PV) (A : Option Addr) (c : Nat) (w : World) :
    Calls Try.prog 19 #[.agg #[.int .i64 p.to, .int .i64 p.frm, .bool p.resp, .int .i64 p.form, .int .i64 p.kind, .int .i64 p.ns, .int .i64 p.nr, .bool p.poll, .slice A p.info.length c]] w (MeanD (meanP p) w) := by
  obtain ⟨w1, hw1⟩ : ∃ w1, Hid (w1 = (w.alloc (.cells #[.int .i64 p.to, .int .i64 p.frm, .bool p.resp, .int .i64 p.form, .int .i64 p.kind, .int .i64 p.ns, .int .i64 p.nr, .bool p.poll, .slice A p.info.length c] 26)).alloc (.cells #[.int .i64 0, .int .i64 0] 38)) := ⟨_, cover rfl⟩
  have hs1 : w1.heap.size = w.heap.size + 2 := by rw [hw1.out]; simp
  have H1 : Hid (Below w.heap.size w w1) := cover (by rw [hw1.out]; exact ((Below.refl _ _).alloc (Nat.le_refl _) _).alloc (by simp) _)
  have G1 : Hid (w1.heap[w.heap.size]? = some (.cells #[.int .i64 p.to, .int .i64 p.frm, .bool p.resp, .int .i64 p.form, .int .i64 p.kind, .int .i64 p.ns, .int .i64 p.nr, .bool p.poll, .slice A p.info.length c] 26 (0, 0))) := cover (by rw [hw1.out]; exact (((Below.refl _ _).alloc (Nat.le_refl _) _).block _ (by simp)).trans (heap_alloc_new _ _))
  have M1 : Hid (w1.heap[w.heap.size + 1]? = some (.cells #[.int .i64 0, .int .i64 0] 38 (0, 0))) := cover (by rw [hw1.out, show w.heap.size + 1 = (w.alloc (.cells #[.int .i64 p.to, .int .i64 p.frm, .bool p.resp, .int .i64 p.form, .int .i64 p.kind, .int .i64 p.ns, .int .i64 p.nr, .bool p.poll, .slice A p.info.length c] 26)).heap.size by simp]; exact heap_alloc_new _ _)
  obtain ⟨p0, p1, p2, p3, p4, p5, p6, p7, p8⟩ := pdu_cells G1.out
  go_enter Try.func19, Try.ntmps19
  go_wp2_with fail
  rw [← hw1.out]
  refine (may_any p A c w1).mono ?_
  rintro e w2 ⟨rfl, hb2⟩
  have hs2 := hb2.size
  have H2 := cover (H1.out.trans (hb2.mono (by omega)))
  have G2 := cover ((hb2.block _ (by omega)).trans G1.out)
  have M2 := cover ((hb2.block _ (by omega)).trans M1.out)
  clear hb2 p0 p1 p2 p3 p4 p5 p6 p7 p8
  rcases hm : mayB p with _ | _
  · have HM := cover (meanP_no hm)
    clear hm
    go_wp2_with (refine wpList_store_row rfl _ _ _ rfl (w.heap.size + 1) #[.int .i64 0, .int .i64 (-1)] rfl rfl 38 _ M2.out mean_size rfl (mean_one _ _) ?_)
    exact bodyPost_ret (v := .agg #[.int .i64 0, .int .i64 (-1)]) (results_cell_row (by rfl) _ _ (w.heap.size + 1) _ #[.int .i64 0, .int .i64 (-1)] (0, 0) _ rfl (setRow_heap _ _ _ _ _ _ M2.out) Try.underlying38 rfl mean_size) rfl ⟨by rw [HM.out], Go.below_setRow H2.out (Nat.le_succ _) _⟩
  · obtain ⟨hf, k, hk, hkk, hget⟩ := meanP_yes hm
    obtain ⟨m, hM⟩ : ∃ m, Hid (meanP p = m) := ⟨_, cover rfl⟩
    rw [hM.out] at hget ⊢
    clear hm
    have CM := cover (fun W => meanings_any hf W)
    obtain ⟨L, hL⟩ : ∃ L, Hid (meansF p.form = L) := ⟨_, cover rfl⟩
    simp only [hL.out] at CM hget
    rw [hL.out] at hk
    clear hf
    go_upto_region 3 with fail
    have mixed : Try.prog.follows .mixedOrders = true := by kernel_rfl
    obtain ⟨p0, p1, p2, p3, p4, p5, p6, p7, p8⟩ := pdu_cells G2.out
    refine (wpIn_wide (n := 0)).1 ?_
    refine held_begin (fun W' : World => (World.cell? W' ⟨w.heap.size, 0, none⟩ = some (.int .i64 p.to) ∧ World.cell? W' ⟨w.heap.size, 1, none⟩ = some (.int .i64 p.frm) ∧ World.cell? W' ⟨w.heap.size, 2, none⟩ = some (.bool p.resp) ∧ World.cell? W' ⟨w.heap.size, 3, none⟩ = some (.int .i64 p.form) ∧ World.cell? W' ⟨w.heap.size, 4, none⟩ = some (.int .i64 p.kind) ∧ World.cell? W' ⟨w.heap.size, 5, none⟩ = some (.int .i64 p.ns) ∧ World.cell? W' ⟨w.heap.size, 6, none⟩ = some (.int .i64 p.nr) ∧ World.cell? W' ⟨w.heap.size, 7, none⟩ = some (.bool p.poll) ∧ World.cell? W' ⟨w.heap.size, 8, none⟩ = some (.slice A p.info.length c))) 7 mixed ?_
    have HS : (fun W' : World => (World.cell? W' ⟨w.heap.size, 0, none⟩ = some (.int .i64 p.to) ∧ World.cell? W' ⟨w.heap.size, 1, none⟩ = some (.int .i64 p.frm) ∧ World.cell? W' ⟨w.heap.size, 2, none⟩ = some (.bool p.resp) ∧ World.cell? W' ⟨w.heap.size, 3, none⟩ = some (.int .i64 p.form) ∧ World.cell? W' ⟨w.heap.size, 4, none⟩ = some (.int .i64 p.kind) ∧ World.cell? W' ⟨w.heap.size, 5, none⟩ = some (.int .i64 p.ns) ∧ World.cell? W' ⟨w.heap.size, 6, none⟩ = some (.int .i64 p.nr) ∧ World.cell? W' ⟨w.heap.size, 7, none⟩ = some (.bool p.poll) ∧ World.cell? W' ⟨w.heap.size, 8, none⟩ = some (.slice A p.info.length c))) w2.drew := ⟨p0, p1, p2, p3, p4, p5, p6, p7, p8⟩
    refine hold_take 0 _ rfl (by kernel_rfl) (by kernel_rfl) (by kernel_rfl) (by kernel_rfl) (by kernel_rfl) (fun _ _ _ h => h) (by rfl) (fun _ => rfl) HS (fun w' hS => by obtain ⟨q0, q1, q2, q3, q4, q5, q6, q7, q8⟩ := hS; go_simp; rfl) ?_
    simp only [Act.put, List.setIfInBounds_toArray, List.set_cons_zero, List.set_cons_succ]
    refine hold_take 1 _ rfl (by kernel_rfl) (by kernel_rfl) (by kernel_rfl) (by kernel_rfl) (by kernel_rfl) (fun _ _ _ h => h) (by rfl) (fun _ => rfl) HS (fun w' hS => by obtain ⟨q0, q1, q2, q3, q4, q5, q6, q7, q8⟩ := hS; go_simp; rfl) ?_
    simp only [Act.put, List.setIfInBounds_toArray, List.set_cons_zero, List.set_cons_succ]
    refine hold_take 3 _ rfl (by kernel_rfl) (by kernel_rfl) (by kernel_rfl) (by kernel_rfl) (by kernel_rfl) (fun _ _ _ h => h) (by rfl) (fun _ => rfl) HS (fun w' hS => by obtain ⟨q0, q1, q2, q3, q4, q5, q6, q7, q8⟩ := hS; go_simp; rfl) ?_
    simp only [Act.put, List.setIfInBounds_toArray, List.set_cons_zero, List.set_cons_succ]
    refine hold_take 4 _ rfl (by kernel_rfl) (by kernel_rfl) (by kernel_rfl) (by kernel_rfl) (by kernel_rfl) (fun _ _ _ h => h) (by rfl) (fun _ => rfl) HS (fun w' hS => by obtain ⟨q0, q1, q2, q3, q4, q5, q6, q7, q8⟩ := hS; go_simp; rfl) ?_
    simp only [Act.put, List.setIfInBounds_toArray, List.set_cons_zero, List.set_cons_succ]
    refine hold_one 2 (by kernel_rfl) rfl (by rfl) fun K hK => ?_
    go_simp
    refine ⟨trivial, rfl, (callsIn_wide.2 (CM.out w2.drew)).mono ?_⟩
    rintro e w3 ⟨A3, rfl, hr3, hb3⟩
    have hsd : w2.drew.heap.size = w2.heap.size := rfl
    have hs3 := hb3.size
    have G3 := cover ((hb3.block w.heap.size (by omega)).trans (show w2.drew.heap[w.heap.size]? = _ from G2.out))
    have M3 := cover ((hb3.block (w.heap.size + 1) (by omega)).trans (show w2.drew.heap[w.heap.size + 1]? = _ from M2.out))
    have H3 := cover ((below_drewN H2.out 1).trans (hb3.mono (by omega)))
    have HS3 : (fun W' : World => (World.cell? W' ⟨w.heap.size, 0, none⟩ = some (.int .i64 p.to) ∧ World.cell? W' ⟨w.heap.size, 1, none⟩ = some (.int .i64 p.frm) ∧ World.cell? W' ⟨w.heap.size, 2, none⟩ = some (.bool p.resp) ∧ World.cell? W' ⟨w.heap.size, 3, none⟩ = some (.int .i64 p.form) ∧ World.cell? W' ⟨w.heap.size, 4, none⟩ = some (.int .i64 p.kind) ∧ World.cell? W' ⟨w.heap.size, 5, none⟩ = some (.int .i64 p.ns) ∧ World.cell? W' ⟨w.heap.size, 6, none⟩ = some (.int .i64 p.nr) ∧ World.cell? W' ⟨w.heap.size, 7, none⟩ = some (.bool p.poll) ∧ World.cell? W' ⟨w.heap.size, 8, none⟩ = some (.slice A p.info.length c))) w3 := pdu_cells G3.out
    obtain ⟨ad, rfl, hblk, c0, c1⟩ := hr3.cells k hk
    rw [hget] at c0 c1
    clear hb3 hr3 hsd
    refine hK _ _ (.inr HS3) ?_
    clear hK K
    rw [hkk] at HS3 ⊢
    have hk' : (k : Int) < (L.length : Int) := by omega
    refine hold_one 5 (by kernel_rfl) rfl (by rfl) fun K hK => ?_
    go_simp
    refine hK _ _ (.inr HS3) ?_
    clear hK K
    refine hold_one 6 (by kernel_rfl) rfl (by rfl) fun K hK => ?_
    go_simp
    refine hK _ _ (.inr HS3) ?_
    clear hK K
    refine hold_one 7 (by kernel_rfl) rfl (by rfl) fun K hK => ?_
    refine run_skip_u (fun c h => by cases h) (fun _ _ => trivial) (w' := w3.setRow (w.heap.size + 1) #[.int .i64 m.1, .int .i64 m.2]) (exec_store_row _ _ _ rfl (w.heap.size + 1) #[.int .i64 m.1, .int .i64 m.2] rfl rfl 38 _ M3.out mean_size rfl (mean_one _ _)) ?_
    refine hK _ _ (.inl rfl) (held_done (by kernel_rfl) ?_ _)
    clear hK K
    go_wp2
    exact bodyPost_ret (v := .agg #[.int .i64 m.1, .int .i64 m.2]) (results_cell_row (by rfl) _ _ (w.heap.size + 1) _ #[.int .i64 m.1, .int .i64 m.2] (0, 0) _ rfl (setRow_heap _ _ _ _ _ _ M3.out) Try.underlying38 rfl mean_size) rfl ⟨by rw [hM.out], Go.below_setRow H3.out (Nat.le_succ _) _⟩
theorem mean_fst (a b : Int) : ∀ w : World, (Instr.field 38 (.agg #[.int .i64 a, .int .i64 b]) 0).run Try.prog w = .ok (.int .i64 a) w := fun _ => by kernel_rfl
theorem type_any (p : PV) (A : Option Addr) (c : Nat) (w : World) :
    Calls Try.prog 11 #[.agg #[.int .i64 p.to, .int .i64 p.frm, .bool p.resp, .int .i64 p.form, .int .i64 p.kind, .int .i64 p.ns, .int .i64 p.nr, .bool p.poll, .slice A p.info.length c]] w fun e w' => e = .returned (.int .i64 (typeP p)) ∧ Below w.heap.size w w' := by
  obtain ⟨w1, hw1⟩ : ∃ w1, Hid (w1 = w.alloc (.cells #[.int .i64 p.to, .int .i64 p.frm, .bool p.resp, .int .i64 p.form, .int .i64 p.kind, .int .i64 p.ns, .int .i64 p.nr, .bool p.poll, .slice A p.info.length c] 26)) := ⟨_, cover rfl⟩
  have hs1 : w.heap.size < w1.heap.size := by rw [hw1.out]; simp
  have H1 : Hid (Below w.heap.size w w1) := cover (by rw [hw1.out]; exact (Below.refl _ _).alloc (Nat.le_refl _) _)
  have G1 : Hid (w1.heap[w.heap.size]? = some (.cells #[.int .i64 p.to, .int .i64 p.frm, .bool p.resp, .int .i64 p.form, .int .i64 p.kind, .int .i64 p.ns, .int .i64 p.nr, .bool p.poll, .slice A p.info.length c] 26 (0, 0))) := cover (by rw [hw1.out]; exact heap_alloc_new _ _)
  obtain ⟨p0, p1, p2, p3, p4, p5, p6, p7, p8⟩ := pdu_cells G1.out
  have HM := cover (meanP_1 p)
  go_enter Try.func11, Try.ntmps11
  go_wp2_with fail
  rw [← hw1.out]
  refine (meaningOf_any p A c w1).mono ?_
  rintro e w2 ⟨rfl, hb2⟩
  have H2 := cover (H1.out.trans (hb2.mono (by omega)))
  rw [HM.out]
  clear hb2
  have hfd := mean_fst (typeP p) (meanP p).2
  go_wp2
  go_ret
  exact ⟨rfl, H2.out⟩
end Go.Proofs.Ytihbnphgjpohpaa
