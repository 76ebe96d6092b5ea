/- Whom a unit concerns: the walks that a hearing ranges over, for every yield that goes on. -/
import Derived.OwnWalkIn
import Derived.TacticsInMore
import Derived.LoopNIn
import Derived.LoopIn
import Derived.Shelf.RegionOpen
import Derived.Test.YtgpmimohoepeiaaQRange
import Derived.Test.YtgpmimohoepeiaaHDo
namespace Go.Proofs.Ytgpmimohoepeiaa
open Go.RowKit Go.Shelf
set_option linter.unusedVariables false
set_option linter.unusedSimpArgs false
attribute [local go_sem] Oper.semAt_some

/-- rows of numbers lie as they lay -/
def IntK (A A' : World) : Prop := ∀ (k : Nat) (cur : Array Value) (fr : Nat × Nat), A.heap[k]? = some (.cells cur 3 fr) → A'.heap[k]? = some (.cells cur 3 fr)
/-- what a hearing's state keeps -/
structure JOk (J : List Int → World → Prop) (hb s Bs : Nat) (l : List SV) (pe : A6) (p : PV) (Ap : Option Addr) (cp : Nat) : Prop where
  st : ∀ T A A', J T A → Below A.heap.size A A' → J T A'
  fix : ∀ T A, J T A → (∃ T' S', HdIn A hb s pe p Ap cp T' S') ∧ SHas Bs A s l
/-- a yield that takes each SAP and goes on -/
def YOk (J : List Int → World → Prop) (lp : Nat) : Prop := ∀ T x W1, J T W1 → T.length ≤ 40 → (0 ≤ x ∧ x ≤ 255) → ∀ m, YieldAt Fence.wide m Try.prog lp #[.int .i64 x] W1 fun e W' => e = .returned (.bool true) ∧ J (T ++ [x]) W' ∧ IntK W1 W'
theorem nobody_in {n : Nat} (lp : Nat) (W : World) : CallsIn Fence.wide n Try.prog 52 #[.func (.yield lp) #[] #[]] W fun e W' => (∃ v, e = .returned v) ∧ W' = W := by
  refine callsIn_wide.2 ((callsIn_wide (n := 9)).1 ?_)
  refine callsIn_of_wp Try.func52 rfl trivial ?_ rfl
  simp only [Try.ntmps52, List.size_toArray, List.length_cons, List.length_nil, Nat.reduceAdd, Nat.reduceSub, Array.replicate_succ, Array.replicate_zero, List.push_toArray, List.append_toArray, List.nil_append, List.cons_append]
  gi_wp2
  exact ⟨rfl, _, results_none rfl _ _ _, ⟨_, rfl⟩, rfl⟩
set_option maxRecDepth 100000 in
set_option maxHeartbeats 1600000 in
theorem hearers_in {n : Nat} (lp : Nat) {J : List Int → World → Prop} {hb s Bs : Nat} {l : List SV} {pe : A6} {p : PV} {Ap : Option Addr} {cp : Nat} (hJ : JOk J hb s Bs l pe p Ap cp) (hY : YOk J lp) {W : World} {T0 : List Int} (h0 : J T0 W) (hT0 : T0.length ≤ 10) (hto : I64 p.to) :
    CallsIn Fence.wide n Try.prog 46 #[ptr hb, .func (.yield lp) #[] #[]] W fun e W' => (∃ v, e = .returned v) ∧ J (T0 ++ hearS l p.to) W' := by
  obtain ⟨⟨T', S', hd⟩, hs⟩ := hJ.fix _ _ h0
  have HIN := cover hs.ok
  have hlt := block_lt hd
  have HS : Hid (∀ W', Below W.heap.size W W' → W'.cell? ⟨hb, 0, none⟩ = some (ptr s) ∧ W'.cell? ⟨hb, 7, none⟩ = some (.int .i64 p.to) ∧ Below W.heap.size W W') := cover fun W' hb' => by
    obtain ⟨c0, _, c7, _⟩ := hd_cells (show HdIn W' hb s pe p Ap cp T' S' from (hb'.block _ hlt).trans hd)
    exact ⟨c0, c7, hb'⟩
  have hb0 : Below W.heap.size W W.drew := (Below.refl _ _).drew
  have h3 := HS.out _ hb0
  have HC := cover (hears_has (hs.below hb0) hto)
  have HJ0 := cover (hJ.st _ _ _ h0 hb0)
  have HJ := cover hJ
  have HY := cover hY
  have mixed : Try.prog.follows .mixedOrders = true := by kernel_rfl
  obtain ⟨L, hL⟩ : ∃ L, L = hearS l p.to := ⟨_, rfl⟩
  have hl16 : L.length ≤ 16 := by rw [hL]; exact hear_len16 hs.ok p.to
  have HBD : Hid (∀ x ∈ L, 0 ≤ x ∧ x ≤ 255) := cover fun x hx => by rw [hL] at hx; have := hear_bound hs.ok hx; omega
  rw [← hL] at HC ⊢
  clear hL hJ hY h0 hd hs hlt
  refine callsIn_wide.2 ((callsIn_wide (n := 9)).1 ?_)
  refine callsIn_of_wp Try.func46 rfl trivial ?_ rfl
  simp only [Try.ntmps46, List.size_toArray, List.length_cons, List.length_nil, Nat.reduceAdd, Nat.reduceSub, Array.replicate_succ, Array.replicate_zero, List.push_toArray, List.append_toArray, List.nil_append, List.cons_append]
  gi_wp2_with fail
  refine held_begin (fun W' : World => W'.cell? ⟨hb, 0, none⟩ = some (ptr s) ∧ W'.cell? ⟨hb, 7, none⟩ = some (.int .i64 p.to) ∧ Below W.heap.size W W') 99 mixed ?_
  refine hold_take 0 _ rfl (by kernel_rfl) (by kernel_rfl) (by kernel_rfl) (by kernel_rfl) (by kernel_rfl) (fun _ _ _ h => h) (by rfl) (fun _ => rfl) h3 (fun w' hS => by obtain ⟨q0, q1, q2⟩ := hS; go_simp; rfl) ?_
  simp only [Act.put, List.setIfInBounds_toArray, List.set_cons_zero, List.set_cons_succ]
  refine hold_take 1 _ rfl (by kernel_rfl) (by kernel_rfl) (by kernel_rfl) (by kernel_rfl) (by kernel_rfl) (fun _ _ _ h => h) (by rfl) (fun _ => rfl) h3 (fun w' hS => by obtain ⟨q0, q1, q2⟩ := hS; go_simp; rfl) ?_
  simp only [Act.put, List.setIfInBounds_toArray, List.set_cons_zero, List.set_cons_succ]
  refine hold_take 2 _ rfl (by kernel_rfl) (by kernel_rfl) (by kernel_rfl) (by kernel_rfl) (by kernel_rfl) (fun _ _ _ h => h) (by rfl) (fun _ => rfl) h3 (fun w' hS => by obtain ⟨q0, q1, q2⟩ := hS; go_simp; rfl) ?_
  simp only [Act.put, List.setIfInBounds_toArray, List.set_cons_zero, List.set_cons_succ]
  refine hold_take 3 _ rfl (by kernel_rfl) (by kernel_rfl) (by kernel_rfl) (by kernel_rfl) (by kernel_rfl) (fun _ _ _ h => h) (by rfl) (fun _ => rfl) h3 (fun w' hS => by obtain ⟨q0, q1, q2⟩ := hS; go_simp; rfl) ?_
  simp only [Act.put, List.setIfInBounds_toArray, List.set_cons_zero, List.set_cons_succ]
  refine hold_take 4 _ rfl (by kernel_rfl) (by kernel_rfl) (by kernel_rfl) (by kernel_rfl) (by kernel_rfl) (fun _ _ _ h => h) (by rfl) (fun _ => rfl) h3 (fun w' hS => by obtain ⟨q0, q1, q2⟩ := hS; go_simp; rfl) ?_
  simp only [Act.put, List.setIfInBounds_toArray, List.set_cons_zero, List.set_cons_succ]
  refine hold_take 5 _ rfl (by kernel_rfl) (by kernel_rfl) (by kernel_rfl) (by kernel_rfl) (by kernel_rfl) (fun _ _ _ h => h) (by rfl) (fun _ => rfl) h3 (fun w' hS => by obtain ⟨q0, q1, q2⟩ := hS; go_simp; rfl) ?_
  simp only [Act.put, List.setIfInBounds_toArray, List.set_cons_zero, List.set_cons_succ]
  refine hold_take 6 _ rfl (by kernel_rfl) (by kernel_rfl) (by kernel_rfl) (by kernel_rfl) (by kernel_rfl) (fun _ _ _ h => h) (by rfl) (fun _ => rfl) h3 (fun w' hS => by obtain ⟨q0, q1, q2⟩ := hS; go_simp; rfl) ?_
  simp only [Act.put, List.setIfInBounds_toArray, List.set_cons_zero, List.set_cons_succ]
  refine hold_take 7 _ rfl (by kernel_rfl) (by kernel_rfl) (by kernel_rfl) (by kernel_rfl) (by kernel_rfl) (fun _ _ _ h => h) (by rfl) (fun _ => rfl) h3 (fun w' hS => by obtain ⟨q0, q1, q2⟩ := hS; go_simp; rfl) ?_
  simp only [Act.put, List.setIfInBounds_toArray, List.set_cons_zero, List.set_cons_succ]
  refine hold_take 8 _ rfl (by kernel_rfl) (by kernel_rfl) (by kernel_rfl) (by kernel_rfl) (by kernel_rfl) (fun _ _ _ h => h) (by rfl) (fun _ => rfl) h3 (fun w' hS => by obtain ⟨q0, q1, q2⟩ := hS; go_simp; rfl) ?_
  simp only [Act.put, List.setIfInBounds_toArray, List.set_cons_zero, List.set_cons_succ]
  refine hold_take 11 _ rfl (by kernel_rfl) (by kernel_rfl) (by kernel_rfl) (by kernel_rfl) (by kernel_rfl) (fun _ _ _ h => h) (by rfl) (fun _ => rfl) h3 (fun w' hS => by obtain ⟨q0, q1, q2⟩ := hS; go_simp; rfl) ?_
  simp only [Act.put, List.setIfInBounds_toArray, List.set_cons_zero, List.set_cons_succ]
  refine hold_one 9 (by kernel_rfl) rfl (by rfl) fun K hK => ?_
  go_simp
  refine ⟨trivial, (callsIn_wide.2 HC.out).mono ?_⟩
  rintro e w3 ⟨A, c, rfl, ho⟩
  have hb3 : Below W.heap.size W w3 := hb0.trans (ho.out.2.mono hb0.size)
  have hS3 := HS.out _ hb3
  refine hK _ _ (.inr hS3) ?_
  clear hK K
  refine hold_take 10 (.int .i64 (L.length : Int)) rfl (by kernel_rfl) (by kernel_rfl) (by kernel_rfl) (by kernel_rfl) (by kernel_rfl) (fun _ _ _ h => h) (by rfl) (fun _ => rfl) hS3 (fun w' hS => by obtain ⟨q0, q1, q2⟩ := hS; go_simp; skip) ?_
  simp only [Act.put, List.setIfInBounds_toArray, List.set_cons_zero, List.set_cons_succ]
  refine held_done (by kernel_rfl) ?_ _
  have HJ3 := cover (HJ.out.st _ _ _ HJ0.out ho.out.2)
  have HO3 := cover ho.out.1
  have hs3 : W.heap.size ≤ w3.heap.size := hb3.size
  clear h3 hS3 HC HS HJ0 ho hb0 hb3
  gi_wp2_with fail
  gi_loopw [17] (fun i wr => ∃ k : Nat, k ≤ L.length ∧ i = .int .i64 k ∧ Hid (J (T0 ++ L.take k) wr) ∧ Hid (wr.ownsRow W.drew.heap.size 3 1 (.slice A L.length c) L.length (L.map (Value.int .i64)))) (fun i _ => L.length - (intOf i).toNat)
  case atStart => exact ⟨0, Nat.zero_le _, rfl, cover (by rw [List.take_zero, List.append_nil]; exact HJ3.out), HO3⟩
  case round =>
    obtain ⟨k, hk, rfl, hJs, hrow⟩ := hrel
    by_cases hlt : k < L.length
    · obtain ⟨x, hx⟩ : ∃ x, L[k]? = some x := ⟨_, List.getElem?_eq_getElem hlt⟩
      obtain ⟨g, hA, hgl, _, hc⟩ := own_cell hrow.out (j := k) (x := .int .i64 x) (by rw [List.getElem?_map, hx]; rfl)
      subst hA
      have hxb := HBD.out x (List.mem_of_getElem? hx)
      obtain ⟨fn, tmps, assign, body, hy, hR⟩ := HY.out _ x _ hJs.out (by rw [List.length_append, List.length_take]; omega) hxb 8
      have HX := cover hx
      clear hx hJs
      gi_wp2_with fail
      refine hR.mono ?_
      clear hR hy
      rintro e W3 ⟨rfl, hJ3, hk3⟩
      have HR3 : Hid (W3.ownsRow W.drew.heap.size 3 1 (.slice (some ⟨g, 0, none⟩) L.length c) L.length (L.map (Value.int .i64))) := cover (row_keeps hrow.out (fun i hi => by
        obtain ⟨cur, hcu⟩ := row_type hrow.out hi
        rw [hk3 _ _ _ hcu, hcu]))
      have HJN : Hid (J (T0 ++ L.take (k + 1)) W3) := cover (by rw [List.take_add_one, HX.out, ← List.append_assoc]; exact hJ3)
      clear hJ3 hk3 hrow hc
      gi_wp2
      go_roundw
      case rel => exact ⟨k + 1, by omega, by go_num, HJN, HR3⟩
      case measure => simp [intOf]; omega
    · obtain rfl : k = L.length := by omega
      rw [List.take_of_length_le (Nat.le_refl _)] at hJs
      gi_wp2
      exact ⟨rfl, _, results_none rfl _ _ _, ⟨_, rfl⟩, hJs.out⟩
set_option maxRecDepth 100000 in
set_option maxHeartbeats 1600000 in
theorem asker_in {n : Nat} (lp : Nat) {J : List Int → World → Prop} {hb s Bs : Nat} {l : List SV} {pe : A6} {p : PV} {Ap : Option Addr} {cp : Nat} (hJ : JOk J hb s Bs l pe p Ap cp) (hY : YOk J lp) {W : World} {T0 : List Int} (h0 : J T0 W) (hT0 : T0.length ≤ 10) (hto : I64 p.to) :
    CallsIn Fence.wide n Try.prog 68 #[ptr hb, .func (.yield lp) #[] #[]] W fun e W' => (∃ v, e = .returned v) ∧ J (T0 ++ askerS l p) W' := by
  obtain ⟨⟨T', S', hd⟩, hs⟩ := hJ.fix _ _ h0
  have hb0 : Below W.heap.size W W.drew := (Below.refl _ _).drew
  obtain ⟨c0, _, c7, _⟩ := hd_cells (show HdIn W.drew hb s pe p Ap cp T' S' from hd)
  have HC := cover (class_has (hs.below hb0) hto)
  have HJ0 := cover (hJ.st _ _ _ h0 hb0)
  have HY := cover hY
  have mixed : Try.prog.follows .mixedOrders = true := by kernel_rfl
  have HCL : Hid (clsS l p.to ≠ 0 → 0 ≤ p.to ∧ p.to ≤ 255) := cover fun hne => by
    have := ok_has hs.ok (x := p.to) (by cases hh : hasS l p.to with | true => rfl | false => exact absurd (clsS_no hh) hne)
    unfold OkSap at this; omega
  have HA : Hid (askerS l p = if clsS l p.to = 0 then [] else [p.to]) := cover rfl
  obtain ⟨tt, hte⟩ : ∃ tt, tt = p.to := ⟨_, rfl⟩
  rw [← hte] at HC c7 HCL HA
  obtain ⟨c, hc⟩ : ∃ c, c = clsS l tt := ⟨_, rfl⟩
  rw [← hc] at HC HCL HA
  clear hJ hY h0 hd hs hte hc hto hb0
  by_cases hz : c = 0
  · have HE : Hid (askerS l p = []) := cover (by rw [HA.out, if_pos hz])
    subst hz
    clear HA HCL
    refine callsIn_wide.2 ((callsIn_wide (n := 9)).1 ?_)
    refine callsIn_of_wp Try.func68 rfl trivial ?_ rfl
    simp only [Try.ntmps68, List.size_toArray, List.length_cons, List.length_nil, Nat.reduceAdd, Nat.reduceSub, Array.replicate_succ, Array.replicate_zero, List.push_toArray, List.append_toArray, List.nil_append, List.cons_append]
    gi_wp2_with fail
    refine held_begin (fun W' : World => W'.cell? ⟨hb, 0, none⟩ = some (ptr s) ∧ W'.cell? ⟨hb, 7, none⟩ = some (.int .i64 tt) ∧ W' = W.drew) 99 mixed ?_
    have h3 : (fun W' : World => W'.cell? ⟨hb, 0, none⟩ = some (ptr s) ∧ W'.cell? ⟨hb, 7, none⟩ = some (.int .i64 tt) ∧ W' = W.drew) W.drew := ⟨c0, c7, rfl⟩
    refine hold_take 0 _ rfl (by kernel_rfl) (by kernel_rfl) (by kernel_rfl) (by kernel_rfl) (by kernel_rfl) (fun _ _ _ h => h) (by rfl) (fun _ => rfl) h3 (fun w' hS => by obtain ⟨q0, q1, q2⟩ := hS; go_simp; rfl) ?_
    simp only [Act.put, List.setIfInBounds_toArray, List.set_cons_zero, List.set_cons_succ]
    refine hold_take 1 _ rfl (by kernel_rfl) (by kernel_rfl) (by kernel_rfl) (by kernel_rfl) (by kernel_rfl) (fun _ _ _ h => h) (by rfl) (fun _ => rfl) h3 (fun w' hS => by obtain ⟨q0, q1, q2⟩ := hS; go_simp; rfl) ?_
    simp only [Act.put, List.setIfInBounds_toArray, List.set_cons_zero, List.set_cons_succ]
    refine hold_take 2 _ rfl (by kernel_rfl) (by kernel_rfl) (by kernel_rfl) (by kernel_rfl) (by kernel_rfl) (fun _ _ _ h => h) (by rfl) (fun _ => rfl) h3 (fun w' hS => by obtain ⟨q0, q1, q2⟩ := hS; go_simp; rfl) ?_
    simp only [Act.put, List.setIfInBounds_toArray, List.set_cons_zero, List.set_cons_succ]
    refine hold_take 3 _ rfl (by kernel_rfl) (by kernel_rfl) (by kernel_rfl) (by kernel_rfl) (by kernel_rfl) (fun _ _ _ h => h) (by rfl) (fun _ => rfl) h3 (fun w' hS => by obtain ⟨q0, q1, q2⟩ := hS; go_simp; rfl) ?_
    simp only [Act.put, List.setIfInBounds_toArray, List.set_cons_zero, List.set_cons_succ]
    refine hold_take 4 _ rfl (by kernel_rfl) (by kernel_rfl) (by kernel_rfl) (by kernel_rfl) (by kernel_rfl) (fun _ _ _ h => h) (by rfl) (fun _ => rfl) h3 (fun w' hS => by obtain ⟨q0, q1, q2⟩ := hS; go_simp; rfl) ?_
    simp only [Act.put, List.setIfInBounds_toArray, List.set_cons_zero, List.set_cons_succ]
    refine hold_take 5 _ rfl (by kernel_rfl) (by kernel_rfl) (by kernel_rfl) (by kernel_rfl) (by kernel_rfl) (fun _ _ _ h => h) (by rfl) (fun _ => rfl) h3 (fun w' hS => by obtain ⟨q0, q1, q2⟩ := hS; go_simp; rfl) ?_
    simp only [Act.put, List.setIfInBounds_toArray, List.set_cons_zero, List.set_cons_succ]
    refine hold_take 6 _ rfl (by kernel_rfl) (by kernel_rfl) (by kernel_rfl) (by kernel_rfl) (by kernel_rfl) (fun _ _ _ h => h) (by rfl) (fun _ => rfl) h3 (fun w' hS => by obtain ⟨q0, q1, q2⟩ := hS; go_simp; rfl) ?_
    simp only [Act.put, List.setIfInBounds_toArray, List.set_cons_zero, List.set_cons_succ]
    refine hold_take 7 _ rfl (by kernel_rfl) (by kernel_rfl) (by kernel_rfl) (by kernel_rfl) (by kernel_rfl) (fun _ _ _ h => h) (by rfl) (fun _ => rfl) h3 (fun w' hS => by obtain ⟨q0, q1, q2⟩ := hS; go_simp; rfl) ?_
    simp only [Act.put, List.setIfInBounds_toArray, List.set_cons_zero, List.set_cons_succ]
    refine hold_take 8 _ rfl (by kernel_rfl) (by kernel_rfl) (by kernel_rfl) (by kernel_rfl) (by kernel_rfl) (fun _ _ _ h => h) (by rfl) (fun _ => rfl) h3 (fun w' hS => by obtain ⟨q0, q1, q2⟩ := hS; go_simp; rfl) ?_
    simp only [Act.put, List.setIfInBounds_toArray, List.set_cons_zero, List.set_cons_succ]
    refine hold_one 9 (by kernel_rfl) rfl (by rfl) fun K hK => ?_
    go_simp
    refine ⟨trivial, (callsIn_wide.2 HC.out).mono ?_⟩
    rintro e w3 ⟨rfl, rfl⟩
    refine hK _ _ (.inr h3) ?_
    clear hK K
    refine hold_take 10 (.bool false) rfl (by kernel_rfl) (by kernel_rfl) (by kernel_rfl) (by kernel_rfl) (by kernel_rfl) (fun _ _ _ h => h) (by rfl) (fun _ => rfl) h3 (fun w' hS => by obtain ⟨q0, q1, q2⟩ := hS; go_simp; skip) ?_
    simp only [Act.put, List.setIfInBounds_toArray, List.set_cons_zero, List.set_cons_succ]
    refine held_done (by kernel_rfl) ?_ _
    clear h3 HC
    gi_wp2
    exact ⟨rfl, _, results_none rfl _ _ _, ⟨_, rfl⟩, by rw [HE.out, List.append_nil]; exact HJ0.out⟩
  · have HE : Hid (askerS l p = [tt]) := cover (by rw [HA.out, if_neg hz])
    obtain ⟨fn, tmps, assign, body, hy, hR⟩ := HY.out T0 tt _ HJ0.out (by omega) (HCL.out hz) 8
    have HR := cover hR
    have HYY := cover hy
    have hzb : (c != 0) = true := by simpa using hz
    clear HA HCL hR hy HY HJ0
    refine callsIn_wide.2 ((callsIn_wide (n := 9)).1 ?_)
    refine callsIn_of_wp Try.func68 rfl trivial ?_ rfl
    simp only [Try.ntmps68, List.size_toArray, List.length_cons, List.length_nil, Nat.reduceAdd, Nat.reduceSub, Array.replicate_succ, Array.replicate_zero, List.push_toArray, List.append_toArray, List.nil_append, List.cons_append]
    gi_wp2_with fail
    refine held_begin (fun W' : World => W'.cell? ⟨hb, 0, none⟩ = some (ptr s) ∧ W'.cell? ⟨hb, 7, none⟩ = some (.int .i64 tt) ∧ W' = W.drew) 99 mixed ?_
    have h3 : (fun W' : World => W'.cell? ⟨hb, 0, none⟩ = some (ptr s) ∧ W'.cell? ⟨hb, 7, none⟩ = some (.int .i64 tt) ∧ W' = W.drew) W.drew := ⟨c0, c7, rfl⟩
    refine hold_take 0 _ rfl (by kernel_rfl) (by kernel_rfl) (by kernel_rfl) (by kernel_rfl) (by kernel_rfl) (fun _ _ _ h => h) (by rfl) (fun _ => rfl) h3 (fun w' hS => by obtain ⟨q0, q1, q2⟩ := hS; go_simp; rfl) ?_
    simp only [Act.put, List.setIfInBounds_toArray, List.set_cons_zero, List.set_cons_succ]
    refine hold_take 1 _ rfl (by kernel_rfl) (by kernel_rfl) (by kernel_rfl) (by kernel_rfl) (by kernel_rfl) (fun _ _ _ h => h) (by rfl) (fun _ => rfl) h3 (fun w' hS => by obtain ⟨q0, q1, q2⟩ := hS; go_simp; rfl) ?_
    simp only [Act.put, List.setIfInBounds_toArray, List.set_cons_zero, List.set_cons_succ]
    refine hold_take 2 _ rfl (by kernel_rfl) (by kernel_rfl) (by kernel_rfl) (by kernel_rfl) (by kernel_rfl) (fun _ _ _ h => h) (by rfl) (fun _ => rfl) h3 (fun w' hS => by obtain ⟨q0, q1, q2⟩ := hS; go_simp; rfl) ?_
    simp only [Act.put, List.setIfInBounds_toArray, List.set_cons_zero, List.set_cons_succ]
    refine hold_take 3 _ rfl (by kernel_rfl) (by kernel_rfl) (by kernel_rfl) (by kernel_rfl) (by kernel_rfl) (fun _ _ _ h => h) (by rfl) (fun _ => rfl) h3 (fun w' hS => by obtain ⟨q0, q1, q2⟩ := hS; go_simp; rfl) ?_
    simp only [Act.put, List.setIfInBounds_toArray, List.set_cons_zero, List.set_cons_succ]
    refine hold_take 4 _ rfl (by kernel_rfl) (by kernel_rfl) (by kernel_rfl) (by kernel_rfl) (by kernel_rfl) (fun _ _ _ h => h) (by rfl) (fun _ => rfl) h3 (fun w' hS => by obtain ⟨q0, q1, q2⟩ := hS; go_simp; rfl) ?_
    simp only [Act.put, List.setIfInBounds_toArray, List.set_cons_zero, List.set_cons_succ]
    refine hold_take 5 _ rfl (by kernel_rfl) (by kernel_rfl) (by kernel_rfl) (by kernel_rfl) (by kernel_rfl) (fun _ _ _ h => h) (by rfl) (fun _ => rfl) h3 (fun w' hS => by obtain ⟨q0, q1, q2⟩ := hS; go_simp; rfl) ?_
    simp only [Act.put, List.setIfInBounds_toArray, List.set_cons_zero, List.set_cons_succ]
    refine hold_take 6 _ rfl (by kernel_rfl) (by kernel_rfl) (by kernel_rfl) (by kernel_rfl) (by kernel_rfl) (fun _ _ _ h => h) (by rfl) (fun _ => rfl) h3 (fun w' hS => by obtain ⟨q0, q1, q2⟩ := hS; go_simp; rfl) ?_
    simp only [Act.put, List.setIfInBounds_toArray, List.set_cons_zero, List.set_cons_succ]
    refine hold_take 7 _ rfl (by kernel_rfl) (by kernel_rfl) (by kernel_rfl) (by kernel_rfl) (by kernel_rfl) (fun _ _ _ h => h) (by rfl) (fun _ => rfl) h3 (fun w' hS => by obtain ⟨q0, q1, q2⟩ := hS; go_simp; rfl) ?_
    simp only [Act.put, List.setIfInBounds_toArray, List.set_cons_zero, List.set_cons_succ]
    refine hold_take 8 _ rfl (by kernel_rfl) (by kernel_rfl) (by kernel_rfl) (by kernel_rfl) (by kernel_rfl) (fun _ _ _ h => h) (by rfl) (fun _ => rfl) h3 (fun w' hS => by obtain ⟨q0, q1, q2⟩ := hS; go_simp; rfl) ?_
    simp only [Act.put, List.setIfInBounds_toArray, List.set_cons_zero, List.set_cons_succ]
    refine hold_one 9 (by kernel_rfl) rfl (by rfl) fun K hK => ?_
    go_simp
    refine ⟨trivial, (callsIn_wide.2 HC.out).mono ?_⟩
    rintro e w3 ⟨rfl, rfl⟩
    refine hK _ _ (.inr h3) ?_
    clear hK K
    refine hold_take 10 (.bool true) rfl (by kernel_rfl) (by kernel_rfl) (by kernel_rfl) (by kernel_rfl) (by kernel_rfl) (fun _ _ _ h => h) (by rfl) (fun _ => rfl) h3 (fun w' hS => by obtain ⟨q0, q1, q2⟩ := hS; go_simp; skip) ?_
    simp only [Act.put, List.setIfInBounds_toArray, List.set_cons_zero, List.set_cons_succ]
    refine held_done (by kernel_rfl) ?_ _
    clear h3 HC hz hzb
    have hy := HYY.out
    gi_wp2_with fail
    refine HR.out.mono ?_
    clear hy HYY HR
    rintro e W3 ⟨rfl, hJ3, hk3⟩
    have HJ3 := cover hJ3
    clear hJ3 hk3
    gi_wp2
    exact ⟨rfl, _, results_none rfl _ _ _, ⟨_, rfl⟩, by rw [HE.out]; exact HJ3.out⟩
set_option maxRecDepth 100000 in
set_option maxHeartbeats 3200000 in
theorem asked_in {n : Nat} (lp : Nat) {J : List Int → World → Prop} {hb s Bs : Nat} {l : List SV} {pe : A6} {p : PV} {Ap : Option Addr} {cp : Nat} (hJ : JOk J hb s Bs l pe p Ap cp) (hY : YOk J lp) {W : World} {T0 : List Int} (h0 : J T0 W) (hT0 : T0.length ≤ 5) (hto : I64 p.to) :
    CallsIn Fence.wide n Try.prog 69 #[ptr hb, .func (.yield lp) #[] #[]] W fun e W' => (∃ v, e = .returned v) ∧ J (T0 ++ askedS l p) W' := by
  obtain ⟨⟨T', S', hd⟩, hs⟩ := hJ.fix _ _ h0
  obtain ⟨_, _, c7, c8, _⟩ := hd_cells hd
  have HA : Hid (askedS l p = if p.frm = 0 ∧ p.to ≠ 0 then [] else (if p.to = 0 ∨ p.to = 255 then [0] else []) ++ hearS l p.to) := cover rfl
  have HH : Hid (∀ T1 W1, J T1 W1 → T1.length ≤ 10 → ∀ k, CallsIn Fence.wide k Try.prog 46 #[ptr hb, .func (.yield lp) #[] #[]] W1 fun e W' => (∃ v, e = .returned v) ∧ J (T1 ++ hearS l p.to) W') := cover fun T1 W1 hT hl k => hearers_in lp hJ hY hT hl hto
  have HJ0 := cover h0
  have HY := cover hY
  obtain ⟨tt, hte⟩ : ∃ tt, tt = p.to := ⟨_, rfl⟩
  obtain ⟨frm, hfe⟩ : ∃ frm, frm = p.frm := ⟨_, rfl⟩
  rw [← hte] at c7 HA HH
  rw [← hfe] at c8 HA
  clear hJ hY h0 hd hs hte hto hfe
  by_cases hno : frm = 0 ∧ tt ≠ 0
  · have HE : Hid (askedS l p = []) := cover (by rw [HA.out, if_pos hno])
    obtain ⟨rfl, hto⟩ := hno
    have hzb : (tt == 0) = false := by simpa using hto
    clear HA HH HY
    refine callsIn_wide.2 ((callsIn_wide (n := 9)).1 ?_)
    refine callsIn_of_wp Try.func69 rfl trivial ?_ rfl
    simp only [Try.ntmps69, List.size_toArray, List.length_cons, List.length_nil, Nat.reduceAdd, Nat.reduceSub, Array.replicate_succ, Array.replicate_zero, List.push_toArray, List.append_toArray, List.nil_append, List.cons_append]
    gi_wp2
    exact ⟨rfl, _, results_none rfl _ _ _, ⟨_, rfl⟩, by rw [HE.out, List.append_nil]; exact HJ0.out⟩
  by_cases hz : tt = 0
  · subst hz
    have HE : Hid (askedS l p = [0] ++ hearS l 0) := cover (by rw [HA.out, if_neg hno, if_pos (.inl rfl)])
    obtain ⟨fn, tmps, assign, body, hy, hR⟩ := HY.out T0 0 _ HJ0.out (by omega) (by decide) 8
    have HR := cover hR
    clear HA hR HY HJ0 hno
    by_cases hf0 : frm = 0
    · subst hf0
      refine callsIn_wide.2 ((callsIn_wide (n := 9)).1 ?_)
      refine callsIn_of_wp Try.func69 rfl trivial ?_ rfl
      simp only [Try.ntmps69, List.size_toArray, List.length_cons, List.length_nil, Nat.reduceAdd, Nat.reduceSub, Array.replicate_succ, Array.replicate_zero, List.push_toArray, List.append_toArray, List.nil_append, List.cons_append]
      gi_wp2_with fail
      refine HR.out.mono ?_
      clear hy HR c7 c8
      rintro e W3 ⟨rfl, hJ3, hk3⟩
      have HC := HH.out _ _ hJ3 (by rw [List.length_append]; simp; omega)
      clear hJ3 hk3 HH
      gi_wp2_with fail
      refine ⟨trivial, (HC _).mono ?_⟩
      rintro e W4 ⟨⟨v, rfl⟩, hJ4⟩
      have HJ4 := cover hJ4
      clear hJ4 HC
      gi_wp2
      exact ⟨rfl, _, results_none rfl _ _ _, ⟨_, rfl⟩, by rw [HE.out, ← List.append_assoc]; exact HJ4.out⟩
    · have hfb : (frm == 0) = false := by simpa using hf0
      refine callsIn_wide.2 ((callsIn_wide (n := 9)).1 ?_)
      refine callsIn_of_wp Try.func69 rfl trivial ?_ rfl
      simp only [Try.ntmps69, List.size_toArray, List.length_cons, List.length_nil, Nat.reduceAdd, Nat.reduceSub, Array.replicate_succ, Array.replicate_zero, List.push_toArray, List.append_toArray, List.nil_append, List.cons_append]
      gi_wp2_with fail
      refine HR.out.mono ?_
      clear hy HR c7 c8
      rintro e W3 ⟨rfl, hJ3, hk3⟩
      have HC := HH.out _ _ hJ3 (by rw [List.length_append]; simp; omega)
      clear hJ3 hk3 HH
      gi_wp2_with fail
      refine ⟨trivial, (HC _).mono ?_⟩
      rintro e W4 ⟨⟨v, rfl⟩, hJ4⟩
      have HJ4 := cover hJ4
      clear hJ4 HC
      gi_wp2
      exact ⟨rfl, _, results_none rfl _ _ _, ⟨_, rfl⟩, by rw [HE.out, ← List.append_assoc]; exact HJ4.out⟩
  have hf0 : ¬ frm = 0 := fun e => hno ⟨e, hz⟩
  have hfb : (frm == 0) = false := by simpa using hf0
  have hzb : (tt == 0) = false := by simpa using hz
  by_cases h255 : tt = 255
  · subst h255
    have HE : Hid (askedS l p = [0] ++ hearS l 255) := cover (by rw [HA.out, if_neg hno, if_pos (.inr rfl)])
    obtain ⟨fn, tmps, assign, body, hy, hR⟩ := HY.out T0 0 _ HJ0.out (by omega) (by decide) 8
    have HR := cover hR
    clear HA hR HY HJ0 hno hz hzb
    refine callsIn_wide.2 ((callsIn_wide (n := 9)).1 ?_)
    refine callsIn_of_wp Try.func69 rfl trivial ?_ rfl
    simp only [Try.ntmps69, List.size_toArray, List.length_cons, List.length_nil, Nat.reduceAdd, Nat.reduceSub, Array.replicate_succ, Array.replicate_zero, List.push_toArray, List.append_toArray, List.nil_append, List.cons_append]
    gi_wp2_with fail
    refine HR.out.mono ?_
    clear hy HR c7 c8
    rintro e W3 ⟨rfl, hJ3, hk3⟩
    have HC := HH.out _ _ hJ3 (by rw [List.length_append]; simp; omega)
    clear hJ3 hk3 HH
    gi_wp2_with fail
    refine ⟨trivial, (HC _).mono ?_⟩
    rintro e W4 ⟨⟨v, rfl⟩, hJ4⟩
    have HJ4 := cover hJ4
    clear hJ4 HC
    gi_wp2
    exact ⟨rfl, _, results_none rfl _ _ _, ⟨_, rfl⟩, by rw [HE.out, ← List.append_assoc]; exact HJ4.out⟩
  · have HE : Hid (askedS l p = hearS l tt) := cover (by rw [HA.out, if_neg hno, if_neg (by omega)]; rfl)
    have HC := HH.out _ _ HJ0.out (by omega)
    have hb255 : (tt == 255) = false := by simpa using h255
    clear HA HY HJ0 hno HH
    refine callsIn_wide.2 ((callsIn_wide (n := 9)).1 ?_)
    refine callsIn_of_wp Try.func69 rfl trivial ?_ rfl
    simp only [Try.ntmps69, List.size_toArray, List.length_cons, List.length_nil, Nat.reduceAdd, Nat.reduceSub, Array.replicate_succ, Array.replicate_zero, List.push_toArray, List.append_toArray, List.nil_append, List.cons_append]
    gi_wp2_with fail
    refine ⟨(fun f hf => by cases hf), ?_⟩
    gi_wp2_with fail
    refine ⟨trivial, (HC _).mono ?_⟩
    rintro e W4 ⟨⟨v, rfl⟩, hJ4⟩
    have HJ4 := cover hJ4
    clear hJ4 HC c7 c8
    gi_wp2
    exact ⟨rfl, _, results_none rfl _ _ _, ⟨_, rfl⟩, by rw [HE.out]; exact HJ4.out⟩
end Go.Proofs.Ytgpmimohoepeiaa
