/- What the functions of window do: how many may be out, at a block of its own. -/
import Derived.WalkKit
import Derived.TacticsInMore
import Derived.LoopNIn
import Derived.LoopIn
import Derived.Deep.CutBlock
import Derived.Deep.DeepCutAuto
import Derived.Test.YtdjfnhplbhhgiaaFHeld
import Derived.Test.YtdjfnhplbhhgiaaQRange
import Derived.Test.YtdjfnhplbhhgiaaOCells
import Derived.Test.YtdjfnhplbhhgiaaOMore
import Derived.Test.YtdjfnhplbhhgiaaIMath
namespace Go.Proofs.Ytdjfnhplbhhgiaa
open Go.RowKit Go.Shelf
set_option linter.unusedVariables false
set_option linter.unusedSimpArgs false
attribute [local go_sem] Oper.semAt_some

/-- a Window of the program's at block t, so wide at most, that stands so -/
structure WiP (W : World) (t : Nat) (m : Int) (s : WV) : Prop where
  ok : WOk m s
  mb : m ≤ 64
  hd : W.heap[t]? = some (.cells (vC m s.wide s.cnt) 42 (0, 0))
theorem WiP.lt {W : World} {t : Nat} {m : Int} {v : WV} (h : WiP W t m v) : t < W.heap.size := block_lt h.hd
theorem WiP.keep {W W' : World} {t : Nat} {m : Int} {v : WV} (h : WiP W t m v) (hk : W'.heap[t]? = W.heap[t]?) : WiP W' t m v := ⟨h.ok, h.mb, hk.trans h.hd⟩
theorem WiP.below {W W' : World} {t : Nat} {m : Int} {v : WV} (h : WiP W t m v) (hb : Below W.heap.size W W') : WiP W' t m v := h.keep (hb.block t h.lt)
theorem WiP.only {W W' : World} {t g : Nat} {m : Int} {v : WV} (h : WiP W t m v) (hb : OnlyB g W W') (hne : t ≠ g) : WiP W' t m v := h.keep (hb.block t h.lt (fun e => hne (by injection e)))
theorem WiP.drewN {W : World} {t : Nat} {m : Int} {v : WV} (h : WiP W t m v) (n : Nat) : WiP (W.drewN n) t m v := h.keep rfl

/-- it is so wide now, and none is counted -/
def Became (W : World) (t : Nat) (m x : Int) (W' : World) : Prop := W'.heap[t]? = some (.cells (vC m x 0) 42 (0, 0)) ∧ OnlyB t W W'
theorem become_any {W : World} {t : Nat} {m a c : Int} (h : W.heap[t]? = some (.cells (vC m a c) 42 (0, 0))) (x : Int) :
    Calls Try.prog 18 #[ptr t, .int .i64 x] W fun e W' => e = .returned (.tuple #[]) ∧ Hid (Became W t m x W') := by
  obtain ⟨w2, hw2⟩ : ∃ w2, Hid (w2 = W.setCell ⟨t, 1, none⟩ (.int .i64 x)) := ⟨_, cover rfl⟩
  have T2 : w2.heap[t]? = some (.cells (vC m x c) 42 (0, 0)) := by rw [hw2.out, set_block h]; rfl
  obtain ⟨w3, hw3⟩ : ∃ w3, Hid (w3 = w2.setCell ⟨t, 2, none⟩ (.int .i64 0)) := ⟨_, cover rfl⟩
  have T3 : w3.heap[t]? = some (.cells (vC m x 0) 42 (0, 0)) := by rw [hw3.out, set_block T2]; rfl
  have HN : Hid (Became W t m x w3) := cover ⟨T3, by rw [hw3.out, hw2.out]; exact ((OnlyB.refl t W).setCell 1 _).setCell 2 _⟩
  obtain ⟨c0, c1, c2⟩ := three_cells h
  obtain ⟨d0, d1, d2⟩ := three_cells T2
  have F1 := not_frozen h 1
  have F2 := not_frozen T2 2
  clear T2 T3 h
  go_enter Try.func18, Try.ntmps18
  go_wp2_with (first
    | (rw [← hw2.out])
    | (rw [← hw3.out]))
  go_end0
  exact ⟨rfl, HN⟩
theorem now_any {W : World} {t : Nat} {m : Int} {v : WV} (h : WiP W t m v) :
    Calls Try.prog 10 #[ptr t] W fun e W' => e = .returned (.int .i64 v.wide) ∧ W' = W := by
  obtain ⟨c0, c1, c2⟩ := three_cells h.hd
  clear h
  go_enter Try.func10, Try.ntmps10
  go_wp2
  go_ret
  exact ⟨rfl, rfl⟩
theorem slow_any {W : World} {t : Nat} {m : Int} {v : WV} (h : WiP W t m v) :
    Calls Try.prog 11 #[ptr t] W fun e W' => e = .returned (.tuple #[]) ∧ Hid (WiP W' t m slowW ∧ OnlyB t W W') := by
  obtain ⟨c0, c1, c2⟩ := three_cells h.hd
  have h1 : 1 ≤ m := by have h1 := h.ok.1; have h2 := h.ok.2.1; omega
  have HN : Hid (∀ W', Became W t m 1 W' → WiP W' t m slowW ∧ OnlyB t W W') := cover fun W' hb => ⟨⟨WOk.slow h1, h.mb, hb.1⟩, hb.2⟩
  have HV := cover h
  have hm : (if m < 1 then m else 1) = 1 := if_neg (by omega)
  have hm' : ¬ m < 1 := by omega
  clear h
  go_enter Try.func11, Try.ntmps11
  go_wp2_with fail
  refine (become_any HV.out.hd 1).mono ?_
  rintro e w2 ⟨rfl, hb⟩
  have HX := cover (HN.out w2 hb.out)
  clear hb HN
  go_wp2
  go_end0
  exact ⟨rfl, HX⟩
theorem fresh_any {W : World} {t : Nat} {m : Int} {v : WV} (h : WiP W t m v) :
    Calls Try.prog 16 #[ptr t] W fun e W' => e = .returned (.tuple #[]) ∧ Hid (WiP W' t m (freshW m) ∧ OnlyB t W W') := by
  obtain ⟨c0, c1, c2⟩ := three_cells h.hd
  have h1 : 1 ≤ m := by have h1 := h.ok.1; have h2 := h.ok.2.1; omega
  have HN : Hid (∀ W', Became W t m m W' → WiP W' t m (freshW m) ∧ OnlyB t W W') := cover fun W' hb => ⟨⟨WOk.fresh h1, h.mb, hb.1⟩, hb.2⟩
  have HV := cover h
  clear h
  go_enter Try.func16, Try.ntmps16
  go_wp2_with fail
  refine (become_any HV.out.hd m).mono ?_
  rintro e w2 ⟨rfl, hb⟩
  have HX := cover (HN.out w2 hb.out)
  clear hb HN
  go_wp2
  go_end0
  exact ⟨rfl, HX⟩
theorem new_no (m : Int) (h : m < 1 ∨ 64 < m) (W : World) :
    Calls Try.prog 9 #[.int .i64 m] W fun e W' => e = .returned (.tuple #[.pointer none, .int .i64 1]) ∧ Below W.heap.size W W' := by
  by_cases h1 : m < 1
  · go_enter Try.func9, Try.ntmps9
    go_wp2
    go_ret2
    exact ⟨rfl, Below.refl _ _⟩
  · have h2 : m > 64 := by omega
    clear h
    go_enter Try.func9, Try.ntmps9
    go_wp2
    go_ret2
    exact ⟨rfl, Below.refl _ _⟩
theorem new_yes (m : Int) (h : 1 ≤ m ∧ m ≤ 64) (W : World) :
    Calls Try.prog 9 #[.int .i64 m] W fun e W' => e = .returned (.tuple #[ptr W.heap.size, .int .i64 0]) ∧ Hid (WiP W' W.heap.size m (freshW m) ∧ Below W.heap.size W W') := by
  have h1 : ¬ m < 1 := by omega
  have h2 : ¬ m > 64 := by omega
  obtain ⟨w2, hw2⟩ : ∃ w2, Hid (w2 = W.alloc (.cells (vC m m 0) 42)) := ⟨_, cover rfl⟩
  have HN : Hid (WiP w2 W.heap.size m (freshW m) ∧ Below W.heap.size W w2) := cover (by
    rw [hw2.out]
    exact ⟨⟨WOk.fresh h.1, h.2, heap_alloc_new _ _⟩, (Below.refl _ _).alloc (Nat.le_refl _) _⟩)
  clear h
  go_enter Try.func9, Try.ntmps9
  go_wp2
  rw [← hw2.out]
  go_ret2
  exact ⟨rfl, HN⟩

theorem steps_any (t : Nat) (n : Int) (W : World) : Calls Try.prog 19 #[ptr t, .int .i64 n] W fun e W' =>
    e = .returned (.func (.func 20) #[] #[ptr (W.heap.size + 1), ptr W.heap.size]) ∧ W' = (W.alloc (.cells #[ptr t] 23)).alloc (.cells #[.int .i64 n] 3) := by
  have hmf : ∀ (fn : Fn) (first cap : Array Value) (w : World), (Instr.makeFunc fn first cap).run Try.prog w = .ok (.func fn first cap) w := fun _ _ _ _ => rfl
  go_enter Try.func19, Try.ntmps19
  go_wp2
  go_ret
  exact ⟨rfl, rfl⟩

set_option maxRecDepth 100000 in
set_option maxHeartbeats 1600000 in
/-- what steps hands out: it yields at each of n more while they count, for every body that goes on and counts one -/
theorem steps1_in {N : Nat} (lp : Nat) {W : World} {t bn bw : Nat} {m n : Int} {v : WV} (hn : n ≤ 9223372036854775807) (J : Nat → World → Prop)
    (hJ : ∀ i A, J i A → A.heap[t]? = some (.cells (vC m (ackW m i v).wide (ackW m i v).cnt) 42 (0, 0)) ∧ A.cell? ⟨bn, 0, none⟩ = some (.int .i64 n) ∧ A.cell? ⟨bw, 0, none⟩ = some (ptr t))
    (hst : ∀ i A, J i A → J i A.drew) (h0 : J 0 W)
    (hY : ∀ (i : Nat) W1, (i : Int) < n → (ackW m i v).wide < m → J i W1 → ∀ mm, YieldAt Fence.wide mm Try.prog lp #[] W1 fun e W' => e = .returned (.bool true) ∧ J (i + 1) W') :
    CallsIn Fence.wide N Try.prog 20 #[.func (.yield lp) #[] #[], ptr bn, ptr bw] W fun e W' => (∃ v, e = .returned v) ∧ ∃ i, J i W' ∧ ackW m n.toNat v = ackW m i v := by
  have mixed : Try.prog.follows .mixedOrders = true := by kernel_rfl
  have HN := cover hn
  have HJ0 := cover h0
  clear h0 hn
  refine callsIn_wide.2 ((callsIn_wide (n := 9)).1 ?_)
  refine callsIn_of_wp Try.func20 rfl trivial ?_ rfl
  simp only [Try.ntmps20, List.size_toArray, List.length_cons, List.length_nil, Nat.reduceAdd, Nat.reduceSub, Array.replicate_succ, Array.replicate_zero, List.push_toArray, List.append_toArray, List.nil_append, List.cons_append]
  gi_wp2_with fail
  gi_loopw [4] (fun iv wr => ∃ k : Nat, (k ≤ n.toNat ∧ iv = .int .i64 k) ∧ Hid (J k wr)) (fun iv _ => n.toNat - (intOf iv).toNat)
  case atStart => exact ⟨0, ⟨Nat.zero_le _, rfl⟩, HJ0⟩
  case round =>
    obtain ⟨k, ⟨hk, rfl⟩, hrel⟩ := hrel
    obtain ⟨p0, p1, p2⟩ := hJ k wr hrel.out
    obtain ⟨c0, c1, c2⟩ := three_cells p0
    obtain ⟨a, ha⟩ : ∃ a, Hid ((ackW m k v).wide = a) := ⟨_, cover rfl⟩
    rw [ha.out] at c1
    have HS : (fun w' : World => w'.cell? ⟨bn, 0, none⟩ = some (.int .i64 n) ∧ w'.cell? ⟨bw, 0, none⟩ = some (ptr t) ∧ w'.cell? ⟨t, 0, none⟩ = some (.int .i64 m) ∧ w'.cell? ⟨t, 1, none⟩ = some (.int .i64 a)) wr.drew := ⟨p1, p2, c0, c1⟩
    have HJk := cover (hst k wr hrel.out)
    clear p0 p1 p2 c0 c1 c2 hrel
    gi_wp2_with fail
    refine held_begin (fun w' : World => w'.cell? ⟨bn, 0, none⟩ = some (.int .i64 n) ∧ w'.cell? ⟨bw, 0, none⟩ = some (ptr t) ∧ w'.cell? ⟨t, 0, none⟩ = some (.int .i64 m) ∧ w'.cell? ⟨t, 1, none⟩ = some (.int .i64 a)) 99 mixed ?_
    by_cases hlt : (k : Int) < n
    · by_cases hw : a < m
      · have HW3 : Hid (wrap64 ((k : Int) + 1) = (k : Int) + 1) := cover (IntWalk.wrap64_in _ ⟨by omega, by have := HN.out; omega⟩)
        have HK1 : Hid (k + 1 ≤ n.toNat) := cover (by omega)
        refine hold_take 0 _ rfl (by kernel_rfl) (by kernel_rfl) (by kernel_rfl) (by kernel_rfl) (by kernel_rfl) (fun _ _ _ h => h) (by rfl) (fun _ => rfl) HS (fun w' hS => by obtain ⟨q0, q1, q2, q3⟩ := hS; go_simp; rfl) ?_
        simp only [Act.put, List.setIfInBounds_toArray, List.set_cons_zero, List.set_cons_succ]
        refine hold_take 1 _ rfl (by kernel_rfl) (by kernel_rfl) (by kernel_rfl) (by kernel_rfl) (by kernel_rfl) (fun _ _ _ h => h) (by rfl) (fun _ => rfl) HS (fun w' hS => by obtain ⟨q0, q1, q2, q3⟩ := hS; go_simp; rfl) ?_
        simp only [Act.put, List.setIfInBounds_toArray, List.set_cons_zero, List.set_cons_succ]
        refine hold_take 2 (.bool true) rfl (by kernel_rfl) (by kernel_rfl) (by kernel_rfl) (by kernel_rfl) (by kernel_rfl) (fun _ _ _ h => h) (by rfl) (fun _ => rfl) HS (fun w' hS => by obtain ⟨q0, q1, q2, q3⟩ := hS; go_simp; skip) ?_
        simp only [Act.put, List.setIfInBounds_toArray, List.set_cons_zero, List.set_cons_succ]
        refine hold_take 3 _ rfl (by kernel_rfl) (by kernel_rfl) (by kernel_rfl) (by kernel_rfl) (by kernel_rfl) (fun _ _ _ h => h) (by rfl) (fun _ => rfl) HS (fun w' hS => by obtain ⟨q0, q1, q2, q3⟩ := hS; go_simp; rfl) ?_
        simp only [Act.put, List.setIfInBounds_toArray, List.set_cons_zero, List.set_cons_succ]
        refine hold_take 4 _ rfl (by kernel_rfl) (by kernel_rfl) (by kernel_rfl) (by kernel_rfl) (by kernel_rfl) (fun _ _ _ h => h) (by rfl) (fun _ => rfl) HS (fun w' hS => by obtain ⟨q0, q1, q2, q3⟩ := hS; go_simp; rfl) ?_
        simp only [Act.put, List.setIfInBounds_toArray, List.set_cons_zero, List.set_cons_succ]
        refine hold_take 5 _ rfl (by kernel_rfl) (by kernel_rfl) (by kernel_rfl) (by kernel_rfl) (by kernel_rfl) (fun _ _ _ h => h) (by rfl) (fun _ => rfl) HS (fun w' hS => by obtain ⟨q0, q1, q2, q3⟩ := hS; go_simp; rfl) ?_
        simp only [Act.put, List.setIfInBounds_toArray, List.set_cons_zero, List.set_cons_succ]
        refine hold_take 6 _ rfl (by kernel_rfl) (by kernel_rfl) (by kernel_rfl) (by kernel_rfl) (by kernel_rfl) (fun _ _ _ h => h) (by rfl) (fun _ => rfl) HS (fun w' hS => by obtain ⟨q0, q1, q2, q3⟩ := hS; go_simp; rfl) ?_
        simp only [Act.put, List.setIfInBounds_toArray, List.set_cons_zero, List.set_cons_succ]
        refine hold_take 7 _ rfl (by kernel_rfl) (by kernel_rfl) (by kernel_rfl) (by kernel_rfl) (by kernel_rfl) (fun _ _ _ h => h) (by rfl) (fun _ => rfl) HS (fun w' hS => by obtain ⟨q0, q1, q2, q3⟩ := hS; go_simp; rfl) ?_
        simp only [Act.put, List.setIfInBounds_toArray, List.set_cons_zero, List.set_cons_succ]
        refine hold_take 8 _ rfl (by kernel_rfl) (by kernel_rfl) (by kernel_rfl) (by kernel_rfl) (by kernel_rfl) (fun _ _ _ h => h) (by rfl) (fun _ => rfl) HS (fun w' hS => by obtain ⟨q0, q1, q2, q3⟩ := hS; go_simp; rfl) ?_
        simp only [Act.put, List.setIfInBounds_toArray, List.set_cons_zero, List.set_cons_succ]
        refine hold_take 9 _ rfl (by kernel_rfl) (by kernel_rfl) (by kernel_rfl) (by kernel_rfl) (by kernel_rfl) (fun _ _ _ h => h) (by rfl) (fun _ => rfl) HS (fun w' hS => by obtain ⟨q0, q1, q2, q3⟩ := hS; go_simp; rfl) ?_
        simp only [Act.put, List.setIfInBounds_toArray, List.set_cons_zero, List.set_cons_succ]
        refine hold_take 10 _ rfl (by kernel_rfl) (by kernel_rfl) (by kernel_rfl) (by kernel_rfl) (by kernel_rfl) (fun _ _ _ h => h) (by rfl) (fun _ => rfl) HS (fun w' hS => by obtain ⟨q0, q1, q2, q3⟩ := hS; go_simp; rfl) ?_
        simp only [Act.put, List.setIfInBounds_toArray, List.set_cons_zero, List.set_cons_succ]
        refine hold_take 11 _ rfl (by kernel_rfl) (by kernel_rfl) (by kernel_rfl) (by kernel_rfl) (by kernel_rfl) (fun _ _ _ h => h) (by rfl) (fun _ => rfl) HS (fun w' hS => by obtain ⟨q0, q1, q2, q3⟩ := hS; go_simp; rfl) ?_
        simp only [Act.put, List.setIfInBounds_toArray, List.set_cons_zero, List.set_cons_succ]
        refine hold_take 12 (.bool true) rfl (by kernel_rfl) (by kernel_rfl) (by kernel_rfl) (by kernel_rfl) (by kernel_rfl) (fun _ _ _ h => h) (by rfl) (fun _ => rfl) HS (fun w' hS => by obtain ⟨q0, q1, q2, q3⟩ := hS; go_simp; skip) ?_
        simp only [Act.put, List.setIfInBounds_toArray, List.set_cons_zero, List.set_cons_succ]
        refine hold_take 13 (.bool true) rfl (by kernel_rfl) (by kernel_rfl) (by kernel_rfl) (by kernel_rfl) (by kernel_rfl) (fun _ _ _ h => h) (by rfl) (fun _ => rfl) HS (fun w' hS => by obtain ⟨q0, q1, q2, q3⟩ := hS; go_simp; try rfl) ?_
        simp only [Act.put, List.setIfInBounds_toArray, List.set_cons_zero, List.set_cons_succ]
        refine held_done (by kernel_rfl) ?_ _
        obtain ⟨fn, tmps, assign, body, hy, hR⟩ := hY k wr.drew hlt (by rw [ha.out]; exact hw) HJk.out 8
        clear hY hJ hst HS hlt hw
        gi_wp2_with fail
        refine hR.mono ?_
        clear hR hy
        rintro e W3 ⟨rfl, hJ3⟩
        have HJ3 := cover hJ3
        have hw3 := HW3.out
        clear hJ3
        gi_wp2
        go_roundw
        case rel => exact ⟨k + 1, ⟨HK1.out, by go_num⟩, HJ3⟩
        case measure =>
          have h9 := HK1.out
          clear hw3
          simp [intOf]
          omega
      · have HE : Hid (ackW m n.toNat v = ackW m k v) := cover (ackW_stop (by rw [ha.out]; omega) hk)
        refine hold_take 0 _ rfl (by kernel_rfl) (by kernel_rfl) (by kernel_rfl) (by kernel_rfl) (by kernel_rfl) (fun _ _ _ h => h) (by rfl) (fun _ => rfl) HS (fun w' hS => by obtain ⟨q0, q1, q2, q3⟩ := hS; go_simp; rfl) ?_
        simp only [Act.put, List.setIfInBounds_toArray, List.set_cons_zero, List.set_cons_succ]
        refine hold_take 1 _ rfl (by kernel_rfl) (by kernel_rfl) (by kernel_rfl) (by kernel_rfl) (by kernel_rfl) (fun _ _ _ h => h) (by rfl) (fun _ => rfl) HS (fun w' hS => by obtain ⟨q0, q1, q2, q3⟩ := hS; go_simp; rfl) ?_
        simp only [Act.put, List.setIfInBounds_toArray, List.set_cons_zero, List.set_cons_succ]
        refine hold_take 2 (.bool true) rfl (by kernel_rfl) (by kernel_rfl) (by kernel_rfl) (by kernel_rfl) (by kernel_rfl) (fun _ _ _ h => h) (by rfl) (fun _ => rfl) HS (fun w' hS => by obtain ⟨q0, q1, q2, q3⟩ := hS; go_simp; skip) ?_
        simp only [Act.put, List.setIfInBounds_toArray, List.set_cons_zero, List.set_cons_succ]
        refine hold_take 3 _ rfl (by kernel_rfl) (by kernel_rfl) (by kernel_rfl) (by kernel_rfl) (by kernel_rfl) (fun _ _ _ h => h) (by rfl) (fun _ => rfl) HS (fun w' hS => by obtain ⟨q0, q1, q2, q3⟩ := hS; go_simp; rfl) ?_
        simp only [Act.put, List.setIfInBounds_toArray, List.set_cons_zero, List.set_cons_succ]
        refine hold_take 4 _ rfl (by kernel_rfl) (by kernel_rfl) (by kernel_rfl) (by kernel_rfl) (by kernel_rfl) (fun _ _ _ h => h) (by rfl) (fun _ => rfl) HS (fun w' hS => by obtain ⟨q0, q1, q2, q3⟩ := hS; go_simp; rfl) ?_
        simp only [Act.put, List.setIfInBounds_toArray, List.set_cons_zero, List.set_cons_succ]
        refine hold_take 5 _ rfl (by kernel_rfl) (by kernel_rfl) (by kernel_rfl) (by kernel_rfl) (by kernel_rfl) (fun _ _ _ h => h) (by rfl) (fun _ => rfl) HS (fun w' hS => by obtain ⟨q0, q1, q2, q3⟩ := hS; go_simp; rfl) ?_
        simp only [Act.put, List.setIfInBounds_toArray, List.set_cons_zero, List.set_cons_succ]
        refine hold_take 6 _ rfl (by kernel_rfl) (by kernel_rfl) (by kernel_rfl) (by kernel_rfl) (by kernel_rfl) (fun _ _ _ h => h) (by rfl) (fun _ => rfl) HS (fun w' hS => by obtain ⟨q0, q1, q2, q3⟩ := hS; go_simp; rfl) ?_
        simp only [Act.put, List.setIfInBounds_toArray, List.set_cons_zero, List.set_cons_succ]
        refine hold_take 7 _ rfl (by kernel_rfl) (by kernel_rfl) (by kernel_rfl) (by kernel_rfl) (by kernel_rfl) (fun _ _ _ h => h) (by rfl) (fun _ => rfl) HS (fun w' hS => by obtain ⟨q0, q1, q2, q3⟩ := hS; go_simp; rfl) ?_
        simp only [Act.put, List.setIfInBounds_toArray, List.set_cons_zero, List.set_cons_succ]
        refine hold_take 8 _ rfl (by kernel_rfl) (by kernel_rfl) (by kernel_rfl) (by kernel_rfl) (by kernel_rfl) (fun _ _ _ h => h) (by rfl) (fun _ => rfl) HS (fun w' hS => by obtain ⟨q0, q1, q2, q3⟩ := hS; go_simp; rfl) ?_
        simp only [Act.put, List.setIfInBounds_toArray, List.set_cons_zero, List.set_cons_succ]
        refine hold_take 9 _ rfl (by kernel_rfl) (by kernel_rfl) (by kernel_rfl) (by kernel_rfl) (by kernel_rfl) (fun _ _ _ h => h) (by rfl) (fun _ => rfl) HS (fun w' hS => by obtain ⟨q0, q1, q2, q3⟩ := hS; go_simp; rfl) ?_
        simp only [Act.put, List.setIfInBounds_toArray, List.set_cons_zero, List.set_cons_succ]
        refine hold_take 10 _ rfl (by kernel_rfl) (by kernel_rfl) (by kernel_rfl) (by kernel_rfl) (by kernel_rfl) (fun _ _ _ h => h) (by rfl) (fun _ => rfl) HS (fun w' hS => by obtain ⟨q0, q1, q2, q3⟩ := hS; go_simp; rfl) ?_
        simp only [Act.put, List.setIfInBounds_toArray, List.set_cons_zero, List.set_cons_succ]
        refine hold_take 11 _ rfl (by kernel_rfl) (by kernel_rfl) (by kernel_rfl) (by kernel_rfl) (by kernel_rfl) (fun _ _ _ h => h) (by rfl) (fun _ => rfl) HS (fun w' hS => by obtain ⟨q0, q1, q2, q3⟩ := hS; go_simp; rfl) ?_
        simp only [Act.put, List.setIfInBounds_toArray, List.set_cons_zero, List.set_cons_succ]
        refine hold_take 12 (.bool false) rfl (by kernel_rfl) (by kernel_rfl) (by kernel_rfl) (by kernel_rfl) (by kernel_rfl) (fun _ _ _ h => h) (by rfl) (fun _ => rfl) HS (fun w' hS => by obtain ⟨q0, q1, q2, q3⟩ := hS; go_simp; skip) ?_
        simp only [Act.put, List.setIfInBounds_toArray, List.set_cons_zero, List.set_cons_succ]
        refine hold_take 13 (.bool false) rfl (by kernel_rfl) (by kernel_rfl) (by kernel_rfl) (by kernel_rfl) (by kernel_rfl) (fun _ _ _ h => h) (by rfl) (fun _ => rfl) HS (fun w' hS => by obtain ⟨q0, q1, q2, q3⟩ := hS; go_simp; try rfl) ?_
        simp only [Act.put, List.setIfInBounds_toArray, List.set_cons_zero, List.set_cons_succ]
        refine held_done (by kernel_rfl) ?_ _
        clear hY hJ hst HS hlt hw
        gi_wp2
        go_end0
        exact ⟨⟨_, rfl⟩, k, HJk.out, HE.out⟩
    · have HE : Hid (ackW m n.toNat v = ackW m k v) := cover (by rw [show k = n.toNat by omega])
      refine hold_take 0 _ rfl (by kernel_rfl) (by kernel_rfl) (by kernel_rfl) (by kernel_rfl) (by kernel_rfl) (fun _ _ _ h => h) (by rfl) (fun _ => rfl) HS (fun w' hS => by obtain ⟨q0, q1, q2, q3⟩ := hS; go_simp; rfl) ?_
      simp only [Act.put, List.setIfInBounds_toArray, List.set_cons_zero, List.set_cons_succ]
      refine hold_take 1 _ rfl (by kernel_rfl) (by kernel_rfl) (by kernel_rfl) (by kernel_rfl) (by kernel_rfl) (fun _ _ _ h => h) (by rfl) (fun _ => rfl) HS (fun w' hS => by obtain ⟨q0, q1, q2, q3⟩ := hS; go_simp; rfl) ?_
      simp only [Act.put, List.setIfInBounds_toArray, List.set_cons_zero, List.set_cons_succ]
      refine hold_take 2 (.bool false) rfl (by kernel_rfl) (by kernel_rfl) (by kernel_rfl) (by kernel_rfl) (by kernel_rfl) (fun _ _ _ h => h) (by rfl) (fun _ => rfl) HS (fun w' hS => by obtain ⟨q0, q1, q2, q3⟩ := hS; go_simp; skip) ?_
      simp only [Act.put, List.setIfInBounds_toArray, List.set_cons_zero, List.set_cons_succ]
      refine hold_take 3 _ rfl (by kernel_rfl) (by kernel_rfl) (by kernel_rfl) (by kernel_rfl) (by kernel_rfl) (fun _ _ _ h => h) (by rfl) (fun _ => rfl) HS (fun w' hS => by obtain ⟨q0, q1, q2, q3⟩ := hS; go_simp; rfl) ?_
      simp only [Act.put, List.setIfInBounds_toArray, List.set_cons_zero, List.set_cons_succ]
      refine hold_skip 4 rfl (by kernel_rfl) (by kernel_rfl) (by kernel_rfl) (by kernel_rfl) (by kernel_rfl) (fun _ _ _ h => h) (by rfl) (fun _ => rfl) HS ?_
      simp only [Act.put, List.setIfInBounds_toArray, List.set_cons_zero, List.set_cons_succ]
      refine hold_skip 5 rfl (by kernel_rfl) (by kernel_rfl) (by kernel_rfl) (by kernel_rfl) (by kernel_rfl) (fun _ _ _ h => h) (by rfl) (fun _ => rfl) HS ?_
      simp only [Act.put, List.setIfInBounds_toArray, List.set_cons_zero, List.set_cons_succ]
      refine hold_skip 6 rfl (by kernel_rfl) (by kernel_rfl) (by kernel_rfl) (by kernel_rfl) (by kernel_rfl) (fun _ _ _ h => h) (by rfl) (fun _ => rfl) HS ?_
      simp only [Act.put, List.setIfInBounds_toArray, List.set_cons_zero, List.set_cons_succ]
      refine hold_skip 7 rfl (by kernel_rfl) (by kernel_rfl) (by kernel_rfl) (by kernel_rfl) (by kernel_rfl) (fun _ _ _ h => h) (by rfl) (fun _ => rfl) HS ?_
      simp only [Act.put, List.setIfInBounds_toArray, List.set_cons_zero, List.set_cons_succ]
      refine hold_skip 8 rfl (by kernel_rfl) (by kernel_rfl) (by kernel_rfl) (by kernel_rfl) (by kernel_rfl) (fun _ _ _ h => h) (by rfl) (fun _ => rfl) HS ?_
      simp only [Act.put, List.setIfInBounds_toArray, List.set_cons_zero, List.set_cons_succ]
      refine hold_skip 9 rfl (by kernel_rfl) (by kernel_rfl) (by kernel_rfl) (by kernel_rfl) (by kernel_rfl) (fun _ _ _ h => h) (by rfl) (fun _ => rfl) HS ?_
      simp only [Act.put, List.setIfInBounds_toArray, List.set_cons_zero, List.set_cons_succ]
      refine hold_skip 10 rfl (by kernel_rfl) (by kernel_rfl) (by kernel_rfl) (by kernel_rfl) (by kernel_rfl) (fun _ _ _ h => h) (by rfl) (fun _ => rfl) HS ?_
      simp only [Act.put, List.setIfInBounds_toArray, List.set_cons_zero, List.set_cons_succ]
      refine hold_skip 11 rfl (by kernel_rfl) (by kernel_rfl) (by kernel_rfl) (by kernel_rfl) (by kernel_rfl) (fun _ _ _ h => h) (by rfl) (fun _ => rfl) HS ?_
      simp only [Act.put, List.setIfInBounds_toArray, List.set_cons_zero, List.set_cons_succ]
      refine hold_skip 12 rfl (by kernel_rfl) (by kernel_rfl) (by kernel_rfl) (by kernel_rfl) (by kernel_rfl) (fun _ _ _ h => h) (by rfl) (fun _ => rfl) HS ?_
      simp only [Act.put, List.setIfInBounds_toArray, List.set_cons_zero, List.set_cons_succ]
      refine hold_take 13 (.bool false) rfl (by kernel_rfl) (by kernel_rfl) (by kernel_rfl) (by kernel_rfl) (by kernel_rfl) (fun _ _ _ h => h) (by rfl) (fun _ => rfl) HS (fun w' hS => by obtain ⟨q0, q1, q2, q3⟩ := hS; go_simp; try rfl) ?_
      simp only [Act.put, List.setIfInBounds_toArray, List.set_cons_zero, List.set_cons_succ]
      refine held_done (by kernel_rfl) ?_ _
      clear hY hJ hst HS hlt
      gi_wp2
      go_end0
      exact ⟨⟨_, rfl⟩, k, HJk.out, HE.out⟩

/-- as it stands while Acked goes on, i counted -/
structure AckAt (w : World) (t b : Nat) (m n : Int) (v : WV) (Rc : Obj) (i : Nat) (A : World) : Prop where
  hd : A.heap[t]? = some (.cells (vC m (ackW m i v).wide (ackW m i v).cnt) 42 (0, 0))
  only : OnlyB t w A
  bw : A.heap[b]? = some (.cells #[ptr t] 23 (0, 0))
  b1 : A.heap[b + 1]? = some (.cells #[ptr t] 23 (0, 0))
  b2 : A.heap[b + 2]? = some (.cells #[.int .i64 n] 3 (0, 0))
  dfr : A.heap[b + 3]? = some (.deferred (some []))
  rcd : A.heap[b + 4]? = some Rc
theorem OnlyB.putObj {t l : Nat} {a b : World} (h : OnlyB t a b) (hl : a.heap.size ≤ l) (o : Obj) : OnlyB t a (b.putObj l o) :=
  ⟨h.os, h.tape, h.output, by simpa using h.size, fun i hi hne => (World.putObj_heap_other (by omega)).trans (h.block i hi hne)⟩
/-- block t turned, and nothing else that was there -/
theorem AckAt.turned {w A A' : World} {t b : Nat} {m n : Int} {v : WV} {Rc : Obj} {i j : Nat} (h : AckAt w t b m n v Rc i A) (ht : t < b) (hb : w.heap.size = b) (hs : b + 5 ≤ A.heap.size) (hT : OnlyB t A A')
    (hd : A'.heap[t]? = some (.cells (vC m (ackW m j v).wide (ackW m j v).cnt) 42 (0, 0))) : AckAt w t b m n v Rc j A' := by
  have hk : ∀ k, k < b + 5 → k ≠ t → A'.heap[k]? = A.heap[k]? := fun k hk hne => hT.block k (by omega) (fun e => hne (by injection e with e))
  exact ⟨hd, h.only.trans hT, (hk b (by omega) (by omega)).trans h.bw, (hk (b + 1) (by omega) (by omega)).trans h.b1, (hk (b + 2) (by omega) (by omega)).trans h.b2, (hk (b + 3) (by omega) (by omega)).trans h.dfr, (hk (b + 4) (by omega) (by omega)).trans h.rcd⟩
theorem AckAt.rec_ {w A : World} {t b : Nat} {m n : Int} {v : WV} {Rc : Obj} {i : Nat} (h : AckAt w t b m n v Rc i A) (ht : t < b) (hb : w.heap.size = b) (o : Obj) : AckAt w t b m n v o i (A.putObj (b + 3 + 1) o) :=
  ⟨(World.putObj_heap_other (by omega)).trans h.hd, h.only.putObj (by omega) o, (World.putObj_heap_other (by omega)).trans h.bw, (World.putObj_heap_other (by omega)).trans h.b1, (World.putObj_heap_other (by omega)).trans h.b2, (World.putObj_heap_other (by omega)).trans h.dfr, World.putObj_heap_same (block_lt h.rcd)⟩
theorem AckAt.drew {w A : World} {t b : Nat} {m n : Int} {v : WV} {Rc : Obj} {i : Nat} (h : AckAt w t b m n v Rc i A) : AckAt w t b m n v Rc i A.drew := ⟨h.hd, h.only.drewN 1, h.bw, h.b1, h.b2, h.dfr, h.rcd⟩

set_option maxRecDepth 100000 in
set_option maxHeartbeats 1600000 in
theorem acked_any {w : World} {t : Nat} {m : Int} {v : WV} (h : WiP w t m v) (n : Int) (hn : n ≤ 9223372036854775807) :
    Calls Try.prog 12 #[ptr t, .int .i64 n] w fun e W' => e = .returned (.tuple #[]) ∧ Hid (WiP W' t m (ackW m n.toNat v) ∧ OnlyB t w W') := by
  have mixed : Try.prog.follows .mixedOrders = true := by kernel_rfl
  have HV := cover h
  obtain ⟨b, hb⟩ : ∃ b, w.heap.size = b := ⟨_, rfl⟩
  have HB := cover hb
  have htb : t < b := by rw [← hb]; exact h.lt
  obtain ⟨w1, hw1⟩ : ∃ w1, w1 = w.alloc (.cells #[ptr t] 23) := ⟨_, rfl⟩
  have hs1 : w1.heap.size = b + 1 := by rw [hw1]; simp [hb]
  have hb1 : Below b w w1 := by rw [hw1]; exact (Below.refl _ _).alloc (by omega) _
  have hx1 : w1.heap[b]? = some (.cells #[ptr t] 23 (0, 0)) := by rw [hw1, ← hb]; exact heap_alloc_new _ _
  have c1 : w1.cell? ⟨b, 0, none⟩ = some (ptr t) := by rw [cell_of_row _ _ _ _ _ _ hx1]; rfl
  clear h
  refine (callsIn_wide (n := 9)).1 ?_
  refine callsIn_of_wp_marks Try.func12 rfl trivial ?_ rfl
  simp only [Try.ntmps12, List.size_toArray, List.length_cons, List.length_nil, Nat.reduceAdd, Nat.reduceSub, Array.replicate_succ, Array.replicate_zero, List.push_toArray, List.append_toArray, List.nil_append, List.cons_append]
  gi_wp2_with fail
  rw [← hw1]
  refine ⟨trivial, (callsIn_wide.2 (steps_any t n w1)).mono ?_⟩
  rintro e w3 ⟨rfl, hw3⟩
  have hsz : w3.heap.size = b + 3 := by rw [hw3]; simp [hs1]
  have hb3 : Below b w w3 := by rw [hw3]; exact ((hb1.alloc (by omega) _).alloc (by simp; omega) _)
  have k0 : w3.heap[b]? = some (.cells #[ptr t] 23 (0, 0)) := by
    rw [hw3, Below.heap_alloc _ _ _ (by simp; omega), Below.heap_alloc _ _ _ (by omega)]; exact hx1
  have k1 : w3.heap[b + 1]? = some (.cells #[ptr t] 23 (0, 0)) := by
    rw [hw3, Below.heap_alloc _ _ _ (by simp; omega), ← hs1]; exact heap_alloc_new _ _
  have k2 : w3.heap[b + 2]? = some (.cells #[.int .i64 n] 3 (0, 0)) := by
    have := heap_alloc_new (w1.alloc (.cells #[ptr t] 23)) (.cells #[.int .i64 n] 3)
    rw [World.size_alloc, hs1] at this; rw [hw3]; exact this
  rw [hs1]
  have T3 : w3.heap[t]? = some (.cells (vC m v.wide v.cnt) 42 (0, 0)) := (hb3.block t htb).trans HV.out.hd
  have O3 : OnlyB t w w3 := OnlyB.of_below (by rw [hb]; exact hb3)
  clear hw3 hw1 hs1 hb1 hx1 c1 hb
  gi_wp2_with fail
  have hfin : ∀ o A, (∃ i, AckAt w t b m n v o i A ∧ ackW m n.toNat v = ackW m i v) → ∀ o', (A.putObj (b + 3 + 1) o').heap[b + 3]? = some (.deferred (some [])) ∧
      Hid (WiP ((A.putObj (b + 3 + 1) o').putObj (b + 3) (.deferred none)) t m (ackW m n.toNat v) ∧ OnlyB t w ((A.putObj (b + 3 + 1) o').putObj (b + 3) (.deferred none))) := by
    rintro o A ⟨i, hA, he⟩ o'
    refine ⟨(World.putObj_heap_other (by omega)).trans hA.dfr, cover ⟨⟨(WOk.acked HV.out.ok _).1, HV.out.mb, ?_⟩, ?_⟩⟩
    · rw [World.putObj_heap_other (by omega), World.putObj_heap_other (by omega), he]; exact hA.hd
    · exact (hA.only.putObj (by have := HB.out; omega) _).putObj (by have := HB.out; omega) _
  have HFIN := cover hfin
  clear hfin
  refine range_outer rfl (by omega) (gf := 20) (ba := #[]) (lb := #[ptr (b + 1 + 1), ptr (b + 1)]) rfl trivial (enters_of Try.func20 (by kernel_rfl) rfl)
    (fun A => ∃ o i, AckAt w t b m n v o i A ∧ ackW m n.toNat v = ackW m i v) (fun c A => False) ?hit ?hdone ?hstop
  case hit =>
    intro fn Rc W2 hF hRc hW2
    rw [hsz] at hRc ⊢
    show CallsIn Fence.wide _ _ _ #[.func (.yield (b + 3 + 1)) #[] #[], ptr (b + 1 + 1), ptr (b + 1)] _ _
    have hsz2 : W2.heap.size = b + 5 := by rw [hW2]; simp [hsz]
    have hb2 : Below w3.heap.size w3 W2 := by rw [hW2]; exact ((Below.refl _ _).alloc (Nat.le_refl _) _).alloc (by simp) _
    have hdf2 : W2.heap[b + 3]? = some (.deferred (some [])) := by
      rw [hW2, Below.heap_alloc _ _ _ (by simp; omega), ← hsz]; exact World.alloc_heap_new w3 _
    have hrc2 : W2.heap[b + 4]? = some (Rc .ready none) := by
      have := World.alloc_heap_new (w3.alloc (.deferred (some []))) (Rc .ready none)
      rw [World.size_alloc, hsz] at this; rw [hW2]; exact this
    have h0 : b + 5 ≤ W2.heap.size ∧ AckAt w t b m n v (Rc .ready none) 0 W2 := ⟨by omega, (hb2.block t (by omega)).trans T3, O3.trans (OnlyB.of_below hb2), (hb2.block b (by omega)).trans k0, (hb2.block (b + 1) (by omega)).trans k1, (hb2.block (b + 2) (by omega)).trans k2, hdf2, hrc2⟩
    have H0 := cover h0
    clear hW2 hb2 hdf2 hrc2 T3 O3 k0 k1 k2 h0
    refine (steps1_in (t := t) (m := m) (v := v) (b + 3 + 1) hn (fun i A => b + 5 ≤ A.heap.size ∧ AckAt w t b m n v (Rc .ready none) i A) ?hJ (fun i A h => ⟨h.1, h.2.drew⟩) H0.out ?hY).mono ?_
    case hJ =>
      rintro i A ⟨_, hA⟩
      exact ⟨hA.hd, by rw [cell_of_row _ _ _ _ _ _ hA.b2]; rfl, by rw [cell_of_row _ _ _ _ _ _ hA.b1]; rfl⟩
    case hY =>
      rintro i A hin hlt ⟨hsA, hA⟩ mm
      refine yield_any (k := 8) ?_ mm
      refine round_own Rc (fun c _ W' => c = true ∧ b + 5 ≤ W'.heap.size ∧ AckAt w t b m n v (Rc .ready none) (i + 1) W') hRc hF hA.rcd rfl ?walk ?conv
      case conv =>
        rintro c _ W' ⟨rfl, h1⟩
        exact ⟨rfl, h1⟩
      case walk =>
        clear hRc
        obtain ⟨a, ha⟩ : ∃ a, Hid ((ackW m i v).wide = a) := ⟨_, cover rfl⟩
        obtain ⟨c, hc⟩ : ∃ c, Hid ((ackW m i v).cnt = c) := ⟨_, cover rfl⟩
        have HBD : Hid (1 ≤ a ∧ 0 ≤ c ∧ c < a ∧ m ≤ 64 ∧ a + 1 ≤ m) := cover (by
          have h1 := (WOk.acked HV.out.ok i).1
          have h2 := h1.2.2.2.1 hlt
          have h3 := h1.1
          have h4 := h1.2.2.1
          rw [ha.out, hc.out] at h2
          rw [ha.out] at h3 hlt
          rw [hc.out] at h4
          exact ⟨h3, h4, h2, HV.out.mb, by omega⟩)
        have HST := cover (stepW_in hlt)
        rw [ha.out, hc.out] at HST
        gi_wp2
        refine ⟨hA.rcd, ?_⟩
        obtain ⟨A4, hA4⟩ : ∃ A4, A4 = A.putObj (b + 3 + 1) (Rc .busy none) := ⟨_, rfl⟩
        have H4 : Hid (b + 5 ≤ A4.heap.size ∧ AckAt w t b m n v (Rc .busy none) i A4) := cover (by rw [hA4]; exact ⟨by simpa using hsA, hA.rec_ htb HB.out _⟩)
        rw [← hA4]
        clear hA4 hA hsA hlt
        have T4 := H4.out.2.hd
        rw [ha.out, hc.out] at T4
        obtain ⟨z, hz⟩ : ∃ z, c + 1 = z := ⟨_, rfl⟩
        have HZ := cover hz
        obtain ⟨w5, hw5⟩ : ∃ w5, Hid (w5 = A4.setCell ⟨t, 2, none⟩ (.int .i64 z)) := ⟨_, cover rfl⟩
        have T5 : w5.heap[t]? = some (.cells (vC m a z) 42 (0, 0)) := by rw [hw5.out, set_block T4]; rfl
        have O5 : Hid (OnlyB t A4 w5) := cover (by rw [hw5.out]; exact (OnlyB.refl _ _).setCell 2 _)
        obtain ⟨c0, c1, c2⟩ := three_cells T4
        have F4 := not_frozen T4 2
        have b4 : A4.cell? ⟨b, 0, none⟩ = some (ptr t) := by rw [cell_of_row _ _ _ _ _ _ H4.out.2.bw]; rfl
        have b5 : w5.cell? ⟨b, 0, none⟩ = some (ptr t) := by rw [cell_of_row _ _ _ _ _ _ ((O5.out.block b (by have := H4.out.1; omega) (fun e => by injection e with e; omega)).trans H4.out.2.bw)]; rfl
        have HT5 := cover T5
        have hw1 : wrap64 (c + 1) = z := (IntWalk.wrap64_in _ ⟨by have := HBD.out; omega, by have := HBD.out; omega⟩).trans hz
        clear T4 T5 hz
        gi_wp2_with (rw [← hw5.out])
        clear c0 c1 c2 F4 b4 hw1
        obtain ⟨d0, d1, d2⟩ := three_cells HT5.out
        have HS : (fun w' : World => w'.cell? ⟨b, 0, none⟩ = some (ptr t) ∧ w'.cell? ⟨t, 1, none⟩ = some (.int .i64 a) ∧ w'.cell? ⟨t, 2, none⟩ = some (.int .i64 z)) w5.drew := ⟨b5, d1, d2⟩
        refine held_begin (fun w' : World => w'.cell? ⟨b, 0, none⟩ = some (ptr t) ∧ w'.cell? ⟨t, 1, none⟩ = some (.int .i64 a) ∧ w'.cell? ⟨t, 2, none⟩ = some (.int .i64 z)) 99 mixed ?_
        by_cases hs : z = a
        · have E : Hid (ackW m (i + 1) v = ⟨a + 1, 0⟩) := cover (HST.out.1 (by have := HZ.out; omega))
          have HZA := cover hs
          refine hold_take 0 _ rfl (by kernel_rfl) (by kernel_rfl) (by kernel_rfl) (by kernel_rfl) (by kernel_rfl) (fun _ _ _ h => h) (by rfl) (fun _ => rfl) HS (fun w' hS => by obtain ⟨q0, q1, q2⟩ := hS; go_simp; rfl) ?_
          simp only [Act.put, List.setIfInBounds_toArray, List.set_cons_zero, List.set_cons_succ]
          refine hold_take 1 _ rfl (by kernel_rfl) (by kernel_rfl) (by kernel_rfl) (by kernel_rfl) (by kernel_rfl) (fun _ _ _ h => h) (by rfl) (fun _ => rfl) HS (fun w' hS => by obtain ⟨q0, q1, q2⟩ := hS; go_simp; rfl) ?_
          simp only [Act.put, List.setIfInBounds_toArray, List.set_cons_zero, List.set_cons_succ]
          refine hold_take 2 _ rfl (by kernel_rfl) (by kernel_rfl) (by kernel_rfl) (by kernel_rfl) (by kernel_rfl) (fun _ _ _ h => h) (by rfl) (fun _ => rfl) HS (fun w' hS => by obtain ⟨q0, q1, q2⟩ := hS; go_simp; rfl) ?_
          simp only [Act.put, List.setIfInBounds_toArray, List.set_cons_zero, List.set_cons_succ]
          refine hold_take 3 _ rfl (by kernel_rfl) (by kernel_rfl) (by kernel_rfl) (by kernel_rfl) (by kernel_rfl) (fun _ _ _ h => h) (by rfl) (fun _ => rfl) HS (fun w' hS => by obtain ⟨q0, q1, q2⟩ := hS; go_simp; rfl) ?_
          simp only [Act.put, List.setIfInBounds_toArray, List.set_cons_zero, List.set_cons_succ]
          refine hold_take 4 _ rfl (by kernel_rfl) (by kernel_rfl) (by kernel_rfl) (by kernel_rfl) (by kernel_rfl) (fun _ _ _ h => h) (by rfl) (fun _ => rfl) HS (fun w' hS => by obtain ⟨q0, q1, q2⟩ := hS; go_simp; rfl) ?_
          simp only [Act.put, List.setIfInBounds_toArray, List.set_cons_zero, List.set_cons_succ]
          refine hold_take 5 _ rfl (by kernel_rfl) (by kernel_rfl) (by kernel_rfl) (by kernel_rfl) (by kernel_rfl) (fun _ _ _ h => h) (by rfl) (fun _ => rfl) HS (fun w' hS => by obtain ⟨q0, q1, q2⟩ := hS; go_simp; rfl) ?_
          simp only [Act.put, List.setIfInBounds_toArray, List.set_cons_zero, List.set_cons_succ]
          refine hold_take 6 _ rfl (by kernel_rfl) (by kernel_rfl) (by kernel_rfl) (by kernel_rfl) (by kernel_rfl) (fun _ _ _ h => h) (by rfl) (fun _ => rfl) HS (fun w' hS => by obtain ⟨q0, q1, q2⟩ := hS; go_simp; rfl) ?_
          simp only [Act.put, List.setIfInBounds_toArray, List.set_cons_zero, List.set_cons_succ]
          refine hold_take 7 _ rfl (by kernel_rfl) (by kernel_rfl) (by kernel_rfl) (by kernel_rfl) (by kernel_rfl) (fun _ _ _ h => h) (by rfl) (fun _ => rfl) HS (fun w' hS => by obtain ⟨q0, q1, q2⟩ := hS; go_simp; rfl) ?_
          simp only [Act.put, List.setIfInBounds_toArray, List.set_cons_zero, List.set_cons_succ]
          refine hold_take 8 (.bool true) rfl (by kernel_rfl) (by kernel_rfl) (by kernel_rfl) (by kernel_rfl) (by kernel_rfl) (fun _ _ _ h => h) (by rfl) (fun _ => rfl) HS (fun w' hS => by obtain ⟨q0, q1, q2⟩ := hS; go_simp; try rfl) ?_
          simp only [Act.put, List.setIfInBounds_toArray, List.set_cons_zero, List.set_cons_succ]
          refine held_done (by kernel_rfl) ?_ _
          gi_wp2_with fail
          have HS2 : (fun w' : World => w'.cell? ⟨b, 0, none⟩ = some (ptr t) ∧ w'.cell? ⟨t, 1, none⟩ = some (.int .i64 a) ∧ w'.cell? ⟨t, 2, none⟩ = some (.int .i64 a)) w5.drew.drew := ⟨b5, d1, by rw [← hs]; exact d2⟩
          clear HS b5 d0 d1 d2 hs
          refine held_begin (fun w' : World => w'.cell? ⟨b, 0, none⟩ = some (ptr t) ∧ w'.cell? ⟨t, 1, none⟩ = some (.int .i64 a) ∧ w'.cell? ⟨t, 2, none⟩ = some (.int .i64 a)) 6 mixed ?_
          have hw2 : IntKind.i64.wrap (a + 1) = a + 1 := by rw [IntKind.wrap_i64]; have := HBD.out; omega
          have hq1 : w5.cell? ⟨t, 1, none⟩ = some (.int .i64 a) := HS2.2.1
          have hq0 : w5.cell? ⟨b, 0, none⟩ = some (ptr t) := HS2.1
          refine hold_take 0 _ rfl (by kernel_rfl) (by kernel_rfl) (by kernel_rfl) (by kernel_rfl) (by kernel_rfl) (fun _ _ _ h => h) (by rfl) (fun _ => rfl) HS2 (fun w' hS => by obtain ⟨q0, q1, q2⟩ := hS; go_simp; rfl) ?_
          simp only [Act.put, List.setIfInBounds_toArray, List.set_cons_zero, List.set_cons_succ]
          refine hold_one 1 (by kernel_rfl) rfl (by rfl) fun K hK => ?_
          go_simp
          refine hK _ _ (.inr HS2) ?_
          clear hK K
          refine hold_one 2 (by kernel_rfl) rfl (by rfl) fun K hK => ?_
          go_simp
          refine hK _ _ (.inr HS2) ?_
          clear hK K
          refine hold_one 3 (by kernel_rfl) rfl (by rfl) fun K hK => ?_
          go_simp
          refine hK _ _ (.inr HS2) ?_
          clear hK K
          refine hold_one 4 (by kernel_rfl) rfl (by rfl) fun K hK => ?_
          go_simp
          refine hK _ _ (.inr HS2) ?_
          clear hK K
          refine hold_one 5 (by kernel_rfl) rfl (by rfl) fun K hK => ?_
          go_simp
          refine hK _ _ (.inr HS2) ?_
          clear hK K
          refine hold_one 6 (by kernel_rfl) rfl (by rfl) fun K hK => ?_
          go_simp
          refine ⟨trivial, (CallsIn.inRound (b + 3 + 1) (callsIn_wide.2 (become_any (W := w5.drew.drew) HT5.out (a + 1)))).mono ?_⟩
          rintro e w6 ⟨rfl, h6⟩
          refine hK _ _ (.inl rfl) ?_
          clear hK K
          refine held_done (by kernel_rfl) ?_ _
          have H6 : Hid (b + 5 ≤ w6.heap.size ∧ AckAt w t b m n v (Rc .busy none) (i + 1) w6) := cover (by
            have O6 : OnlyB t A4 w6 := (O5.out.drewN 2).trans h6.out.2
            refine ⟨by have := O6.size; have := H4.out.1; omega, H4.out.2.turned htb HB.out H4.out.1 O6 ?_⟩
            rw [E.out]; exact h6.out.1)
          clear h6 HS2 hw2
          gi_wp2
          exact ⟨H6.out.2.rcd, rfl, by simpa using H6.out.1, H6.out.2.rec_ htb HB.out _⟩
        · have E : Hid (ackW m (i + 1) v = ⟨a, c + 1⟩) := cover (HST.out.2 (by have := HBD.out; have := HZ.out; omega))
          have hs' : ¬ a = z := fun e => hs e.symm
          refine hold_take 0 _ rfl (by kernel_rfl) (by kernel_rfl) (by kernel_rfl) (by kernel_rfl) (by kernel_rfl) (fun _ _ _ h => h) (by rfl) (fun _ => rfl) HS (fun w' hS => by obtain ⟨q0, q1, q2⟩ := hS; go_simp; rfl) ?_
          simp only [Act.put, List.setIfInBounds_toArray, List.set_cons_zero, List.set_cons_succ]
          refine hold_take 1 _ rfl (by kernel_rfl) (by kernel_rfl) (by kernel_rfl) (by kernel_rfl) (by kernel_rfl) (fun _ _ _ h => h) (by rfl) (fun _ => rfl) HS (fun w' hS => by obtain ⟨q0, q1, q2⟩ := hS; go_simp; rfl) ?_
          simp only [Act.put, List.setIfInBounds_toArray, List.set_cons_zero, List.set_cons_succ]
          refine hold_take 2 _ rfl (by kernel_rfl) (by kernel_rfl) (by kernel_rfl) (by kernel_rfl) (by kernel_rfl) (fun _ _ _ h => h) (by rfl) (fun _ => rfl) HS (fun w' hS => by obtain ⟨q0, q1, q2⟩ := hS; go_simp; rfl) ?_
          simp only [Act.put, List.setIfInBounds_toArray, List.set_cons_zero, List.set_cons_succ]
          refine hold_take 3 _ rfl (by kernel_rfl) (by kernel_rfl) (by kernel_rfl) (by kernel_rfl) (by kernel_rfl) (fun _ _ _ h => h) (by rfl) (fun _ => rfl) HS (fun w' hS => by obtain ⟨q0, q1, q2⟩ := hS; go_simp; rfl) ?_
          simp only [Act.put, List.setIfInBounds_toArray, List.set_cons_zero, List.set_cons_succ]
          refine hold_take 4 _ rfl (by kernel_rfl) (by kernel_rfl) (by kernel_rfl) (by kernel_rfl) (by kernel_rfl) (fun _ _ _ h => h) (by rfl) (fun _ => rfl) HS (fun w' hS => by obtain ⟨q0, q1, q2⟩ := hS; go_simp; rfl) ?_
          simp only [Act.put, List.setIfInBounds_toArray, List.set_cons_zero, List.set_cons_succ]
          refine hold_take 5 _ rfl (by kernel_rfl) (by kernel_rfl) (by kernel_rfl) (by kernel_rfl) (by kernel_rfl) (fun _ _ _ h => h) (by rfl) (fun _ => rfl) HS (fun w' hS => by obtain ⟨q0, q1, q2⟩ := hS; go_simp; rfl) ?_
          simp only [Act.put, List.setIfInBounds_toArray, List.set_cons_zero, List.set_cons_succ]
          refine hold_take 6 _ rfl (by kernel_rfl) (by kernel_rfl) (by kernel_rfl) (by kernel_rfl) (by kernel_rfl) (fun _ _ _ h => h) (by rfl) (fun _ => rfl) HS (fun w' hS => by obtain ⟨q0, q1, q2⟩ := hS; go_simp; rfl) ?_
          simp only [Act.put, List.setIfInBounds_toArray, List.set_cons_zero, List.set_cons_succ]
          refine hold_take 7 _ rfl (by kernel_rfl) (by kernel_rfl) (by kernel_rfl) (by kernel_rfl) (by kernel_rfl) (fun _ _ _ h => h) (by rfl) (fun _ => rfl) HS (fun w' hS => by obtain ⟨q0, q1, q2⟩ := hS; go_simp; rfl) ?_
          simp only [Act.put, List.setIfInBounds_toArray, List.set_cons_zero, List.set_cons_succ]
          refine hold_take 8 (.bool false) rfl (by kernel_rfl) (by kernel_rfl) (by kernel_rfl) (by kernel_rfl) (by kernel_rfl) (fun _ _ _ h => h) (by rfl) (fun _ => rfl) HS (fun w' hS => by obtain ⟨q0, q1, q2⟩ := hS; go_simp; try rfl) ?_
          simp only [Act.put, List.setIfInBounds_toArray, List.set_cons_zero, List.set_cons_succ]
          refine held_done (by kernel_rfl) ?_ _
          have H6 : Hid (b + 5 ≤ w5.drew.heap.size ∧ AckAt w t b m n v (Rc .busy none) (i + 1) w5.drew) := cover (by
            have O6 : OnlyB t A4 w5.drew := O5.out.drewN 1
            refine ⟨by have := O6.size; have := H4.out.1; omega, H4.out.2.turned htb HB.out H4.out.1 O6 ?_⟩
            rw [E.out, HZ.out]; exact HT5.out)
          clear HS b5 d0 d1 d2 hs hs'
          gi_wp2
          exact ⟨H6.out.2.rcd, rfl, by simpa using H6.out.1, H6.out.2.rec_ htb HB.out _⟩
    rintro e W' ⟨⟨v', rfl⟩, i, ⟨_, hA⟩, he⟩
    exact ⟨⟨v', rfl⟩, hA.dfr, .inl ⟨hA.rcd, _, i, hA, he⟩⟩
  case hdone =>
    rintro o A ⟨o2, i, hA, he⟩ hd
    rw [hsz] at hd ⊢
    obtain ⟨hd2, HO⟩ := HFIN.out o2 A ⟨i, hA, he⟩ o
    clear hd hA
    gi_wp2
    refine ⟨by simp, .inl ⟨_, _, rfl, run_takeDeferred hd2, ?_⟩⟩
    exact ⟨_, results_none rfl _ _ _, rfl, HO⟩
  case hstop =>
    rintro o c A hA hd
    exact hA.elim
end Go.Proofs.Ytdjfnhplbhhgiaa
