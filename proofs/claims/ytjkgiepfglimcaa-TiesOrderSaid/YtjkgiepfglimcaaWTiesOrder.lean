/- The walk of TiesOrder. -/
import Derived.Test.YtjkgiepfglimcaaFHeld
import Derived.Test.YtjkgiepfglimcaaERef
import Derived.Test.YtjkgiepfglimcaaEAwake
namespace Go.Proofs.Ytjkgiepfglimcaa
open Go.RowKit
set_option linter.unusedVariables false
attribute [local go_sem ↓] eqK_at

theorem two_order (a b : EK) (h : ltE a b = false) : (ltE b a == !sameE a b) = true := by
  by_cases e : a = b
  · subst e; rw [sameE_refl, ltE_ord.irr]; rfl
  · rcases ltE_ord.tot a b e with h1 | h1
    · rw [h] at h1; cases h1
    · have : sameE a b = false := by cases hs : sameE a b; rfl; exact absurd (sameE_iff.1 hs) e
      rw [h1, this]; rfl
theorem two_apart (a b : EK) (h : ltE a b = true) : (!sameE a b) = true := by
  have : sameE a b = false := by
    cases hs : sameE a b
    · rfl
    · rw [sameE_iff.1 hs, ltE_ord.irr] at h; cases h
  rw [this]; rfl
set_option maxRecDepth 100000 in
set_option maxHeartbeats 3200000 in
theorem walk_TiesOrder (a b c : EK) (w : World) (ha : OkE a) (hb : OkE b) (hc : OkE c) :
    Calls Try.prog 5 #[keyV a, keyV b, keyV c] w fun e w' => e = .returned (.bool true) ∧ Below w.heap.size w w' := by
  have mixed : Try.prog.follows .mixedOrders = true := by kernel_rfl
  obtain ⟨w3, hw3⟩ : ∃ w3, w3 = ((w.alloc (.cells #[.int .u8 a.a0, .int .u8 a.a1, .int .u8 a.a2, .int .u8 a.a3, .int .u8 a.a4, .int .u8 a.a5, .int .i64 a.near, .int .i64 a.there_] 40)).alloc (.cells #[.int .u8 b.a0, .int .u8 b.a1, .int .u8 b.a2, .int .u8 b.a3, .int .u8 b.a4, .int .u8 b.a5, .int .i64 b.near, .int .i64 b.there_] 40)).alloc (.cells #[.int .u8 c.a0, .int .u8 c.a1, .int .u8 c.a2, .int .u8 c.a3, .int .u8 c.a4, .int .u8 c.a5, .int .i64 c.near, .int .i64 c.there_] 40) := ⟨_, rfl⟩
  have hb3 : Below w.heap.size w w3 := by rw [hw3]; exact (((Below.refl _ _).alloc (Nat.le_refl _) _).alloc (by simp) _).alloc (by simp; omega) _
  have x1 : CellsK w3 w.heap.size a := cells_of_key (t := 40) (fr := (0, 0)) (by
    rw [hw3, Below.heap_alloc _ _ _ (by simp; omega), Below.heap_alloc _ _ _ (by simp)]; exact heap_alloc_new _ _)
  have x2 : CellsK w3 (w.heap.size + 1) b := cells_of_key (t := 40) (fr := (0, 0)) (by
    have := heap_alloc_new (w.alloc (.cells #[.int .u8 a.a0, .int .u8 a.a1, .int .u8 a.a2, .int .u8 a.a3, .int .u8 a.a4, .int .u8 a.a5, .int .i64 a.near, .int .i64 a.there_] 40)) (.cells #[.int .u8 b.a0, .int .u8 b.a1, .int .u8 b.a2, .int .u8 b.a3, .int .u8 b.a4, .int .u8 b.a5, .int .i64 b.near, .int .i64 b.there_] 40)
    rw [World.size_alloc] at this
    rw [hw3, Below.heap_alloc _ _ _ (by simp)]; exact this)
  have x3 : CellsK w3 (w.heap.size + 1 + 1) c := cells_of_key (t := 40) (fr := (0, 0)) (by
    have := heap_alloc_new ((w.alloc (.cells #[.int .u8 a.a0, .int .u8 a.a1, .int .u8 a.a2, .int .u8 a.a3, .int .u8 a.a4, .int .u8 a.a5, .int .i64 a.near, .int .i64 a.there_] 40)).alloc (.cells #[.int .u8 b.a0, .int .u8 b.a1, .int .u8 b.a2, .int .u8 b.a3, .int .u8 b.a4, .int .u8 b.a5, .int .i64 b.near, .int .i64 b.there_] 40)) (.cells #[.int .u8 c.a0, .int .u8 c.a1, .int .u8 c.a2, .int .u8 c.a3, .int .u8 c.a4, .int .u8 c.a5, .int .i64 c.near, .int .i64 c.there_] 40)
    simp only [World.size_alloc] at this
    rw [hw3]; exact this)
  have hsz3 : w3.heap.size = w.heap.size + 3 := by rw [hw3]; simp
  have KW3 : Hid (∀ W', Below w3.heap.size w3 W' → CellsK W' w.heap.size a ∧ CellsK W' (w.heap.size + 1) b ∧ CellsK W' (w.heap.size + 1 + 1) c) := cover fun W' h => ⟨x1.below (by omega) h, x2.below (by omega) h, x3.below (by omega) h⟩
  have HB3 := cover hb3
  have HSZ3 : Hid (w.heap.size ≤ w3.heap.size) := cover hb3.size
  clear hb3 x1 x2 x3 hsz3
  go_enter Try.func5, Try.ntmps5
  go_upto_region 1 with fail
  rw [← hw3]
  clear hw3
  go_wp2_with fail
  refine (awake_any w3).mono ?_
  rintro e w4 ⟨rfl, hb4⟩
  have KW : Hid (∀ W', Below w4.heap.size w4 W' → CellsK W' w.heap.size a ∧ CellsK W' (w.heap.size + 1) b ∧ CellsK W' (w.heap.size + 1 + 1) c ∧ Below w4.heap.size w4 W') := cover fun W' h => by
    obtain ⟨h1, h2, h3⟩ := KW3.out W' (hb4.trans (h.mono hb4.size))
    exact ⟨h1, h2, h3, h⟩
  have HB4 : Hid (Below w.heap.size w w4) := cover (HB3.out.trans (hb4.mono HSZ3.out))
  have HSZ4 : Hid (w.heap.size ≤ w4.heap.size) := cover HB4.out.size
  clear hb4 KW3 HB3 HSZ3
  obtain ⟨x, hx⟩ : ∃ x, x = ltE a b := ⟨_, rfl⟩
  obtain ⟨y, hy⟩ : ∃ y, y = ltE b c := ⟨_, rfl⟩
  obtain ⟨z, hz⟩ : ∃ z, z = ltE a c := ⟨_, rfl⟩
  have CKa4 : Hid (∀ W', Below w4.heap.size w4 W' → Calls Try.prog 18 #[keyV a] W' fun e w' => e = .returned (keyV a) ∧ Below w4.heap.size w4 w') := cover fun W' h => (key_any a W').mono fun e w' ⟨he, hw⟩ => ⟨he, h.trans (hw.mono h.size)⟩
  have CKb4 : Hid (∀ W', Below w4.heap.size w4 W' → Calls Try.prog 18 #[keyV b] W' fun e w' => e = .returned (keyV b) ∧ Below w4.heap.size w4 w') := cover fun W' h => (key_any b W').mono fun e w' ⟨he, hw⟩ => ⟨he, h.trans (hw.mono h.size)⟩
  have CKc4 : Hid (∀ W', Below w4.heap.size w4 W' → Calls Try.prog 18 #[keyV c] W' fun e w' => e = .returned (keyV c) ∧ Below w4.heap.size w4 w') := cover fun W' h => (key_any c W').mono fun e w' ⟨he, hw⟩ => ⟨he, h.trans (hw.mono h.size)⟩
  have CLx : Hid (∀ W', Below w4.heap.size w4 W' → Calls Try.prog 14 #[keyV a, keyV b] W' fun e w' => e = .returned (.bool x) ∧ Below w4.heap.size w4 w') := cover fun W' h => (less_any ha hb W').mono fun e w' ⟨he, hw⟩ => ⟨by rw [he, hx], h.trans (hw.mono h.size)⟩
  have CLy : Hid (∀ W', Below w4.heap.size w4 W' → Calls Try.prog 14 #[keyV b, keyV c] W' fun e w' => e = .returned (.bool y) ∧ Below w4.heap.size w4 w') := cover fun W' h => (less_any hb hc W').mono fun e w' ⟨he, hw⟩ => ⟨by rw [he, hy], h.trans (hw.mono h.size)⟩
  have CLz : Hid (∀ W', Below w4.heap.size w4 W' → Calls Try.prog 14 #[keyV a, keyV c] W' fun e w' => e = .returned (.bool z) ∧ Below w4.heap.size w4 w') := cover fun W' h => (less_any ha hc W').mono fun e w' ⟨he, hw⟩ => ⟨by rw [he, hz], h.trans (hw.mono h.size)⟩
  have HX := cover hx
  have HY := cover hy
  have HZ := cover hz
  have HA := cover ha
  have HBK := cover hb
  clear hx hy hz ha hb hc
  go_wp2_with fail
  go_region_held3 (fun W' => CellsK W' w.heap.size a ∧ CellsK W' (w.heap.size + 1) b ∧ CellsK W' (w.heap.size + 1 + 1) c ∧ Below w4.heap.size w4 W') (first | exact KW.out _ hbX | exact KW.out _ (below_drewN (Below.refl _ _) 1))
    (first
      | (go_at_call 18; (first | (with_reducible refine (CKa4.out _ ?_).mono ?_) | (with_reducible refine (CKb4.out _ ?_).mono ?_) | (with_reducible refine (CKc4.out _ ?_).mono ?_)); (go_split_ands; assumption); rintro e wX ⟨rfl, hbX⟩)
      | (go_at_call 14; (first | (with_reducible refine (CLx.out _ ?_).mono ?_) | (with_reducible refine (CLy.out _ ?_).mono ?_) | (with_reducible refine (CLz.out _ ?_).mono ?_)); (go_split_ands; assumption); rintro e wX ⟨rfl, hbX⟩))
  have HS : Below w4.heap.size w4 wX := hbX
  have CR : Hid (∀ W', Below w4.heap.size w4 W' → Calls Try.prog 16 #[keyV a, keyV b] W' fun e w' => e = .returned (.bool x) ∧ Below w4.heap.size w4 w') := cover fun W' h => (rless_any a b W').mono fun e w' ⟨he, hw⟩ => ⟨by rw [he, HX.out], h.trans (hw.mono h.size)⟩
  have CLaa : Hid (∀ W', Below w4.heap.size w4 W' → Calls Try.prog 14 #[keyV a, keyV a] W' fun e w' => e = .returned (.bool false) ∧ Below w4.heap.size w4 w') := cover fun W' h => (less_any HA.out HA.out W').mono fun e w' ⟨he, hw⟩ => ⟨by rw [he, ltE_ord.irr], h.trans (hw.mono h.size)⟩
  obtain ⟨v, hv⟩ : ∃ v, v = ltE b a := ⟨_, rfl⟩
  have CLba : Hid (∀ W', Below w4.heap.size w4 W' → Calls Try.prog 14 #[keyV b, keyV a] W' fun e w' => e = .returned (.bool v) ∧ Below w4.heap.size w4 w') := cover fun W' h => (less_any HBK.out HA.out W').mono fun e w' ⟨he, hw⟩ => ⟨by rw [he, hv], h.trans (hw.mono h.size)⟩
  have HV := cover hv
  clear hbX hv CLx CLy CLz
  cases x
  · have hs : sameE a b = !v := by
      have := two_order a b HX.out.symm
      rw [HV.out]
      cases h1 : ltE b a <;> cases h2 : sameE a b <;> rw [h1, h2] at this <;> first | rfl | cases this
    clear HX HY HZ HV HA HBK
    go_wp2_with fail
    refine (wpIn_wide (n := 0)).1 ?_
    refine held_begin (fun W' : World => Below w4.heap.size w4 W') 99 mixed ?_
    replace HS := below_drewN HS 1
    refine hold_take 0 _ rfl (by kernel_rfl) (by kernel_rfl) (by kernel_rfl) (by kernel_rfl) (by kernel_rfl) (fun _ _ _ h => h) (by rfl) (fun _ => rfl) HS (fun w' hS => by go_simp; try rfl) ?_
    simp only [Act.put, List.setIfInBounds_toArray, List.set_cons_zero, List.set_cons_succ]
    refine hold_take 1 _ rfl (by kernel_rfl) (by kernel_rfl) (by kernel_rfl) (by kernel_rfl) (by kernel_rfl) (fun _ _ _ h => h) (by rfl) (fun _ => rfl) HS (fun w' hS => by obtain ⟨⟨p0, p1, p2, p3, p4, p5, p6, p7⟩, ⟨q0, q1, q2, q3, q4, q5, q6, q7⟩, ⟨r0, r1, r2, r3, r4, r5, r6, r7⟩, -⟩ := KW.out w' hS; go_simp; try rfl) ?_
    simp only [Act.put, List.setIfInBounds_toArray, List.set_cons_zero, List.set_cons_succ]
    refine hold_take 2 _ rfl (by kernel_rfl) (by kernel_rfl) (by kernel_rfl) (by kernel_rfl) (by kernel_rfl) (fun _ _ _ h => h) (by rfl) (fun _ => rfl) HS (fun w' hS => by obtain ⟨⟨p0, p1, p2, p3, p4, p5, p6, p7⟩, ⟨q0, q1, q2, q3, q4, q5, q6, q7⟩, ⟨r0, r1, r2, r3, r4, r5, r6, r7⟩, -⟩ := KW.out w' hS; go_simp; try rfl) ?_
    simp only [Act.put, List.setIfInBounds_toArray, List.set_cons_zero, List.set_cons_succ]
    refine hold_one 3 (by kernel_rfl) rfl (by rfl) fun K hK => ?_
    go_simp
    refine ⟨trivial, rfl, (callsIn_wide.2 (CR.out _ HS)).mono ?_⟩
    clear HS
    rintro e wX ⟨rfl, HS⟩
    refine hK _ _ (.inr HS) ?_
    clear hK K
    refine hold_take 4 (.bool true) rfl (by kernel_rfl) (by kernel_rfl) (by kernel_rfl) (by kernel_rfl) (by kernel_rfl) (fun _ _ _ h => h) (by rfl) (fun _ => rfl) HS (fun w' hS => by go_simp; try rfl) ?_
    simp only [Act.put, List.setIfInBounds_toArray, List.set_cons_zero, List.set_cons_succ]
    refine hold_take 5 (.bool true) rfl (by kernel_rfl) (by kernel_rfl) (by kernel_rfl) (by kernel_rfl) (by kernel_rfl) (fun _ _ _ h => h) (by rfl) (fun _ => rfl) HS (fun w' hS => by go_simp; try rfl) ?_
    simp only [Act.put, List.setIfInBounds_toArray, List.set_cons_zero, List.set_cons_succ]
    refine hold_take 6 _ rfl (by kernel_rfl) (by kernel_rfl) (by kernel_rfl) (by kernel_rfl) (by kernel_rfl) (fun _ _ _ h => h) (by rfl) (fun _ => rfl) HS (fun w' hS => by go_simp; try rfl) ?_
    simp only [Act.put, List.setIfInBounds_toArray, List.set_cons_zero, List.set_cons_succ]
    refine hold_take 7 (.bool false) rfl (by kernel_rfl) (by kernel_rfl) (by kernel_rfl) (by kernel_rfl) (by kernel_rfl) (fun _ _ _ h => h) (by rfl) (fun _ => rfl) HS (fun w' hS => by go_simp; try rfl) ?_
    simp only [Act.put, List.setIfInBounds_toArray, List.set_cons_zero, List.set_cons_succ]
    refine hold_take 8 _ rfl (by kernel_rfl) (by kernel_rfl) (by kernel_rfl) (by kernel_rfl) (by kernel_rfl) (fun _ _ _ h => h) (by rfl) (fun _ => rfl) HS (fun w' hS => by obtain ⟨⟨p0, p1, p2, p3, p4, p5, p6, p7⟩, ⟨q0, q1, q2, q3, q4, q5, q6, q7⟩, ⟨r0, r1, r2, r3, r4, r5, r6, r7⟩, -⟩ := KW.out w' hS; go_simp; try rfl) ?_
    simp only [Act.put, List.setIfInBounds_toArray, List.set_cons_zero, List.set_cons_succ]
    refine hold_take 10 _ rfl (by kernel_rfl) (by kernel_rfl) (by kernel_rfl) (by kernel_rfl) (by kernel_rfl) (fun _ _ _ h => h) (by rfl) (fun _ => rfl) HS (fun w' hS => by obtain ⟨⟨p0, p1, p2, p3, p4, p5, p6, p7⟩, ⟨q0, q1, q2, q3, q4, q5, q6, q7⟩, ⟨r0, r1, r2, r3, r4, r5, r6, r7⟩, -⟩ := KW.out w' hS; go_simp; try rfl) ?_
    simp only [Act.put, List.setIfInBounds_toArray, List.set_cons_zero, List.set_cons_succ]
    refine hold_take 14 _ rfl (by kernel_rfl) (by kernel_rfl) (by kernel_rfl) (by kernel_rfl) (by kernel_rfl) (fun _ _ _ h => h) (by rfl) (fun _ => rfl) HS (fun w' hS => by obtain ⟨⟨p0, p1, p2, p3, p4, p5, p6, p7⟩, ⟨q0, q1, q2, q3, q4, q5, q6, q7⟩, ⟨r0, r1, r2, r3, r4, r5, r6, r7⟩, -⟩ := KW.out w' hS; go_simp; try rfl) ?_
    simp only [Act.put, List.setIfInBounds_toArray, List.set_cons_zero, List.set_cons_succ]
    refine hold_take 15 _ rfl (by kernel_rfl) (by kernel_rfl) (by kernel_rfl) (by kernel_rfl) (by kernel_rfl) (fun _ _ _ h => h) (by rfl) (fun _ => rfl) HS (fun w' hS => by obtain ⟨⟨p0, p1, p2, p3, p4, p5, p6, p7⟩, ⟨q0, q1, q2, q3, q4, q5, q6, q7⟩, ⟨r0, r1, r2, r3, r4, r5, r6, r7⟩, -⟩ := KW.out w' hS; go_simp; try rfl) ?_
    simp only [Act.put, List.setIfInBounds_toArray, List.set_cons_zero, List.set_cons_succ]
    refine hold_take 16 _ rfl (by kernel_rfl) (by kernel_rfl) (by kernel_rfl) (by kernel_rfl) (by kernel_rfl) (fun _ _ _ h => h) (by rfl) (fun _ => rfl) HS (fun w' hS => by go_simp; try rfl) ?_
    simp only [Act.put, List.setIfInBounds_toArray, List.set_cons_zero, List.set_cons_succ]
    refine hold_one 9 (by kernel_rfl) rfl (by rfl) fun K hK => ?_
    go_simp
    refine ⟨trivial, rfl, (callsIn_wide.2 (CKb4.out _ HS)).mono ?_⟩
    clear HS
    rintro e wX ⟨rfl, HS⟩
    refine hK _ _ (.inr HS) ?_
    clear hK K
    refine hold_one 11 (by kernel_rfl) rfl (by rfl) fun K hK => ?_
    go_simp
    refine ⟨trivial, rfl, (callsIn_wide.2 (CKa4.out _ HS)).mono ?_⟩
    clear HS
    rintro e wX ⟨rfl, HS⟩
    refine hK _ _ (.inr HS) ?_
    clear hK K
    refine hold_one 12 (by kernel_rfl) rfl (by rfl) fun K hK => ?_
    go_simp
    refine ⟨trivial, rfl, (callsIn_wide.2 (CLba.out _ HS)).mono ?_⟩
    clear HS
    rintro e wX ⟨rfl, HS⟩
    refine hK _ _ (.inr HS) ?_
    clear hK K
    refine hold_take 13 _ rfl (by kernel_rfl) (by kernel_rfl) (by kernel_rfl) (by kernel_rfl) (by kernel_rfl) (fun _ _ _ h => h) (by rfl) (fun _ => rfl) HS (fun w' hS => by go_simp; try rfl) ?_
    simp only [Act.put, List.setIfInBounds_toArray, List.set_cons_zero, List.set_cons_succ]
    refine hold_take 17 (.bool true) rfl (by kernel_rfl) (by kernel_rfl) (by kernel_rfl) (by kernel_rfl) (by kernel_rfl) (fun _ _ _ h => h) (by rfl) (fun _ => rfl) HS (fun w' hS => by go_simp; try rfl) ?_
    simp only [Act.put, List.setIfInBounds_toArray, List.set_cons_zero, List.set_cons_succ]
    refine hold_take 18 (.bool true) rfl (by kernel_rfl) (by kernel_rfl) (by kernel_rfl) (by kernel_rfl) (by kernel_rfl) (fun _ _ _ h => h) (by rfl) (fun _ => rfl) HS (fun w' hS => by go_simp; try rfl) ?_
    simp only [Act.put, List.setIfInBounds_toArray, List.set_cons_zero, List.set_cons_succ]
    refine hold_take 19 (.bool true) rfl (by kernel_rfl) (by kernel_rfl) (by kernel_rfl) (by kernel_rfl) (by kernel_rfl) (fun _ _ _ h => h) (by rfl) (fun _ => rfl) HS (fun w' hS => by go_simp; try rfl) ?_
    simp only [Act.put, List.setIfInBounds_toArray, List.set_cons_zero, List.set_cons_succ]
    refine hold_take 20 _ rfl (by kernel_rfl) (by kernel_rfl) (by kernel_rfl) (by kernel_rfl) (by kernel_rfl) (fun _ _ _ h => h) (by rfl) (fun _ => rfl) HS (fun w' hS => by go_simp; try rfl) ?_
    simp only [Act.put, List.setIfInBounds_toArray, List.set_cons_zero, List.set_cons_succ]
    refine hold_take 21 (.bool true) rfl (by kernel_rfl) (by kernel_rfl) (by kernel_rfl) (by kernel_rfl) (by kernel_rfl) (fun _ _ _ h => h) (by rfl) (fun _ => rfl) HS (fun w' hS => by go_simp; try rfl) ?_
    simp only [Act.put, List.setIfInBounds_toArray, List.set_cons_zero, List.set_cons_succ]
    refine hold_take 22 (.bool true) rfl (by kernel_rfl) (by kernel_rfl) (by kernel_rfl) (by kernel_rfl) (by kernel_rfl) (fun _ _ _ h => h) (by rfl) (fun _ => rfl) HS (fun w' hS => by go_simp; try rfl) ?_
    simp only [Act.put, List.setIfInBounds_toArray, List.set_cons_zero, List.set_cons_succ]
    refine hold_skip 23 rfl (by kernel_rfl) (by kernel_rfl) (by kernel_rfl) (by kernel_rfl) (by kernel_rfl) (fun _ _ _ h => h) (by rfl) (fun _ => rfl) HS ?_
    simp only [Act.put, List.setIfInBounds_toArray, List.set_cons_zero, List.set_cons_succ]
    refine hold_skip 24 rfl (by kernel_rfl) (by kernel_rfl) (by kernel_rfl) (by kernel_rfl) (by kernel_rfl) (fun _ _ _ h => h) (by rfl) (fun _ => rfl) HS ?_
    simp only [Act.put, List.setIfInBounds_toArray, List.set_cons_zero, List.set_cons_succ]
    refine hold_take 25 (.bool true) rfl (by kernel_rfl) (by kernel_rfl) (by kernel_rfl) (by kernel_rfl) (by kernel_rfl) (fun _ _ _ h => h) (by rfl) (fun _ => rfl) HS (fun w' hS => by go_simp; try rfl) ?_
    simp only [Act.put, List.setIfInBounds_toArray, List.set_cons_zero, List.set_cons_succ]
    refine hold_take 26 (.bool true) rfl (by kernel_rfl) (by kernel_rfl) (by kernel_rfl) (by kernel_rfl) (by kernel_rfl) (fun _ _ _ h => h) (by rfl) (fun _ => rfl) HS (fun w' hS => by go_simp; try rfl) ?_
    simp only [Act.put, List.setIfInBounds_toArray, List.set_cons_zero, List.set_cons_succ]
    refine hold_skip 27 rfl (by kernel_rfl) (by kernel_rfl) (by kernel_rfl) (by kernel_rfl) (by kernel_rfl) (fun _ _ _ h => h) (by rfl) (fun _ => rfl) HS ?_
    simp only [Act.put, List.setIfInBounds_toArray, List.set_cons_zero, List.set_cons_succ]
    refine hold_take 28 (.bool true) rfl (by kernel_rfl) (by kernel_rfl) (by kernel_rfl) (by kernel_rfl) (by kernel_rfl) (fun _ _ _ h => h) (by rfl) (fun _ => rfl) HS (fun w' hS => by go_simp; try rfl) ?_
    simp only [Act.put, List.setIfInBounds_toArray, List.set_cons_zero, List.set_cons_succ]
    refine hold_take 29 (.bool true) rfl (by kernel_rfl) (by kernel_rfl) (by kernel_rfl) (by kernel_rfl) (by kernel_rfl) (fun _ _ _ h => h) (by rfl) (fun _ => rfl) HS (fun w' hS => by go_simp; try rfl) ?_
    simp only [Act.put, List.setIfInBounds_toArray, List.set_cons_zero, List.set_cons_succ]
    refine hold_take 30 (.bool true) rfl (by kernel_rfl) (by kernel_rfl) (by kernel_rfl) (by kernel_rfl) (by kernel_rfl) (fun _ _ _ h => h) (by rfl) (fun _ => rfl) HS (fun w' hS => by go_simp; try rfl) ?_
    simp only [Act.put, List.setIfInBounds_toArray, List.set_cons_zero, List.set_cons_succ]
    refine hold_take 31 _ rfl (by kernel_rfl) (by kernel_rfl) (by kernel_rfl) (by kernel_rfl) (by kernel_rfl) (fun _ _ _ h => h) (by rfl) (fun _ => rfl) HS (fun w' hS => by obtain ⟨⟨p0, p1, p2, p3, p4, p5, p6, p7⟩, ⟨q0, q1, q2, q3, q4, q5, q6, q7⟩, ⟨r0, r1, r2, r3, r4, r5, r6, r7⟩, -⟩ := KW.out w' hS; go_simp; try rfl) ?_
    simp only [Act.put, List.setIfInBounds_toArray, List.set_cons_zero, List.set_cons_succ]
    refine hold_take 33 _ rfl (by kernel_rfl) (by kernel_rfl) (by kernel_rfl) (by kernel_rfl) (by kernel_rfl) (fun _ _ _ h => h) (by rfl) (fun _ => rfl) HS (fun w' hS => by obtain ⟨⟨p0, p1, p2, p3, p4, p5, p6, p7⟩, ⟨q0, q1, q2, q3, q4, q5, q6, q7⟩, ⟨r0, r1, r2, r3, r4, r5, r6, r7⟩, -⟩ := KW.out w' hS; go_simp; try rfl) ?_
    simp only [Act.put, List.setIfInBounds_toArray, List.set_cons_zero, List.set_cons_succ]
    refine hold_one 32 (by kernel_rfl) rfl (by rfl) fun K hK => ?_
    go_simp
    refine ⟨trivial, rfl, (callsIn_wide.2 (CKa4.out _ HS)).mono ?_⟩
    clear HS
    rintro e wX ⟨rfl, HS⟩
    refine hK _ _ (.inr HS) ?_
    clear hK K
    refine hold_one 34 (by kernel_rfl) rfl (by rfl) fun K hK => ?_
    go_simp
    refine ⟨trivial, rfl, (callsIn_wide.2 (CKa4.out _ HS)).mono ?_⟩
    clear HS
    rintro e wX ⟨rfl, HS⟩
    refine hK _ _ (.inr HS) ?_
    clear hK K
    refine hold_one 35 (by kernel_rfl) rfl (by rfl) fun K hK => ?_
    go_simp
    refine ⟨trivial, rfl, (callsIn_wide.2 (CLaa.out _ HS)).mono ?_⟩
    clear HS
    rintro e wX ⟨rfl, HS⟩
    refine hK _ _ (.inr HS) ?_
    clear hK K
    refine hold_take 36 (.bool true) rfl (by kernel_rfl) (by kernel_rfl) (by kernel_rfl) (by kernel_rfl) (by kernel_rfl) (fun _ _ _ h => h) (by rfl) (fun _ => rfl) HS (fun w' hS => by go_simp; try rfl) ?_
    simp only [Act.put, List.setIfInBounds_toArray, List.set_cons_zero, List.set_cons_succ]
    refine hold_take 37 (.bool true) rfl (by kernel_rfl) (by kernel_rfl) (by kernel_rfl) (by kernel_rfl) (by kernel_rfl) (fun _ _ _ h => h) (by rfl) (fun _ => rfl) HS (fun w' hS => by go_simp; try rfl) ?_
    simp only [Act.put, List.setIfInBounds_toArray, List.set_cons_zero, List.set_cons_succ]
    refine hold_take 38 (.bool true) rfl (by kernel_rfl) (by kernel_rfl) (by kernel_rfl) (by kernel_rfl) (by kernel_rfl) (fun _ _ _ h => h) (by rfl) (fun _ => rfl) HS (fun w' hS => by go_simp; try rfl) ?_
    simp only [Act.put, List.setIfInBounds_toArray, List.set_cons_zero, List.set_cons_succ]
    refine held_done (by kernel_rfl) ?_ _
    have HE := cover (HB4.out.trans (HS.mono HSZ4.out))
    clear HS CR CLba CLaa CKa4 CKb4 CKc4 KW
    go_wp2
    go_ret
    exact ⟨rfl, HE.out⟩
  · have hs : sameE a b = false := by
      have := two_apart a b HX.out.symm
      cases h2 : sameE a b
      · rfl
      · rw [h2] at this; cases this
    cases y
    · clear HX HY HZ HV HA HBK
      go_wp2_with fail
      refine (wpIn_wide (n := 0)).1 ?_
      refine held_begin (fun W' : World => Below w4.heap.size w4 W') 99 mixed ?_
      replace HS := below_drewN HS 1
      refine hold_take 0 _ rfl (by kernel_rfl) (by kernel_rfl) (by kernel_rfl) (by kernel_rfl) (by kernel_rfl) (fun _ _ _ h => h) (by rfl) (fun _ => rfl) HS (fun w' hS => by go_simp; try rfl) ?_
      simp only [Act.put, List.setIfInBounds_toArray, List.set_cons_zero, List.set_cons_succ]
      refine hold_take 1 _ rfl (by kernel_rfl) (by kernel_rfl) (by kernel_rfl) (by kernel_rfl) (by kernel_rfl) (fun _ _ _ h => h) (by rfl) (fun _ => rfl) HS (fun w' hS => by obtain ⟨⟨p0, p1, p2, p3, p4, p5, p6, p7⟩, ⟨q0, q1, q2, q3, q4, q5, q6, q7⟩, ⟨r0, r1, r2, r3, r4, r5, r6, r7⟩, -⟩ := KW.out w' hS; go_simp; try rfl) ?_
      simp only [Act.put, List.setIfInBounds_toArray, List.set_cons_zero, List.set_cons_succ]
      refine hold_take 2 _ rfl (by kernel_rfl) (by kernel_rfl) (by kernel_rfl) (by kernel_rfl) (by kernel_rfl) (fun _ _ _ h => h) (by rfl) (fun _ => rfl) HS (fun w' hS => by obtain ⟨⟨p0, p1, p2, p3, p4, p5, p6, p7⟩, ⟨q0, q1, q2, q3, q4, q5, q6, q7⟩, ⟨r0, r1, r2, r3, r4, r5, r6, r7⟩, -⟩ := KW.out w' hS; go_simp; try rfl) ?_
      simp only [Act.put, List.setIfInBounds_toArray, List.set_cons_zero, List.set_cons_succ]
      refine hold_one 3 (by kernel_rfl) rfl (by rfl) fun K hK => ?_
      go_simp
      refine ⟨trivial, rfl, (callsIn_wide.2 (CR.out _ HS)).mono ?_⟩
      clear HS
      rintro e wX ⟨rfl, HS⟩
      refine hK _ _ (.inr HS) ?_
      clear hK K
      refine hold_take 4 (.bool true) rfl (by kernel_rfl) (by kernel_rfl) (by kernel_rfl) (by kernel_rfl) (by kernel_rfl) (fun _ _ _ h => h) (by rfl) (fun _ => rfl) HS (fun w' hS => by go_simp; try rfl) ?_
      simp only [Act.put, List.setIfInBounds_toArray, List.set_cons_zero, List.set_cons_succ]
      refine hold_take 5 (.bool true) rfl (by kernel_rfl) (by kernel_rfl) (by kernel_rfl) (by kernel_rfl) (by kernel_rfl) (fun _ _ _ h => h) (by rfl) (fun _ => rfl) HS (fun w' hS => by go_simp; try rfl) ?_
      simp only [Act.put, List.setIfInBounds_toArray, List.set_cons_zero, List.set_cons_succ]
      refine hold_take 6 _ rfl (by kernel_rfl) (by kernel_rfl) (by kernel_rfl) (by kernel_rfl) (by kernel_rfl) (fun _ _ _ h => h) (by rfl) (fun _ => rfl) HS (fun w' hS => by go_simp; try rfl) ?_
      simp only [Act.put, List.setIfInBounds_toArray, List.set_cons_zero, List.set_cons_succ]
      refine hold_take 7 (.bool true) rfl (by kernel_rfl) (by kernel_rfl) (by kernel_rfl) (by kernel_rfl) (by kernel_rfl) (fun _ _ _ h => h) (by rfl) (fun _ => rfl) HS (fun w' hS => by go_simp; try rfl) ?_
      simp only [Act.put, List.setIfInBounds_toArray, List.set_cons_zero, List.set_cons_succ]
      refine hold_skip 8 rfl (by kernel_rfl) (by kernel_rfl) (by kernel_rfl) (by kernel_rfl) (by kernel_rfl) (fun _ _ _ h => h) (by rfl) (fun _ => rfl) HS ?_
      simp only [Act.put, List.setIfInBounds_toArray, List.set_cons_zero, List.set_cons_succ]
      refine hold_skip 10 rfl (by kernel_rfl) (by kernel_rfl) (by kernel_rfl) (by kernel_rfl) (by kernel_rfl) (fun _ _ _ h => h) (by rfl) (fun _ => rfl) HS ?_
      simp only [Act.put, List.setIfInBounds_toArray, List.set_cons_zero, List.set_cons_succ]
      refine hold_take 14 _ rfl (by kernel_rfl) (by kernel_rfl) (by kernel_rfl) (by kernel_rfl) (by kernel_rfl) (fun _ _ _ h => h) (by rfl) (fun _ => rfl) HS (fun w' hS => by obtain ⟨⟨p0, p1, p2, p3, p4, p5, p6, p7⟩, ⟨q0, q1, q2, q3, q4, q5, q6, q7⟩, ⟨r0, r1, r2, r3, r4, r5, r6, r7⟩, -⟩ := KW.out w' hS; go_simp; try rfl) ?_
      simp only [Act.put, List.setIfInBounds_toArray, List.set_cons_zero, List.set_cons_succ]
      refine hold_take 15 _ rfl (by kernel_rfl) (by kernel_rfl) (by kernel_rfl) (by kernel_rfl) (by kernel_rfl) (fun _ _ _ h => h) (by rfl) (fun _ => rfl) HS (fun w' hS => by obtain ⟨⟨p0, p1, p2, p3, p4, p5, p6, p7⟩, ⟨q0, q1, q2, q3, q4, q5, q6, q7⟩, ⟨r0, r1, r2, r3, r4, r5, r6, r7⟩, -⟩ := KW.out w' hS; go_simp; try rfl) ?_
      simp only [Act.put, List.setIfInBounds_toArray, List.set_cons_zero, List.set_cons_succ]
      refine hold_take 16 _ rfl (by kernel_rfl) (by kernel_rfl) (by kernel_rfl) (by kernel_rfl) (by kernel_rfl) (fun _ _ _ h => h) (by rfl) (fun _ => rfl) HS (fun w' hS => by go_simp; try rfl) ?_
      simp only [Act.put, List.setIfInBounds_toArray, List.set_cons_zero, List.set_cons_succ]
      refine hold_pass 9 (by kernel_rfl) rfl (by rfl) (fun _ _ => trivial) HS ?_
      simp only [Act.put, List.setIfInBounds_toArray, List.set_cons_zero, List.set_cons_succ]
      refine hold_pass 11 (by kernel_rfl) rfl (by rfl) (fun _ _ => trivial) HS ?_
      simp only [Act.put, List.setIfInBounds_toArray, List.set_cons_zero, List.set_cons_succ]
      refine hold_pass 12 (by kernel_rfl) rfl (by rfl) (fun _ _ => trivial) HS ?_
      simp only [Act.put, List.setIfInBounds_toArray, List.set_cons_zero, List.set_cons_succ]
      refine hold_take 13 (.bool true) rfl (by kernel_rfl) (by kernel_rfl) (by kernel_rfl) (by kernel_rfl) (by kernel_rfl) (fun _ _ _ h => h) (by rfl) (fun _ => rfl) HS (fun w' hS => by go_simp; try rfl) ?_
      simp only [Act.put, List.setIfInBounds_toArray, List.set_cons_zero, List.set_cons_succ]
      refine hold_take 17 (.bool true) rfl (by kernel_rfl) (by kernel_rfl) (by kernel_rfl) (by kernel_rfl) (by kernel_rfl) (fun _ _ _ h => h) (by rfl) (fun _ => rfl) HS (fun w' hS => by go_simp; try rfl) ?_
      simp only [Act.put, List.setIfInBounds_toArray, List.set_cons_zero, List.set_cons_succ]
      refine hold_take 18 (.bool true) rfl (by kernel_rfl) (by kernel_rfl) (by kernel_rfl) (by kernel_rfl) (by kernel_rfl) (fun _ _ _ h => h) (by rfl) (fun _ => rfl) HS (fun w' hS => by go_simp; try rfl) ?_
      simp only [Act.put, List.setIfInBounds_toArray, List.set_cons_zero, List.set_cons_succ]
      refine hold_take 19 (.bool true) rfl (by kernel_rfl) (by kernel_rfl) (by kernel_rfl) (by kernel_rfl) (by kernel_rfl) (fun _ _ _ h => h) (by rfl) (fun _ => rfl) HS (fun w' hS => by go_simp; try rfl) ?_
      simp only [Act.put, List.setIfInBounds_toArray, List.set_cons_zero, List.set_cons_succ]
      refine hold_take 20 _ rfl (by kernel_rfl) (by kernel_rfl) (by kernel_rfl) (by kernel_rfl) (by kernel_rfl) (fun _ _ _ h => h) (by rfl) (fun _ => rfl) HS (fun w' hS => by go_simp; try rfl) ?_
      simp only [Act.put, List.setIfInBounds_toArray, List.set_cons_zero, List.set_cons_succ]
      refine hold_take 21 (.bool false) rfl (by kernel_rfl) (by kernel_rfl) (by kernel_rfl) (by kernel_rfl) (by kernel_rfl) (fun _ _ _ h => h) (by rfl) (fun _ => rfl) HS (fun w' hS => by go_simp; try rfl) ?_
      simp only [Act.put, List.setIfInBounds_toArray, List.set_cons_zero, List.set_cons_succ]
      refine hold_take 22 (.bool false) rfl (by kernel_rfl) (by kernel_rfl) (by kernel_rfl) (by kernel_rfl) (by kernel_rfl) (fun _ _ _ h => h) (by rfl) (fun _ => rfl) HS (fun w' hS => by go_simp; try rfl) ?_
      simp only [Act.put, List.setIfInBounds_toArray, List.set_cons_zero, List.set_cons_succ]
      refine hold_take 23 _ rfl (by kernel_rfl) (by kernel_rfl) (by kernel_rfl) (by kernel_rfl) (by kernel_rfl) (fun _ _ _ h => h) (by rfl) (fun _ => rfl) HS (fun w' hS => by go_simp; try rfl) ?_
      simp only [Act.put, List.setIfInBounds_toArray, List.set_cons_zero, List.set_cons_succ]
      refine hold_take 24 (.bool true) rfl (by kernel_rfl) (by kernel_rfl) (by kernel_rfl) (by kernel_rfl) (by kernel_rfl) (fun _ _ _ h => h) (by rfl) (fun _ => rfl) HS (fun w' hS => by go_simp; try rfl) ?_
      simp only [Act.put, List.setIfInBounds_toArray, List.set_cons_zero, List.set_cons_succ]
      refine hold_take 25 (.bool true) rfl (by kernel_rfl) (by kernel_rfl) (by kernel_rfl) (by kernel_rfl) (by kernel_rfl) (fun _ _ _ h => h) (by rfl) (fun _ => rfl) HS (fun w' hS => by go_simp; try rfl) ?_
      simp only [Act.put, List.setIfInBounds_toArray, List.set_cons_zero, List.set_cons_succ]
      refine hold_take 26 (.bool true) rfl (by kernel_rfl) (by kernel_rfl) (by kernel_rfl) (by kernel_rfl) (by kernel_rfl) (fun _ _ _ h => h) (by rfl) (fun _ => rfl) HS (fun w' hS => by go_simp; try rfl) ?_
      simp only [Act.put, List.setIfInBounds_toArray, List.set_cons_zero, List.set_cons_succ]
      refine hold_skip 27 rfl (by kernel_rfl) (by kernel_rfl) (by kernel_rfl) (by kernel_rfl) (by kernel_rfl) (fun _ _ _ h => h) (by rfl) (fun _ => rfl) HS ?_
      simp only [Act.put, List.setIfInBounds_toArray, List.set_cons_zero, List.set_cons_succ]
      refine hold_take 28 (.bool true) rfl (by kernel_rfl) (by kernel_rfl) (by kernel_rfl) (by kernel_rfl) (by kernel_rfl) (fun _ _ _ h => h) (by rfl) (fun _ => rfl) HS (fun w' hS => by go_simp; try rfl) ?_
      simp only [Act.put, List.setIfInBounds_toArray, List.set_cons_zero, List.set_cons_succ]
      refine hold_take 29 (.bool true) rfl (by kernel_rfl) (by kernel_rfl) (by kernel_rfl) (by kernel_rfl) (by kernel_rfl) (fun _ _ _ h => h) (by rfl) (fun _ => rfl) HS (fun w' hS => by go_simp; try rfl) ?_
      simp only [Act.put, List.setIfInBounds_toArray, List.set_cons_zero, List.set_cons_succ]
      refine hold_take 30 (.bool true) rfl (by kernel_rfl) (by kernel_rfl) (by kernel_rfl) (by kernel_rfl) (by kernel_rfl) (fun _ _ _ h => h) (by rfl) (fun _ => rfl) HS (fun w' hS => by go_simp; try rfl) ?_
      simp only [Act.put, List.setIfInBounds_toArray, List.set_cons_zero, List.set_cons_succ]
      refine hold_take 31 _ rfl (by kernel_rfl) (by kernel_rfl) (by kernel_rfl) (by kernel_rfl) (by kernel_rfl) (fun _ _ _ h => h) (by rfl) (fun _ => rfl) HS (fun w' hS => by obtain ⟨⟨p0, p1, p2, p3, p4, p5, p6, p7⟩, ⟨q0, q1, q2, q3, q4, q5, q6, q7⟩, ⟨r0, r1, r2, r3, r4, r5, r6, r7⟩, -⟩ := KW.out w' hS; go_simp; try rfl) ?_
      simp only [Act.put, List.setIfInBounds_toArray, List.set_cons_zero, List.set_cons_succ]
      refine hold_take 33 _ rfl (by kernel_rfl) (by kernel_rfl) (by kernel_rfl) (by kernel_rfl) (by kernel_rfl) (fun _ _ _ h => h) (by rfl) (fun _ => rfl) HS (fun w' hS => by obtain ⟨⟨p0, p1, p2, p3, p4, p5, p6, p7⟩, ⟨q0, q1, q2, q3, q4, q5, q6, q7⟩, ⟨r0, r1, r2, r3, r4, r5, r6, r7⟩, -⟩ := KW.out w' hS; go_simp; try rfl) ?_
      simp only [Act.put, List.setIfInBounds_toArray, List.set_cons_zero, List.set_cons_succ]
      refine hold_one 32 (by kernel_rfl) rfl (by rfl) fun K hK => ?_
      go_simp
      refine ⟨trivial, rfl, (callsIn_wide.2 (CKa4.out _ HS)).mono ?_⟩
      clear HS
      rintro e wX ⟨rfl, HS⟩
      refine hK _ _ (.inr HS) ?_
      clear hK K
      refine hold_one 34 (by kernel_rfl) rfl (by rfl) fun K hK => ?_
      go_simp
      refine ⟨trivial, rfl, (callsIn_wide.2 (CKa4.out _ HS)).mono ?_⟩
      clear HS
      rintro e wX ⟨rfl, HS⟩
      refine hK _ _ (.inr HS) ?_
      clear hK K
      refine hold_one 35 (by kernel_rfl) rfl (by rfl) fun K hK => ?_
      go_simp
      refine ⟨trivial, rfl, (callsIn_wide.2 (CLaa.out _ HS)).mono ?_⟩
      clear HS
      rintro e wX ⟨rfl, HS⟩
      refine hK _ _ (.inr HS) ?_
      clear hK K
      refine hold_take 36 (.bool true) rfl (by kernel_rfl) (by kernel_rfl) (by kernel_rfl) (by kernel_rfl) (by kernel_rfl) (fun _ _ _ h => h) (by rfl) (fun _ => rfl) HS (fun w' hS => by go_simp; try rfl) ?_
      simp only [Act.put, List.setIfInBounds_toArray, List.set_cons_zero, List.set_cons_succ]
      refine hold_take 37 (.bool true) rfl (by kernel_rfl) (by kernel_rfl) (by kernel_rfl) (by kernel_rfl) (by kernel_rfl) (fun _ _ _ h => h) (by rfl) (fun _ => rfl) HS (fun w' hS => by go_simp; try rfl) ?_
      simp only [Act.put, List.setIfInBounds_toArray, List.set_cons_zero, List.set_cons_succ]
      refine hold_take 38 (.bool true) rfl (by kernel_rfl) (by kernel_rfl) (by kernel_rfl) (by kernel_rfl) (by kernel_rfl) (fun _ _ _ h => h) (by rfl) (fun _ => rfl) HS (fun w' hS => by go_simp; try rfl) ?_
      simp only [Act.put, List.setIfInBounds_toArray, List.set_cons_zero, List.set_cons_succ]
      refine held_done (by kernel_rfl) ?_ _
      have HE := cover (HB4.out.trans (HS.mono HSZ4.out))
      clear HS CR CLba CLaa CKa4 CKb4 CKc4 KW
      go_wp2
      go_ret
      exact ⟨rfl, HE.out⟩
    · have hz : z = true := by rw [HZ.out]; exact ltE_ord.trans a b c HX.out.symm HY.out.symm
      subst hz
      clear HX HY HZ HV HA HBK
      go_wp2_with fail
      refine (wpIn_wide (n := 0)).1 ?_
      refine held_begin (fun W' : World => Below w4.heap.size w4 W') 99 mixed ?_
      replace HS := below_drewN HS 1
      refine hold_take 0 _ rfl (by kernel_rfl) (by kernel_rfl) (by kernel_rfl) (by kernel_rfl) (by kernel_rfl) (fun _ _ _ h => h) (by rfl) (fun _ => rfl) HS (fun w' hS => by go_simp; try rfl) ?_
      simp only [Act.put, List.setIfInBounds_toArray, List.set_cons_zero, List.set_cons_succ]
      refine hold_take 1 _ rfl (by kernel_rfl) (by kernel_rfl) (by kernel_rfl) (by kernel_rfl) (by kernel_rfl) (fun _ _ _ h => h) (by rfl) (fun _ => rfl) HS (fun w' hS => by obtain ⟨⟨p0, p1, p2, p3, p4, p5, p6, p7⟩, ⟨q0, q1, q2, q3, q4, q5, q6, q7⟩, ⟨r0, r1, r2, r3, r4, r5, r6, r7⟩, -⟩ := KW.out w' hS; go_simp; try rfl) ?_
      simp only [Act.put, List.setIfInBounds_toArray, List.set_cons_zero, List.set_cons_succ]
      refine hold_take 2 _ rfl (by kernel_rfl) (by kernel_rfl) (by kernel_rfl) (by kernel_rfl) (by kernel_rfl) (fun _ _ _ h => h) (by rfl) (fun _ => rfl) HS (fun w' hS => by obtain ⟨⟨p0, p1, p2, p3, p4, p5, p6, p7⟩, ⟨q0, q1, q2, q3, q4, q5, q6, q7⟩, ⟨r0, r1, r2, r3, r4, r5, r6, r7⟩, -⟩ := KW.out w' hS; go_simp; try rfl) ?_
      simp only [Act.put, List.setIfInBounds_toArray, List.set_cons_zero, List.set_cons_succ]
      refine hold_one 3 (by kernel_rfl) rfl (by rfl) fun K hK => ?_
      go_simp
      refine ⟨trivial, rfl, (callsIn_wide.2 (CR.out _ HS)).mono ?_⟩
      clear HS
      rintro e wX ⟨rfl, HS⟩
      refine hK _ _ (.inr HS) ?_
      clear hK K
      refine hold_take 4 (.bool true) rfl (by kernel_rfl) (by kernel_rfl) (by kernel_rfl) (by kernel_rfl) (by kernel_rfl) (fun _ _ _ h => h) (by rfl) (fun _ => rfl) HS (fun w' hS => by go_simp; try rfl) ?_
      simp only [Act.put, List.setIfInBounds_toArray, List.set_cons_zero, List.set_cons_succ]
      refine hold_take 5 (.bool true) rfl (by kernel_rfl) (by kernel_rfl) (by kernel_rfl) (by kernel_rfl) (by kernel_rfl) (fun _ _ _ h => h) (by rfl) (fun _ => rfl) HS (fun w' hS => by go_simp; try rfl) ?_
      simp only [Act.put, List.setIfInBounds_toArray, List.set_cons_zero, List.set_cons_succ]
      refine hold_take 6 _ rfl (by kernel_rfl) (by kernel_rfl) (by kernel_rfl) (by kernel_rfl) (by kernel_rfl) (fun _ _ _ h => h) (by rfl) (fun _ => rfl) HS (fun w' hS => by go_simp; try rfl) ?_
      simp only [Act.put, List.setIfInBounds_toArray, List.set_cons_zero, List.set_cons_succ]
      refine hold_take 7 (.bool true) rfl (by kernel_rfl) (by kernel_rfl) (by kernel_rfl) (by kernel_rfl) (by kernel_rfl) (fun _ _ _ h => h) (by rfl) (fun _ => rfl) HS (fun w' hS => by go_simp; try rfl) ?_
      simp only [Act.put, List.setIfInBounds_toArray, List.set_cons_zero, List.set_cons_succ]
      refine hold_skip 8 rfl (by kernel_rfl) (by kernel_rfl) (by kernel_rfl) (by kernel_rfl) (by kernel_rfl) (fun _ _ _ h => h) (by rfl) (fun _ => rfl) HS ?_
      simp only [Act.put, List.setIfInBounds_toArray, List.set_cons_zero, List.set_cons_succ]
      refine hold_skip 10 rfl (by kernel_rfl) (by kernel_rfl) (by kernel_rfl) (by kernel_rfl) (by kernel_rfl) (fun _ _ _ h => h) (by rfl) (fun _ => rfl) HS ?_
      simp only [Act.put, List.setIfInBounds_toArray, List.set_cons_zero, List.set_cons_succ]
      refine hold_take 14 _ rfl (by kernel_rfl) (by kernel_rfl) (by kernel_rfl) (by kernel_rfl) (by kernel_rfl) (fun _ _ _ h => h) (by rfl) (fun _ => rfl) HS (fun w' hS => by obtain ⟨⟨p0, p1, p2, p3, p4, p5, p6, p7⟩, ⟨q0, q1, q2, q3, q4, q5, q6, q7⟩, ⟨r0, r1, r2, r3, r4, r5, r6, r7⟩, -⟩ := KW.out w' hS; go_simp; try rfl) ?_
      simp only [Act.put, List.setIfInBounds_toArray, List.set_cons_zero, List.set_cons_succ]
      refine hold_take 15 _ rfl (by kernel_rfl) (by kernel_rfl) (by kernel_rfl) (by kernel_rfl) (by kernel_rfl) (fun _ _ _ h => h) (by rfl) (fun _ => rfl) HS (fun w' hS => by obtain ⟨⟨p0, p1, p2, p3, p4, p5, p6, p7⟩, ⟨q0, q1, q2, q3, q4, q5, q6, q7⟩, ⟨r0, r1, r2, r3, r4, r5, r6, r7⟩, -⟩ := KW.out w' hS; go_simp; try rfl) ?_
      simp only [Act.put, List.setIfInBounds_toArray, List.set_cons_zero, List.set_cons_succ]
      refine hold_take 16 _ rfl (by kernel_rfl) (by kernel_rfl) (by kernel_rfl) (by kernel_rfl) (by kernel_rfl) (fun _ _ _ h => h) (by rfl) (fun _ => rfl) HS (fun w' hS => by go_simp; try rfl) ?_
      simp only [Act.put, List.setIfInBounds_toArray, List.set_cons_zero, List.set_cons_succ]
      refine hold_pass 9 (by kernel_rfl) rfl (by rfl) (fun _ _ => trivial) HS ?_
      simp only [Act.put, List.setIfInBounds_toArray, List.set_cons_zero, List.set_cons_succ]
      refine hold_pass 11 (by kernel_rfl) rfl (by rfl) (fun _ _ => trivial) HS ?_
      simp only [Act.put, List.setIfInBounds_toArray, List.set_cons_zero, List.set_cons_succ]
      refine hold_pass 12 (by kernel_rfl) rfl (by rfl) (fun _ _ => trivial) HS ?_
      simp only [Act.put, List.setIfInBounds_toArray, List.set_cons_zero, List.set_cons_succ]
      refine hold_take 13 (.bool true) rfl (by kernel_rfl) (by kernel_rfl) (by kernel_rfl) (by kernel_rfl) (by kernel_rfl) (fun _ _ _ h => h) (by rfl) (fun _ => rfl) HS (fun w' hS => by go_simp; try rfl) ?_
      simp only [Act.put, List.setIfInBounds_toArray, List.set_cons_zero, List.set_cons_succ]
      refine hold_take 17 (.bool true) rfl (by kernel_rfl) (by kernel_rfl) (by kernel_rfl) (by kernel_rfl) (by kernel_rfl) (fun _ _ _ h => h) (by rfl) (fun _ => rfl) HS (fun w' hS => by go_simp; try rfl) ?_
      simp only [Act.put, List.setIfInBounds_toArray, List.set_cons_zero, List.set_cons_succ]
      refine hold_take 18 (.bool true) rfl (by kernel_rfl) (by kernel_rfl) (by kernel_rfl) (by kernel_rfl) (by kernel_rfl) (fun _ _ _ h => h) (by rfl) (fun _ => rfl) HS (fun w' hS => by go_simp; try rfl) ?_
      simp only [Act.put, List.setIfInBounds_toArray, List.set_cons_zero, List.set_cons_succ]
      refine hold_take 19 (.bool true) rfl (by kernel_rfl) (by kernel_rfl) (by kernel_rfl) (by kernel_rfl) (by kernel_rfl) (fun _ _ _ h => h) (by rfl) (fun _ => rfl) HS (fun w' hS => by go_simp; try rfl) ?_
      simp only [Act.put, List.setIfInBounds_toArray, List.set_cons_zero, List.set_cons_succ]
      refine hold_take 20 _ rfl (by kernel_rfl) (by kernel_rfl) (by kernel_rfl) (by kernel_rfl) (by kernel_rfl) (fun _ _ _ h => h) (by rfl) (fun _ => rfl) HS (fun w' hS => by go_simp; try rfl) ?_
      simp only [Act.put, List.setIfInBounds_toArray, List.set_cons_zero, List.set_cons_succ]
      refine hold_take 21 (.bool false) rfl (by kernel_rfl) (by kernel_rfl) (by kernel_rfl) (by kernel_rfl) (by kernel_rfl) (fun _ _ _ h => h) (by rfl) (fun _ => rfl) HS (fun w' hS => by go_simp; try rfl) ?_
      simp only [Act.put, List.setIfInBounds_toArray, List.set_cons_zero, List.set_cons_succ]
      refine hold_take 22 (.bool false) rfl (by kernel_rfl) (by kernel_rfl) (by kernel_rfl) (by kernel_rfl) (by kernel_rfl) (fun _ _ _ h => h) (by rfl) (fun _ => rfl) HS (fun w' hS => by go_simp; try rfl) ?_
      simp only [Act.put, List.setIfInBounds_toArray, List.set_cons_zero, List.set_cons_succ]
      refine hold_take 23 _ rfl (by kernel_rfl) (by kernel_rfl) (by kernel_rfl) (by kernel_rfl) (by kernel_rfl) (fun _ _ _ h => h) (by rfl) (fun _ => rfl) HS (fun w' hS => by go_simp; try rfl) ?_
      simp only [Act.put, List.setIfInBounds_toArray, List.set_cons_zero, List.set_cons_succ]
      refine hold_take 24 (.bool false) rfl (by kernel_rfl) (by kernel_rfl) (by kernel_rfl) (by kernel_rfl) (by kernel_rfl) (fun _ _ _ h => h) (by rfl) (fun _ => rfl) HS (fun w' hS => by go_simp; try rfl) ?_
      simp only [Act.put, List.setIfInBounds_toArray, List.set_cons_zero, List.set_cons_succ]
      refine hold_take 25 (.bool false) rfl (by kernel_rfl) (by kernel_rfl) (by kernel_rfl) (by kernel_rfl) (by kernel_rfl) (fun _ _ _ h => h) (by rfl) (fun _ => rfl) HS (fun w' hS => by go_simp; try rfl) ?_
      simp only [Act.put, List.setIfInBounds_toArray, List.set_cons_zero, List.set_cons_succ]
      refine hold_take 26 (.bool false) rfl (by kernel_rfl) (by kernel_rfl) (by kernel_rfl) (by kernel_rfl) (by kernel_rfl) (fun _ _ _ h => h) (by rfl) (fun _ => rfl) HS (fun w' hS => by go_simp; try rfl) ?_
      simp only [Act.put, List.setIfInBounds_toArray, List.set_cons_zero, List.set_cons_succ]
      refine hold_take 27 _ rfl (by kernel_rfl) (by kernel_rfl) (by kernel_rfl) (by kernel_rfl) (by kernel_rfl) (fun _ _ _ h => h) (by rfl) (fun _ => rfl) HS (fun w' hS => by go_simp; try rfl) ?_
      simp only [Act.put, List.setIfInBounds_toArray, List.set_cons_zero, List.set_cons_succ]
      refine hold_take 28 (.bool true) rfl (by kernel_rfl) (by kernel_rfl) (by kernel_rfl) (by kernel_rfl) (by kernel_rfl) (fun _ _ _ h => h) (by rfl) (fun _ => rfl) HS (fun w' hS => by go_simp; try rfl) ?_
      simp only [Act.put, List.setIfInBounds_toArray, List.set_cons_zero, List.set_cons_succ]
      refine hold_take 29 (.bool true) rfl (by kernel_rfl) (by kernel_rfl) (by kernel_rfl) (by kernel_rfl) (by kernel_rfl) (fun _ _ _ h => h) (by rfl) (fun _ => rfl) HS (fun w' hS => by go_simp; try rfl) ?_
      simp only [Act.put, List.setIfInBounds_toArray, List.set_cons_zero, List.set_cons_succ]
      refine hold_take 30 (.bool true) rfl (by kernel_rfl) (by kernel_rfl) (by kernel_rfl) (by kernel_rfl) (by kernel_rfl) (fun _ _ _ h => h) (by rfl) (fun _ => rfl) HS (fun w' hS => by go_simp; try rfl) ?_
      simp only [Act.put, List.setIfInBounds_toArray, List.set_cons_zero, List.set_cons_succ]
      refine hold_take 31 _ rfl (by kernel_rfl) (by kernel_rfl) (by kernel_rfl) (by kernel_rfl) (by kernel_rfl) (fun _ _ _ h => h) (by rfl) (fun _ => rfl) HS (fun w' hS => by obtain ⟨⟨p0, p1, p2, p3, p4, p5, p6, p7⟩, ⟨q0, q1, q2, q3, q4, q5, q6, q7⟩, ⟨r0, r1, r2, r3, r4, r5, r6, r7⟩, -⟩ := KW.out w' hS; go_simp; try rfl) ?_
      simp only [Act.put, List.setIfInBounds_toArray, List.set_cons_zero, List.set_cons_succ]
      refine hold_take 33 _ rfl (by kernel_rfl) (by kernel_rfl) (by kernel_rfl) (by kernel_rfl) (by kernel_rfl) (fun _ _ _ h => h) (by rfl) (fun _ => rfl) HS (fun w' hS => by obtain ⟨⟨p0, p1, p2, p3, p4, p5, p6, p7⟩, ⟨q0, q1, q2, q3, q4, q5, q6, q7⟩, ⟨r0, r1, r2, r3, r4, r5, r6, r7⟩, -⟩ := KW.out w' hS; go_simp; try rfl) ?_
      simp only [Act.put, List.setIfInBounds_toArray, List.set_cons_zero, List.set_cons_succ]
      refine hold_one 32 (by kernel_rfl) rfl (by rfl) fun K hK => ?_
      go_simp
      refine ⟨trivial, rfl, (callsIn_wide.2 (CKa4.out _ HS)).mono ?_⟩
      clear HS
      rintro e wX ⟨rfl, HS⟩
      refine hK _ _ (.inr HS) ?_
      clear hK K
      refine hold_one 34 (by kernel_rfl) rfl (by rfl) fun K hK => ?_
      go_simp
      refine ⟨trivial, rfl, (callsIn_wide.2 (CKa4.out _ HS)).mono ?_⟩
      clear HS
      rintro e wX ⟨rfl, HS⟩
      refine hK _ _ (.inr HS) ?_
      clear hK K
      refine hold_one 35 (by kernel_rfl) rfl (by rfl) fun K hK => ?_
      go_simp
      refine ⟨trivial, rfl, (callsIn_wide.2 (CLaa.out _ HS)).mono ?_⟩
      clear HS
      rintro e wX ⟨rfl, HS⟩
      refine hK _ _ (.inr HS) ?_
      clear hK K
      refine hold_take 36 (.bool true) rfl (by kernel_rfl) (by kernel_rfl) (by kernel_rfl) (by kernel_rfl) (by kernel_rfl) (fun _ _ _ h => h) (by rfl) (fun _ => rfl) HS (fun w' hS => by go_simp; try rfl) ?_
      simp only [Act.put, List.setIfInBounds_toArray, List.set_cons_zero, List.set_cons_succ]
      refine hold_take 37 (.bool true) rfl (by kernel_rfl) (by kernel_rfl) (by kernel_rfl) (by kernel_rfl) (by kernel_rfl) (fun _ _ _ h => h) (by rfl) (fun _ => rfl) HS (fun w' hS => by go_simp; try rfl) ?_
      simp only [Act.put, List.setIfInBounds_toArray, List.set_cons_zero, List.set_cons_succ]
      refine hold_take 38 (.bool true) rfl (by kernel_rfl) (by kernel_rfl) (by kernel_rfl) (by kernel_rfl) (by kernel_rfl) (fun _ _ _ h => h) (by rfl) (fun _ => rfl) HS (fun w' hS => by go_simp; try rfl) ?_
      simp only [Act.put, List.setIfInBounds_toArray, List.set_cons_zero, List.set_cons_succ]
      refine held_done (by kernel_rfl) ?_ _
      have HE := cover (HB4.out.trans (HS.mono HSZ4.out))
      clear HS CR CLba CLaa CKa4 CKb4 CKc4 KW
      go_wp2
      go_ret
      exact ⟨rfl, HE.out⟩

end Go.Proofs.Ytjkgiepfglimcaa
