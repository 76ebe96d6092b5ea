/- The walk of GridSteps. Written by gen/gengsteps.py. -/
import Derived.Deep.CutBlock
import Derived.Deep.DeepCutAuto
import Derived.Test.YtlffhnplcgmhlaaFHeld
import Derived.Test.YtlffhnplcgmhlaaJSame
import Derived.Test.YtlffhnplcgmhlaaOFrame
namespace Go.Proofs.Ytlffhnplcgmhlaa
open Go.RowKit
set_option linter.unusedVariables false
set_option linter.unusedSimpArgs false

/-- all rows lie in memory -/
structure GridAt (b : Nat) (w0 w : World) (g : Nat) (gs : List Nat) : Prop where
  bel : Below b w0 w
  le : b ≤ w.heap.size
  len : gs.length = 14
  hd : w.heap[g]? = some (.cells (gs.map fun g => (.slice (some ⟨g, 0, none⟩) 34 34 : Value)).toArray 29 (0, 0))
  tab : ∀ i (h : i < gs.length), TabAt w b gs[i] (tabP (i : Int))
theorem GridAt.below {b : Nat} {w0 w w' : World} {g : Nat} {gs : List Nat} (h : GridAt b w0 w g gs) (hb : Below w.heap.size w w') : GridAt b w0 w' g gs :=
  ⟨h.bel.trans (hb.mono h.le), Nat.le_trans h.le hb.size, h.len, (hb.block g (block_lt h.hd)).trans h.hd, fun i hi => (h.tab i hi).below hb⟩
theorem GridAt.cell {b : Nat} {w0 w : World} {g : Nat} {gs : List Nat} (h : GridAt b w0 w g gs) {j : Nat} (hj : j < 14) : ∃ gt, w.cell? ⟨g, j, none⟩ = some (.slice (some ⟨gt, 0, none⟩) 34 34) ∧ TabAt w b gt (tabP (j : Int)) := by
  have hl := h.len
  refine ⟨gs[j]'(by omega), ?_, h.tab j (by omega)⟩
  rw [cell_of_row w g j _ _ _ h.hd]
  simp [List.getElem?_eq_getElem (show j < gs.length by omega)]
/-- the document's row in the variable v -/
structure WantAt (b : Nat) (w0 w : World) (g : Nat) (gs : List Nat) (v : Nat) (A : Option Addr) (m : Nat) (n : Int) (k : Bool) (l : List Int) : Prop where
  all : GridAt b w0 w g gs
  hd : w.heap[v]? = some (.cells (rowC A m n k) 30 (0, 0))
  row : RowK .i64 w w.heap.size A m l
theorem WantAt.below {b : Nat} {w0 w w' : World} {g : Nat} {gs : List Nat} {v : Nat} {A : Option Addr} {m : Nat} {n : Int} {k : Bool} {l : List Int} (h : WantAt b w0 w g gs v A m n k l) (hb : Below w.heap.size w w') : WantAt b w0 w' g gs v A m n k l :=
  ⟨h.all.below hb, (hb.block v (block_lt h.hd)).trans h.hd, (h.row.below hb).more hb.size⟩
theorem WantAt.cells {b : Nat} {w0 w : World} {g : Nat} {gs : List Nat} {v : Nat} {A : Option Addr} {m : Nat} {n : Int} {k : Bool} {l : List Int} (h : WantAt b w0 w g gs v A m n k l) : w.cell? ⟨v, 0, none⟩ = some (.slice A m m) ∧ w.cell? ⟨v, 1, none⟩ = some (.int .i64 n) ∧ w.cell? ⟨v, 2, none⟩ = some (.bool k) := rowC_cells h.hd
/-- the document's row in a variable, and the same one of all rows -/
structure BothAt (b : Nat) (w0 w : World) (g : Nat) (gs : List Nat) (v : Nat) (A : Option Addr) (m : Nat) (n : Int) (k : Bool) (l : List Int) (j i gt : Nat) (A2 : Option Addr) : Prop where
  want : WantAt b w0 w g gs v A m n k l
  r : w.cell? ⟨g, j, none⟩ = some (.slice (some ⟨gt, 0, none⟩) 34 34)
  r0 : w.cell? ⟨gt, i * 3, none⟩ = some (.slice A2 m m)
  r1 : w.cell? ⟨gt, i * 3 + 1, none⟩ = some (.int .i64 n)
  r2 : w.cell? ⟨gt, i * 3 + 2, none⟩ = some (.bool k)
  row2 : RowK .i64 w w.heap.size A2 m l
theorem BothAt.below {b : Nat} {w0 w w' : World} {g : Nat} {gs : List Nat} {v : Nat} {A : Option Addr} {m : Nat} {n : Int} {k : Bool} {l : List Int} {j i gt : Nat} {A2 : Option Addr} (h : BothAt b w0 w g gs v A m n k l j i gt A2) (hb : Below w.heap.size w w') : BothAt b w0 w' g gs v A m n k l j i gt A2 :=
  ⟨h.want.below hb, (hb.cell (cell_in h.r)).trans h.r, (hb.cell (cell_in h.r0)).trans h.r0, (hb.cell (cell_in h.r1)).trans h.r1, (hb.cell (cell_in h.r2)).trans h.r2, (h.row2.below hb).more hb.size⟩
theorem BothAt.cells {b : Nat} {w0 w : World} {g : Nat} {gs : List Nat} {v : Nat} {A : Option Addr} {m : Nat} {n : Int} {k : Bool} {l : List Int} {j i gt : Nat} {A2 : Option Addr} (h : BothAt b w0 w g gs v A m n k l j i gt A2) :
    w.cell? ⟨v, 0, none⟩ = some (.slice A m m) ∧ w.cell? ⟨v, 1, none⟩ = some (.int .i64 n) ∧ w.cell? ⟨v, 2, none⟩ = some (.bool k) ∧ w.cell? ⟨g, j, none⟩ = some (.slice (some ⟨gt, 0, none⟩) 34 34) ∧ w.cell? ⟨gt, i * 3, none⟩ = some (.slice A2 m m) ∧ w.cell? ⟨gt, i * 3 + 1, none⟩ = some (.int .i64 n) ∧ w.cell? ⟨gt, i * 3 + 2, none⟩ = some (.bool k) :=
  ⟨h.want.cells.1, h.want.cells.2.1, h.want.cells.2.2, h.r, h.r0, h.r1, h.r2⟩
theorem step_m {s e : Int} {l : List Int} {n : Int} {k : Bool} {m : Nat} (hx : stepG s e = (l, n, k)) (hm : l.length = m) (w : World) : Calls Try.prog 11 #[.int .i64 s, .int .i64 e] w fun en w' => ∃ A, en = .returned (.agg (rowC A m n k)) ∧ Hid (RowK .i64 w' w'.heap.size A m l) ∧ Below w.heap.size w w' := by
  refine (step_at hx w).mono ?_
  rintro en w' ⟨A, m', rfl, H⟩
  obtain ⟨h1, h2⟩ := H.out.1.out
  obtain rfl : m' = m := by omega
  exact ⟨A, rfl, cover h2, H.out.2⟩
theorem refStep_m {s e : Int} {l : List Int} {n : Int} {k : Bool} {m : Nat} (hx : stepG s e = (l, n, k)) (hm : l.length = m) (w : World) : Calls Try.prog 13 #[.int .i64 s, .int .i64 e] w fun en w' => ∃ A, en = .returned (.agg (rowC A m n k)) ∧ Hid (RowK .i64 w' w'.heap.size A m l) ∧ Below w.heap.size w w' := by
  have h := refStep_any s e w
  rw [hx] at h
  refine h.mono ?_
  rintro en w' ⟨A, m', rfl, H⟩
  obtain ⟨h1, h2⟩ := H.out.1.out
  replace h1 : m' = l.length := h1
  obtain rfl : m' = m := by omega
  exact ⟨A, rfl, cover h2, H.out.2⟩
set_option maxRecDepth 100000 in
set_option maxHeartbeats 1600000 in
theorem go_GridSteps (s0 e0 : Int) (w : World) : Calls Try.prog 4 #[.int .i64 s0, .int .i64 e0] w fun e w' => e = .returned (.bool true) ∧ Below w.heap.size w w' := by
  have mixed : Try.prog.follows .mixedOrders = true := by kernel_rfl
  have c0 := awake_any w
  go_enter Try.func4, Try.ntmps4
  go_wp2_with fail
  refine c0.mono ?_
  rintro en w1 ⟨rfl, hb1⟩
  have HB1 : Hid (Below w.heap.size w w1 ∧ w.heap.size ≤ w1.heap.size) := cover ⟨hb1, hb1.size⟩
  have c1 := cover (rows_any w1)
  clear hb1 c0
  go_wp2_with fail
  refine c1.out.mono ?_
  rintro en w2 ⟨g, rfl, H2'⟩
  have H2 : Hid (∃ gs, GridAt w.heap.size w w2 g gs) := cover (by
    obtain ⟨⟨gs, hl, hh, ht⟩, hb⟩ := H2'.out
    exact ⟨gs, HB1.out.1.trans (hb.mono HB1.out.2), Nat.le_trans HB1.out.2 hb.size, hl, hh, fun i hi => (ht i hi).more HB1.out.2⟩)
  clear c1 H2' HB1
  go_wp2
  go_loopw [6] (fun sv wr => ∃ j : Nat, j ≤ 14 ∧ sv = .int .i64 j ∧ Hid (∃ gs, GridAt w.heap.size w wr g gs)) (fun i _ => 14 - (intOf i).toNat)
  case atStart => exact ⟨0, by omega, rfl, H2⟩
  case round =>
    obtain ⟨j, hj, rfl, H⟩ := hrel
    by_cases hlt : j < 14
    · obtain ⟨gs, h3⟩ := H.out
      obtain ⟨gt, q0, ht⟩ := h3.cell hlt
      have H3 := cover h3
      clear h3 ht H
      go_upto_region 11 with fail
      rw [show decide ((j : Int) < 14) = true from decide_eq_true (by omega)]
      clear q0
      go_wp2
      go_loopw [7] (fun ev wr2 => ∃ e : Int, -1 ≤ e ∧ e ≤ 35 ∧ ev = .int .i64 e ∧ Hid (GridAt w.heap.size w wr2 g gs)) (fun i _ => (35 - intOf i).toNat)
      case atStart => exact ⟨-1, by omega, by omega, rfl, H3⟩
      case round =>
        obtain ⟨e, he1, he2, rfl, H4⟩ := hrel
        by_cases hlte : e ≤ 34
        · obtain ⟨l, n, k, hx⟩ : ∃ l n k, stepG (j : Int) e = (l, n, k) := ⟨_, _, _, rfl⟩
          obtain ⟨m, hm⟩ : ∃ m, l.length = m := ⟨_, rfl⟩
          have HM : Hid (m ≤ 1000) := cover (by have := stepG_short (j : Int) e; rw [hx] at this; have h2 : l.length ≤ 20 := this; omega)
          have s5 := cover (fun W => refStep_m hx hm W)
          have s6 := cover (fun W => step_m hx hm W)
          have HX := cover hx
          have HML := cover hm
          clear hx hm
          go_wp2_with fail
          refine (s5.out _).mono ?_
          rintro en w5 ⟨A, rfl, HR5, hb5⟩
          obtain ⟨w6, hw6⟩ : ∃ w6, Hid (w6 = w5.alloc (.cells (rowC A m n k) 30)) := ⟨_, cover rfl⟩
          obtain ⟨v, hv⟩ : ∃ v, Hid (w5.heap.size = v) := ⟨_, cover rfl⟩
          have H6 : Hid (WantAt w.heap.size w w6 g gs v A m n k l) := cover (by
            have ha : Below w5.heap.size w5 w6 := by rw [hw6.out]; exact (Below.refl _ _).alloc (Nat.le_refl _) _
            exact ⟨(H4.out.below hb5).below ha, by rw [hw6.out, ← hv.out]; exact heap_alloc_new _ _, (HR5.out.below ha).more ha.size⟩)
          clear s5 HR5 hb5 H4
          go_upto_region 15 with fail
          rw [← hw6.out, hv.out]
          clear hw6 hv
          go_cut [59] (fun x wx => x = .bool false ∧ Hid (GridAt w.heap.size w wx g gs))
          case first =>
            rcases Decidable.em (0 ≤ e) with h0 | h0
            · rcases Decidable.em (e < 34) with h34 | h34
              · obtain ⟨i, rfl⟩ : ∃ i : Nat, e = (i : Int) := ⟨e.toNat, by omega⟩
                have hi : i < 34 := by omega
                have H7 : Hid (∃ gt A2, BothAt w.heap.size w w6 g gs v A m n k l j i gt A2) := cover (by
                  obtain ⟨gt, hq, ht⟩ := H6.out.all.cell hlt
                  have hti := tabP_is (s := (j : Int)) (e := (i : Int)) ⟨by omega, by omega⟩
                  rw [HX.out, Int.toNat_natCast] at hti
                  obtain ⟨A2, hr2, z0, z1, z2⟩ := ht.get hti
                  have hr2' := hr2
                  rw [show (l, n, k).1.length = m from HML.out] at z0 hr2'
                  exact ⟨gt, A2, H6.out, hq, z0, z1, z2, hr2'.out.2⟩)
                obtain ⟨gt, A2, h7⟩ := H7.out
                have H7 := cover h7
                clear h7 H6 he1 he2 hlte
                have hg3 : (0 : Int) ≤ (i : Int) := h0
                refine (wpIn_wide (n := 0)).1 ?_
                refine held_begin (fun W' : World => (W'.cell? ⟨v, 0, none⟩ = some (.slice A m m) ∧ W'.cell? ⟨v, 1, none⟩ = some (.int .i64 n) ∧ W'.cell? ⟨v, 2, none⟩ = some (.bool k) ∧ W'.cell? ⟨g, j, none⟩ = some (.slice (some ⟨gt, 0, none⟩) 34 34) ∧ W'.cell? ⟨gt, i * 3, none⟩ = some (.slice A2 m m) ∧ W'.cell? ⟨gt, i * 3 + 1, none⟩ = some (.int .i64 n) ∧ W'.cell? ⟨gt, i * 3 + 2, none⟩ = some (.bool k)) ∧ Hid (BothAt w.heap.size w W' g gs v A m n k l j i gt A2)) 99 mixed ?_
                have H9 := cover (H7.out.below (below_drewN (Below.refl _ _) 1))
                have HS1 : (fun W' : World => (W'.cell? ⟨v, 0, none⟩ = some (.slice A m m) ∧ W'.cell? ⟨v, 1, none⟩ = some (.int .i64 n) ∧ W'.cell? ⟨v, 2, none⟩ = some (.bool k) ∧ W'.cell? ⟨g, j, none⟩ = some (.slice (some ⟨gt, 0, none⟩) 34 34) ∧ W'.cell? ⟨gt, i * 3, none⟩ = some (.slice A2 m m) ∧ W'.cell? ⟨gt, i * 3 + 1, none⟩ = some (.int .i64 n) ∧ W'.cell? ⟨gt, i * 3 + 2, none⟩ = some (.bool k)) ∧ Hid (BothAt w.heap.size w W' g gs v A m n k l j i gt A2)) (w6.drewN 1) := ⟨H9.out.cells, H9⟩
                refine hold_take 0 _ rfl (by kernel_rfl) (by kernel_rfl) (by kernel_rfl) (by kernel_rfl) (by kernel_rfl) (fun _ _ _ h => h) (by rfl) (fun _ => rfl) HS1 (fun w' hS => by obtain ⟨⟨q0, q1, q2, q3, q4, q5, q6⟩, _⟩ := hS; go_simp; rfl) ?_
                simp only [Act.put, List.setIfInBounds_toArray, List.set_cons_zero, List.set_cons_succ]
                refine hold_take 1 _ rfl (by kernel_rfl) (by kernel_rfl) (by kernel_rfl) (by kernel_rfl) (by kernel_rfl) (fun _ _ _ h => h) (by rfl) (fun _ => rfl) HS1 (fun w' hS => by obtain ⟨⟨q0, q1, q2, q3, q4, q5, q6⟩, _⟩ := hS; go_simp; rfl) ?_
                simp only [Act.put, List.setIfInBounds_toArray, List.set_cons_zero, List.set_cons_succ]
                refine hold_take 4 _ rfl (by kernel_rfl) (by kernel_rfl) (by kernel_rfl) (by kernel_rfl) (by kernel_rfl) (fun _ _ _ h => h) (by rfl) (fun _ => rfl) HS1 (fun w' hS => by obtain ⟨⟨q0, q1, q2, q3, q4, q5, q6⟩, _⟩ := hS; go_simp; rfl) ?_
                simp only [Act.put, List.setIfInBounds_toArray, List.set_cons_zero, List.set_cons_succ]
                refine hold_one 2 (by kernel_rfl) rfl (by rfl) fun K hK => ?_
                go_simp
                refine ⟨trivial, rfl, (callsIn_wide.2 (s6.out _)).mono ?_⟩
                rintro en w10 ⟨A10, rfl, HR10, hbX10⟩
                have H10 := cover (H9.out.below hbX10)
                refine hK _ _ (.inr ⟨H10.out.cells, H10⟩) ?_
                clear hK K HS1
                have HS1 := (And.intro H10.out.cells H10)
                refine hold_one 3 (by kernel_rfl) rfl (by rfl) fun K hK => ?_
                go_simp
                refine ⟨trivial, rfl, (callsIn_wide.2 (model_any A10 m n k w10)).mono ?_⟩
                rintro en w11 ⟨rfl, hbX11⟩
                have H11 := cover (H10.out.below hbX11)
                refine hK _ _ (.inr ⟨H11.out.cells, H11⟩) ?_
                clear hK K HS1
                have HS1 := (And.intro H11.out.cells H11)
                have HR11 := cover ((HR10.out.below hbX11).more hbX11.size)
                refine hold_one 5 (by kernel_rfl) rfl (by rfl) fun K hK => ?_
                go_simp
                refine ⟨trivial, rfl, (callsIn_wide.2 (same_yes A10 A m l n k w11 HR11.out H11.out.want.row HM.out)).mono ?_⟩
                rintro en w12 ⟨rfl, hbX12⟩
                have H12 := cover (H11.out.below hbX12)
                refine hK _ _ (.inr ⟨H12.out.cells, H12⟩) ?_
                clear hK K HS1
                have HS1 := (And.intro H12.out.cells H12)
                clear HR10 HR11 hbX10 hbX11 hbX12 H9 H10 H11
                refine hold_take 6 (.bool false) rfl (by kernel_rfl) (by kernel_rfl) (by kernel_rfl) (by kernel_rfl) (by kernel_rfl) (fun _ _ _ h => h) (by rfl) (fun _ => rfl) HS1 (fun w' hS => by obtain ⟨⟨q0, q1, q2, q3, q4, q5, q6⟩, _⟩ := hS; go_simp; skip) ?_
                simp only [Act.put, List.setIfInBounds_toArray, List.set_cons_zero, List.set_cons_succ]
                refine hold_take 7 (.bool false) rfl (by kernel_rfl) (by kernel_rfl) (by kernel_rfl) (by kernel_rfl) (by kernel_rfl) (fun _ _ _ h => h) (by rfl) (fun _ => rfl) HS1 (fun w' hS => by obtain ⟨⟨q0, q1, q2, q3, q4, q5, q6⟩, _⟩ := hS; go_simp; skip) ?_
                simp only [Act.put, List.setIfInBounds_toArray, List.set_cons_zero, List.set_cons_succ]
                refine hold_take 8 _ rfl (by kernel_rfl) (by kernel_rfl) (by kernel_rfl) (by kernel_rfl) (by kernel_rfl) (fun _ _ _ h => h) (by rfl) (fun _ => rfl) HS1 (fun w' hS => by obtain ⟨⟨q0, q1, q2, q3, q4, q5, q6⟩, _⟩ := hS; go_simp; rfl) ?_
                simp only [Act.put, List.setIfInBounds_toArray, List.set_cons_zero, List.set_cons_succ]
                refine hold_take 9 (.bool true) rfl (by kernel_rfl) (by kernel_rfl) (by kernel_rfl) (by kernel_rfl) (by kernel_rfl) (fun _ _ _ h => h) (by rfl) (fun _ => rfl) HS1 (fun w' hS => by obtain ⟨⟨q0, q1, q2, q3, q4, q5, q6⟩, _⟩ := hS; go_simp; (try rfl)) ?_
                simp only [Act.put, List.setIfInBounds_toArray, List.set_cons_zero, List.set_cons_succ]
                refine hold_take 10 (.bool true) rfl (by kernel_rfl) (by kernel_rfl) (by kernel_rfl) (by kernel_rfl) (by kernel_rfl) (fun _ _ _ h => h) (by rfl) (fun _ => rfl) HS1 (fun w' hS => by obtain ⟨⟨q0, q1, q2, q3, q4, q5, q6⟩, _⟩ := hS; go_simp; skip) ?_
                simp only [Act.put, List.setIfInBounds_toArray, List.set_cons_zero, List.set_cons_succ]
                refine hold_take 11 _ rfl (by kernel_rfl) (by kernel_rfl) (by kernel_rfl) (by kernel_rfl) (by kernel_rfl) (fun _ _ _ h => h) (by rfl) (fun _ => rfl) HS1 (fun w' hS => by obtain ⟨⟨q0, q1, q2, q3, q4, q5, q6⟩, _⟩ := hS; go_simp; rfl) ?_
                simp only [Act.put, List.setIfInBounds_toArray, List.set_cons_zero, List.set_cons_succ]
                refine hold_take 12 (.bool true) rfl (by kernel_rfl) (by kernel_rfl) (by kernel_rfl) (by kernel_rfl) (by kernel_rfl) (fun _ _ _ h => h) (by rfl) (fun _ => rfl) HS1 (fun w' hS => by obtain ⟨⟨q0, q1, q2, q3, q4, q5, q6⟩, _⟩ := hS; go_simp; (try rfl)) ?_
                simp only [Act.put, List.setIfInBounds_toArray, List.set_cons_zero, List.set_cons_succ]
                refine hold_take 13 (.bool true) rfl (by kernel_rfl) (by kernel_rfl) (by kernel_rfl) (by kernel_rfl) (by kernel_rfl) (fun _ _ _ h => h) (by rfl) (fun _ => rfl) HS1 (fun w' hS => by obtain ⟨⟨q0, q1, q2, q3, q4, q5, q6⟩, _⟩ := hS; go_simp; skip) ?_
                simp only [Act.put, List.setIfInBounds_toArray, List.set_cons_zero, List.set_cons_succ]
                refine hold_take 14 (.bool true) rfl (by kernel_rfl) (by kernel_rfl) (by kernel_rfl) (by kernel_rfl) (by kernel_rfl) (fun _ _ _ h => h) (by rfl) (fun _ => rfl) HS1 (fun w' hS => by obtain ⟨⟨q0, q1, q2, q3, q4, q5, q6⟩, _⟩ := hS; go_simp; skip) ?_
                simp only [Act.put, List.setIfInBounds_toArray, List.set_cons_zero, List.set_cons_succ]
                refine hold_take 15 _ rfl (by kernel_rfl) (by kernel_rfl) (by kernel_rfl) (by kernel_rfl) (by kernel_rfl) (fun _ _ _ h => h) (by rfl) (fun _ => rfl) HS1 (fun w' hS => by obtain ⟨⟨q0, q1, q2, q3, q4, q5, q6⟩, _⟩ := hS; go_simp; rfl) ?_
                simp only [Act.put, List.setIfInBounds_toArray, List.set_cons_zero, List.set_cons_succ]
                refine hold_take 16 _ rfl (by kernel_rfl) (by kernel_rfl) (by kernel_rfl) (by kernel_rfl) (by kernel_rfl) (fun _ _ _ h => h) (by rfl) (fun _ => rfl) HS1 (fun w' hS => by obtain ⟨⟨q0, q1, q2, q3, q4, q5, q6⟩, _⟩ := hS; go_simp; rfl) ?_
                simp only [Act.put, List.setIfInBounds_toArray, List.set_cons_zero, List.set_cons_succ]
                refine hold_take 17 _ rfl (by kernel_rfl) (by kernel_rfl) (by kernel_rfl) (by kernel_rfl) (by kernel_rfl) (fun _ _ _ h => h) (by rfl) (fun _ => rfl) HS1 (fun w' hS => by obtain ⟨⟨q0, q1, q2, q3, q4, q5, q6⟩, _⟩ := hS; go_simp; rfl) ?_
                simp only [Act.put, List.setIfInBounds_toArray, List.set_cons_zero, List.set_cons_succ]
                refine hold_take 18 _ rfl (by kernel_rfl) (by kernel_rfl) (by kernel_rfl) (by kernel_rfl) (by kernel_rfl) (fun _ _ _ h => h) (by rfl) (fun _ => rfl) HS1 (fun w' hS => by obtain ⟨⟨q0, q1, q2, q3, q4, q5, q6⟩, _⟩ := hS; go_simp; rfl) ?_
                simp only [Act.put, List.setIfInBounds_toArray, List.set_cons_zero, List.set_cons_succ]
                refine hold_take 19 _ rfl (by kernel_rfl) (by kernel_rfl) (by kernel_rfl) (by kernel_rfl) (by kernel_rfl) (fun _ _ _ h => h) (by rfl) (fun _ => rfl) HS1 (fun w' hS => by obtain ⟨⟨q0, q1, q2, q3, q4, q5, q6⟩, _⟩ := hS; go_simp; rfl) ?_
                simp only [Act.put, List.setIfInBounds_toArray, List.set_cons_zero, List.set_cons_succ]
                refine hold_take 20 _ rfl (by kernel_rfl) (by kernel_rfl) (by kernel_rfl) (by kernel_rfl) (by kernel_rfl) (fun _ _ _ h => h) (by rfl) (fun _ => rfl) HS1 (fun w' hS => by obtain ⟨⟨q0, q1, q2, q3, q4, q5, q6⟩, _⟩ := hS; go_simp; rfl) ?_
                simp only [Act.put, List.setIfInBounds_toArray, List.set_cons_zero, List.set_cons_succ]
                refine hold_take 21 _ rfl (by kernel_rfl) (by kernel_rfl) (by kernel_rfl) (by kernel_rfl) (by kernel_rfl) (fun _ _ _ h => h) (by rfl) (fun _ => rfl) HS1 (fun w' hS => by obtain ⟨⟨q0, q1, q2, q3, q4, q5, q6⟩, _⟩ := hS; go_simp; rfl) ?_
                simp only [Act.put, List.setIfInBounds_toArray, List.set_cons_zero, List.set_cons_succ]
                refine hold_take 23 _ rfl (by kernel_rfl) (by kernel_rfl) (by kernel_rfl) (by kernel_rfl) (by kernel_rfl) (fun _ _ _ h => h) (by rfl) (fun _ => rfl) HS1 (fun w' hS => by obtain ⟨⟨q0, q1, q2, q3, q4, q5, q6⟩, _⟩ := hS; go_simp; rfl) ?_
                simp only [Act.put, List.setIfInBounds_toArray, List.set_cons_zero, List.set_cons_succ]
                refine hold_one 22 (by kernel_rfl) rfl (by rfl) fun K hK => ?_
                go_simp
                refine ⟨trivial, rfl, (callsIn_wide.2 (model_any A2 m n k w12)).mono ?_⟩
                rintro en w13 ⟨rfl, hbX13⟩
                have H13 := cover (H12.out.below hbX13)
                refine hK _ _ (.inr ⟨H13.out.cells, H13⟩) ?_
                clear hK K HS1
                have HS1 := (And.intro H13.out.cells H13)
                refine hold_one 24 (by kernel_rfl) rfl (by rfl) fun K hK => ?_
                go_simp
                refine ⟨trivial, rfl, (callsIn_wide.2 (same_yes A2 A m l n k w13 H13.out.row2 H13.out.want.row HM.out)).mono ?_⟩
                rintro en w14 ⟨rfl, hbX14⟩
                have H14 := cover (H13.out.below hbX14)
                refine hK _ _ (.inr ⟨H14.out.cells, H14⟩) ?_
                clear hK K HS1
                have HS1 := (And.intro H14.out.cells H14)
                refine hold_take 25 (.bool false) rfl (by kernel_rfl) (by kernel_rfl) (by kernel_rfl) (by kernel_rfl) (by kernel_rfl) (fun _ _ _ h => h) (by rfl) (fun _ => rfl) HS1 (fun w' hS => by obtain ⟨⟨q0, q1, q2, q3, q4, q5, q6⟩, _⟩ := hS; go_simp; skip) ?_
                simp only [Act.put, List.setIfInBounds_toArray, List.set_cons_zero, List.set_cons_succ]
                refine hold_take 26 (.bool false) rfl (by kernel_rfl) (by kernel_rfl) (by kernel_rfl) (by kernel_rfl) (by kernel_rfl) (fun _ _ _ h => h) (by rfl) (fun _ => rfl) HS1 (fun w' hS => by obtain ⟨⟨q0, q1, q2, q3, q4, q5, q6⟩, _⟩ := hS; go_simp; skip) ?_
                simp only [Act.put, List.setIfInBounds_toArray, List.set_cons_zero, List.set_cons_succ]
                refine hold_take 27 (.bool false) rfl (by kernel_rfl) (by kernel_rfl) (by kernel_rfl) (by kernel_rfl) (by kernel_rfl) (fun _ _ _ h => h) (by rfl) (fun _ => rfl) HS1 (fun w' hS => by obtain ⟨⟨q0, q1, q2, q3, q4, q5, q6⟩, _⟩ := hS; go_simp; skip) ?_
                simp only [Act.put, List.setIfInBounds_toArray, List.set_cons_zero, List.set_cons_succ]
                refine held_done (by kernel_rfl) ?_ _
                have H15 : Hid (GridAt w.heap.size w w14 g gs) := cover H14.out.want.all
                clear HS1 mixed s6 H12 H13 H14 hbX13 hbX14 H7
                go_wp2
                go_meet
                exact ⟨rfl, H15⟩
              · have h34' : e = 34 := by omega
                have hg1 : (34 : Int) ≤ e := by omega
                have hg2 : (e < 34) = False := eq_false (by omega)
                clear he1 he2 hlte h34' h34
                refine (wpIn_wide (n := 0)).1 ?_
                refine held_begin (fun W' : World => (W'.cell? ⟨v, 0, none⟩ = some (.slice A m m) ∧ W'.cell? ⟨v, 1, none⟩ = some (.int .i64 n) ∧ W'.cell? ⟨v, 2, none⟩ = some (.bool k)) ∧ Hid (WantAt w.heap.size w W' g gs v A m n k l)) 99 mixed ?_
                have H9 := cover (H6.out.below (below_drewN (Below.refl _ _) 1))
                have HS1 : (fun W' : World => (W'.cell? ⟨v, 0, none⟩ = some (.slice A m m) ∧ W'.cell? ⟨v, 1, none⟩ = some (.int .i64 n) ∧ W'.cell? ⟨v, 2, none⟩ = some (.bool k)) ∧ Hid (WantAt w.heap.size w W' g gs v A m n k l)) (w6.drewN 1) := ⟨H9.out.cells, H9⟩
                refine hold_take 0 _ rfl (by kernel_rfl) (by kernel_rfl) (by kernel_rfl) (by kernel_rfl) (by kernel_rfl) (fun _ _ _ h => h) (by rfl) (fun _ => rfl) HS1 (fun w' hS => by obtain ⟨⟨q0, q1, q2⟩, _⟩ := hS; go_simp; rfl) ?_
                simp only [Act.put, List.setIfInBounds_toArray, List.set_cons_zero, List.set_cons_succ]
                refine hold_take 1 _ rfl (by kernel_rfl) (by kernel_rfl) (by kernel_rfl) (by kernel_rfl) (by kernel_rfl) (fun _ _ _ h => h) (by rfl) (fun _ => rfl) HS1 (fun w' hS => by obtain ⟨⟨q0, q1, q2⟩, _⟩ := hS; go_simp; rfl) ?_
                simp only [Act.put, List.setIfInBounds_toArray, List.set_cons_zero, List.set_cons_succ]
                refine hold_take 4 _ rfl (by kernel_rfl) (by kernel_rfl) (by kernel_rfl) (by kernel_rfl) (by kernel_rfl) (fun _ _ _ h => h) (by rfl) (fun _ => rfl) HS1 (fun w' hS => by obtain ⟨⟨q0, q1, q2⟩, _⟩ := hS; go_simp; rfl) ?_
                simp only [Act.put, List.setIfInBounds_toArray, List.set_cons_zero, List.set_cons_succ]
                refine hold_one 2 (by kernel_rfl) rfl (by rfl) fun K hK => ?_
                go_simp
                refine ⟨trivial, rfl, (callsIn_wide.2 (s6.out _)).mono ?_⟩
                rintro en w10 ⟨A10, rfl, HR10, hbX10⟩
                have H10 := cover (H9.out.below hbX10)
                refine hK _ _ (.inr ⟨H10.out.cells, H10⟩) ?_
                clear hK K HS1
                have HS1 := (And.intro H10.out.cells H10)
                refine hold_one 3 (by kernel_rfl) rfl (by rfl) fun K hK => ?_
                go_simp
                refine ⟨trivial, rfl, (callsIn_wide.2 (model_any A10 m n k w10)).mono ?_⟩
                rintro en w11 ⟨rfl, hbX11⟩
                have H11 := cover (H10.out.below hbX11)
                refine hK _ _ (.inr ⟨H11.out.cells, H11⟩) ?_
                clear hK K HS1
                have HS1 := (And.intro H11.out.cells H11)
                have HR11 := cover ((HR10.out.below hbX11).more hbX11.size)
                refine hold_one 5 (by kernel_rfl) rfl (by rfl) fun K hK => ?_
                go_simp
                refine ⟨trivial, rfl, (callsIn_wide.2 (same_yes A10 A m l n k w11 HR11.out H11.out.row HM.out)).mono ?_⟩
                rintro en w12 ⟨rfl, hbX12⟩
                have H12 := cover (H11.out.below hbX12)
                refine hK _ _ (.inr ⟨H12.out.cells, H12⟩) ?_
                clear hK K HS1
                have HS1 := (And.intro H12.out.cells H12)
                clear HR10 HR11 hbX10 hbX11 hbX12 H9 H10 H11
                refine hold_take 6 (.bool false) rfl (by kernel_rfl) (by kernel_rfl) (by kernel_rfl) (by kernel_rfl) (by kernel_rfl) (fun _ _ _ h => h) (by rfl) (fun _ => rfl) HS1 (fun w' hS => by obtain ⟨⟨q0, q1, q2⟩, _⟩ := hS; go_simp; skip) ?_
                simp only [Act.put, List.setIfInBounds_toArray, List.set_cons_zero, List.set_cons_succ]
                refine hold_take 7 (.bool false) rfl (by kernel_rfl) (by kernel_rfl) (by kernel_rfl) (by kernel_rfl) (by kernel_rfl) (fun _ _ _ h => h) (by rfl) (fun _ => rfl) HS1 (fun w' hS => by obtain ⟨⟨q0, q1, q2⟩, _⟩ := hS; go_simp; skip) ?_
                simp only [Act.put, List.setIfInBounds_toArray, List.set_cons_zero, List.set_cons_succ]
                refine hold_take 8 _ rfl (by kernel_rfl) (by kernel_rfl) (by kernel_rfl) (by kernel_rfl) (by kernel_rfl) (fun _ _ _ h => h) (by rfl) (fun _ => rfl) HS1 (fun w' hS => by obtain ⟨⟨q0, q1, q2⟩, _⟩ := hS; go_simp; rfl) ?_
                simp only [Act.put, List.setIfInBounds_toArray, List.set_cons_zero, List.set_cons_succ]
                refine hold_take 9 (.bool true) rfl (by kernel_rfl) (by kernel_rfl) (by kernel_rfl) (by kernel_rfl) (by kernel_rfl) (fun _ _ _ h => h) (by rfl) (fun _ => rfl) HS1 (fun w' hS => by obtain ⟨⟨q0, q1, q2⟩, _⟩ := hS; go_simp; (try rfl)) ?_
                simp only [Act.put, List.setIfInBounds_toArray, List.set_cons_zero, List.set_cons_succ]
                refine hold_take 10 (.bool true) rfl (by kernel_rfl) (by kernel_rfl) (by kernel_rfl) (by kernel_rfl) (by kernel_rfl) (fun _ _ _ h => h) (by rfl) (fun _ => rfl) HS1 (fun w' hS => by obtain ⟨⟨q0, q1, q2⟩, _⟩ := hS; go_simp; skip) ?_
                simp only [Act.put, List.setIfInBounds_toArray, List.set_cons_zero, List.set_cons_succ]
                refine hold_take 11 _ rfl (by kernel_rfl) (by kernel_rfl) (by kernel_rfl) (by kernel_rfl) (by kernel_rfl) (fun _ _ _ h => h) (by rfl) (fun _ => rfl) HS1 (fun w' hS => by obtain ⟨⟨q0, q1, q2⟩, _⟩ := hS; go_simp; rfl) ?_
                simp only [Act.put, List.setIfInBounds_toArray, List.set_cons_zero, List.set_cons_succ]
                refine hold_take 12 (.bool false) rfl (by kernel_rfl) (by kernel_rfl) (by kernel_rfl) (by kernel_rfl) (by kernel_rfl) (fun _ _ _ h => h) (by rfl) (fun _ => rfl) HS1 (fun w' hS => by obtain ⟨⟨q0, q1, q2⟩, _⟩ := hS; go_simp; (try rfl)) ?_
                simp only [Act.put, List.setIfInBounds_toArray, List.set_cons_zero, List.set_cons_succ]
                refine hold_take 13 (.bool false) rfl (by kernel_rfl) (by kernel_rfl) (by kernel_rfl) (by kernel_rfl) (by kernel_rfl) (fun _ _ _ h => h) (by rfl) (fun _ => rfl) HS1 (fun w' hS => by obtain ⟨⟨q0, q1, q2⟩, _⟩ := hS; go_simp; skip) ?_
                simp only [Act.put, List.setIfInBounds_toArray, List.set_cons_zero, List.set_cons_succ]
                refine hold_take 14 (.bool false) rfl (by kernel_rfl) (by kernel_rfl) (by kernel_rfl) (by kernel_rfl) (by kernel_rfl) (fun _ _ _ h => h) (by rfl) (fun _ => rfl) HS1 (fun w' hS => by obtain ⟨⟨q0, q1, q2⟩, _⟩ := hS; go_simp; skip) ?_
                simp only [Act.put, List.setIfInBounds_toArray, List.set_cons_zero, List.set_cons_succ]
                refine hold_skip 15 rfl (by kernel_rfl) (by kernel_rfl) (by kernel_rfl) (by kernel_rfl) (by kernel_rfl) (fun _ _ _ h => h) (by rfl) (fun _ => rfl) HS1 ?_
                simp only [Act.put, List.setIfInBounds_toArray, List.set_cons_zero, List.set_cons_succ]
                refine hold_skip 16 rfl (by kernel_rfl) (by kernel_rfl) (by kernel_rfl) (by kernel_rfl) (by kernel_rfl) (fun _ _ _ h => h) (by rfl) (fun _ => rfl) HS1 ?_
                simp only [Act.put, List.setIfInBounds_toArray, List.set_cons_zero, List.set_cons_succ]
                refine hold_skip 17 rfl (by kernel_rfl) (by kernel_rfl) (by kernel_rfl) (by kernel_rfl) (by kernel_rfl) (fun _ _ _ h => h) (by rfl) (fun _ => rfl) HS1 ?_
                simp only [Act.put, List.setIfInBounds_toArray, List.set_cons_zero, List.set_cons_succ]
                refine hold_skip 18 rfl (by kernel_rfl) (by kernel_rfl) (by kernel_rfl) (by kernel_rfl) (by kernel_rfl) (fun _ _ _ h => h) (by rfl) (fun _ => rfl) HS1 ?_
                simp only [Act.put, List.setIfInBounds_toArray, List.set_cons_zero, List.set_cons_succ]
                refine hold_skip 19 rfl (by kernel_rfl) (by kernel_rfl) (by kernel_rfl) (by kernel_rfl) (by kernel_rfl) (fun _ _ _ h => h) (by rfl) (fun _ => rfl) HS1 ?_
                simp only [Act.put, List.setIfInBounds_toArray, List.set_cons_zero, List.set_cons_succ]
                refine hold_skip 20 rfl (by kernel_rfl) (by kernel_rfl) (by kernel_rfl) (by kernel_rfl) (by kernel_rfl) (fun _ _ _ h => h) (by rfl) (fun _ => rfl) HS1 ?_
                simp only [Act.put, List.setIfInBounds_toArray, List.set_cons_zero, List.set_cons_succ]
                refine hold_skip 21 rfl (by kernel_rfl) (by kernel_rfl) (by kernel_rfl) (by kernel_rfl) (by kernel_rfl) (fun _ _ _ h => h) (by rfl) (fun _ => rfl) HS1 ?_
                simp only [Act.put, List.setIfInBounds_toArray, List.set_cons_zero, List.set_cons_succ]
                refine hold_skip 23 rfl (by kernel_rfl) (by kernel_rfl) (by kernel_rfl) (by kernel_rfl) (by kernel_rfl) (fun _ _ _ h => h) (by rfl) (fun _ => rfl) HS1 ?_
                simp only [Act.put, List.setIfInBounds_toArray, List.set_cons_zero, List.set_cons_succ]
                refine hold_pass 22 (by kernel_rfl) rfl (by rfl) (fun _ _ => trivial) HS1 ?_
                simp only [Act.put, List.setIfInBounds_toArray, List.set_cons_zero, List.set_cons_succ]
                refine hold_pass 24 (by kernel_rfl) rfl (by rfl) (fun _ _ => trivial) HS1 ?_
                simp only [Act.put, List.setIfInBounds_toArray, List.set_cons_zero, List.set_cons_succ]
                refine hold_skip 25 rfl (by kernel_rfl) (by kernel_rfl) (by kernel_rfl) (by kernel_rfl) (by kernel_rfl) (fun _ _ _ h => h) (by rfl) (fun _ => rfl) HS1 ?_
                simp only [Act.put, List.setIfInBounds_toArray, List.set_cons_zero, List.set_cons_succ]
                refine hold_take 26 (.bool false) rfl (by kernel_rfl) (by kernel_rfl) (by kernel_rfl) (by kernel_rfl) (by kernel_rfl) (fun _ _ _ h => h) (by rfl) (fun _ => rfl) HS1 (fun w' hS => by obtain ⟨⟨q0, q1, q2⟩, _⟩ := hS; go_simp; skip) ?_
                simp only [Act.put, List.setIfInBounds_toArray, List.set_cons_zero, List.set_cons_succ]
                refine hold_take 27 (.bool false) rfl (by kernel_rfl) (by kernel_rfl) (by kernel_rfl) (by kernel_rfl) (by kernel_rfl) (fun _ _ _ h => h) (by rfl) (fun _ => rfl) HS1 (fun w' hS => by obtain ⟨⟨q0, q1, q2⟩, _⟩ := hS; go_simp; skip) ?_
                simp only [Act.put, List.setIfInBounds_toArray, List.set_cons_zero, List.set_cons_succ]
                refine held_done (by kernel_rfl) ?_ _
                have H15 : Hid (GridAt w.heap.size w w12 g gs) := cover H12.out.all
                clear HS1 mixed s6 H12 H6
                go_wp2
                go_meet
                exact ⟨rfl, H15⟩
            · have hg1 : (0 ≤ e) = False := eq_false (by omega)
              have hg2 : e < 0 := by omega
              clear he1 he2 hlte h0
              refine (wpIn_wide (n := 0)).1 ?_
              refine held_begin (fun W' : World => (W'.cell? ⟨v, 0, none⟩ = some (.slice A m m) ∧ W'.cell? ⟨v, 1, none⟩ = some (.int .i64 n) ∧ W'.cell? ⟨v, 2, none⟩ = some (.bool k)) ∧ Hid (WantAt w.heap.size w W' g gs v A m n k l)) 99 mixed ?_
              have H9 := cover (H6.out.below (below_drewN (Below.refl _ _) 1))
              have HS1 : (fun W' : World => (W'.cell? ⟨v, 0, none⟩ = some (.slice A m m) ∧ W'.cell? ⟨v, 1, none⟩ = some (.int .i64 n) ∧ W'.cell? ⟨v, 2, none⟩ = some (.bool k)) ∧ Hid (WantAt w.heap.size w W' g gs v A m n k l)) (w6.drewN 1) := ⟨H9.out.cells, H9⟩
              refine hold_take 0 _ rfl (by kernel_rfl) (by kernel_rfl) (by kernel_rfl) (by kernel_rfl) (by kernel_rfl) (fun _ _ _ h => h) (by rfl) (fun _ => rfl) HS1 (fun w' hS => by obtain ⟨⟨q0, q1, q2⟩, _⟩ := hS; go_simp; rfl) ?_
              simp only [Act.put, List.setIfInBounds_toArray, List.set_cons_zero, List.set_cons_succ]
              refine hold_take 1 _ rfl (by kernel_rfl) (by kernel_rfl) (by kernel_rfl) (by kernel_rfl) (by kernel_rfl) (fun _ _ _ h => h) (by rfl) (fun _ => rfl) HS1 (fun w' hS => by obtain ⟨⟨q0, q1, q2⟩, _⟩ := hS; go_simp; rfl) ?_
              simp only [Act.put, List.setIfInBounds_toArray, List.set_cons_zero, List.set_cons_succ]
              refine hold_take 4 _ rfl (by kernel_rfl) (by kernel_rfl) (by kernel_rfl) (by kernel_rfl) (by kernel_rfl) (fun _ _ _ h => h) (by rfl) (fun _ => rfl) HS1 (fun w' hS => by obtain ⟨⟨q0, q1, q2⟩, _⟩ := hS; go_simp; rfl) ?_
              simp only [Act.put, List.setIfInBounds_toArray, List.set_cons_zero, List.set_cons_succ]
              refine hold_one 2 (by kernel_rfl) rfl (by rfl) fun K hK => ?_
              go_simp
              refine ⟨trivial, rfl, (callsIn_wide.2 (s6.out _)).mono ?_⟩
              rintro en w10 ⟨A10, rfl, HR10, hbX10⟩
              have H10 := cover (H9.out.below hbX10)
              refine hK _ _ (.inr ⟨H10.out.cells, H10⟩) ?_
              clear hK K HS1
              have HS1 := (And.intro H10.out.cells H10)
              refine hold_one 3 (by kernel_rfl) rfl (by rfl) fun K hK => ?_
              go_simp
              refine ⟨trivial, rfl, (callsIn_wide.2 (model_any A10 m n k w10)).mono ?_⟩
              rintro en w11 ⟨rfl, hbX11⟩
              have H11 := cover (H10.out.below hbX11)
              refine hK _ _ (.inr ⟨H11.out.cells, H11⟩) ?_
              clear hK K HS1
              have HS1 := (And.intro H11.out.cells H11)
              have HR11 := cover ((HR10.out.below hbX11).more hbX11.size)
              refine hold_one 5 (by kernel_rfl) rfl (by rfl) fun K hK => ?_
              go_simp
              refine ⟨trivial, rfl, (callsIn_wide.2 (same_yes A10 A m l n k w11 HR11.out H11.out.row HM.out)).mono ?_⟩
              rintro en w12 ⟨rfl, hbX12⟩
              have H12 := cover (H11.out.below hbX12)
              refine hK _ _ (.inr ⟨H12.out.cells, H12⟩) ?_
              clear hK K HS1
              have HS1 := (And.intro H12.out.cells H12)
              clear HR10 HR11 hbX10 hbX11 hbX12 H9 H10 H11
              refine hold_take 6 (.bool false) rfl (by kernel_rfl) (by kernel_rfl) (by kernel_rfl) (by kernel_rfl) (by kernel_rfl) (fun _ _ _ h => h) (by rfl) (fun _ => rfl) HS1 (fun w' hS => by obtain ⟨⟨q0, q1, q2⟩, _⟩ := hS; go_simp; skip) ?_
              simp only [Act.put, List.setIfInBounds_toArray, List.set_cons_zero, List.set_cons_succ]
              refine hold_take 7 (.bool false) rfl (by kernel_rfl) (by kernel_rfl) (by kernel_rfl) (by kernel_rfl) (by kernel_rfl) (fun _ _ _ h => h) (by rfl) (fun _ => rfl) HS1 (fun w' hS => by obtain ⟨⟨q0, q1, q2⟩, _⟩ := hS; go_simp; skip) ?_
              simp only [Act.put, List.setIfInBounds_toArray, List.set_cons_zero, List.set_cons_succ]
              refine hold_take 8 _ rfl (by kernel_rfl) (by kernel_rfl) (by kernel_rfl) (by kernel_rfl) (by kernel_rfl) (fun _ _ _ h => h) (by rfl) (fun _ => rfl) HS1 (fun w' hS => by obtain ⟨⟨q0, q1, q2⟩, _⟩ := hS; go_simp; rfl) ?_
              simp only [Act.put, List.setIfInBounds_toArray, List.set_cons_zero, List.set_cons_succ]
              refine hold_take 9 (.bool false) rfl (by kernel_rfl) (by kernel_rfl) (by kernel_rfl) (by kernel_rfl) (by kernel_rfl) (fun _ _ _ h => h) (by rfl) (fun _ => rfl) HS1 (fun w' hS => by obtain ⟨⟨q0, q1, q2⟩, _⟩ := hS; go_simp; (try rfl)) ?_
              simp only [Act.put, List.setIfInBounds_toArray, List.set_cons_zero, List.set_cons_succ]
              refine hold_take 10 (.bool false) rfl (by kernel_rfl) (by kernel_rfl) (by kernel_rfl) (by kernel_rfl) (by kernel_rfl) (fun _ _ _ h => h) (by rfl) (fun _ => rfl) HS1 (fun w' hS => by obtain ⟨⟨q0, q1, q2⟩, _⟩ := hS; go_simp; skip) ?_
              simp only [Act.put, List.setIfInBounds_toArray, List.set_cons_zero, List.set_cons_succ]
              refine hold_skip 11 rfl (by kernel_rfl) (by kernel_rfl) (by kernel_rfl) (by kernel_rfl) (by kernel_rfl) (fun _ _ _ h => h) (by rfl) (fun _ => rfl) HS1 ?_
              simp only [Act.put, List.setIfInBounds_toArray, List.set_cons_zero, List.set_cons_succ]
              refine hold_skip 12 rfl (by kernel_rfl) (by kernel_rfl) (by kernel_rfl) (by kernel_rfl) (by kernel_rfl) (fun _ _ _ h => h) (by rfl) (fun _ => rfl) HS1 ?_
              simp only [Act.put, List.setIfInBounds_toArray, List.set_cons_zero, List.set_cons_succ]
              refine hold_take 13 (.bool false) rfl (by kernel_rfl) (by kernel_rfl) (by kernel_rfl) (by kernel_rfl) (by kernel_rfl) (fun _ _ _ h => h) (by rfl) (fun _ => rfl) HS1 (fun w' hS => by obtain ⟨⟨q0, q1, q2⟩, _⟩ := hS; go_simp; skip) ?_
              simp only [Act.put, List.setIfInBounds_toArray, List.set_cons_zero, List.set_cons_succ]
              refine hold_take 14 (.bool false) rfl (by kernel_rfl) (by kernel_rfl) (by kernel_rfl) (by kernel_rfl) (by kernel_rfl) (fun _ _ _ h => h) (by rfl) (fun _ => rfl) HS1 (fun w' hS => by obtain ⟨⟨q0, q1, q2⟩, _⟩ := hS; go_simp; skip) ?_
              simp only [Act.put, List.setIfInBounds_toArray, List.set_cons_zero, List.set_cons_succ]
              refine hold_skip 15 rfl (by kernel_rfl) (by kernel_rfl) (by kernel_rfl) (by kernel_rfl) (by kernel_rfl) (fun _ _ _ h => h) (by rfl) (fun _ => rfl) HS1 ?_
              simp only [Act.put, List.setIfInBounds_toArray, List.set_cons_zero, List.set_cons_succ]
              refine hold_skip 16 rfl (by kernel_rfl) (by kernel_rfl) (by kernel_rfl) (by kernel_rfl) (by kernel_rfl) (fun _ _ _ h => h) (by rfl) (fun _ => rfl) HS1 ?_
              simp only [Act.put, List.setIfInBounds_toArray, List.set_cons_zero, List.set_cons_succ]
              refine hold_skip 17 rfl (by kernel_rfl) (by kernel_rfl) (by kernel_rfl) (by kernel_rfl) (by kernel_rfl) (fun _ _ _ h => h) (by rfl) (fun _ => rfl) HS1 ?_
              simp only [Act.put, List.setIfInBounds_toArray, List.set_cons_zero, List.set_cons_succ]
              refine hold_skip 18 rfl (by kernel_rfl) (by kernel_rfl) (by kernel_rfl) (by kernel_rfl) (by kernel_rfl) (fun _ _ _ h => h) (by rfl) (fun _ => rfl) HS1 ?_
              simp only [Act.put, List.setIfInBounds_toArray, List.set_cons_zero, List.set_cons_succ]
              refine hold_skip 19 rfl (by kernel_rfl) (by kernel_rfl) (by kernel_rfl) (by kernel_rfl) (by kernel_rfl) (fun _ _ _ h => h) (by rfl) (fun _ => rfl) HS1 ?_
              simp only [Act.put, List.setIfInBounds_toArray, List.set_cons_zero, List.set_cons_succ]
              refine hold_skip 20 rfl (by kernel_rfl) (by kernel_rfl) (by kernel_rfl) (by kernel_rfl) (by kernel_rfl) (fun _ _ _ h => h) (by rfl) (fun _ => rfl) HS1 ?_
              simp only [Act.put, List.setIfInBounds_toArray, List.set_cons_zero, List.set_cons_succ]
              refine hold_skip 21 rfl (by kernel_rfl) (by kernel_rfl) (by kernel_rfl) (by kernel_rfl) (by kernel_rfl) (fun _ _ _ h => h) (by rfl) (fun _ => rfl) HS1 ?_
              simp only [Act.put, List.setIfInBounds_toArray, List.set_cons_zero, List.set_cons_succ]
              refine hold_skip 23 rfl (by kernel_rfl) (by kernel_rfl) (by kernel_rfl) (by kernel_rfl) (by kernel_rfl) (fun _ _ _ h => h) (by rfl) (fun _ => rfl) HS1 ?_
              simp only [Act.put, List.setIfInBounds_toArray, List.set_cons_zero, List.set_cons_succ]
              refine hold_pass 22 (by kernel_rfl) rfl (by rfl) (fun _ _ => trivial) HS1 ?_
              simp only [Act.put, List.setIfInBounds_toArray, List.set_cons_zero, List.set_cons_succ]
              refine hold_pass 24 (by kernel_rfl) rfl (by rfl) (fun _ _ => trivial) HS1 ?_
              simp only [Act.put, List.setIfInBounds_toArray, List.set_cons_zero, List.set_cons_succ]
              refine hold_skip 25 rfl (by kernel_rfl) (by kernel_rfl) (by kernel_rfl) (by kernel_rfl) (by kernel_rfl) (fun _ _ _ h => h) (by rfl) (fun _ => rfl) HS1 ?_
              simp only [Act.put, List.setIfInBounds_toArray, List.set_cons_zero, List.set_cons_succ]
              refine hold_take 26 (.bool false) rfl (by kernel_rfl) (by kernel_rfl) (by kernel_rfl) (by kernel_rfl) (by kernel_rfl) (fun _ _ _ h => h) (by rfl) (fun _ => rfl) HS1 (fun w' hS => by obtain ⟨⟨q0, q1, q2⟩, _⟩ := hS; go_simp; skip) ?_
              simp only [Act.put, List.setIfInBounds_toArray, List.set_cons_zero, List.set_cons_succ]
              refine hold_take 27 (.bool false) rfl (by kernel_rfl) (by kernel_rfl) (by kernel_rfl) (by kernel_rfl) (by kernel_rfl) (fun _ _ _ h => h) (by rfl) (fun _ => rfl) HS1 (fun w' hS => by obtain ⟨⟨q0, q1, q2⟩, _⟩ := hS; go_simp; skip) ?_
              simp only [Act.put, List.setIfInBounds_toArray, List.set_cons_zero, List.set_cons_succ]
              refine held_done (by kernel_rfl) ?_ _
              have H15 : Hid (GridAt w.heap.size w w12 g gs) := cover H12.out.all
              clear HS1 mixed s6 H12 H6
              go_wp2
              go_meet
              exact ⟨rfl, H15⟩
          case rest =>
            obtain ⟨rfl, H8⟩ := hcut
            obtain ⟨w8, hw8⟩ : ∃ w8, w8 = wc := ⟨_, rfl⟩
            subst hw8
            go_wp2
            go_roundw
            case rel => exact ⟨e + 1, by omega, by omega, by go_num, H8⟩
            case measure => simp [intOf]; omega
        · have hlte' : 34 < e := by omega
          go_wp2
          go_roundw
          case rel => exact ⟨j + 1, by omega, by go_num, cover ⟨gs, H4.out⟩⟩
          case measure => simp [intOf]; omega
    · obtain rfl : j = 14 := by omega
      obtain ⟨gs, h3⟩ := H.out
      have HB3 : Hid (Below w.heap.size w wr ∧ w.heap.size ≤ wr.heap.size) := cover ⟨h3.bel, h3.le⟩
      clear h3 H H2
      obtain ⟨l, n, k, hx⟩ : ∃ l n k, stepG s0 e0 = (l, n, k) := ⟨_, _, _, rfl⟩
      obtain ⟨m, hm⟩ : ∃ m, l.length = m := ⟨_, rfl⟩
      have HM : Hid (m ≤ 1000) := cover (by have := stepG_short s0 e0; rw [hx] at this; have h2 : l.length ≤ 20 := this; omega)
      have s5 := cover (fun W => refStep_m hx hm W)
      have s6 := cover (fun W => step_m hx hm W)
      clear hx hm
      go_wp2_with fail
      refine (s6.out _).mono ?_
      rintro en w5 ⟨A, rfl, HR5, hb5⟩
      have HB5 := cover (HB3.out.1.trans (hb5.mono HB3.out.2))
      clear s6 HB3 hb5
      go_wp2_with fail
      refine (model_any A m n k w5).mono ?_
      rintro en w6 ⟨rfl, hb6⟩
      have HR6 := cover ((HR5.out.below hb6).more hb6.size)
      have HB6 := cover (HB5.out.trans (hb6.mono HB5.out.size))
      clear HR5 HB5 hb6
      go_wp2_with fail
      refine (s5.out _).mono ?_
      rintro en w7 ⟨A7, rfl, HR7, hb7⟩
      have HR6' := cover ((HR6.out.below hb7).more hb7.size)
      have HB7 := cover (HB6.out.trans (hb7.mono HB6.out.size))
      clear s5 HR6 HB6 hb7
      go_wp2_with fail
      refine (same_yes A A7 m l n k w7 HR6'.out HR7.out HM.out).mono ?_
      rintro en w8 ⟨rfl, hb8⟩
      have HB8 := cover (HB7.out.trans (hb8.mono HB7.out.size))
      clear HR6' HR7 HB7 hb8
      go_wp2
      go_ret
      exact ⟨rfl, HB8.out⟩
theorem walk_GridSteps (s e : Int) (w : World) (hs : (Lit.int .i64 s).wf = true) (he : (Lit.int .i64 e).wf = true) : Calls Try.prog 4 #[.int .i64 s, .int .i64 e] w fun e w' => e = .returned (.bool true) ∧ Below w.heap.size w w' := go_GridSteps s e w
end Go.Proofs.Ytlffhnplcgmhlaa
