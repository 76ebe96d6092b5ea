/- What Step and Rows hand back. -/
import Derived.Test.YtlffhnplcgmhlaaJRowsOf
namespace Go.Proofs.Ytlffhnplcgmhlaa
open Go.RowKit
set_option linter.unusedVariables false
set_option linter.unusedSimpArgs false

/-- a call hands back a row -/
def RowOut (w : World) (x : RowV) (e : Ending) (w' : World) : Prop := ∃ A m, e = .returned (.agg #[.slice A m m, .int .i64 x.2.1, .bool x.2.2]) ∧ Hid (IntsAt w' w.heap.size (.slice A m m) x.1 ∧ Below w.heap.size w w')
theorem TabAt.get {w : World} {B gr : Nat} {T : List RowV} (h : TabAt w B gr T) {j : Nat} {x : RowV} (hx : T[j]? = some x) :
    ∃ A, IntsAt w B (.slice A x.1.length x.1.length) x.1 ∧ w.cell? ⟨gr, j * 3, none⟩ = some (.slice A x.1.length x.1.length) ∧ w.cell? ⟨gr, j * 3 + 1, none⟩ = some (.int .i64 x.2.1) ∧ w.cell? ⟨gr, j * 3 + 2, none⟩ = some (.bool x.2.2) := by
  obtain ⟨vs, hl, hh, hi⟩ := h
  obtain ⟨hj, rfl⟩ := List.getElem?_eq_some_iff.1 hx
  obtain ⟨h0, h1, h2⟩ := tabC_at vs T hl j hj (by omega)
  have hr := hi j hj (by omega)
  obtain ⟨A, hv, _⟩ := hr.row
  rw [hv] at h0 hr
  refine ⟨A, hr, ?_, ?_, ?_⟩
  · rw [cell_of_row w gr _ _ _ _ hh]; simpa using h0
  · rw [cell_of_row w gr _ _ _ _ hh]; simpa using h1
  · rw [cell_of_row w gr _ _ _ _ hh]; simpa using h2
/-- no row -/
abbrev zr0 : Array Value := #[.slice none 0 0, .int .i64 0, .bool false]
/-- a row's cells -/
abbrev rowC (A : Option Addr) (m : Nat) (n : Int) (b : Bool) : Array Value := #[.slice A m m, .int .i64 n, .bool b]
theorem rowC_one (A : Option Addr) (m : Nat) (n : Int) (b : Bool) : ((rowC A m n b).all fun x => x.oneCell') = true := by simp [Value.oneCell']
theorem IntsAt.out {w : World} {B : Nat} {A : Option Addr} {m : Nat} {l : List Int} (h : IntsAt w B (.slice A m m) l) : m = l.length ∧ RowK .i64 w w.heap.size A m l := by
  obtain ⟨A', e, hr⟩ := h.row
  injection e with e1 e2 e3
  subst e1 e2
  exact ⟨rfl, hr⟩
theorem w_le {g : Nat} {w w1 : World} (h : Below g w w1) : w.heap.size ≤ w1.heap.size := h.size
theorem step_far {s e : Int} (h : e < 0 ∨ 34 ≤ e) (w : World) : Calls Try.prog 11 #[.int .i64 s, .int .i64 e] w (RowOut w (stepG s e)) := by
  have hbel : Below w.heap.size w (w.alloc (.cells (rowC none 0 s false) 25)) := (Below.refl _ _).alloc (Nat.le_refl _) _
  have HO : Hid (RowOut w (stepG s e) (.returned (.agg (rowC none 0 s false))) (w.alloc (.cells (rowC none 0 s false) 25))) := cover (by
    rw [stepG_far (by omega)]
    exact ⟨none, 0, rfl, cover ⟨.inl ⟨rfl, rfl⟩, hbel⟩⟩)
  by_cases h1 : e < 0
  · go_enter Try.func11, Try.ntmps11
    go_wp2
    exact bodyPost_ret (v := .agg (rowC none 0 s false)) (results_cell_row (by rfl) _ _ w.heap.size _ (rowC none 0 s false) (0, 0) _ rfl (heap_alloc_new _ _) Try.underlying25 rfl row_size) rfl HO.out
  · have h2 : e ≥ 34 := by omega
    clear h
    go_enter Try.func11, Try.ntmps11
    go_wp2
    exact bodyPost_ret (v := .agg (rowC none 0 s false)) (results_cell_row (by rfl) _ _ w.heap.size _ (rowC none 0 s false) (0, 0) _ rfl (heap_alloc_new _ _) Try.underlying25 rfl row_size) rfl HO.out
set_option maxHeartbeats 1600000 in
theorem step_in {s e : Int} (h : 0 ≤ e ∧ e ≤ 33) (w : World) : Calls Try.prog 11 #[.int .i64 s, .int .i64 e] w (RowOut w (stepG s e)) := by
  have ht := tabP_is (s := s) h
  obtain ⟨j, rfl⟩ : ∃ j : Nat, e = (j : Int) := ⟨e.toNat, by omega⟩
  obtain ⟨l, n, b, hx⟩ : ∃ l n b, stepG s j = (l, n, b) := ⟨_, _, _, rfl⟩
  rw [hx] at ht ⊢
  rw [Int.toNat_natCast] at ht
  have HT := cover ht
  have hj : j < 34 := by omega
  obtain ⟨g, hg⟩ : ∃ g, w.heap.size = g := ⟨_, rfl⟩
  obtain ⟨w1, hw1⟩ : ∃ w1, Hid (w1 = w.alloc (.cells zr0 25)) := ⟨_, cover rfl⟩
  have H1 : Hid (Below g w w1 ∧ w1.heap[g]? = some (.cells zr0 25 (0, 0))) := cover (by rw [hw1.out, ← hg]; exact ⟨(Below.refl _ _).alloc (Nat.le_refl _) _, heap_alloc_new _ _⟩)
  have s1 := cover (rowsOf_any s w1)
  have HG := cover hg
  clear ht hx h
  go_enter Try.func11, Try.ntmps11
  go_upto_region 1 with fail
  rw [← hw1.out]
  clear hg hw1
  go_wp2_with fail
  refine s1.out.mono ?_
  rintro e w2 ⟨gr, rfl, H2⟩
  have G2 : Hid (w2.heap[g]? = some (.cells zr0 25 (0, 0))) := cover ((H2.out.2.1.block g (block_lt H1.out.2)).trans H1.out.2)
  obtain ⟨A, hr, c0, c1, c2⟩ := H2.out.1.get HT.out
  obtain ⟨m, hm⟩ : ∃ m, m = l.length := ⟨_, rfl⟩
  simp only at c0 c1 c2 hr
  rw [← hm] at c0 hr
  have HM : Hid (IntsAt w2 w1.heap.size (.slice A m m) l) := cover hr
  clear hm hr
  go_wp2_with (refine wpList_store_row rfl _ _ _ rfl g (rowC A m n b) rfl rfl 25 zr0 G2.out row_size rfl (rowC_one _ _ _ _) ?_)
  have HI : IntsAt (w2.setRow g (rowC A m n b)) w1.heap.size (.slice A m m) l := HM.out.keep fun g' hg' => setRow_other _ _ _ _ (type_ne hg' G2.out (by decide))
  exact bodyPost_ret (v := .agg (rowC A m n b)) (results_cell_row (by rfl) _ _ g _ (rowC A m n b) (0, 0) _ rfl (setRow_heap _ _ _ _ _ _ G2.out) Try.underlying25 rfl row_size) rfl
    ⟨A, m, rfl, cover ⟨HI.more (w_le H1.out.1), by rw [HG.out]; exact Go.below_setRow (H1.out.1.trans (H2.out.2.1.mono (by have := block_lt H1.out.2; omega))) (Nat.le_refl _) _⟩⟩
theorem step_any (s e : Int) (w : World) : Calls Try.prog 11 #[.int .i64 s, .int .i64 e] w (RowOut w (stepG s e)) := by
  by_cases h : 0 ≤ e ∧ e ≤ 33
  · exact step_in h w
  · exact step_far (by omega) w
theorem TabAt.more {w : World} {B B' gr : Nat} {T : List RowV} (h : TabAt w B gr T) (hB : B' ≤ B) : TabAt w B' gr T := by
  obtain ⟨vs, hl, hh, hi⟩ := h
  exact ⟨vs, hl, hh, fun i h1 h2 => (hi i h1 h2).more hB⟩
theorem TabAt.other {w w' : World} {B gr b : Nat} {T : List RowV} {cs : Array Value} {fr : Nat × Nat} (h : TabAt w B gr T) (ho : OnlyB b w w') (hb : w.heap[b]? = some (.cells cs 29 fr)) : TabAt w' B gr T := by
  obtain ⟨vs, hl, hh, hi⟩ := h
  exact ⟨vs, hl, only_keeps hh ho (type_ne hh hb (by decide)), fun i h1 h2 => (hi i h1 h2).keep fun g hg => ho.block g (block_lt hg) (fun e => type_ne hg hb (by decide) (by injection e))⟩
/-- all rows, in memory: a slice of slices, each a table -/
def RowsOutG (w : World) (e : Ending) (w' : World) : Prop := ∃ g, e = .returned (.slice (some ⟨g, 0, none⟩) 14 14) ∧
  Hid ((∃ gs : List Nat, gs.length = 14 ∧ w'.heap[g]? = some (.cells (gs.map fun g => (.slice (some ⟨g, 0, none⟩) 34 34 : Value)).toArray 29 (0, 0)) ∧ ∀ i (h : i < gs.length), TabAt w' w.heap.size gs[i] (tabP (i : Int))) ∧ Below w.heap.size w w')
/-- while they are made: the first k -/
structure RowsAtG (w0 w : World) (B g k : Nat) : Prop where
  hd : ∃ gs : List Nat, gs.length = k ∧ w.heap[g]? = some (.cells (gs.map (fun g => (.slice (some ⟨g, 0, none⟩) 34 34 : Value)) ++ List.replicate (14 - k) (Value.slice none 0 0)).toArray 29 (0, 0)) ∧ ∀ i (h : i < gs.length), TabAt w B gs[i] (tabP (i : Int))
  bel : Below B w0 w
  le : B ≤ g
theorem mk_rowsG (w : World) : (Instr.makeSlice 27 (.int .i64 14) (.int .i64 14)).run Try.prog w = .ok (.slice (some ⟨w.heap.size, 0, none⟩) 14 14) (w.alloc (.cells (List.replicate 14 (.slice none 0 0)).toArray 29)) := by
  kernel_rfl
theorem rows_any (w : World) : Calls Try.prog 12 #[] w (RowsOutG w) := by
  obtain ⟨b, hb⟩ : ∃ b, w.heap.size = b := ⟨_, rfl⟩
  obtain ⟨z, hz⟩ : ∃ z : Array Value, z = (List.replicate 14 (Value.slice none 0 0)).toArray := ⟨_, rfl⟩
  have hmk := fun w => mk_rowsG w
  rw [← hz] at hmk
  obtain ⟨w1, hw1⟩ : ∃ w1, Hid (w1 = w.alloc (.cells z 29)) := ⟨_, cover rfl⟩
  have H1 : Hid (RowsAtG w w1 b b 0) := cover ⟨⟨[], rfl, by rw [hw1.out, ← hb, hz]; exact heap_alloc_new _ _, fun i h => by simp at h⟩, by rw [hw1.out, ← hb]; exact (Below.refl _ _).alloc (Nat.le_refl _) _, Nat.le_refl _⟩
  have HB := cover hb
  clear hz
  go_enter Try.func12, Try.ntmps12
  go_upto_region 2 with fail
  rw [← hw1.out]
  clear hw1 hb hmk
  go_wp2
  go_loopw [6] (fun iv wr => ∃ k : Nat, k ≤ 14 ∧ iv = .int .i64 k ∧ Hid (RowsAtG w wr b b k)) (fun i _ => 14 - (intOf i).toNat)
  case atStart => exact ⟨0, by omega, rfl, H1⟩
  case round =>
    obtain ⟨k, hk, rfl, H⟩ := hrel
    by_cases hlt : k < 14
    · have s1 := cover (rowsOf_any (k : Int) wr)
      go_wp2_with fail
      refine s1.out.mono ?_
      rintro e w2 ⟨gr, rfl, H2⟩
      obtain ⟨gs, hgl, hgh, hgt⟩ := H.out.hd
      have hgh2 := (H2.out.2.1.block b (block_lt hgh)).trans hgh
      obtain ⟨x, q0⟩ := cell_ex hgh2 k (by simp; omega)
      have f0 := unfrozen hgh2 k
      have HN : Hid (RowsAtG w (w2.setCell ⟨b, k, none⟩ (.slice (some ⟨gr, 0, none⟩) 34 34)) b b (k + 1)) := cover (by
        have hbe : Below b w w2 := H.out.bel.trans (H2.out.2.1.mono (Nat.le_trans (Nat.le_of_lt (block_lt hgh)) (Nat.le_refl _)))
        refine ⟨⟨gs ++ [gr], by simp [hgl], ?_, fun i hi => ?_⟩, hbe.setCell (Nat.le_refl _) _, Nat.le_refl _⟩
        · rw [set_block hgh2, List.setIfInBounds_toArray, List.set_append_right _ _ (by simp [hgl]), show 14 - k = (14 - (k + 1)) + 1 by omega]
          simp [hgl, List.replicate_succ]
        · have ho : OnlyB b w2 (w2.setCell ⟨b, k, none⟩ (.slice (some ⟨gr, 0, none⟩) 34 34)) := (OnlyB.refl _ _).setCell _ _
          by_cases hi' : i < gs.length
          · rw [List.getElem_append_left hi']
            exact ((hgt i hi').below H2.out.2.1).other ho hgh2
          · have : i = k := by simp at hi; omega
            subst this
            rw [List.getElem_append_right (by omega)]
            simp only [hgl, Nat.sub_self, List.getElem_cons_zero]
            exact (H2.out.1.more (Nat.le_of_lt (block_lt hgh))).other ho hgh2)
      clear hgh hgh2 hgt
      go_wp2
      go_roundw
      case rel => exact ⟨k + 1, by omega, by go_num, HN⟩
      case measure => simp [intOf]; omega
    · obtain rfl : k = 14 := by omega
      go_wp2
      go_ret
      refine ⟨b, rfl, cover ⟨?_, by rw [HB.out]; exact H.out.bel⟩⟩
      obtain ⟨gs, hgl, hgh, hgt⟩ := H.out.hd
      rw [HB.out]
      exact ⟨gs, hgl, by rw [hgh]; simp, hgt⟩
end Go.Proofs.Ytlffhnplcgmhlaa
