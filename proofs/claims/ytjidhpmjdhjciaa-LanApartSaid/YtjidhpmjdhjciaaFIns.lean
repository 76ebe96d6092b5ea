/- slices.Insert ahead of the last one: in the row's room, or in a new row; the queue's Insert. -/
import Derived.Deep.RegionLaw
import Derived.Shelf.RegionOpenPlain
import Derived.Laws.Externs
import Derived.Test.YtjidhpmjdhjciaaFOps3
namespace Go.Proofs.Ytjidhpmjdhjciaa
open Go.RowKit
set_option linter.unusedVariables false

theorem copy_exec {P : Program} {o : Oper} {a : Act} {w : World} (d s : Operand) (t t' : TypeId) (ho : o.op = .call { callee := .builtin .copy, args := #[d, s], argTypes := #[t, t'] })
    (v u : Value) (hd : a.eval d = v) (hs : a.eval s = u) {v' : Value} {w' : World} (hr : (Builtin.copy_ #[t, t'] o.type #[v, u]).run P w = .ok v' w') : (execOp a.eval o).run P w = .ok (.value v') w' := by
  simp [execOp, ho, resolve, invoke, builtin, hd, hs, hr, Result.andThen]
theorem copy_to {P : Program} {ops : Array Oper} {rest : List Oper} {o : Oper} {a : Act} {w : World} {Q : Exit → Act → World → Prop} (hg : o.guard = none) (d s : Operand) (t t' : TypeId) (ho : o.op = .call { callee := .builtin .copy, args := #[d, s], argTypes := #[t, t'] })
    (v u : Value) (hd : a.eval d = v) (hs : a.eval s = u) {v' : Value} {w' : World} (hr : (Builtin.copy_ #[t, t'] o.type #[v, u]).run P w = .ok v' w') (h : wpList P ops Q rest (a.put o.dst v') w') : wpList P ops Q (o :: rest) a w :=
  run_to hg v' w' (copy_exec d s t t' ho v u hd hs hr) h
theorem copy_step {P : Program} {ops : Array Oper} {o : Oper} {a : Act} {w : World} {K : Act → World → Prop} {Q : Exit → Act → World → Prop} {E : Prop} (hg : o.guard = none) (d s : Operand) (t t' : TypeId) (ho : o.op = Op.call { callee := Callee.builtin Builtin.copy, args := #[d, s], argTypes := #[t, t'] })
    (v u : Value) (hd : a.eval d = v) (hs : a.eval s = u) {v' : Value} {w' : World} (hr : (Builtin.copy_ #[t, t'] o.type #[v, u]).run P w = .ok v' w') (hK : K (a.put o.dst v') w') :
    if Region.wanted o (yielded ops a.tmps) = true then Oper.wp P o a w K Q else E := by
  rw [if_pos (by simp [Region.wanted, hg])]
  unfold Oper.wp
  rw [copy_exec d s t t' ho v u hd hs hr, Oper.upon_value]
  exact hK

/-- one more in the midst of the row -/
def FMid (ps : List Nat) (i p : Nat) (G : Option Nat) (w : World) (e : Ending) (w' : World) : Prop :=
  ∃ A' c' G', e = .returned (.slice A' (ps.length + 1) c') ∧ PRow 95 w' G' A' c' (ps.take i ++ p :: ps.drop i) ∧ Turned G.toList w w' ∧ Next w G G'

theorem mid_at {ps : List Nat} {i p k y : Nat} (hi : i ≤ ps.length) (hk : (ps.take i ++ p :: ps.drop i)[k]? = some y) : (k < i ∧ ps[k]? = some y) ∨ (k = i ∧ y = p) ∨ (i < k ∧ ps[k - 1]? = some y) := by
  have hl : (ps.take i).length = i := by rw [List.length_take]; omega
  rcases Nat.lt_trichotomy k i with h | h | h
  · rw [List.getElem?_append_left (by omega), List.getElem?_take] at hk
    rw [if_pos h] at hk; exact .inl ⟨h, hk⟩
  · subst h
    rw [List.getElem?_append_right (by omega), hl] at hk
    simp at hk; exact .inr (.inl ⟨rfl, hk.symm⟩)
  · rw [List.getElem?_append_right (by omega), hl] at hk
    obtain ⟨j, hj⟩ : ∃ j, k - i = j + 1 := ⟨k - i - 1, by omega⟩
    rw [hj, List.getElem?_cons_succ, List.getElem?_drop] at hk
    exact .inr (.inr ⟨h, by rwa [show i + j = k - 1 by omega] at hk⟩)

set_option maxRecDepth 100000 in
set_option maxHeartbeats 4000000 in
theorem insMid_room {w : World} {G : Option Nat} {A : Option Addr} {c v p i : Nat} {ps : List Nat} (h : PRow 95 w G A c ps) (hi : i < ps.length) (hroom : ps.length + 1 ≤ c) (hbig : ps.length ≤ 1000000) (hv : w.heap[v]? = some (.cells #[ptr p] 95 (0, 0))) (hvG : G ≠ some v) :
    Calls Try.prog 59 #[.slice A ps.length c, .int .i64 i, .slice (some ⟨v, 0, none⟩) 1 1] w (FMid ps i p G w) := by
  rcases h.ex with ⟨_, _, _, rfl⟩ | ⟨g, o, cur, rfl, rfl, hcur, hsz, hle, hat⟩
  · simp at hi
  have hvg : v ≠ g := fun e => hvG (by rw [e])
  have hsz1 : (Try.prog.info? 95).map (·.size) = some 1 := by kernel_rfl
  obtain ⟨cs, hcs⟩ : ∃ cs, cs = (ps.drop i).map ptr := ⟨_, rfl⟩
  have hcl : cs.length = ps.length - i := by rw [hcs]; simp
  have h1c : ∀ x ∈ cs, x.oneCell' = true := fun x hx => by rw [hcs] at hx; obtain ⟨_, _, rfl⟩ := List.mem_map.1 hx; rfl
  have hsome : ∀ (cur' : Array Value) (w' : World), w'.heap[g]? = some (.cells cur' 95 (0, 0)) → cur'.size = cur.size → ∀ j, j < ps.length + 1 → (w'.cell? ⟨g, o + j, none⟩).isSome = true ∧ w'.frozen? ⟨g, o + j, none⟩ = false := fun cur' w' hh hs j hj => by
    refine ⟨by rw [cell_of_row w' g _ cur' _ _ hh, Array.getElem?_eq_getElem (by omega)]; rfl, by simp [World.frozen?, hh]⟩
  obtain ⟨w1, hw1⟩ : ∃ w1, w1 = w.drew.setCells g (o + (i + 1)) cs := ⟨_, rfl⟩
  have hcp1 : ∀ ty dc sc, (Builtin.copy_ #[90, 90] ty #[.slice (some ⟨g, o + (i + 1), none⟩) (ps.length - i) dc, .slice (some ⟨g, o + i, none⟩) (ps.length + 1 - i) sc]).run Try.prog w.drew = .ok (goInt cs.length) w1 := fun ty dc sc => by
    rw [hw1]
    exact run_copy_cells w.drew _ _ ty 95 g (o + (i + 1)) (ps.length - i) dc ⟨g, o + i, none⟩ (ps.length + 1 - i) sc cs Try.underlying90 hsz1 (by rw [hcl]; simp only [Nat.min_def]; split <;> omega)
      (fun j x hj => by
        rw [add_off, Nat.add_assoc]
        show w.cell? _ = _
        rw [hcs, List.getElem?_map, List.getElem?_drop] at hj
        obtain ⟨y, hy, rfl⟩ := Option.map_eq_some_iff.1 hj
        rw [cell_of_row w g _ cur _ _ hcur]; exact hat _ _ hy)
      (fun j hj => by rw [Nat.add_assoc]; exact (hsome cur w.drew hcur rfl _ (by omega)).1) (fun j hj => by rw [Nat.add_assoc]; exact (hsome cur w.drew hcur rfl _ (by omega)).2) h1c
  have hcur1 : w1.heap[g]? = some (.cells (setAll cur (o + (i + 1)) cs) 95 (0, 0)) := by rw [hw1]; exact setCells_block _ _ _ _ hcur
  have hv1 : w1.cell? ⟨v, 0, none⟩ = some (ptr p) := by
    rw [cell_of_row w1 v 0 #[ptr p] 95 (0, 0) (by rw [hw1, setCells_other hvg]; exact hv)]; rfl
  have hcp2 : ∀ (W : World), W.heap = w1.heap → ∀ ty dc, (Builtin.copy_ #[90, 90] ty #[.slice (some ⟨g, o + i, none⟩) (ps.length + 1 - i) dc, .slice (some ⟨v, 0, none⟩) 1 1]).run Try.prog W = .ok (goInt 1) (W.setCells g (o + i) [ptr p]) := fun W hW ty dc =>
    run_copy_cells W _ _ ty 95 g (o + i) (ps.length + 1 - i) dc ⟨v, 0, none⟩ 1 1 [ptr p] Try.underlying90 hsz1 (by simp only [List.length_singleton, Nat.min_def]; split <;> omega)
      (fun j x hj => by
        rcases j with _ | j
        · simp at hj; subst hj; rw [add_off]; rw [← hv1]; simp only [World.cell?, hW]
        · simp at hj)
      (fun j hj => by simp at hj; subst hj; exact (hsome _ W (by rw [hW]; exact hcur1) (setAll_size _ _ _) i (by omega)).1) (fun j hj => by simp at hj; subst hj; exact (hsome _ W (by rw [hW]; exact hcur1) (setAll_size _ _ _) i (by omega)).2) (fun x hx => by simp at hx; subst hx; rfl)
  have hov : ∀ lb cb, (callFunc 67 #[.slice (some ⟨v, 0, none⟩) 1 1, .slice (some ⟨g, o + (i + 1), none⟩) lb cb]).run Try.prog w = .ok (.value (.bool false)) w := fun lb cb => by
    rw [run_callFunc_extern Try.func67 (by kernel_rfl) (by kernel_rfl) (by kernel_rfl) (e := Extern.SlicesOverlaps.overlaps #[90, 90] #[4]) (by kernel_rfl),
      Lib.run_overlaps_apart w 90 4 95 Try.underlying90 1 Try.sizeOf95 ⟨v, 0, none⟩ ⟨g, o + (i + 1), none⟩ 1 1 lb cb hvg 95 95 1 cur.size
        (by simp [World.shape?, hv]) (by simp [World.shape?, hcur]) (by omega) (by simp [World.frozen?, hv]) (by simp [World.frozen?, hv])]
    rfl
  have hfin : ∀ W : World, W.heap = w1.heap → W.os = w1.os → W.tape = w1.tape → W.output = w1.output → Hid (FMid ps i p (some g) w (.returned (.slice (some ⟨g, o, none⟩) (ps.length + 1) c)) (W.setCells g (o + i) [ptr p])) := fun W hW h1 h2 h3 => by
    have hT1 : Turned [g] w w1 := by rw [hw1]; exact ((Turned.refl _ _).drew).setCells (.inl (by simp)) _ _
    have hTW : Turned [g] w W := ⟨h1.trans hT1.os, h2.trans hT1.tape, h3.trans hT1.output, by rw [hW]; exact hT1.size, fun k hk hn => by rw [hW]; exact hT1.block k hk hn⟩
    refine cover ⟨_, _, some g, rfl, ⟨.inr ⟨g, o, _, rfl, rfl, setCells_block _ _ _ _ (by rw [hW]; exact hcur1), ?_, ?_, ?_⟩⟩, hTW.setCells (.inl (by simp)) _ _, .inl rfl⟩
    · rw [setAll_size, setAll_size]; exact hsz
    · simp; omega
    · intro k y hk
      rcases mid_at (by omega) hk with ⟨h4, h5⟩ | ⟨rfl, rfl⟩ | ⟨h4, h5⟩
      · rw [setAll_out _ _ _ _ (by omega), setAll_out _ _ _ _ (by omega)]; exact hat k y h5
      · have := setAll_in [ptr y] (setAll cur (o + (k + 1)) cs) (o + k) 0 (by rw [setAll_size]; simp; omega) (by simp)
        simpa using this
      · rw [setAll_out _ _ _ _ (by simp; omega)]
        have hlt := (List.getElem?_eq_some_iff.1 h5).1
        have := setAll_in cs cur (o + (i + 1)) (k - (i + 1)) (by omega) (by omega)
        rw [show o + (i + 1) + (k - (i + 1)) = o + k by omega] at this
        rw [this, hcs, List.getElem?_map, List.getElem?_drop, show i + (k - (i + 1)) = k - 1 by omega, h5]; rfl
  have HF := cover hfin
  clear hfin
  have mixed : Try.prog.follows .mixedOrders = true := by kernel_rfl
  have hz2 : ¬ ((i : Int) = (ps.length : Int)) := by omega
  have hw2 : IntKind.i64.wrap ((i : Int) + 1) = (i : Int) + 1 := by rw [IntKind.wrap_i64]; omega
  have hw3 : IntKind.i64.wrap ((ps.length : Int) + 1) = (ps.length : Int) + 1 := by rw [IntKind.wrap_i64]; omega
  have hb1 : (0 : Int) ≤ (i : Int) + 1 := by omega
  have htn : ((i : Int) + 1).toNat = i + 1 := by omega
  have htn2 : ((ps.length : Int) + 1).toNat = ps.length + 1 := by omega
  have hb2 : ¬ (c = i + 1) := by omega
  have hb3 : (i : Int) ≤ (ps.length : Int) := by omega
  have hb4 : ¬ (c = i) := by omega
  have hb5 : (i : Int) + 1 ≤ (ps.length : Int) + 1 := by omega
  have hb6 : ¬ ((c : Int) < (ps.length : Int) + 1) := by omega
  have hb7 : (ps.length : Int) + 1 ≤ (c : Int) := by omega
  have hb8 : (i : Int) ≤ (ps.length : Int) + 1 := by omega
  clear h hcur hsz hle hat hsome h1c hv hvG hcs hcur1 hv1 hcl hsz1 hw1
  generalize ps.length = n at hcp1 hcp2 HF hz2 hw3 htn2 hb3 hb5 hb6 hb7 hb8 ⊢
  generalize hP : FMid ps i p (some g) w = Post at HF ⊢
  clear hP
  go_enter Try.func59, Try.ntmps59
  go_wp2_with (simp only [hov])
  go_region_law_o (refine copy_step rfl _ _ 90 90 rfl _ _ (by simp [Act.eval, Act.put]) (by simp [Act.eval, Act.put]) (hcp1 _ _ _) ?_)
  go_wp2_with (at_builtin; refine copy_to rfl _ _ 90 90 rfl _ _ rfl rfl (hcp2 _ rfl _ _) ?_)
  exact (HF.out _ rfl rfl rfl rfl).out

set_option maxRecDepth 100000 in
set_option maxHeartbeats 4000000 in
theorem insMid_grow {w : World} {G : Option Nat} {A : Option Addr} {c v p i : Nat} {ps : List Nat} (h : PRow 95 w G A c ps) (hi : i < ps.length) (hroom : c < ps.length + 1) (hbig : ps.length ≤ 1000000) (hv : w.heap[v]? = some (.cells #[ptr p] 95 (0, 0))) :
    Calls Try.prog 59 #[.slice A ps.length c, .int .i64 i, .slice (some ⟨v, 0, none⟩) 1 1] w (FMid ps i p G w) := by
  rcases h.ex with ⟨_, _, _, rfl⟩ | ⟨g, o, cur, rfl, rfl, hcur, hsz, hle, hat⟩
  · simp at hi
  obtain ⟨i0, hi0, hz0, hz1, hz2⟩ := info_parts F_info
  have hsz1 : (Try.prog.info? 95).map (·.size) = some 1 := by rw [hi0]; simp [hz1]
  obtain ⟨cs, hcs⟩ : ∃ cs, cs = (ps.drop i).map ptr := ⟨_, rfl⟩
  have hcl : cs.length = ps.length - i := by rw [hcs]; simp
  have h1c : ∀ x ∈ cs, x.oneCell' = true := fun x hx => by rw [hcs] at hx; obtain ⟨_, _, rfl⟩ := List.mem_map.1 hx; rfl
  obtain ⟨hn, hhn⟩ : ∃ hn, hn = w.heap.size := ⟨_, rfl⟩
  have hgl := block_lt hcur
  have hvl := block_lt hv
  have hold : (Builtin.firstCells i0.size i (.slice (some ⟨g, o, none⟩) i c)).run Try.prog w.drew = .ok ((ps.take i).map ptr).toArray w.drew := by
    rw [hz1]
    exact run_firstCells_some w.drew 1 i ⟨g, o, none⟩ i c ((ps.take i).map ptr) (by rw [List.length_map, List.length_take]; omega) (fun j x hj => by
      rw [add_off]
      show w.cell? _ = _
      rw [List.getElem?_map, List.getElem?_take] at hj
      split at hj
      · obtain ⟨y, hy, rfl⟩ := Option.map_eq_some_iff.1 hj
        rw [cell_of_row w g _ cur _ _ hcur]; exact hat _ _ hy
      · cases hj)
  have hkk : (ps.length : Int) + 1 - (i : Int) = ((ps.length + 1 - i : Nat) : Int) := by omega
  have hik : i + (ps.length + 1 - i) = ps.length + 1 := by omega
  have hrz := fun ty => Lib.run_append_grow_zeros w 90 3 ty 95 i0 _ .i64 .i64 Try.underlying90 Try.underlying3 hi0 hz0 (some ⟨g, o, none⟩) i c ((ps.take i).map ptr) hold (ps.length + 1 - i) (by omega) (by omega) (by omega) (by omega) (by rw [hz2]; omega) (by rw [hz2, hik]; exact growslice_fits hroom (by omega))
  rw [hik] at hrz
  have hge := grownCap_ge w (ps.length + 1) c 95
  have hG63 : grownCap w (ps.length + 1) c 95 ≤ 9223372036854775807 := by
    have := grownCap_le_maxLen w (ps.length + 1) c 95 (by unfold maxLen; omega)
    unfold maxLen at this; omega
  obtain ⟨C, hC⟩ : ∃ C, C = grownCap w (ps.length + 1) c 95 := ⟨_, rfl⟩
  rw [← hC] at hrz hge hG63
  obtain ⟨ROW, hROW⟩ : ∃ ROW : Array Value, ROW = ((ps.take i).map ptr).toArray ++ Builtin.zeroCells (Value.pointer none).cells (ps.length + 1 - i) ++ Builtin.zeroCells (Value.pointer none).cells (C - (ps.length + 1)) := ⟨_, rfl⟩
  rw [← hROW, ← hhn] at hrz
  have hRs : ROW.size = C := by rw [hROW]; simp [Builtin.zeroCells, Value.cells]; omega
  have hRat : ∀ k y, k < i → ps[k]? = some y → ROW[k]? = some (ptr y) := fun k y hk hy => by
    rw [hROW, Array.getElem?_append_left (by simp [Builtin.zeroCells, Value.cells]; omega), Array.getElem?_append_left (by simp; omega)]
    simp [hk, hy]
  obtain ⟨w1, hw1⟩ : ∃ w1, w1 = w.drew.alloc (.cells ROW 95) := ⟨_, rfl⟩
  rw [← hw1] at hrz
  have h1n : w1.heap[hn]? = some (.cells ROW 95 (0, 0)) := by rw [hw1, hhn]; exact heap_alloc_new w.drew _
  have h1o : ∀ k, k < hn → w1.heap[k]? = w.heap[k]? := fun k hk => by rw [hw1]; exact Below.heap_alloc w.drew _ _ (by rw [← show w.heap.size = w.drew.heap.size from rfl]; omega)
  have hsome : ∀ (cur' : Array Value) (w' : World), w'.heap[hn]? = some (.cells cur' 95 (0, 0)) → cur'.size = C → ∀ j, j < ps.length + 1 → (w'.cell? ⟨hn, j, none⟩).isSome = true ∧ w'.frozen? ⟨hn, j, none⟩ = false := fun cur' w' hh hs j hj => by
    refine ⟨by rw [cell_of_row w' hn _ cur' _ _ hh, Array.getElem?_eq_getElem (by omega)]; rfl, by simp [World.frozen?, hh]⟩
  obtain ⟨w2, hw2⟩ : ∃ w2, w2 = w1.setCells hn i [ptr p] := ⟨_, rfl⟩
  have hcp1 : ∀ ty dc, (Builtin.copy_ #[90, 90] ty #[.slice (some ⟨hn, i, none⟩) (ps.length + 1 - i) dc, .slice (some ⟨v, 0, none⟩) 1 1]).run Try.prog w1 = .ok (goInt 1) w2 := fun ty dc => by
    rw [hw2]
    exact run_copy_cells w1 _ _ ty 95 hn i (ps.length + 1 - i) dc ⟨v, 0, none⟩ 1 1 [ptr p] Try.underlying90 hsz1 (by simp only [List.length_singleton, Nat.min_def]; split <;> omega)
      (fun j x hj => by
        rcases j with _ | j
        · simp at hj; subst hj; rw [add_off, cell_of_row w1 v _ #[ptr p] 95 (0, 0) (by rw [h1o v (by omega)]; exact hv)]; rfl
        · simp at hj)
      (fun j hj => by simp at hj; subst hj; exact (hsome _ w1 h1n hRs i (by omega)).1) (fun j hj => by simp at hj; subst hj; exact (hsome _ w1 h1n hRs i (by omega)).2) (fun x hx => by simp at hx; subst hx; rfl)
  have h2n : w2.heap[hn]? = some (.cells (setAll ROW i [ptr p]) 95 (0, 0)) := by rw [hw2]; exact setCells_block _ _ _ _ h1n
  have h2o : ∀ k, k < hn → w2.heap[k]? = w.heap[k]? := fun k hk => by rw [hw2, setCells_other (by omega)]; exact h1o k hk
  have hcp2 : ∀ ty dc sc, (Builtin.copy_ #[90, 90] ty #[.slice (some ⟨hn, i + 1, none⟩) (ps.length - i) dc, .slice (some ⟨g, o + i, none⟩) (ps.length - i) sc]).run Try.prog w2.drew = .ok (goInt cs.length) (w2.drew.setCells hn (i + 1) cs) := fun ty dc sc =>
    run_copy_cells w2.drew _ _ ty 95 hn (i + 1) (ps.length - i) dc ⟨g, o + i, none⟩ (ps.length - i) sc cs Try.underlying90 hsz1 (by rw [hcl]; simp only [Nat.min_def]; split <;> omega)
      (fun j x hj => by
        rw [add_off, Nat.add_assoc]
        show w2.cell? _ = _
        rw [hcs, List.getElem?_map, List.getElem?_drop] at hj
        obtain ⟨y, hy, rfl⟩ := Option.map_eq_some_iff.1 hj
        rw [cell_of_row w2 g _ cur _ _ (by rw [h2o g (by omega)]; exact hcur)]; exact hat _ _ hy)
      (fun j hj => (hsome _ w2.drew h2n (by rw [setAll_size]; exact hRs) _ (by omega)).1) (fun j hj => (hsome _ w2.drew h2n (by rw [setAll_size]; exact hRs) _ (by omega)).2) h1c
  have hfin : Hid (FMid ps i p (some g) w (.returned (.slice (some ⟨hn, 0, none⟩) (ps.length + 1) C)) (w2.drew.setCells hn (i + 1) cs)) := by
    have hT1 : Turned [g] w w1 := by rw [hw1]; exact ((Turned.refl _ _).drew).alloc _
    have hT2 : Turned [g] w w2 := by rw [hw2]; exact hT1.setCells (.inr (by omega)) _ _
    refine cover ⟨_, _, some hn, rfl, ⟨.inr ⟨hn, 0, _, rfl, rfl, setCells_block _ w2.drew _ _ h2n, ?_, ?_, ?_⟩⟩, hT2.drew.setCells (.inr (by omega)) _ _, .inr ⟨hn, rfl, by omega⟩⟩
    · rw [setAll_size, setAll_size, hRs]; omega
    · simp; omega
    · intro k y hk
      rw [Nat.zero_add]
      rcases mid_at (by omega) hk with ⟨h4, h5⟩ | ⟨rfl, rfl⟩ | ⟨h4, h5⟩
      · rw [setAll_out _ _ _ _ (by omega), setAll_out _ _ _ _ (by omega)]; exact hRat k y h4 h5
      · rw [setAll_out _ _ _ _ (by omega)]
        have := setAll_in [ptr y] ROW k 0 (by simp; omega) (by simp)
        simpa using this
      · have hlt := (List.getElem?_eq_some_iff.1 h5).1
        have := setAll_in cs (setAll ROW i [ptr p]) (i + 1) (k - (i + 1)) (by rw [setAll_size]; omega) (by omega)
        rw [show i + 1 + (k - (i + 1)) = k by omega] at this
        rw [this, hcs, List.getElem?_map, List.getElem?_drop, show i + (k - (i + 1)) = k - 1 by omega, h5]; rfl
  have mixed : Try.prog.follows .mixedOrders = true := by kernel_rfl
  have hw3' : IntKind.i64.wrap ((ps.length : Int) + 1) = (ps.length : Int) + 1 := by rw [IntKind.wrap_i64]; omega
  have hw4 : IntKind.i64.wrap ((ps.length : Int) + 1 - (i : Int)) = (ps.length : Int) + 1 - (i : Int) := by rw [IntKind.wrap_i64]; omega
  have hw5 : IntKind.i64.wrap ((i : Int) + 1) = (i : Int) + 1 := by rw [IntKind.wrap_i64]; omega
  have hz2' : ¬ ((i : Int) = (ps.length : Int)) := by omega
  have hb1 : (0 : Int) ≤ (i : Int) + 1 := by omega
  have htn : ((i : Int) + 1).toNat = i + 1 := by omega
  have hb2 : ¬ (C = i + 1) := by omega
  have hb3 : (i : Int) ≤ (ps.length : Int) := by omega
  have hb4 : ¬ (c = i) := by omega
  have hb5 : (i : Int) + 1 ≤ (ps.length : Int) + 1 := by omega
  have hb6 : (c : Int) < (ps.length : Int) + 1 := by omega
  have hb7 : ¬ (C = i) := by omega
  have hb8 : (i : Int) ≤ (ps.length : Int) + 1 := by omega
  have hb9 : (i : Int) ≤ (c : Int) := by omega
  rw [← hkk] at hrz
  clear h hcur hsz hat hsome h1c hv hcs hcl hsz1 hw1 hw2 h1n h2n h1o h2o hROW hRs hRat hC hold hkk hik hhn hi0 hz0 hz1 hz2 hgl hvl
  generalize ps.length = n at hrz hcp1 hcp2 hfin hz2' hw3' hw4 hb3 hb5 hb6 hb8 ⊢
  generalize hP : FMid ps i p (some g) w = Post at hfin ⊢
  clear hP
  go_enter Try.func59, Try.ntmps59
  go_wp2_with (first
    | (at_builtin; refine Lib.wpList_append_run _ rfl _ _ _ _ rfl _ _ rfl rfl _ _ (hrz _) ?_)
    | (at_builtin; refine copy_to rfl _ _ 90 90 rfl _ _ rfl rfl (hcp1 _ _) ?_))
  go_region_law_o (refine copy_step rfl _ _ 90 90 rfl _ _ (by simp [Act.eval, Act.put]) (by simp [Act.eval, Act.put]) (hcp2 _ _ _) ?_)
  go_wp2
  exact hfin.out

theorem insMid_any {w : World} {G : Option Nat} {A : Option Addr} {c v p i : Nat} {ps : List Nat} (h : PRow 95 w G A c ps) (hi : i < ps.length) (hbig : ps.length ≤ 1000000) (hv : w.heap[v]? = some (.cells #[ptr p] 95 (0, 0))) (hvG : G ≠ some v) :
    Calls Try.prog 59 #[.slice A ps.length c, .int .i64 i, .slice (some ⟨v, 0, none⟩) 1 1] w (FMid ps i p G w) := by
  by_cases hroom : ps.length + 1 ≤ c
  · exact insMid_room h hi hroom hbig hv hvG
  · exact insMid_grow h hi (by omega) hbig hv

end Go.Proofs.Ytjidhpmjdhjciaa
