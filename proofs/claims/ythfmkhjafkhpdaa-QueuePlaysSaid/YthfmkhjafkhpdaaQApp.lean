/- Appends in a region that draws its order: a row of the law's own grows, step by step. -/
import Derived.Test.YthfmkhjafkhpdaaQList
namespace Go.Proofs.Ythfmkhjafkhpdaa
open Go.RowKit
set_option linter.unusedVariables false

theorem append_exec {P : Program} {o : Oper} {a : Act} {w : World} (d s : Operand) (t t' : TypeId) (ho : o.op = .call { callee := .builtin .append, args := #[d, s], argTypes := #[t, t'] })
    (v u : Value) (hd : a.eval d = v) (hs : a.eval s = u) {v' : Value} {w' : World} (hr : (Builtin.append_ #[t, t'] o.type #[v, u]).run P w = .ok v' w') : (execOp a.eval o).run P w = .ok (.value v') w' := by
  simp [execOp, ho, resolve, invoke, builtin, hd, hs, hr, Result.andThen]
/-- an append whose outcome is known -/
def Grown (P : Program) (TS : TypeId) (w : World) (v u : Value) (n : Nat) (R : Option Addr → Nat → World → Prop) : Prop :=
  ∃ A' c' w', (∀ ty, (Builtin.append_ #[TS, TS] ty #[v, u]).run P w = .ok (.slice A' n c') w') ∧ R A' c' w'
theorem append_step {P : Program} {ops : Array Oper} {o : Oper} {a : Act} {w : World} {K : Act → World → Prop} {Q : Exit → Act → World → Prop} {E : Prop} (hg : o.guard = none) (d s : Operand) (t : TypeId) (ho : o.op = Op.call { callee := Callee.builtin Builtin.append, args := #[d, s], argTypes := #[t, t] })
    (v u : Value) (hd : a.eval d = v) (hs : a.eval s = u) {n : Nat} {R : Option Addr → Nat → World → Prop} (hG : Grown P t w v u n R) (hK : ∀ A' c' w', R A' c' w' → K (a.put o.dst (.slice A' n c')) w') :
    if Region.wanted o (yielded ops a.tmps) = true then Oper.wp P o a w K Q else E := by
  obtain ⟨A', c', w', hr, hR⟩ := hG
  rw [if_pos (by simp [Region.wanted, hg])]
  unfold Oper.wp
  rw [append_exec d s t t ho v u hd hs (hr o.type), Oper.upon_value]
  exact hK A' c' w' hR

/-- a row of integers, made since w2 -/
structure Own1 (w2 w : World) (A : Option Addr) (c : Nat) (xs : List Int) : Prop where
  ne : A ≠ none
  x : ∃ G, VRow 3 w G A c (xs.map (.int .i64)) ∧ ∀ g, G = some g → w2.heap.size ≤ g

theorem src_any {P : Program} {w : World} {TS TE TF : TypeId} {G : Option Nat} {A : Option Addr} {c : Nat} {vs : List Value} (ht : P.underlying TS = some (.slice TE)) (h : VRow TF w G A c vs) (h1 : ∀ v ∈ vs, v.oneCell' = true) : Src P 1 TS (.slice A vs.length c) vs.length vs w := by
  by_cases hn : A = none
  · rcases h.ex with ⟨_, rfl, rfl, rfl⟩ | ⟨g, o, cur, _, h2, _⟩
    · exact ⟨.inl ⟨_, ht⟩, fun w' => rfl, run_firstCells_none w 1 0 0 0, run_firstCells_none w.drew 1 0 0 0, rfl, by simp⟩
    · rw [hn] at h2; cases h2
  · exact src_row ht h h1 hn

variable {i0 : TypeInfo} (HI : Try.prog.info? 3 = some i0 ∧ i0.zero = some (Value.int IntKind.i64 0) ∧ i0.size = 1 ∧ i0.bytes = 8)
include HI
theorem grown_own {w2 W : World} {G : Option Nat} {A : Option Addr} {c : Nat} {xs news : List Int} (h : VRow 3 W G A c (xs.map (.int .i64))) (hG : ∀ g, G = some g → w2.heap.size ≤ g) (hb : Below w2.heap.size w2 W)
    {x : Value} {n : Nat} (hsrc : Src Try.prog 1 35 x n (news.map (.int .i64)) W) (hpos : A ≠ none ∨ 0 < n) (hbig : xs.length + n ≤ 100000) :
    Grown Try.prog 35 W (.slice A xs.length c) x (xs.length + n) (fun A' c' w' => Hid (Own1 w2 w' A' c' (xs ++ news)) ∧ (∀ k, G ≠ some k → k < W.heap.size → w'.heap[k]? = W.heap[k]?) ∧ Below w2.heap.size w2 w') := by
  obtain ⟨A3, c3, G3, w4, hrun, hv4, hT4, hN4, hne⟩ := append_vrow (P := Try.prog) (TS := 35) Try.underlying35 HI.1 HI.2.1 HI.2.2.1 HI.2.2.2 rfl h hsrc hpos (by simp; omega)
  rw [List.length_map] at hrun
  refine ⟨A3, c3, w4, hrun, cover ⟨hne, G3, by simpa using hv4, fun g hg => ?_⟩, fun k hk hk2 => hT4.block k hk2 (fun hm => hk (by simpa using hm)), hT4.below hb (fun i hi => hG i (by simpa using hi)) hb.size⟩
  rcases hN4 with rfl | ⟨g', rfl, hg'⟩
  · exact hG g hg
  · injection hg with e; have := hb.size; omega

variable {w2 : World} {G : Option Nat} {A' : Option Addr} {c' i : Nat} {xs : List Int} (hv : VRow 3 w2 G A' c' (xs.map (.int .i64))) (hi : i ≤ xs.length) (hx : xs.length ≤ 1000)
include hv hi hx
theorem ins_first {W : World} (hb : Below w2.heap.size w2 W) (s : Nat) (hs : W.heap[s]? = some (.cells #[] 3 (0, 0))) (hss : w2.heap.size ≤ s) :
    Grown Try.prog 35 W (.slice (some ⟨s, 0, none⟩) 0 0) (.slice A' i c') i (fun A5 c5 w5 => Hid (Own1 w2 w5 A5 c5 (xs.take i)) ∧ (∀ k, some s ≠ some k → k < W.heap.size → w5.heap[k]? = W.heap[k]?) ∧ Below w2.heap.size w2 w5) := by
  have h0 : VRow 3 W (some s) (some ⟨s, 0, none⟩) 0 (([] : List Int).map (.int .i64)) := ⟨.inr ⟨s, 0, #[], rfl, rfl, hs, by simp, by simp, by simp⟩⟩
  have h1 := (hv.take i).below hb
  rw [← List.map_take] at h1
  have hs1 := src_any (P := Try.prog) (TS := 35) Try.underlying35 h1 (by intro v hv; obtain ⟨y, _, rfl⟩ := List.mem_map.1 hv; rfl)
  have hl : ((xs.take i).map (Value.int .i64)).length = i := by simp; omega
  rw [hl] at hs1
  have h2 := grown_own HI (w2 := w2) h0 (fun g hg => by injection hg with e; omega) hb hs1 (.inl (by simp)) (by simp; omega)
  simpa using h2
theorem ins_A5 (x : Int) : Grown Try.prog 35 ((w2.alloc (.cells #[] 3)).alloc (.cells #[.int .i64 x] 3)).drew (.slice (some ⟨w2.heap.size, 0, none⟩) 0 0) (.slice A' i c') i
    (fun A5 c5 w5 => Hid (Own1 w2 w5 A5 c5 (xs.take i)) ∧ w5.cell? ⟨w2.heap.size + 1, 0, none⟩ = some (.int .i64 x) ∧ Below w2.heap.size w2 w5) := by
  obtain ⟨A5, c5, w5, hr, h1, h2, h3⟩ := ins_first HI hv hi hx (W := ((w2.alloc (.cells #[] 3)).alloc (.cells #[.int .i64 x] 3)).drew)
    ((((Below.refl _ _).alloc (Nat.le_refl _) _).alloc (by simp) _).drew) w2.heap.size (by show ((w2.heap.push (Obj.cells #[] 3)).push (Obj.cells #[.int .i64 x] 3))[w2.heap.size]? = _; simp [Array.getElem?_push]) (Nat.le_refl _)
  refine ⟨A5, c5, w5, hr, h1, ?_, h3⟩
  have h4 : w5.heap[w2.heap.size + 1]? = some (.cells #[.int .i64 x] 3 (0, 0)) := by
    rw [h2 _ (by intro e; injection e with e; omega) (by show _ < ((w2.heap.push (Obj.cells #[] 3)).push (Obj.cells #[.int .i64 x] 3)).size; rw [Array.size_push, Array.size_push]; omega)]
    show ((w2.heap.push (Obj.cells #[] 3)).push (Obj.cells #[.int .i64 x] 3))[w2.heap.size + 1]? = _
    rw [Array.getElem?_push, if_pos (by simp)]
  rw [cell_of_row _ _ _ _ _ _ h4]; rfl
theorem ins_C5 (x : Int) : Grown Try.prog 35 ((w2.alloc (.cells #[.int .i64 x] 3)).alloc (.cells #[] 3)).drew (.slice (some ⟨w2.heap.size + 1, 0, none⟩) 0 0) (.slice A' i c') i
    (fun A5 c5 w5 => Hid (Own1 w2 w5 A5 c5 (xs.take i)) ∧ w5.cell? ⟨w2.heap.size, 0, none⟩ = some (.int .i64 x) ∧ Below w2.heap.size w2 w5) := by
  obtain ⟨A5, c5, w5, hr, h1, h2, h3⟩ := ins_first HI hv hi hx (W := ((w2.alloc (.cells #[.int .i64 x] 3)).alloc (.cells #[] 3)).drew)
    ((((Below.refl _ _).alloc (Nat.le_refl _) _).alloc (by simp) _).drew) (w2.heap.size + 1) (by show ((w2.heap.push (Obj.cells #[.int .i64 x] 3)).push (Obj.cells #[] 3))[w2.heap.size + 1]? = _; rw [Array.getElem?_push, if_pos (by simp)]) (by omega)
  refine ⟨A5, c5, w5, hr, h1, ?_, h3⟩
  have h4 : w5.heap[w2.heap.size]? = some (.cells #[.int .i64 x] 3 (0, 0)) := by
    rw [h2 _ (by intro e; injection e with e; omega) (by show _ < ((w2.heap.push (Obj.cells #[.int .i64 x] 3)).push (Obj.cells #[] 3)).size; rw [Array.size_push, Array.size_push]; omega)]
    show ((w2.heap.push (Obj.cells #[.int .i64 x] 3)).push (Obj.cells #[] 3))[w2.heap.size]? = _
    simp [Array.getElem?_push]
  rw [cell_of_row _ _ _ _ _ _ h4]; rfl
theorem ins_B5 : Grown Try.prog 35 (w2.alloc (.cells #[] 3)).drew (.slice (some ⟨w2.heap.size, 0, none⟩) 0 0) (.slice A' i c') i
    (fun A5 c5 w5 => Hid (Own1 w2 w5 A5 c5 (xs.take i)) ∧ Below w2.heap.size w2 w5) := by
  obtain ⟨A5, c5, w5, hr, h1, h2, h3⟩ := ins_first HI hv hi hx (W := (w2.alloc (.cells #[] 3)).drew)
    (((Below.refl _ _).alloc (Nat.le_refl _) _).drew) w2.heap.size (by show (w2.heap.push (Obj.cells #[] 3))[w2.heap.size]? = _; simp) (Nat.le_refl _)
  exact ⟨A5, c5, w5, hr, h1, h3⟩
theorem ins_14 {W : World} {A : Option Addr} {c l : Nat} {ys : List Int} (h : Hid (Own1 w2 W A c ys)) (hb : Below w2.heap.size w2 W) (hl : ys.length = l) (hy : l ≤ 1001) :
    Grown Try.prog 35 W (.slice A l c) (.slice (if c' = i then A' else A'.map (·.add i)) (xs.length - i) (c' - i)) (l + (xs.length - i)) (fun A9 c9 w9 => Hid (Own1 w2 w9 A9 c9 (ys ++ xs.drop i)) ∧ Below w2.heap.size w2 w9) := by
  subst hl
  obtain ⟨hne, G9, h9, hg9⟩ := h.out
  have h1 := (hv.drop (k := i) (by simpa using hi)).below hb
  rw [← List.map_drop] at h1
  have hs1 := src_any (P := Try.prog) (TS := 35) Try.underlying35 h1 (by intro v hv; obtain ⟨y, _, rfl⟩ := List.mem_map.1 hv; rfl)
  have hl : ((xs.drop i).map (Value.int .i64)).length = xs.length - i := by simp
  rw [hl] at hs1
  obtain ⟨A5, c5, w5, hr, h1, h2, h3⟩ := grown_own HI (w2 := w2) h9 hg9 hb hs1 (.inl hne) (by omega)
  exact ⟨A5, c5, w5, hr, h1, h3⟩
omit hv hi hx
theorem ins_9 {W : World} {A : Option Addr} {c l s : Nat} {ys : List Int} {x : Int} (h : Hid (Own1 w2 W A c ys)) (hb : Below w2.heap.size w2 W) (hl : ys.length = l) (hy : l ≤ 1000) (hc : W.cell? ⟨s, 0, none⟩ = some (.int .i64 x)) :
    Grown Try.prog 35 W (.slice A l c) (.slice (some ⟨s, 0, none⟩) 1 1) (l + 1) (fun A9 c9 w9 => Hid (Own1 w2 w9 A9 c9 (ys ++ [x])) ∧ Below w2.heap.size w2 w9) := by
  subst hl
  obtain ⟨hne, G9, h9, hg9⟩ := h.out
  obtain ⟨A5, c5, w5, hr, h1, h2, h3⟩ := grown_own HI (w2 := w2) (news := [x]) h9 hg9 hb (src_one (TS := 35) Try.underlying35 s (.int .i64 x) hc rfl) (.inl hne) (by omega)
  exact ⟨A5, c5, w5, hr, h1, h3⟩
theorem ins_9b {W : World} {A : Option Addr} {c l : Nat} {ys : List Int} {x : Int} (h : Hid (Own1 w2 W A c ys)) (hb : Below w2.heap.size w2 W) (hl : ys.length = l) (hy : l ≤ 1000) :
    Grown Try.prog 35 (W.alloc (.cells #[.int .i64 x] 3)) (.slice A l c) (.slice (some ⟨W.heap.size, 0, none⟩) 1 1) (l + 1) (fun A9 c9 w9 => Hid (Own1 w2 w9 A9 c9 (ys ++ [x])) ∧ Below w2.heap.size w2 w9) := by
  obtain ⟨hne, G9, h9, hg9⟩ := h.out
  have hb3 : Below W.heap.size W (W.alloc (.cells #[.int .i64 x] 3)) := (Below.refl _ _).alloc (Nat.le_refl _) _
  refine ins_9 HI (cover ⟨hne, G9, h9.below hb3, hg9⟩) (hb.trans (hb3.mono hb.size)) hl hy ?_
  have := cell_one_new W (.int .i64 x) 3 0 _ rfl; rw [add_off] at this; exact this
end Go.Proofs.Ythfmkhjafkhpdaa
