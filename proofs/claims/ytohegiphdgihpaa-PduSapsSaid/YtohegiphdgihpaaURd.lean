/- What read hands back. -/
import Derived.Deep.CutBlock
import Derived.Deep.DeepCutAuto
import Derived.Test.YtohegiphdgihpaaFHeld
import Derived.Test.YtohegiphdgihpaaONum
import Derived.Test.YtohegiphdgihpaaUIdx
import Derived.Test.YtohegiphdgihpaaUSame
namespace Go.Proofs.Ytohegiphdgihpaa
open Go.RowKit
set_option linter.unusedVariables false
set_option linter.unusedSimpArgs false

/-- one number of one byte: what it is, what is left, has it failed? -/
def num1 : List Int → Bool → Int × List Int × Bool
  | x :: l, false => (x, l, false)
  | l, _ => (0, l, true)
theorem num1_nil (f : Bool) : num1 [] f = (0, [], true) := rfl
theorem num1_fail (l : List Int) : num1 l true = (0, l, true) := by cases l <;> rfl
theorem num1_bd {l : List Int} (f : Bool) (h : Bts l) : (0 ≤ (num1 l f).1 ∧ (num1 l f).1 ≤ 255) ∧ Bts (num1 l f).2.1 := by
  cases l with
  | nil => exact ⟨show (0 : Int) ≤ 0 ∧ (0 : Int) ≤ 255 by decide, h⟩
  | cons x l => cases f
                · exact ⟨h x (by simp), fun y hy => h y (List.mem_cons_of_mem x hy)⟩
                · exact ⟨show (0 : Int) ≤ 0 ∧ (0 : Int) ≤ 255 by decide, h⟩
theorem num1_le (l : List Int) (f : Bool) : (num1 l f).2.1.length ≤ l.length := by
  cases l with
  | nil => exact Nat.le_refl _
  | cons x l => cases f
                · exact Nat.le_succ _
                · exact Nat.le_refl _
theorem num1_any (B g : Nat) (l : List Int) (f : Bool) (w : World) (hr : Rd 67 w B g l f) (hb : Bts l) (hmax : l.length ≤ 140737488355328) :
    Calls Try.prog 36 #[.pointer (some ⟨g, 0, none⟩), .int .i64 1] w fun e w' => e = .returned (.int .i64 (num1 l f).1) ∧ Rd 67 w' B g (num1 l f).2.1 (num1 l f).2.2 ∧ OnlyB g w w' := by
  cases f with
  | true =>
    rw [num1_fail]
    exact num_no B g l true 1 w hr (by simp [okR])
  | false =>
    cases l with
    | nil => exact num_no B g [] false 1 w hr (by simp [okR])
    | cons x l =>
      refine (num_yes B g 1 (x :: l) w hr hb (by simp) (by decide) (by decide) hmax).mono ?_
      rintro e w' ⟨he, h1, h2⟩
      exact ⟨by rw [he]; simp [num1, getv], h1, h2⟩

/-- format by the control's first byte -/
def formI (n : Int) : Int := if n % 4 = 1 then 1 else if n % 4 = 3 then 2 else 0
theorem and_three {n : Int} (h0 : 0 ≤ n) (h1 : n ≤ 255) : bits BinOp.and IntKind.i64 n 3 = n % 4 := by
  have h : ∀ m : Nat, m < 256 → bits BinOp.and IntKind.i64 (m : Int) 3 = (m : Int) % 4 := by decide +kernel
  obtain ⟨m, rfl⟩ : ∃ m : Nat, n = (m : Int) := ⟨n.toNat, by omega⟩
  exact h m (by omega)
theorem formOf_any (n : Int) (w : World) (h0 : 0 ≤ n) (h1 : n ≤ 255) : Calls Try.prog 38 #[.int .i64 n] w fun e w' => e = .returned (.int .i64 (formI n)) ∧ w' = w := by
  have ha := and_three h0 h1
  by_cases a1 : n % 4 = 1
  · have HF : Hid (formI n = 1) := cover (by unfold formI; rw [if_pos a1])
    rw [a1] at ha
    clear a1
    go_enter Try.func38, Try.ntmps38
    go_wp2
    go_ret
    exact ⟨ret_int HF.out.symm, rfl⟩
  · by_cases a3 : n % 4 = 3
    · have HF : Hid (formI n = 2) := cover (by unfold formI; rw [if_neg a1, if_pos a3])
      rw [a3] at ha
      clear a1 a3
      go_enter Try.func38, Try.ntmps38
      go_wp2
      go_ret
      exact ⟨ret_int HF.out.symm, rfl⟩
    · have HF : Hid (formI n = 0) := cover (by unfold formI; rw [if_neg a1, if_neg a3])
      obtain ⟨m, hm⟩ : ∃ m, n % 4 = m := ⟨_, rfl⟩
      rw [hm] at ha a1 a3
      clear hm
      go_enter Try.func38, Try.ntmps38
      go_wp2
      go_ret
      exact ⟨ret_int HF.out.symm, rfl⟩
theorem clear_one {n : Int} (h0 : 0 ≤ n) (h1 : n ≤ 255) : bits BinOp.andNot IntKind.i64 n 1 = n - n % 2 := by
  have h : ∀ m : Nat, m < 256 → bits BinOp.andNot IntKind.i64 (m : Int) 1 = (m : Int) - (m : Int) % 2 := by decide +kernel
  obtain ⟨m, rfl⟩ : ∃ m : Nat, n = (m : Int) := ⟨n.toNat, by omega⟩
  exact h m (by omega)
theorem bit_one_at {n : Int} (h0 : 0 ≤ n) (h1 : n ≤ 255) : (bits BinOp.and IntKind.i64 n 1 != 0) = decide (n % 2 = 1) := by
  have h : ∀ m : Nat, m < 256 → (bits BinOp.and IntKind.i64 (m : Int) 1 != 0) = decide ((m : Int) % 2 = 1) := by decide +kernel
  obtain ⟨m, rfl⟩ : ∃ m : Nat, n = (m : Int) := ⟨n.toNat, by omega⟩
  exact h m (by omega)
theorem bit_16_at {n : Int} (h0 : 0 ≤ n) (h1 : n ≤ 255) : (bits BinOp.and IntKind.i64 n 16 != 0) = decide (bit16 n = 1) ∧ bits BinOp.andNot IntKind.i64 n 16 = n - 16 * bit16 n := by
  have h : ∀ m : Nat, m < 256 → (bits BinOp.and IntKind.i64 (m : Int) 16 != 0) = decide (bit16 (m : Int) = 1) ∧ bits BinOp.andNot IntKind.i64 (m : Int) 16 = (m : Int) - 16 * bit16 (m : Int) := by decide +kernel
  obtain ⟨m, rfl⟩ : ∃ m : Nat, n = (m : Int) := ⟨n.toNat, by omega⟩
  exact h m (by omega)

/-- while read goes on: the reader at g, its result's block a, the unit at b, the code at d -/
structure RS (w0 w : World) (B g b d : Nat) (l : List Int) (f : Bool) (q : PV) (v : Value) (k : Int) : Prop where
  rd : Rd 67 w B g l f
  only : OnlyB g w0 w
  res : w.heap[w0.heap.size]? = some (.cells zp 25 (0, 0))
  unit : w.heap[b]? = some (.cells #[.int .i64 q.to, .int .i64 q.frm, .bool q.resp, .int .i64 q.form, .int .i64 q.kind, .int .i64 q.ns, .int .i64 q.nr, .bool q.poll, v] 25 (0, 0))
  code : w.heap[d]? = some (.cells #[.int .i64 k] 3 (0, 0))
  lt1 : g < w0.heap.size
  lt2 : w0.heap.size < b
  lt3 : b < d
section
variable {w0 w w' : World} {B g b d : Nat} {l l' : List Int} {f f' : Bool} {q q' : PV} {v v' : Value} {k k' : Int}
theorem RS.lt4 (h : RS w0 w B g b d l f q v k) : d < w.heap.size := block_lt h.code
theorem RS.num (h : RS w0 w B g b d l f q v k) (hr : Rd 67 w' B g l' f') (ho : OnlyB g w w') : RS w0 w' B g b d l' f' q v k := by
  have a1 := h.lt1; have a2 := h.lt2; have a3 := h.lt3; have a4 := h.lt4
  refine ⟨hr, h.only.trans ho, (ho.block _ (by omega) (fun e => by injection e with e; omega)).trans h.res, (ho.block _ (by omega) (fun e => by injection e with e; omega)).trans h.unit, (ho.block _ (by omega) (fun e => by injection e with e; omega)).trans h.code, a1, a2, a3⟩
theorem RS.below (h : RS w0 w B g b d l f q v k) (hb : Below w.heap.size w w') : RS w0 w' B g b d l f q v k :=
  h.num (h.rd.below hb (by have := h.lt1; have := h.lt2; have := h.lt3; have := h.lt4; omega)) (OnlyB.of_below hb)
/-- a store into a block of read's own -/
theorem RS.stored (h : RS w0 w B g b d l f q v k) (p : Addr) (x : Value) (hp : p.block = b ∨ p.block = d) : Rd 67 (w.setCell p x) B g l f ∧ OnlyB g w0 (w.setCell p x) ∧ (w.setCell p x).heap[w0.heap.size]? = some (.cells zp 25 (0, 0)) := by
  have a1 := h.lt1; have a2 := h.lt2; have a3 := h.lt3; have a4 := h.lt4; have a5 := h.rd.le
  have hh : ∀ i, i ≠ p.block → (w.setCell p x).heap[i]? = w.heap[i]? := fun i hi => Below.heap_setCell w p x i (fun e => hi e)
  refine ⟨h.rd.keep (hh _ (by omega)) (fun y hy => World.cell?_of_block (hh _ (by omega))), ⟨h.only.os, h.only.tape, h.only.output, by simpa [World.setCell] using h.only.size, fun i hi hne => (hh i (by omega)).trans (h.only.block i hi hne)⟩, (hh _ (by omega)).trans h.res⟩
theorem RS.setU (h : RS w0 w B g b d l f q v k) (o : Nat) (x : Value) (q' : PV) (v' : Value) (e : #[.int .i64 q.to, .int .i64 q.frm, .bool q.resp, .int .i64 q.form, .int .i64 q.kind, .int .i64 q.ns, .int .i64 q.nr, .bool q.poll, v].setIfInBounds o x = #[.int .i64 q'.to, .int .i64 q'.frm, .bool q'.resp, .int .i64 q'.form, .int .i64 q'.kind, .int .i64 q'.ns, .int .i64 q'.nr, .bool q'.poll, v']) : RS w0 (w.setCell ⟨b, o, none⟩ x) B g b d l f q' v' k := by
  obtain ⟨s1, s2, s3⟩ := h.stored ⟨b, o, none⟩ x (.inl rfl)
  have a3 := h.lt3
  refine ⟨s1, s2, s3, ?_, (Below.heap_setCell w ⟨b, o, none⟩ x d (fun e => by have : d = b := e; omega)).trans h.code, h.lt1, h.lt2, h.lt3⟩
  rw [heap_setCell_same w b o _ _ _ h.unit, e]
theorem RS.setC (h : RS w0 w B g b d l f q v k) (k' : Int) : RS w0 (w.setCell ⟨d, 0, none⟩ (.int .i64 k')) B g b d l f q v k' := by
  obtain ⟨s1, s2, s3⟩ := h.stored ⟨d, 0, none⟩ (.int .i64 k') (.inr rfl)
  have a3 := h.lt3
  refine ⟨s1, s2, s3, (Below.heap_setCell w ⟨d, 0, none⟩ _ b (fun e => by have : b = d := e; omega)).trans h.unit, ?_, h.lt1, h.lt2, h.lt3⟩
  rw [heap_setCell_same w d 0 _ _ _ h.code]; rfl
/-- what the walk wants of it -/
theorem RS.cells (h : RS w0 w B g b d l f q v k) : (World.cell? w ⟨b, 0, none⟩ = some (.int .i64 q.to) ∧ World.cell? w ⟨b, 1, none⟩ = some (.int .i64 q.frm) ∧ World.cell? w ⟨b, 2, none⟩ = some (.bool q.resp) ∧ World.cell? w ⟨b, 3, none⟩ = some (.int .i64 q.form) ∧ World.cell? w ⟨b, 4, none⟩ = some (.int .i64 q.kind) ∧ World.cell? w ⟨b, 5, none⟩ = some (.int .i64 q.ns) ∧ World.cell? w ⟨b, 6, none⟩ = some (.int .i64 q.nr) ∧ World.cell? w ⟨b, 7, none⟩ = some (.bool q.poll) ∧ World.cell? w ⟨b, 8, none⟩ = some (v)) ∧ (∀ o, w.frozen? ⟨b, o, none⟩ = false) ∧ w.cell? ⟨d, 0, none⟩ = some (.int .i64 k) ∧ w.frozen? ⟨d, 0, none⟩ = false :=
  ⟨pdu_cells h.unit, fun o => frozen_of_row w b o _ _ h.unit, by rw [cell_of_row w d 0 _ _ _ h.code]; rfl, frozen_of_row w d 0 _ _ h.code⟩
end
theorem num1_ok {l l' : List Int} {f : Bool} {x : Int} (h : num1 l f = (x, l', false)) : f = false ∧ l = x :: l' := by
  cases f with
  | true => rw [num1_fail] at h; injection h with _ h; injection h with _ h; cases h
  | false =>
    cases l with
    | nil => rw [num1_nil] at h; injection h with _ h; injection h with _ h; cases h
    | cons y l => injection h with h1 h; injection h with h2 h3; subst h1; subst h2; exact ⟨rfl, rfl⟩
theorem num1_bad {l l' : List Int} {f : Bool} {x : Int} (h : num1 l f = (x, l', true)) : x = 0 ∧ (f = true ∨ l = []) := by
  cases f with
  | true => rw [num1_fail] at h; injection h with h1 _; exact ⟨h1.symm, .inl rfl⟩
  | false =>
    cases l with
    | nil => rw [num1_nil] at h; injection h with h1 _; exact ⟨h1.symm, .inr rfl⟩
    | cons y l => injection h with h1 h; injection h with _ h; cases h
theorem not_odd (x : Int) : (!decide (x % 2 = 0)) = decide (x % 2 = 1) := by
  by_cases h : x % 2 = 0
  · rw [decide_eq_true h, decide_eq_false (by omega)]; rfl
  · rw [decide_eq_false h, decide_eq_true (by omega)]; rfl
/-- three that were read, and nothing failed -/
theorem three_ok {l l1 l2 l3 : List Int} {f1 f2 : Bool} {x0 x1 x2 : Int} (e1 : num1 l false = (x0, l1, f1)) (e2 : num1 l1 f1 = (x1, l2, f2)) (e3 : num1 l2 f2 = (x2, l3, false)) : l = x0 :: x1 :: x2 :: l3 := by
  obtain ⟨rfl, h3⟩ := num1_ok e3
  obtain ⟨rfl, h2⟩ := num1_ok e2
  obtain ⟨_, h1⟩ := num1_ok e1
  rw [h1, h2, h3]
/-- too few -/
theorem three_bad {l l1 l2 l3 : List Int} {f1 f2 : Bool} {x0 x1 x2 : Int} (e1 : num1 l false = (x0, l1, f1)) (e2 : num1 l1 f1 = (x1, l2, f2)) (e3 : num1 l2 f2 = (x2, l3, true)) : x2 = 0 ∧ decR l = (zPV, 2) := by
  obtain ⟨h0, h3⟩ := num1_bad e3
  refine ⟨h0, ?_⟩
  cases f2 with
  | false =>
    obtain ⟨rfl, h2⟩ := num1_ok e2
    obtain ⟨_, h1⟩ := num1_ok e1
    rcases h3 with h3 | h3
    · cases h3
    · rw [h1, h2, h3]; rfl
  | true =>
    obtain ⟨_, h2⟩ := num1_bad e2
    cases f1 with
    | false =>
      obtain ⟨_, h1⟩ := num1_ok e1
      rcases h2 with h2 | h2
      · cases h2
      · rw [h1, h2]; rfl
    | true =>
      obtain ⟨_, h1⟩ := num1_bad e1
      rcases h1 with h1 | h1
      · cases h1
      · rw [h1]; rfl
theorem read_u {l l1 l2 l3 : List Int} {f1 f2 f3 : Bool} {x0 x1 x2 i : Int} (e1 : num1 l false = (x0, l1, f1)) (e2 : num1 l1 f1 = (x1, l2, f2)) (e3 : num1 l2 f2 = (x2, l3, f3)) (h4 : x2 % 4 = 3) (hi : IdxOf rowsU (x2 - 16 * bit16 x2) i) :
    f3 = false ∧ decR l = orForm ⟨x0, x1 - x1 % 2, !decide (x1 % 2 = 0), 2, i, 0, 0, decide (bit16 x2 = 1), l3⟩ := by
  cases f3 with
  | true => have := (three_bad e1 e2 e3).1; omega
  | false =>
    refine ⟨rfl, ?_⟩
    rw [three_ok e1 e2 e3, decR_u h4, idx_u hi, not_odd]
    rfl
theorem read_i {l l1 l2 l3 l4 : List Int} {f1 f2 f3 f4 : Bool} {x0 x1 x2 x3 i : Int} (e1 : num1 l false = (x0, l1, f1)) (e2 : num1 l1 f1 = (x1, l2, f2)) (e3 : num1 l2 f2 = (x2, l3, f3)) (e4 : num1 l3 f3 = (x3, l4, f4)) (h3 : x2 % 4 ≠ 3) (h1 : x2 % 4 ≠ 1) (hi : IdxOf rowsI 0 i) :
    decR l = if (!f4) then orForm ⟨x0, x1 - x1 % 2, !decide (x1 % 2 = 0), 0, i, x2 / 2, x3 / 2, decide (x3 % 2 = 1), l4⟩ else (zPV, 2) := by
  cases f4 with
  | true =>
    cases f3 with
    | true => exact (three_bad e1 e2 e3).2
    | false =>
      rcases (num1_bad e4).2 with h | h
      · cases h
      · rw [three_ok e1 e2 e3, h, decR_2, if_neg h3]; rfl
  | false =>
    obtain ⟨rfl, h⟩ := num1_ok e4
    rw [three_ok e1 e2 e3, h, decR_3, if_neg h3, if_pos (by omega), idx_i hi, not_odd]
    rfl
theorem read_s {l l1 l2 l3 l4 : List Int} {f1 f2 f3 f4 : Bool} {x0 x1 x2 x3 i : Int} (e1 : num1 l false = (x0, l1, f1)) (e2 : num1 l1 f1 = (x1, l2, f2)) (e3 : num1 l2 f2 = (x2, l3, f3)) (e4 : num1 l3 f3 = (x3, l4, f4)) (h1 : x2 % 4 = 1) (h0 : 0 ≤ x2) (hi : IdxOf rowsS x2 i) :
    decR l = if (!f4) then orForm ⟨x0, x1 - x1 % 2, !decide (x1 % 2 = 0), 1, i, 0, x3 / 2, decide (x3 % 2 = 1), l4⟩ else (zPV, 2) := by
  cases f3 with
  | true => have := (three_bad e1 e2 e3).1; omega
  | false =>
    cases f4 with
    | true =>
      rcases (num1_bad e4).2 with h | h
      · cases h
      · rw [three_ok e1 e2 e3, h, decR_2, if_neg (by omega)]; rfl
    | false =>
      obtain ⟨_, h⟩ := num1_ok e4
      obtain ⟨i1, i2⟩ := idx_s hi h1 h0
      rw [three_ok e1 e2 e3, h, decR_3, if_neg (by omega), if_neg (by omega), not_odd]
      by_cases h9 : 9 < x2
      · rw [if_pos h9]
        refine (orForm_no fun hm => ?_).symm
        have := hm.fits.2
        have hk := i2 h9
        simp only [] at this
        omega
      · rw [if_neg h9, i1 (by omega)]
        rfl
theorem only_keeps {w w' : World} {b g : Nat} {o : Obj} (h : w.heap[b]? = some o) (ho : OnlyB g w w') (hne : b ≠ g) : w'.heap[b]? = some o := (ho.block b (block_lt h) (fun e => hne (by injection e))).trans h
theorem ownB_keep {w w' : World} {base : Nat} {v : Value} {l : List Int} (h : OwnB w base v l) (hk : ∀ i, base ≤ i → w'.heap[i]? = w.heap[i]?) : OwnB w' base v l := by
  refine ⟨h.1, ?_⟩
  rcases h.2 with h0 | ⟨g, cap, cur, hv, hg, hh, hr⟩
  · exact .inl h0
  · exact .inr ⟨g, cap, cur, hv, hg, (hk g hg).trans hh, hr⟩
theorem run_skip_u {F : Fence} {n : Nat} {P : Program} {o : Oper} {a : Act} {w w' : World} {K : Act → World → Prop} {Q : Exit → Act → World → Prop} (hnd : ∀ c, o.op ≠ .defer c) (hab : ∀ f, o.about P w a.eval = some f → F.fn f)
    (hr : (execOp a.eval o).run P w = .ok .skip w') (h : K (a.put o.dst undef) w') : o.wpIn F n P a w K Q := by
  refine ⟨hab, ?_⟩
  rw [Oper.semAt_eq _ _ _ hnd, hr, Oper.uponIn_skip]
  exact h
/-- a row that is stored whole: the run -/
theorem exec_store_row {P : Program} {o : Oper} {a : Act} {w : World} (ty : TypeId) (x y : Operand) (ho : o.op = .store ty x y)
    (g : Nat) (cells : Array Value) (hx : a.eval x = .pointer (some ⟨g, 0, none⟩)) (hy : a.eval y = .agg cells)
    (t : TypeId) (old : Array Value) (hg : w.heap[g]? = some (.cells old t (0, 0))) (hi : (P.info? ty).map (·.size) = some cells.size)
    (hold : old.size = cells.size) (h1 : cells.all (·.oneCell') = true) : (execOp a.eval o).run P w = .ok .skip (w.setRow g cells) := by
  unfold execOp
  simp only [ho, hx, hy, Instr.storeAt, Instr.sureAddr, Sem.run_bind, Sem.run_pure, Result.andThen_ok, run_storeVar_row w g t ty old cells hg hi hold h1]
/-- the result is stored: w2, behind w -/
structure RSdone (w0 w w2 : World) (g b : Nat) (cs : Array Value) : Prop where
  res : w2.heap[w0.heap.size]? = some (.cells cs 25 (0, 0))
  other : ∀ i, i ≠ w0.heap.size → w2.heap[i]? = w.heap[i]?
  only : OnlyB g w0 w2
theorem RS.done {w0 w : World} {B g b d : Nat} {l : List Int} {f : Bool} {q : PV} {v : Value} {k : Int} (h : RS w0 w B g b d l f q v k) (cs : Array Value) : RSdone w0 w (w.drew.setRow w0.heap.size cs) g b cs := by
  have ho : ∀ i, i ≠ w0.heap.size → (w.drew.setRow w0.heap.size cs).heap[i]? = w.heap[i]? := fun i hi => setRow_other w.drew _ i cs hi
  have hz : w.heap.size ≤ (w.drew.setRow w0.heap.size cs).heap.size := by
    have hz : (w.drew.setRow w0.heap.size cs).heap.size = w.drew.heap.size := by simp [World.setRow]
    rw [hz]; exact Nat.le_refl _
  exact ⟨setRow_heap w.drew _ _ _ _ _ h.res, ho, ⟨h.only.os, h.only.tape, h.only.output, Nat.le_trans h.only.size hz, fun i hi hne => (ho i (by omega)).trans (h.only.block i hi hne)⟩⟩
/-- Rest has answered -/
def RestD (B g : Nat) (l : List Int) (f : Bool) (w : World) (e : Ending) (w' : World) : Prop :=
  ∃ A c l', e = .returned (.slice A (if f then [] else l).length c) ∧ OwnB w' w.heap.size (.slice A (if f then [] else l).length c) (if f then [] else l) ∧ Rd 67 w' B g l' f ∧ OnlyB g w w'
theorem rest_any (B g : Nat) (l : List Int) (f : Bool) (w : World) (hr : Rd 67 w B g l f) (hmax : l.length ≤ 140737488355328) :
    Calls Try.prog 42 #[.pointer (some ⟨g, 0, none⟩)] w (RestD B g l f w) := by
  cases f with
  | false =>
    refine (rest_yes B g l w hr hmax).mono ?_
    rintro e w' ⟨A, c, he, ho, h1, h2⟩
    rw [List.take_length] at ho
    exact ⟨A, c, _, he, ho, h1, h2⟩
  | true =>
    refine (rest_no B g l w hr).mono ?_
    rintro e w' ⟨he, h1, h2⟩
    exact ⟨none, 0, l, he, OwnB.nil _ _, h1, h2⟩
/-- read has answered -/
def ReadD (g : Nat) (l : List Int) (w : World) (e : Ending) (w' : World) : Prop :=
  ∃ (q : PV) (A : Option Addr) (c : Nat) (ok : Bool), e = .returned (.tuple #[.agg #[.int .i64 q.to, .int .i64 q.frm, .bool q.resp, .int .i64 q.form, .int .i64 q.kind, .int .i64 q.ns, .int .i64 q.nr, .bool q.poll, .slice A q.info.length c], .bool ok]) ∧ OwnB w' w.heap.size (.slice A q.info.length c) q.info ∧ OnlyB g w w' ∧ Hid (decR l = if ok then orForm q else (zPV, 2))

set_option maxHeartbeats 3200000 in
theorem read_any (B g : Nat) (l : List Int) (w : World) (hr : Rd 67 w B g l false) (hb : Bts l) (hmax : l.length ≤ 140737488355328) :
    Calls Try.prog 22 #[.pointer (some ⟨g, 0, none⟩)] w (ReadD g l w) := by
  obtain ⟨w1, hw1⟩ : ∃ w1, Hid (w1 = w.alloc (.cells zp 25)) := ⟨_, cover rfl⟩
  have hs1 : w1.heap.size = w.heap.size + 1 := by rw [hw1.out]; simp
  have H1 : Hid (Below w.heap.size w w1) := cover (by rw [hw1.out]; exact (Below.refl _ _).alloc (Nat.le_refl _) _)
  have G1 : Hid (w1.heap[w.heap.size]? = some (.cells zp 25 (0, 0))) := cover (by rw [hw1.out]; exact heap_alloc_new _ _)
  have hlt := hr.lt
  have hne : w.heap.size ≠ g := by omega
  have R1 := cover (hr.below H1.out hlt)
  obtain ⟨⟨x0, l1, f1⟩, e1⟩ : ∃ y, Hid (num1 l false = y) := ⟨_, cover rfl⟩
  obtain ⟨⟨x1, l2, f2⟩, e2⟩ : ∃ y, Hid (num1 l1 f1 = y) := ⟨_, cover rfl⟩
  obtain ⟨⟨x2, l3, f3⟩, e3⟩ : ∃ y, Hid (num1 l2 f2 = y) := ⟨_, cover rfl⟩
  have b1 := num1_bd false hb
  have n1 := num1_le l false
  rw [e1.out] at b1 n1
  have b2 := num1_bd f1 b1.2
  have n2 := num1_le l1 f1
  rw [e2.out] at b2 n2
  have b3 := num1_bd f2 b2.2
  have n3 := num1_le l2 f2
  rw [e3.out] at b3 n3
  simp only [] at b1 n1 b2 n2 b3 n3
  have HB := cover (And.intro b1 (And.intro b2 b3))
  have C1 := num1_any B g l false w1 R1.out hb hmax
  rw [e1.out] at C1
  have HC1 := cover C1
  have hc0 := clear_one b2.1.1 b2.1.2
  clear C1 hr b1 b2 b3 hb
  go_enter Try.func22, Try.ntmps22
  go_wp2_with fail
  rw [← hw1.out]
  refine HC1.out.mono ?_
  rintro e w2 ⟨rfl, r2, o2⟩
  have R2 := cover r2
  have G2 := cover (only_keeps G1.out o2 hne)
  have O2 := cover (OnlyB.trans (OnlyB.of_below H1.out) o2)
  clear r2 o2
  have C2 := num1_any B g l1 f1 w2 R2.out HB.out.1.2 (by omega)
  rw [e2.out] at C2
  have HC2 := cover C2
  clear C2
  go_wp2_with fail
  refine HC2.out.mono ?_
  rintro e w3 ⟨rfl, r3, o3⟩
  have R3 := cover r3
  have G3 := cover (only_keeps G2.out o3 hne)
  have O3 := cover (OnlyB.trans O2.out o3)
  clear r3 o3
  have C3 := num1_any B g l2 f2 w3 R3.out HB.out.2.1.2 (by omega)
  rw [e3.out] at C3
  have HC3 := cover C3
  clear C3
  go_wp2_with fail
  refine HC3.out.mono ?_
  rintro e w4 ⟨rfl, r4, o4⟩
  have R4 := cover r4
  have G4 := cover (only_keeps G3.out o4 hne)
  have O4 := cover (OnlyB.trans O3.out o4)
  clear r4 o4
  go_wp2_with fail
  refine (isEven_any x1 w4 HB.out.2.1.1.1 HB.out.2.1.1.2).mono ?_
  rintro e w' ⟨rfl, rfl⟩
  go_wp2_with fail
  refine (formOf_any x2 w' HB.out.2.2.1.1 HB.out.2.2.1.2).mono ?_
  rintro e w' ⟨rfl, rfl⟩
  go_upto_region 4 with fail
  obtain ⟨q5, hq5⟩ : ∃ q : PV, Hid (q = ⟨x0, x1 - x1 % 2, !decide (x1 % 2 = 0), formI x2, 0, 0, 0, false, []⟩) := ⟨_, cover rfl⟩
  have hsz := O4.out.size
  have hlw' : w.heap.size < w'.heap.size := block_lt G4.out
  have S5 : RS w ((w'.alloc (.cells #[.int .i64 x0, .int .i64 (x1 - x1 % 2), .bool (!decide (x1 % 2 = 0)), .int .i64 (formI x2), .int .i64 0, .int .i64 0, .int .i64 0, .bool false, .slice none 0 0] 25)).alloc (.cells #[.int .i64 x2] 3)) B g w'.heap.size (w'.heap.size + 1) l3 f3 q5 (.slice none 0 0) x2 := by
    have hB : Below w'.heap.size w' ((w'.alloc (.cells #[.int .i64 x0, .int .i64 (x1 - x1 % 2), .bool (!decide (x1 % 2 = 0)), .int .i64 (formI x2), .int .i64 0, .int .i64 0, .int .i64 0, .bool false, .slice none 0 0] 25)).alloc (.cells #[.int .i64 x2] 3)) := ((Below.refl _ _).alloc (Nat.le_refl _) _).alloc (by simp) _
    refine ⟨R4.out.below hB (by omega), O4.out.trans (OnlyB.of_below hB), (hB.block _ hlw').trans G4.out, ?_, heap_alloc2_new _ _ _, hlt, hlw', Nat.lt_succ_self _⟩
    rw [heap_alloc2_old, hq5.out]
  generalize hw5 : ((w'.alloc (.cells #[.int .i64 x0, .int .i64 (x1 - x1 % 2), .bool (!decide (x1 % 2 = 0)), .int .i64 (formI x2), .int .i64 0, .int .i64 0, .int .i64 0, .bool false, .slice none 0 0] 25)).alloc (.cells #[.int .i64 x2] 3)) = w5 at S5 ⊢
  clear hw5
  generalize hb5 : w'.heap.size = b at S5 ⊢
  generalize hd5 : b + 1 = d at S5 ⊢
  clear hb5 hd5 hc0 hsz hlw'
  have HS5 := cover S5
  clear S5
  have Q3 : Hid (q5.form = formI x2) := cover (by rw [hq5.out])
  by_cases a3 : x2 % 4 = 3
  · have hF : formI x2 = 2 := by unfold formI; rw [if_neg (by omega), if_pos a3]
    rw [hF] at Q3
    obtain ⟨⟨p0, p1, p2, p3, p4, p5, p6, p7, p8⟩, z5, zc, zd⟩ := HS5.out.cells
    rw [Q3.out] at p3
    rw [hF]
    have z7 := z5 7
    clear z5
    have hb16 := bit_16_at HB.out.2.2.1.1 HB.out.2.2.1.2
    obtain ⟨h161, h162⟩ := hb16
    have A3 := cover a3
    clear a3
    go_upto_region 14 with fail
    obtain ⟨qA, hqA⟩ : ∃ q : PV, Hid (q = ⟨x0, x1 - x1 % 2, !decide (x1 % 2 = 0), 2, 0, 0, 0, decide (bit16 x2 = 1), []⟩) := ⟨_, cover rfl⟩
    have S6 := (HS5.out.setU 7 (.bool (decide (bit16 x2 = 1))) qA (.slice none 0 0) (by rw [hqA.out, hq5.out, hF]; rfl)).setC (x2 - 16 * bit16 x2)
    generalize hw6 : (w5.setCell ⟨b, 7, none⟩ (.bool (decide (bit16 x2 = 1)))).setCell ⟨d, 0, none⟩ (.int .i64 (x2 - 16 * bit16 x2)) = w6 at S6 ⊢
    have HS6 := cover S6
    have QF : Hid (qA.form = 2) := cover (by rw [hqA.out])
    clear S6 hw6 p0 p1 p2 p3 p4 p5 p6 p7 p8 z7 zc zd h161 h162 hF
    obtain ⟨⟨p0, p1, p2, p3, p4, p5, p6, p7, p8⟩, z5, zc, zd⟩ := HS6.out.cells
    rw [QF.out] at p3
    clear z5 zc zd
    go_wp2_with fail
    refine (rules_any 2 w6).mono ?_
    rw [show rowsF 2 = rowsU from rfl]
    rintro e w8 ⟨A8, rfl, hr8, hb8⟩
    have S8 := cover (HS6.out.below hb8)
    have HR8 := cover hr8
    clear hb8 hr8 p0 p1 p2 p3 p4 p5 p6 p7 p8
    have CI := cover (indexRule_any A8 rowsU.length rowsU.length w8.heap.size d rowsU (x2 - 16 * bit16 x2) w8 rfl (by decide) HR8.out (Nat.le_refl _) S8.out.cells.2.2.1 S8.out.lt4)
    go_wp2_with fail
    refine CI.out.mono ?_
    rintro e w9 ⟨i, rfl, hi, hb9⟩
    have S9 := cover (S8.out.below hb9)
    have HI := cover hi
    clear hb9 hi
    obtain ⟨⟨p0, p1, p2, p3, p4, p5, p6, p7, p8⟩, z5, zc, zd⟩ := S9.out.cells
    have z4 := z5 4
    clear z5 zc zd
    go_wp2_with fail
    obtain ⟨q10, hq10⟩ : ∃ q : PV, Hid (q = { qA with kind := i }) := ⟨_, cover rfl⟩
    have S10 := S9.out.setU 4 (.int .i64 i) q10 (.slice none 0 0) (by rw [hq10.out]; rfl)
    generalize hw10 : w9.setCell ⟨b, 4, none⟩ (.int .i64 i) = w10 at S10 ⊢
    have HS10 := cover S10
    clear S10 hw10 p0 p1 p2 p3 p4 p5 p6 p7 p8 z4
    refine (rest_any B g l3 f3 w10 HS10.out.rd (by omega)).mono ?_
    rintro e w11 ⟨A11, c11, l5, rfl, ho11, hr11, hon11⟩
    have S11 := cover (HS10.out.num hr11 hon11)
    have HO11 := cover ho11
    have hb10 := HS10.out.lt4
    have hb10' := HS10.out.lt3
    clear ho11 hr11 hon11
    obtain ⟨xs, hxs⟩ : ∃ xs, Hid ((if f3 then [] else l3) = xs) := ⟨_, cover rfl⟩
    rw [hxs.out] at HO11 ⊢
    obtain ⟨⟨p0, p1, p2, p3, p4, p5, p6, p7, p8⟩, z5, zc, zd⟩ := S11.out.cells
    have z8 := z5 8
    clear z5 zc zd
    go_upto_region 16 with fail
    obtain ⟨q12, hq12⟩ : ∃ q : PV, Hid (q = { q10 with info := xs }) := ⟨_, cover rfl⟩
    have S12 := S11.out.setU 8 (.slice A11 xs.length c11) q12 (.slice A11 q12.info.length c11) (by rw [hq12.out]; rfl)
    have O12 : OwnB (w11.setCell ⟨b, 8, none⟩ (.slice A11 xs.length c11)) w10.heap.size (.slice A11 q12.info.length c11) q12.info := by
      rw [hq12.out]
      exact ownB_keep HO11.out (fun i hi => Below.heap_setCell w11 ⟨b, 8, none⟩ _ i (fun e => by have : i = b := e; omega))
    generalize hw12 : w11.setCell ⟨b, 8, none⟩ (.slice A11 xs.length c11) = w12 at S12 O12 ⊢
    have HS12 := cover S12
    have HO12 := cover O12
    have hXI : xs.length = q12.info.length := by rw [hq12.out]
    clear S12 O12 hw12 p0 p1 p2 p3 p4 p5 p6 p7 p8 z8
    have HFIN : Hid (decR l = if (!f3) then orForm q12 else (zPV, 2)) := cover (by
      rw [hq12.out, hq10.out, hqA.out, ← hxs.out]
      obtain ⟨hf3, hd⟩ := read_u e1.out e2.out e3.out A3.out HI.out
      subst hf3
      rw [hd]
      rfl)
    obtain ⟨p0, p1, p2, p3, p4, p5, p6, p7, p8⟩ := HS12.out.cells.1
    have HFL := cover (fun W (h : Rd 67 W B g l5 f3) => failed_any B g l5 f3 W h)
    have mixed : Try.prog.follows .mixedOrders = true := by kernel_rfl
    refine (wpIn_wide (n := 0)).1 ?_
    refine held_begin (fun W' : World => Rd 67 W' B g l5 f3 ∧ (World.cell? W' ⟨b, 0, none⟩ = some (.int .i64 q12.to) ∧ World.cell? W' ⟨b, 1, none⟩ = some (.int .i64 q12.frm) ∧ World.cell? W' ⟨b, 2, none⟩ = some (.bool q12.resp) ∧ World.cell? W' ⟨b, 3, none⟩ = some (.int .i64 q12.form) ∧ World.cell? W' ⟨b, 4, none⟩ = some (.int .i64 q12.kind) ∧ World.cell? W' ⟨b, 5, none⟩ = some (.int .i64 q12.ns) ∧ World.cell? W' ⟨b, 6, none⟩ = some (.int .i64 q12.nr) ∧ World.cell? W' ⟨b, 7, none⟩ = some (.bool q12.poll) ∧ World.cell? W' ⟨b, 8, none⟩ = some (.slice A11 q12.info.length c11))) 5 mixed ?_
    have HSS : (fun W' : World => Rd 67 W' B g l5 f3 ∧ (World.cell? W' ⟨b, 0, none⟩ = some (.int .i64 q12.to) ∧ World.cell? W' ⟨b, 1, none⟩ = some (.int .i64 q12.frm) ∧ World.cell? W' ⟨b, 2, none⟩ = some (.bool q12.resp) ∧ World.cell? W' ⟨b, 3, none⟩ = some (.int .i64 q12.form) ∧ World.cell? W' ⟨b, 4, none⟩ = some (.int .i64 q12.kind) ∧ World.cell? W' ⟨b, 5, none⟩ = some (.int .i64 q12.ns) ∧ World.cell? W' ⟨b, 6, none⟩ = some (.int .i64 q12.nr) ∧ World.cell? W' ⟨b, 7, none⟩ = some (.bool q12.poll) ∧ World.cell? W' ⟨b, 8, none⟩ = some (.slice A11 q12.info.length c11))) w12.drew := ⟨HS12.out.rd.drewN 1, p0, p1, p2, p3, p4, p5, p6, p7, p8⟩
    refine hold_take 0 _ rfl (by kernel_rfl) (by kernel_rfl) (by kernel_rfl) (by kernel_rfl) (by kernel_rfl) (fun _ _ _ h => h) (by rfl) (fun _ => rfl) HSS (fun w' hS => by obtain ⟨qr, q0, q1, q2, q3, q4, q5, q6, q7, q8⟩ := hS; go_simp; rfl) ?_
    simp only [Act.put, List.setIfInBounds_toArray, List.set_cons_zero, List.set_cons_succ]
    refine hold_take 1 _ rfl (by kernel_rfl) (by kernel_rfl) (by kernel_rfl) (by kernel_rfl) (by kernel_rfl) (fun _ _ _ h => h) (by rfl) (fun _ => rfl) HSS (fun w' hS => by obtain ⟨qr, q0, q1, q2, q3, q4, q5, q6, q7, q8⟩ := hS; go_simp; rfl) ?_
    simp only [Act.put, List.setIfInBounds_toArray, List.set_cons_zero, List.set_cons_succ]
    refine hold_one 2 (by kernel_rfl) rfl (by rfl) fun K hK => ?_
    go_simp
    refine ⟨trivial, rfl, (callsIn_wide.2 (HFL.out _ HSS.1)).mono ?_⟩
    rintro e w13 ⟨rfl, rfl⟩
    refine hK _ _ (.inr HSS) ?_
    clear hK K
    refine hold_take 3 _ rfl (by kernel_rfl) (by kernel_rfl) (by kernel_rfl) (by kernel_rfl) (by kernel_rfl) (fun _ _ _ h => h) (by rfl) (fun _ => rfl) HSS (fun w' hS => by obtain ⟨qr, q0, q1, q2, q3, q4, q5, q6, q7, q8⟩ := hS; go_simp; rfl) ?_
    simp only [Act.put, List.setIfInBounds_toArray, List.set_cons_zero, List.set_cons_succ]
    refine hold_one 4 (by kernel_rfl) rfl (by rfl) fun K2 hK2 => ?_
    refine run_skip_u (fun c h => by cases h) (fun _ _ => trivial) (w' := w12.drew.setRow w.heap.size #[.int .i64 q12.to, .int .i64 q12.frm, .bool q12.resp, .int .i64 q12.form, .int .i64 q12.kind, .int .i64 q12.ns, .int .i64 q12.nr, .bool q12.poll, .slice A11 q12.info.length c11]) (exec_store_row _ _ _ rfl w.heap.size #[.int .i64 q12.to, .int .i64 q12.frm, .bool q12.resp, .int .i64 q12.form, .int .i64 q12.kind, .int .i64 q12.ns, .int .i64 q12.nr, .bool q12.poll, .slice A11 q12.info.length c11] rfl rfl 25 zp HS12.out.res pdu_size rfl (pdu_one _ _ _ _ _ _ _ _ _ _ _)) ?_
    have HRW : Hid (RSdone w w12 (w12.drew.setRow w.heap.size #[.int .i64 q12.to, .int .i64 q12.frm, .bool q12.resp, .int .i64 q12.form, .int .i64 q12.kind, .int .i64 q12.ns, .int .i64 q12.nr, .bool q12.poll, .slice A11 q12.info.length c11]) g b #[.int .i64 q12.to, .int .i64 q12.frm, .bool q12.resp, .int .i64 q12.form, .int .i64 q12.kind, .int .i64 q12.ns, .int .i64 q12.nr, .bool q12.poll, .slice A11 q12.info.length c11]) := cover (RS.done HS12.out _)
    generalize hw14 : w12.drew.setRow w.heap.size #[.int .i64 q12.to, .int .i64 q12.frm, .bool q12.resp, .int .i64 q12.form, .int .i64 q12.kind, .int .i64 q12.ns, .int .i64 q12.nr, .bool q12.poll, .slice A11 q12.info.length c11] = w14 at HRW ⊢
    have HS4 : (fun W' : World => Rd 67 W' B g l5 f3 ∧ (World.cell? W' ⟨b, 0, none⟩ = some (.int .i64 q12.to) ∧ World.cell? W' ⟨b, 1, none⟩ = some (.int .i64 q12.frm) ∧ World.cell? W' ⟨b, 2, none⟩ = some (.bool q12.resp) ∧ World.cell? W' ⟨b, 3, none⟩ = some (.int .i64 q12.form) ∧ World.cell? W' ⟨b, 4, none⟩ = some (.int .i64 q12.kind) ∧ World.cell? W' ⟨b, 5, none⟩ = some (.int .i64 q12.ns) ∧ World.cell? W' ⟨b, 6, none⟩ = some (.int .i64 q12.nr) ∧ World.cell? W' ⟨b, 7, none⟩ = some (.bool q12.poll) ∧ World.cell? W' ⟨b, 8, none⟩ = some (.slice A11 q12.info.length c11))) w14 := by
      have hlt1 := HS12.out.lt1
      have hlt2 := HS12.out.lt2
      have hle := HS12.out.rd.le
      exact ⟨HS12.out.rd.keep (HRW.out.other _ (by omega)) (fun y hy => World.cell?_of_block (HRW.out.other _ (by omega))), pdu_cells ((HRW.out.other _ (by omega)).trans HS12.out.unit)⟩
    clear hw14
    refine hK2 _ _ (.inr HS4) ?_
    clear hK2 K2
    refine hold_one 5 (by kernel_rfl) rfl (by rfl) fun K3 hK3 => ?_
    go_simp
    refine hK3 _ _ (.inl rfl) (held_done (by kernel_rfl) ?_ _)
    clear hK3 K3 HS4 HSS p0 p1 p2 p3 p4 p5 p6 p7 p8
    go_wp2
    have hw10 := HS10.out.lt2
    exact bodyPost_ret (v := .tuple #[.agg #[.int .i64 q12.to, .int .i64 q12.frm, .bool q12.resp, .int .i64 q12.form, .int .i64 q12.kind, .int .i64 q12.ns, .int .i64 q12.nr, .bool q12.poll, .slice A11 q12.info.length c11], .bool (!f3)]) (results_cell_and (by rfl) _ _ w.heap.size _ #[.int .i64 q12.to, .int .i64 q12.frm, .bool q12.resp, .int .i64 q12.form, .int .i64 q12.kind, .int .i64 q12.ns, .int .i64 q12.nr, .bool q12.poll, .slice A11 q12.info.length c11] (0, 0) _ (.bool (!f3)) rfl HRW.out.res rfl Try.underlying25 rfl pdu_size) rfl ⟨q12, A11, c11, (!f3), rfl, (ownB_keep HO12.out (fun i hi => HRW.out.other i (by omega))).mono (by omega), HRW.out.only, HFIN⟩
  · by_cases a1 : x2 % 4 = 1
    · have hF : formI x2 = 1 := by unfold formI; rw [if_pos a1]
      rw [hF] at Q3
      obtain ⟨⟨p0, p1, p2, p3, p4, p5, p6, p7, p8⟩, z5, zc, zd⟩ := HS5.out.cells
      rw [Q3.out] at p3
      rw [hF]
      have z55 := z5 5
      clear z5
      have A3 := cover a3
      have A1 := cover a1
      clear a1 a3
      obtain ⟨⟨x3, l4, f4⟩, e4⟩ : ∃ y, Hid (num1 l3 f3 = y) := ⟨_, cover rfl⟩
      have b4 := num1_bd f3 HB.out.2.2.2
      have n4 := num1_le l3 f3
      rw [e4.out] at b4 n4
      simp only [] at b4 n4
      go_wp2_with fail
      have HS6 := cover HS5.out
      obtain ⟨w6, hw6⟩ : ∃ w6, w6 = w5 := ⟨_, rfl⟩
      rw [← hw6] at HS6 ⊢
      clear hw6
      obtain ⟨q6, hq6⟩ : ∃ q : PV, Hid (q = q5) := ⟨_, cover rfl⟩
      rw [← hq6.out] at HS6
      clear p0 p1 p2 p3 p4 p5 p6 p7 p8 z55 zc zd
      have C4 := num1_any B g l3 f3 w6 HS6.out.rd HB.out.2.2.2 (by omega)
      rw [e4.out] at C4
      refine C4.mono ?_
      rintro e w7 ⟨rfl, r7, o7⟩
      have HS7 := cover (HS6.out.num r7 o7)
      clear r7 o7 C4
      have hp4 := bit_one_at b4.1.1 b4.1.2
      obtain ⟨⟨p0, p1, p2, p3, p4, p5, p6, p7, p8⟩, z5, zc, zd⟩ := HS7.out.cells
      have z6 := z5 6
      have z7 := z5 7
      clear z5
      go_upto_region 14 with fail
      obtain ⟨qA, hqA⟩ : ∃ q : PV, Hid (q = ⟨x0, x1 - x1 % 2, !decide (x1 % 2 = 0), 1, 0, 0, x3 / 2, decide (x3 % 2 = 1), []⟩) := ⟨_, cover rfl⟩
      have S7 := (HS7.out.setU 6 (.int .i64 (x3 / 2)) { q6 with nr := x3 / 2 } (.slice none 0 0) rfl).setU 7 (.bool (decide (x3 % 2 = 1))) qA (.slice none 0 0) (by rw [hqA.out, hq6.out, hq5.out, hF]; rfl)
      generalize hw7 : (w7.setCell ⟨b, 6, none⟩ (.int .i64 (x3 / 2))).setCell ⟨b, 7, none⟩ (.bool (decide (x3 % 2 = 1))) = w7' at S7 ⊢
      have HS8 := cover S7
      have QF : Hid (qA.form = 1) := cover (by rw [hqA.out])
      clear S7 hw7 p0 p1 p2 p3 p4 p5 p6 p7 p8 z6 z7 zc zd hp4 b4 hF
      obtain ⟨⟨p0, p1, p2, p3, p4, p5, p6, p7, p8⟩, z5, zc, zd⟩ := HS8.out.cells
      rw [QF.out] at p3
      clear z5 zc zd
      go_wp2_with fail
      refine (rules_any 1 w7').mono ?_
      rw [show rowsF 1 = rowsS from rfl]
      rintro e w8 ⟨A8, rfl, hr8, hb8⟩
      have S8 := cover (HS8.out.below hb8)
      have HR8 := cover hr8
      clear hb8 hr8 p0 p1 p2 p3 p4 p5 p6 p7 p8
      have CI := cover (indexRule_any A8 rowsS.length rowsS.length w8.heap.size d rowsS x2 w8 rfl (by decide) HR8.out (Nat.le_refl _) S8.out.cells.2.2.1 S8.out.lt4)
      go_wp2_with fail
      refine CI.out.mono ?_
      rintro e w9 ⟨i, rfl, hi, hb9⟩
      have S9 := cover (S8.out.below hb9)
      have HI := cover hi
      clear hb9 hi
      obtain ⟨⟨p0, p1, p2, p3, p4, p5, p6, p7, p8⟩, z5, zc, zd⟩ := S9.out.cells
      have z4 := z5 4
      clear z5 zc zd
      go_wp2_with fail
      obtain ⟨q10, hq10⟩ : ∃ q : PV, Hid (q = { qA with kind := i }) := ⟨_, cover rfl⟩
      have S10 := S9.out.setU 4 (.int .i64 i) q10 (.slice none 0 0) (by rw [hq10.out]; rfl)
      generalize hw10 : w9.setCell ⟨b, 4, none⟩ (.int .i64 i) = w10 at S10 ⊢
      have HS10 := cover S10
      clear S10 hw10 p0 p1 p2 p3 p4 p5 p6 p7 p8 z4
      refine (rest_any B g l4 f4 w10 HS10.out.rd (by omega)).mono ?_
      rintro e w11 ⟨A11, c11, l5, rfl, ho11, hr11, hon11⟩
      have S11 := cover (HS10.out.num hr11 hon11)
      have HO11 := cover ho11
      have hb10 := HS10.out.lt4
      have hb10' := HS10.out.lt3
      clear ho11 hr11 hon11
      obtain ⟨xs, hxs⟩ : ∃ xs, Hid ((if f4 then [] else l4) = xs) := ⟨_, cover rfl⟩
      rw [hxs.out] at HO11 ⊢
      obtain ⟨⟨p0, p1, p2, p3, p4, p5, p6, p7, p8⟩, z5, zc, zd⟩ := S11.out.cells
      have z8 := z5 8
      clear z5 zc zd
      go_upto_region 16 with fail
      obtain ⟨q12, hq12⟩ : ∃ q : PV, Hid (q = { q10 with info := xs }) := ⟨_, cover rfl⟩
      have S12 := S11.out.setU 8 (.slice A11 xs.length c11) q12 (.slice A11 q12.info.length c11) (by rw [hq12.out]; rfl)
      have O12 : OwnB (w11.setCell ⟨b, 8, none⟩ (.slice A11 xs.length c11)) w10.heap.size (.slice A11 q12.info.length c11) q12.info := by
        rw [hq12.out]
        exact ownB_keep HO11.out (fun i hi => Below.heap_setCell w11 ⟨b, 8, none⟩ _ i (fun e => by have : i = b := e; omega))
      generalize hw12 : w11.setCell ⟨b, 8, none⟩ (.slice A11 xs.length c11) = w12 at S12 O12 ⊢
      have HS12 := cover S12
      have HO12 := cover O12
      have hXI : xs.length = q12.info.length := by rw [hq12.out]
      clear S12 O12 hw12 p0 p1 p2 p3 p4 p5 p6 p7 p8 z8
      have HFIN : Hid (decR l = if (!f4) then orForm q12 else (zPV, 2)) := cover (by
        rw [hq12.out, hq10.out, hqA.out, ← hxs.out]
        rw [read_s e1.out e2.out e3.out e4.out A1.out HB.out.2.2.1.1 HI.out]
        cases f4 <;> rfl)
      obtain ⟨p0, p1, p2, p3, p4, p5, p6, p7, p8⟩ := HS12.out.cells.1
      have HFL := cover (fun W (h : Rd 67 W B g l5 f4) => failed_any B g l5 f4 W h)
      have mixed : Try.prog.follows .mixedOrders = true := by kernel_rfl
      refine (wpIn_wide (n := 0)).1 ?_
      refine held_begin (fun W' : World => Rd 67 W' B g l5 f4 ∧ (World.cell? W' ⟨b, 0, none⟩ = some (.int .i64 q12.to) ∧ World.cell? W' ⟨b, 1, none⟩ = some (.int .i64 q12.frm) ∧ World.cell? W' ⟨b, 2, none⟩ = some (.bool q12.resp) ∧ World.cell? W' ⟨b, 3, none⟩ = some (.int .i64 q12.form) ∧ World.cell? W' ⟨b, 4, none⟩ = some (.int .i64 q12.kind) ∧ World.cell? W' ⟨b, 5, none⟩ = some (.int .i64 q12.ns) ∧ World.cell? W' ⟨b, 6, none⟩ = some (.int .i64 q12.nr) ∧ World.cell? W' ⟨b, 7, none⟩ = some (.bool q12.poll) ∧ World.cell? W' ⟨b, 8, none⟩ = some (.slice A11 q12.info.length c11))) 5 mixed ?_
      have HSS : (fun W' : World => Rd 67 W' B g l5 f4 ∧ (World.cell? W' ⟨b, 0, none⟩ = some (.int .i64 q12.to) ∧ World.cell? W' ⟨b, 1, none⟩ = some (.int .i64 q12.frm) ∧ World.cell? W' ⟨b, 2, none⟩ = some (.bool q12.resp) ∧ World.cell? W' ⟨b, 3, none⟩ = some (.int .i64 q12.form) ∧ World.cell? W' ⟨b, 4, none⟩ = some (.int .i64 q12.kind) ∧ World.cell? W' ⟨b, 5, none⟩ = some (.int .i64 q12.ns) ∧ World.cell? W' ⟨b, 6, none⟩ = some (.int .i64 q12.nr) ∧ World.cell? W' ⟨b, 7, none⟩ = some (.bool q12.poll) ∧ World.cell? W' ⟨b, 8, none⟩ = some (.slice A11 q12.info.length c11))) w12.drew := ⟨HS12.out.rd.drewN 1, p0, p1, p2, p3, p4, p5, p6, p7, p8⟩
      refine hold_take 0 _ rfl (by kernel_rfl) (by kernel_rfl) (by kernel_rfl) (by kernel_rfl) (by kernel_rfl) (fun _ _ _ h => h) (by rfl) (fun _ => rfl) HSS (fun w' hS => by obtain ⟨qr, q0, q1, q2, q3, q4, q5, q6, q7, q8⟩ := hS; go_simp; rfl) ?_
      simp only [Act.put, List.setIfInBounds_toArray, List.set_cons_zero, List.set_cons_succ]
      refine hold_take 1 _ rfl (by kernel_rfl) (by kernel_rfl) (by kernel_rfl) (by kernel_rfl) (by kernel_rfl) (fun _ _ _ h => h) (by rfl) (fun _ => rfl) HSS (fun w' hS => by obtain ⟨qr, q0, q1, q2, q3, q4, q5, q6, q7, q8⟩ := hS; go_simp; rfl) ?_
      simp only [Act.put, List.setIfInBounds_toArray, List.set_cons_zero, List.set_cons_succ]
      refine hold_one 2 (by kernel_rfl) rfl (by rfl) fun K hK => ?_
      go_simp
      refine ⟨trivial, rfl, (callsIn_wide.2 (HFL.out _ HSS.1)).mono ?_⟩
      rintro e w13 ⟨rfl, rfl⟩
      refine hK _ _ (.inr HSS) ?_
      clear hK K
      refine hold_take 3 _ rfl (by kernel_rfl) (by kernel_rfl) (by kernel_rfl) (by kernel_rfl) (by kernel_rfl) (fun _ _ _ h => h) (by rfl) (fun _ => rfl) HSS (fun w' hS => by obtain ⟨qr, q0, q1, q2, q3, q4, q5, q6, q7, q8⟩ := hS; go_simp; rfl) ?_
      simp only [Act.put, List.setIfInBounds_toArray, List.set_cons_zero, List.set_cons_succ]
      refine hold_one 4 (by kernel_rfl) rfl (by rfl) fun K2 hK2 => ?_
      refine run_skip_u (fun c h => by cases h) (fun _ _ => trivial) (w' := w12.drew.setRow w.heap.size #[.int .i64 q12.to, .int .i64 q12.frm, .bool q12.resp, .int .i64 q12.form, .int .i64 q12.kind, .int .i64 q12.ns, .int .i64 q12.nr, .bool q12.poll, .slice A11 q12.info.length c11]) (exec_store_row _ _ _ rfl w.heap.size #[.int .i64 q12.to, .int .i64 q12.frm, .bool q12.resp, .int .i64 q12.form, .int .i64 q12.kind, .int .i64 q12.ns, .int .i64 q12.nr, .bool q12.poll, .slice A11 q12.info.length c11] rfl rfl 25 zp HS12.out.res pdu_size rfl (pdu_one _ _ _ _ _ _ _ _ _ _ _)) ?_
      have HRW : Hid (RSdone w w12 (w12.drew.setRow w.heap.size #[.int .i64 q12.to, .int .i64 q12.frm, .bool q12.resp, .int .i64 q12.form, .int .i64 q12.kind, .int .i64 q12.ns, .int .i64 q12.nr, .bool q12.poll, .slice A11 q12.info.length c11]) g b #[.int .i64 q12.to, .int .i64 q12.frm, .bool q12.resp, .int .i64 q12.form, .int .i64 q12.kind, .int .i64 q12.ns, .int .i64 q12.nr, .bool q12.poll, .slice A11 q12.info.length c11]) := cover (RS.done HS12.out _)
      generalize hw14 : w12.drew.setRow w.heap.size #[.int .i64 q12.to, .int .i64 q12.frm, .bool q12.resp, .int .i64 q12.form, .int .i64 q12.kind, .int .i64 q12.ns, .int .i64 q12.nr, .bool q12.poll, .slice A11 q12.info.length c11] = w14 at HRW ⊢
      have HS4 : (fun W' : World => Rd 67 W' B g l5 f4 ∧ (World.cell? W' ⟨b, 0, none⟩ = some (.int .i64 q12.to) ∧ World.cell? W' ⟨b, 1, none⟩ = some (.int .i64 q12.frm) ∧ World.cell? W' ⟨b, 2, none⟩ = some (.bool q12.resp) ∧ World.cell? W' ⟨b, 3, none⟩ = some (.int .i64 q12.form) ∧ World.cell? W' ⟨b, 4, none⟩ = some (.int .i64 q12.kind) ∧ World.cell? W' ⟨b, 5, none⟩ = some (.int .i64 q12.ns) ∧ World.cell? W' ⟨b, 6, none⟩ = some (.int .i64 q12.nr) ∧ World.cell? W' ⟨b, 7, none⟩ = some (.bool q12.poll) ∧ World.cell? W' ⟨b, 8, none⟩ = some (.slice A11 q12.info.length c11))) w14 := by
        have hlt1 := HS12.out.lt1
        have hlt2 := HS12.out.lt2
        have hle := HS12.out.rd.le
        exact ⟨HS12.out.rd.keep (HRW.out.other _ (by omega)) (fun y hy => World.cell?_of_block (HRW.out.other _ (by omega))), pdu_cells ((HRW.out.other _ (by omega)).trans HS12.out.unit)⟩
      clear hw14
      refine hK2 _ _ (.inr HS4) ?_
      clear hK2 K2
      refine hold_one 5 (by kernel_rfl) rfl (by rfl) fun K3 hK3 => ?_
      go_simp
      refine hK3 _ _ (.inl rfl) (held_done (by kernel_rfl) ?_ _)
      clear hK3 K3 HS4 HSS p0 p1 p2 p3 p4 p5 p6 p7 p8
      go_wp2
      have hw10 := HS10.out.lt2
      exact bodyPost_ret (v := .tuple #[.agg #[.int .i64 q12.to, .int .i64 q12.frm, .bool q12.resp, .int .i64 q12.form, .int .i64 q12.kind, .int .i64 q12.ns, .int .i64 q12.nr, .bool q12.poll, .slice A11 q12.info.length c11], .bool (!f4)]) (results_cell_and (by rfl) _ _ w.heap.size _ #[.int .i64 q12.to, .int .i64 q12.frm, .bool q12.resp, .int .i64 q12.form, .int .i64 q12.kind, .int .i64 q12.ns, .int .i64 q12.nr, .bool q12.poll, .slice A11 q12.info.length c11] (0, 0) _ (.bool (!f4)) rfl HRW.out.res rfl Try.underlying25 rfl pdu_size) rfl ⟨q12, A11, c11, (!f4), rfl, (ownB_keep HO12.out (fun i hi => HRW.out.other i (by omega))).mono (by omega), HRW.out.only, HFIN⟩
    · have hF : formI x2 = 0 := by unfold formI; rw [if_neg a1, if_neg a3]
      rw [hF] at Q3
      obtain ⟨⟨p0, p1, p2, p3, p4, p5, p6, p7, p8⟩, z5, zc, zd⟩ := HS5.out.cells
      rw [Q3.out] at p3
      rw [hF]
      have z55 := z5 5
      clear z5
      have A3 := cover a3
      have A1 := cover a1
      clear a1 a3
      obtain ⟨⟨x3, l4, f4⟩, e4⟩ : ∃ y, Hid (num1 l3 f3 = y) := ⟨_, cover rfl⟩
      have b4 := num1_bd f3 HB.out.2.2.2
      have n4 := num1_le l3 f3
      rw [e4.out] at b4 n4
      simp only [] at b4 n4
      go_wp2_with fail
      obtain ⟨q6, hq6⟩ : ∃ q : PV, Hid (q = { q5 with ns := x2 / 2 }) := ⟨_, cover rfl⟩
      have S6 := (HS5.out.setU 5 (.int .i64 (x2 / 2)) q6 (.slice none 0 0) (by rw [hq6.out]; rfl)).setC 0
      generalize hw6 : (w5.setCell ⟨b, 5, none⟩ (.int .i64 (x2 / 2))).setCell ⟨d, 0, none⟩ (.int .i64 0) = w6 at S6 ⊢
      have HS6 := cover S6
      clear S6 hw6
      clear p0 p1 p2 p3 p4 p5 p6 p7 p8 z55 zc zd
      have C4 := num1_any B g l3 f3 w6 HS6.out.rd HB.out.2.2.2 (by omega)
      rw [e4.out] at C4
      refine C4.mono ?_
      rintro e w7 ⟨rfl, r7, o7⟩
      have HS7 := cover (HS6.out.num r7 o7)
      clear r7 o7 C4
      have hp4 := bit_one_at b4.1.1 b4.1.2
      obtain ⟨⟨p0, p1, p2, p3, p4, p5, p6, p7, p8⟩, z5, zc, zd⟩ := HS7.out.cells
      have z6 := z5 6
      have z7 := z5 7
      clear z5
      go_upto_region 14 with fail
      obtain ⟨qA, hqA⟩ : ∃ q : PV, Hid (q = ⟨x0, x1 - x1 % 2, !decide (x1 % 2 = 0), 0, 0, x2 / 2, x3 / 2, decide (x3 % 2 = 1), []⟩) := ⟨_, cover rfl⟩
      have S7 := (HS7.out.setU 6 (.int .i64 (x3 / 2)) { q6 with nr := x3 / 2 } (.slice none 0 0) rfl).setU 7 (.bool (decide (x3 % 2 = 1))) qA (.slice none 0 0) (by rw [hqA.out, hq6.out, hq5.out, hF]; rfl)
      generalize hw7 : (w7.setCell ⟨b, 6, none⟩ (.int .i64 (x3 / 2))).setCell ⟨b, 7, none⟩ (.bool (decide (x3 % 2 = 1))) = w7' at S7 ⊢
      have HS8 := cover S7
      have QF : Hid (qA.form = 0) := cover (by rw [hqA.out])
      clear S7 hw7 p0 p1 p2 p3 p4 p5 p6 p7 p8 z6 z7 zc zd hp4 b4 hF
      obtain ⟨⟨p0, p1, p2, p3, p4, p5, p6, p7, p8⟩, z5, zc, zd⟩ := HS8.out.cells
      rw [QF.out] at p3
      clear z5 zc zd
      go_wp2_with fail
      refine (rules_any 0 w7').mono ?_
      rw [show rowsF 0 = rowsI from rfl]
      rintro e w8 ⟨A8, rfl, hr8, hb8⟩
      have S8 := cover (HS8.out.below hb8)
      have HR8 := cover hr8
      clear hb8 hr8 p0 p1 p2 p3 p4 p5 p6 p7 p8
      have CI := cover (indexRule_any A8 rowsI.length rowsI.length w8.heap.size d rowsI 0 w8 rfl (by decide) HR8.out (Nat.le_refl _) S8.out.cells.2.2.1 S8.out.lt4)
      go_wp2_with fail
      refine CI.out.mono ?_
      rintro e w9 ⟨i, rfl, hi, hb9⟩
      have S9 := cover (S8.out.below hb9)
      have HI := cover hi
      clear hb9 hi
      obtain ⟨⟨p0, p1, p2, p3, p4, p5, p6, p7, p8⟩, z5, zc, zd⟩ := S9.out.cells
      have z4 := z5 4
      clear z5 zc zd
      go_wp2_with fail
      obtain ⟨q10, hq10⟩ : ∃ q : PV, Hid (q = { qA with kind := i }) := ⟨_, cover rfl⟩
      have S10 := S9.out.setU 4 (.int .i64 i) q10 (.slice none 0 0) (by rw [hq10.out]; rfl)
      generalize hw10 : w9.setCell ⟨b, 4, none⟩ (.int .i64 i) = w10 at S10 ⊢
      have HS10 := cover S10
      clear S10 hw10 p0 p1 p2 p3 p4 p5 p6 p7 p8 z4
      refine (rest_any B g l4 f4 w10 HS10.out.rd (by omega)).mono ?_
      rintro e w11 ⟨A11, c11, l5, rfl, ho11, hr11, hon11⟩
      have S11 := cover (HS10.out.num hr11 hon11)
      have HO11 := cover ho11
      have hb10 := HS10.out.lt4
      have hb10' := HS10.out.lt3
      clear ho11 hr11 hon11
      obtain ⟨xs, hxs⟩ : ∃ xs, Hid ((if f4 then [] else l4) = xs) := ⟨_, cover rfl⟩
      rw [hxs.out] at HO11 ⊢
      obtain ⟨⟨p0, p1, p2, p3, p4, p5, p6, p7, p8⟩, z5, zc, zd⟩ := S11.out.cells
      have z8 := z5 8
      clear z5 zc zd
      go_upto_region 16 with fail
      obtain ⟨q12, hq12⟩ : ∃ q : PV, Hid (q = { q10 with info := xs }) := ⟨_, cover rfl⟩
      have S12 := S11.out.setU 8 (.slice A11 xs.length c11) q12 (.slice A11 q12.info.length c11) (by rw [hq12.out]; rfl)
      have O12 : OwnB (w11.setCell ⟨b, 8, none⟩ (.slice A11 xs.length c11)) w10.heap.size (.slice A11 q12.info.length c11) q12.info := by
        rw [hq12.out]
        exact ownB_keep HO11.out (fun i hi => Below.heap_setCell w11 ⟨b, 8, none⟩ _ i (fun e => by have : i = b := e; omega))
      generalize hw12 : w11.setCell ⟨b, 8, none⟩ (.slice A11 xs.length c11) = w12 at S12 O12 ⊢
      have HS12 := cover S12
      have HO12 := cover O12
      have hXI : xs.length = q12.info.length := by rw [hq12.out]
      clear S12 O12 hw12 p0 p1 p2 p3 p4 p5 p6 p7 p8 z8
      have HFIN : Hid (decR l = if (!f4) then orForm q12 else (zPV, 2)) := cover (by
        rw [hq12.out, hq10.out, hqA.out, ← hxs.out]
        rw [read_i e1.out e2.out e3.out e4.out A3.out A1.out HI.out]
        cases f4 <;> rfl)
      obtain ⟨p0, p1, p2, p3, p4, p5, p6, p7, p8⟩ := HS12.out.cells.1
      have HFL := cover (fun W (h : Rd 67 W B g l5 f4) => failed_any B g l5 f4 W h)
      have mixed : Try.prog.follows .mixedOrders = true := by kernel_rfl
      refine (wpIn_wide (n := 0)).1 ?_
      refine held_begin (fun W' : World => Rd 67 W' B g l5 f4 ∧ (World.cell? W' ⟨b, 0, none⟩ = some (.int .i64 q12.to) ∧ World.cell? W' ⟨b, 1, none⟩ = some (.int .i64 q12.frm) ∧ World.cell? W' ⟨b, 2, none⟩ = some (.bool q12.resp) ∧ World.cell? W' ⟨b, 3, none⟩ = some (.int .i64 q12.form) ∧ World.cell? W' ⟨b, 4, none⟩ = some (.int .i64 q12.kind) ∧ World.cell? W' ⟨b, 5, none⟩ = some (.int .i64 q12.ns) ∧ World.cell? W' ⟨b, 6, none⟩ = some (.int .i64 q12.nr) ∧ World.cell? W' ⟨b, 7, none⟩ = some (.bool q12.poll) ∧ World.cell? W' ⟨b, 8, none⟩ = some (.slice A11 q12.info.length c11))) 5 mixed ?_
      have HSS : (fun W' : World => Rd 67 W' B g l5 f4 ∧ (World.cell? W' ⟨b, 0, none⟩ = some (.int .i64 q12.to) ∧ World.cell? W' ⟨b, 1, none⟩ = some (.int .i64 q12.frm) ∧ World.cell? W' ⟨b, 2, none⟩ = some (.bool q12.resp) ∧ World.cell? W' ⟨b, 3, none⟩ = some (.int .i64 q12.form) ∧ World.cell? W' ⟨b, 4, none⟩ = some (.int .i64 q12.kind) ∧ World.cell? W' ⟨b, 5, none⟩ = some (.int .i64 q12.ns) ∧ World.cell? W' ⟨b, 6, none⟩ = some (.int .i64 q12.nr) ∧ World.cell? W' ⟨b, 7, none⟩ = some (.bool q12.poll) ∧ World.cell? W' ⟨b, 8, none⟩ = some (.slice A11 q12.info.length c11))) w12.drew := ⟨HS12.out.rd.drewN 1, p0, p1, p2, p3, p4, p5, p6, p7, p8⟩
      refine hold_take 0 _ rfl (by kernel_rfl) (by kernel_rfl) (by kernel_rfl) (by kernel_rfl) (by kernel_rfl) (fun _ _ _ h => h) (by rfl) (fun _ => rfl) HSS (fun w' hS => by obtain ⟨qr, q0, q1, q2, q3, q4, q5, q6, q7, q8⟩ := hS; go_simp; rfl) ?_
      simp only [Act.put, List.setIfInBounds_toArray, List.set_cons_zero, List.set_cons_succ]
      refine hold_take 1 _ rfl (by kernel_rfl) (by kernel_rfl) (by kernel_rfl) (by kernel_rfl) (by kernel_rfl) (fun _ _ _ h => h) (by rfl) (fun _ => rfl) HSS (fun w' hS => by obtain ⟨qr, q0, q1, q2, q3, q4, q5, q6, q7, q8⟩ := hS; go_simp; rfl) ?_
      simp only [Act.put, List.setIfInBounds_toArray, List.set_cons_zero, List.set_cons_succ]
      refine hold_one 2 (by kernel_rfl) rfl (by rfl) fun K hK => ?_
      go_simp
      refine ⟨trivial, rfl, (callsIn_wide.2 (HFL.out _ HSS.1)).mono ?_⟩
      rintro e w13 ⟨rfl, rfl⟩
      refine hK _ _ (.inr HSS) ?_
      clear hK K
      refine hold_take 3 _ rfl (by kernel_rfl) (by kernel_rfl) (by kernel_rfl) (by kernel_rfl) (by kernel_rfl) (fun _ _ _ h => h) (by rfl) (fun _ => rfl) HSS (fun w' hS => by obtain ⟨qr, q0, q1, q2, q3, q4, q5, q6, q7, q8⟩ := hS; go_simp; rfl) ?_
      simp only [Act.put, List.setIfInBounds_toArray, List.set_cons_zero, List.set_cons_succ]
      refine hold_one 4 (by kernel_rfl) rfl (by rfl) fun K2 hK2 => ?_
      refine run_skip_u (fun c h => by cases h) (fun _ _ => trivial) (w' := w12.drew.setRow w.heap.size #[.int .i64 q12.to, .int .i64 q12.frm, .bool q12.resp, .int .i64 q12.form, .int .i64 q12.kind, .int .i64 q12.ns, .int .i64 q12.nr, .bool q12.poll, .slice A11 q12.info.length c11]) (exec_store_row _ _ _ rfl w.heap.size #[.int .i64 q12.to, .int .i64 q12.frm, .bool q12.resp, .int .i64 q12.form, .int .i64 q12.kind, .int .i64 q12.ns, .int .i64 q12.nr, .bool q12.poll, .slice A11 q12.info.length c11] rfl rfl 25 zp HS12.out.res pdu_size rfl (pdu_one _ _ _ _ _ _ _ _ _ _ _)) ?_
      have HRW : Hid (RSdone w w12 (w12.drew.setRow w.heap.size #[.int .i64 q12.to, .int .i64 q12.frm, .bool q12.resp, .int .i64 q12.form, .int .i64 q12.kind, .int .i64 q12.ns, .int .i64 q12.nr, .bool q12.poll, .slice A11 q12.info.length c11]) g b #[.int .i64 q12.to, .int .i64 q12.frm, .bool q12.resp, .int .i64 q12.form, .int .i64 q12.kind, .int .i64 q12.ns, .int .i64 q12.nr, .bool q12.poll, .slice A11 q12.info.length c11]) := cover (RS.done HS12.out _)
      generalize hw14 : w12.drew.setRow w.heap.size #[.int .i64 q12.to, .int .i64 q12.frm, .bool q12.resp, .int .i64 q12.form, .int .i64 q12.kind, .int .i64 q12.ns, .int .i64 q12.nr, .bool q12.poll, .slice A11 q12.info.length c11] = w14 at HRW ⊢
      have HS4 : (fun W' : World => Rd 67 W' B g l5 f4 ∧ (World.cell? W' ⟨b, 0, none⟩ = some (.int .i64 q12.to) ∧ World.cell? W' ⟨b, 1, none⟩ = some (.int .i64 q12.frm) ∧ World.cell? W' ⟨b, 2, none⟩ = some (.bool q12.resp) ∧ World.cell? W' ⟨b, 3, none⟩ = some (.int .i64 q12.form) ∧ World.cell? W' ⟨b, 4, none⟩ = some (.int .i64 q12.kind) ∧ World.cell? W' ⟨b, 5, none⟩ = some (.int .i64 q12.ns) ∧ World.cell? W' ⟨b, 6, none⟩ = some (.int .i64 q12.nr) ∧ World.cell? W' ⟨b, 7, none⟩ = some (.bool q12.poll) ∧ World.cell? W' ⟨b, 8, none⟩ = some (.slice A11 q12.info.length c11))) w14 := by
        have hlt1 := HS12.out.lt1
        have hlt2 := HS12.out.lt2
        have hle := HS12.out.rd.le
        exact ⟨HS12.out.rd.keep (HRW.out.other _ (by omega)) (fun y hy => World.cell?_of_block (HRW.out.other _ (by omega))), pdu_cells ((HRW.out.other _ (by omega)).trans HS12.out.unit)⟩
      clear hw14
      refine hK2 _ _ (.inr HS4) ?_
      clear hK2 K2
      refine hold_one 5 (by kernel_rfl) rfl (by rfl) fun K3 hK3 => ?_
      go_simp
      refine hK3 _ _ (.inl rfl) (held_done (by kernel_rfl) ?_ _)
      clear hK3 K3 HS4 HSS p0 p1 p2 p3 p4 p5 p6 p7 p8
      go_wp2
      have hw10 := HS10.out.lt2
      exact bodyPost_ret (v := .tuple #[.agg #[.int .i64 q12.to, .int .i64 q12.frm, .bool q12.resp, .int .i64 q12.form, .int .i64 q12.kind, .int .i64 q12.ns, .int .i64 q12.nr, .bool q12.poll, .slice A11 q12.info.length c11], .bool (!f4)]) (results_cell_and (by rfl) _ _ w.heap.size _ #[.int .i64 q12.to, .int .i64 q12.frm, .bool q12.resp, .int .i64 q12.form, .int .i64 q12.kind, .int .i64 q12.ns, .int .i64 q12.nr, .bool q12.poll, .slice A11 q12.info.length c11] (0, 0) _ (.bool (!f4)) rfl HRW.out.res rfl Try.underlying25 rfl pdu_size) rfl ⟨q12, A11, c11, (!f4), rfl, (ownB_keep HO12.out (fun i hi => HRW.out.other i (by omega))).mono (by omega), HRW.out.only, HFIN⟩
end Go.Proofs.Ytohegiphdgihpaa
