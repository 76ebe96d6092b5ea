/- A table in a variable; the sums by the table that Make makes. -/
import Derived.Test.YtbpmhfekjihhhaaCMake
import Derived.Test.YtbpmhfekjihhhaaCSlow
import Derived.Test.YtbpmhfekjihhhaaCOpen
namespace Go.Proofs.Ytbpmhfekjihhhaa
open Go.RowKit

/-- what a block holds -/
def tabOf (w : World) (b : Nat) : Array Value := match w.heap[b]? with | some (.cells c _ _) => c | _ => #[]
theorem tabOf_heap {w : World} {b : Nat} (h : (tabOf w b).size = 256) : ∃ t fr, w.heap[b]? = some (.cells (tabOf w b) t fr) := by
  unfold tabOf at h ⊢
  split at h
  · rename_i c t fr hg
    exact ⟨t, fr, hg⟩
  · cases h
/-- the load of a table, kept whole -/
def ldTab (P : Program) (t : TypeId) (v : Value) (w : World) : Result Next := ((Instr.loadAt t v).run P w).andThen fun u w' => .ok (.value u) w'
theorem ldTab_fold (ρ : Operand → Value) (d : Option Tmp) (x : Operand) (ty : TypeId) (ps : String) (af : Array Edge) (gd : Option (Nat × Bool)) (w : World) :
    (execOp ρ ⟨d, .load 26 x, ty, ps, af, gd⟩).run Try.prog w = ldTab Try.prog 26 (ρ x) w := by
  unfold ldTab execOp
  simp only [Sem.run_bind, Sem.run_pure]
theorem ldTab_at (w : World) (b : Nat) (h : (tabOf w b).size = 256) : ldTab Try.prog 26 (.pointer (some ⟨b, 0, none⟩)) w = .ok (.value (.agg (tabOf w b))) w := by
  obtain ⟨t, fr, hg⟩ := tabOf_heap h
  unfold ldTab Instr.loadAt Instr.sureAddr
  simp only [Sem.run_bind, Sem.run_pure, Result.andThen_ok]
  rw [run_loadVar_row w b t 26 _ fr _ hg Try.underlying26 rfl (by rw [h]; exact tab_size)]
  rfl
/-- a variable that holds a table -/
structure TabIn (w : World) (g : Nat) (T : Array Value) (f : Nat → W32) : Prop where
  blk : w.heap[g]? = some (.cells T 26 (0, 0))
  tab : IsTab T f
theorem own_below {w w' : World} {base e size n : Nat} {v : Value} {xs : List Value} (h : w.ownsRow base e size v n xs) (hb : Below w.heap.size w w') : w'.ownsRow base e size v n xs :=
  World.ownsRow.kept h (row := none) ⟨hb.os, hb.tape, hb.output, hb.size, fun i hi _ => hb.block i hi⟩ (Classical.em _)
theorem own_max {w : World} {base e size n c : Nat} {A : Option Addr} {xs : List Value} (h : w.ownsRow base e size (.slice A n c) n xs) : c ≤ 9223372036854775807 := by
  rcases h.2 with ⟨hv, _⟩ | ⟨g, cap, cur, hv, _, _, _, hm, _⟩
  · injection hv with _ _ hc; omega
  · injection hv with _ _ hc; unfold maxLen at hm; omega
theorem tabOf_below {B g : Nat} {w w' : World} (hb : Below B w w') (hg : g < B) : tabOf w' g = tabOf w g := by unfold tabOf; rw [hb.block g hg]
section
variable {w w' : World} {g : Nat} {T : Array Value} {f : Nat → W32}
theorem TabIn.of (h : TabIn w g T f) : tabOf w g = T := by unfold tabOf; rw [h.blk]
theorem TabIn.lt (h : TabIn w g T f) : g < w.heap.size := block_lt h.blk
theorem TabIn.below {B : Nat} (h : TabIn w g T f) (hb : Below B w w') (hg : g < B) : TabIn w' g T f := ⟨(hb.block g hg).trans h.blk, h.tab⟩
theorem TabIn.drewN (h : TabIn w g T f) (n : Nat) : TabIn (w.drewN n) g T f := ⟨h.blk, h.tab⟩
theorem TabIn.alloc (h : TabIn w g T f) (o : Obj) : TabIn (w.alloc o) g T f := ⟨by rw [heap_alloc_old w o h.lt]; exact h.blk, h.tab⟩
end

/-- a table is read out of a variable -/
theorem load_tab {ops : Array Oper} {rest : List Oper} {o : Oper} {a : Act} {w : World} {Q : Exit → Act → World → Prop} (hgd : o.guard = none) (x : Operand) (ho : o.op = .load 26 x)
    (g : Nat) (T : Array Value) (f : Nat → W32) (ht : TabIn w g T f) (hx : a.eval x = .pointer (some ⟨g, 0, none⟩))
    (h : wpList Try.prog ops Q rest (a.put o.dst (.agg T)) w) : wpList Try.prog ops Q (o :: rest) a w :=
  wpList_load_row hgd _ x ho g hx _ T (0, 0) _ ht.blk Try.underlying26 rfl (by rw [ht.tab.size]; exact tab_size) h
/-- a table is stored in a new variable -/
theorem store_tab {ops : Array Oper} {rest : List Oper} {o : Oper} {a : Act} {w w0 : World} {Q : Exit → Act → World → Prop} (hgd : o.guard = none) (x y : Operand) (ho : o.op = .store 26 x y)
    (g B : Nat) (T : Array Value) (f : Nat → W32) (hx : a.eval x = .pointer (some ⟨g, 0, none⟩)) (hy : a.eval y = .agg T) (hT : IsTab T f)
    (hg : w.heap[g]? = some (.cells zeroCells 26 (0, 0))) (hb : Below B w0 w) (hB : B ≤ g)
    (h : ∀ w' : World, TabIn w' g T f → Below B w0 w' → wpList Try.prog ops Q rest (a.put o.dst undef) w') : wpList Try.prog ops Q (o :: rest) a w :=
  wpList_store_row hgd _ x y ho g T hx hy _ zeroCells hg (by rw [hT.size]; exact tab_size) (by rw [hT.size]; simp [zeroCells]) hT.one
    (h _ ⟨setRow_heap _ _ _ _ _ _ hg, hT⟩ (below_setRow hb hB _))

/-! ### the table that Make makes sums as the document says -/
theorem feedT_row {x : Int} (h : 0 ≤ x ∧ x ≤ 255) (s : W32) : feedT tabRow s x = feed s x := by
  unfold feedT feed
  rw [steps_table (s ^^^ byteB x)]
  have e1 : (s ^^^ byteB x) >>> 8 = s >>> 8 := by
    apply BitVec.eq_of_toNat_eq
    rw [BitVec.toNat_ushiftRight, BitVec.toNat_ushiftRight, BitVec.toNat_xor, byteB_toNat h, Nat.shiftRight_xor_distrib]
    rw [show x.toNat >>> 8 = 0 by rw [Nat.shiftRight_eq_div_pow]; omega]; simp
  have e2 : BitVec.ofNat 32 (ix s x) = (s ^^^ byteB x) &&& 255#32 := by
    apply BitVec.eq_of_toNat_eq
    rw [BitVec.toNat_and, BitVec.toNat_xor, byteB_toNat h, BitVec.toNat_ofNat, BitVec.toNat_ofNat, Nat.mod_eq_of_lt (by have := ix_lt (s := s) h; omega)]
    unfold ix
    rw [show (255 : Nat) % 2 ^ 32 = 2 ^ 8 - 1 by decide, Nat.and_two_pow_sub_one_eq_mod, Nat.xor_mod_two_pow]
    rw [show (2 : Nat) ^ 8 = 256 by decide, Nat.mod_eq_of_lt (show x.toNat < 256 by omega)]
  rw [e1, tabRow, e2, BitVec.xor_comm]
theorem runT_row {l : List Int} (h : Bts l) (s : W32) : runT tabRow s l = run s l := by
  induction l generalizing s with
  | nil => rfl
  | cons x l ih =>
    show runT tabRow (feedT tabRow s x) l = run (feed s x) l
    rw [feedT_row h.head, ih h.tail]
theorem moreT_row {l : List Int} (h : Bts l) (s : W32) : moreT tabRow s l = more s l := by
  unfold moreT more; rw [runT_row h]
theorem sealT_row {l : List Int} (h : Bts l) : sealT tabRow l = sealB l := by
  unfold sealT sealB summ; rw [moreT_row h]
theorem okT_row {l : List Int} (h : Bts l) : okT tabRow l = okOpen l := by
  unfold okT okOpen summ; rw [moreT_row (h.take _)]
theorem openT_row {l : List Int} (h : Bts l) : openT tabRow l = openB l := by
  unfold openT openB; rw [okT_row h]

abbrev Made (T : Array Value) : Prop := IsTab T tabRow
section
variable (T : Array Value) (A : Option Addr) (n c B : Nat) (l : List Int) (w : World)
theorem more_made (s : W32) (ht : Made T) (hr : Row w B A n l) (hB : B ≤ w.heap.size) (hb : Bts l) (hmax : n ≤ 9223372036854775807) :
    Calls Try.prog 45 #[.agg T, .int .u32 (rg s), .slice A n c] w fun e w' => e = .returned (.int .u32 (rg (more s l))) ∧ Below w.heap.size w w' := by
  rw [← moreT_row hb]; exact more_any T tabRow s A n c B l w ht hr hB hb hmax
theorem sum_made (ht : Made T) (hr : Row w B A n l) (hB : B ≤ w.heap.size) (hb : Bts l) (hmax : n ≤ 9223372036854775807) :
    Calls Try.prog 31 #[.agg T, .slice A n c] w fun e w' => e = .returned (.int .u32 (rg (summ l))) ∧ Below w.heap.size w w' := by
  unfold summ
  rw [← moreT_row hb]; exact sum_any T tabRow A n c B l w ht hr hB hb hmax
/-- Sum, asked some time behind world w0 -/
theorem sum_from (ht : Made T) (hr : Row w B A n l) (hB : B ≤ w.heap.size) (hb : Bts l) (hmax : n ≤ 9223372036854775807) :
    ∀ W', Below w.heap.size w W' → Calls Try.prog 31 #[.agg T, .slice A n c] W' fun e w' => e = .returned (.int .u32 (rg (summ l))) ∧ Below w.heap.size w w' := fun W' h =>
  (sum_made T A n c B l W' ht (hr.below (h.mono hB)) (by have := h.size; omega) hb hmax).mono fun _ _ ⟨he, hb'⟩ => ⟨he, h.trans (hb'.mono h.size)⟩
theorem seal_made (ht : Made T) (hr : Row w B A n l) (hB : B ≤ w.heap.size) (hb : Bts l) (hc : n ≤ c) (hnil : A = none → c = 0) (hmax : n ≤ 35184372088832) :
    Calls Try.prog 36 #[.agg T, .slice A n c] w (GivesB w (sealB l)) := by
  rw [← sealT_row hb]; exact seal_any T tabRow A n c B l w ht hr hB hb hc hnil hmax
/-- Open has answered, as the document says -/
def OpenD (l : List Int) (w : World) (e : Ending) (w' : World) : Prop :=
  ∃ A c, e = .returned (.tuple #[.slice A (openB l).length c, .bool (okOpen l)]) ∧ OwnB w' w.heap.size (.slice A (openB l).length c) (openB l) ∧ Below w.heap.size w w'
theorem open_made (ht : Made T) (hr : Row w B A n l) (hB : B ≤ w.heap.size) (hb : Bts l) (hc : n ≤ c) (hmax : n ≤ 140737488355328) (hcm : c ≤ 9223372036854775807) :
    Calls Try.prog 38 #[.agg T, .slice A n c] w (OpenD l w) := by
  have h := open_any T tabRow A n c B l w ht hr hB hb hc hmax hcm
  unfold OpenB at h
  rw [openT_row hb, okT_row hb] at h
  exact h
/-- Open has opened what was sealed -/
def OpenY (l : List Int) (w : World) (e : Ending) (w' : World) : Prop :=
  ∃ A c, e = .returned (.tuple #[.slice A l.length c, .bool true]) ∧ OwnB w' w.heap.size (.slice A l.length c) l ∧ Below w.heap.size w w'
theorem open_sealed (ht : Made T) (hr : Row w B A n (sealB l)) (hB : B ≤ w.heap.size) (hb : Bts l) (hc : n ≤ c) (hmax : n ≤ 140737488355328) (hcm : c ≤ 9223372036854775807) :
    Calls Try.prog 38 #[.agg T, .slice A n c] w (OpenY l w) := by
  have h := open_made T A n c B (sealB l) w ht hr hB (sealB_bts hb) hc hmax hcm
  unfold OpenD at h
  rw [openB_seal, okOpen_seal] at h
  exact h
/-- Open has refused -/
theorem open_refused (hno : okOpen l = false) (ht : Made T) (hr : Row w B A n l) (hB : B ≤ w.heap.size) (hb : Bts l) (hc : n ≤ c) (hmax : n ≤ 140737488355328) (hcm : c ≤ 9223372036854775807) :
    Calls Try.prog 38 #[.agg T, .slice A n c] w fun e w' => (∃ A' c', e = .returned (.tuple #[.slice A' 0 c', .bool false])) ∧ Below w.heap.size w w' := by
  have h := open_made T A n c B l w ht hr hB hb hc hmax hcm
  unfold OpenD at h
  have ho : openB l = [] := by unfold openB; rw [hno]; rfl
  rw [ho, hno] at h
  exact h.mono fun e w' ⟨A', c', he, _, hb'⟩ => ⟨⟨A', c', he⟩, hb'⟩
end
theorem tabOf_alloc {w : World} {g : Nat} (hg : g < w.heap.size) (o : Obj) : tabOf (w.alloc o) g = tabOf w g := by unfold tabOf; rw [heap_alloc_old w o hg]
theorem tabOf_drew (w : World) (g : Nat) : tabOf w.drew g = tabOf w g := rfl
end Go.Proofs.Ytbpmhfekjihhhaa
