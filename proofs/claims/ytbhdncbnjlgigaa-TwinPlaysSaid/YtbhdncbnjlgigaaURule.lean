/- What rules, ruleOf, isWithin and isEven answer. -/
import Derived.Test.YtbhdncbnjlgigaaUMem
namespace Go.Proofs.Ytbhdncbnjlgigaa
open Go.RowKit
set_option linter.unusedVariables false

/-- a row of the table: what units of one kind may be -/
structure RV where
  code : Int
  cmd : Bool
  rsp : Bool
  grp : Bool
  least : Int
  most : Int
def zRV : RV := ⟨0, false, false, false, 0, 0⟩
/-- the rows of a format -/
def rowsI : List RV := [⟨0, true, true, false, 0, 1040⟩]
def rowsS : List RV := [⟨1, true, true, false, 0, 0⟩, ⟨5, true, true, false, 0, 0⟩, ⟨9, true, true, false, 0, 0⟩]
def rowsU : List RV := [⟨3, true, false, true, 0, 1040⟩, ⟨175, true, true, true, 0, 1040⟩, ⟨227, true, true, true, 0, 1040⟩, ⟨111, true, false, false, 4, 4⟩, ⟨67, true, false, false, 4, 4⟩, ⟨99, false, true, false, 4, 4⟩, ⟨15, false, true, false, 4, 4⟩, ⟨135, false, true, false, 5, 5⟩, ⟨103, true, true, false, 0, 1040⟩, ⟨231, true, true, false, 0, 1040⟩]
def rowsF (f : Int) : List RV := if f = 0 then rowsI else if f = 1 then rowsS else if f = 2 then rowsU else []
/-- the row of a kind, and whether there is one -/
def rowOf (f k : Int) : RV × Bool := if k < 0 then (zRV, false) else match (rowsF f)[k.toNat]? with | some r => (r, true) | none => (zRV, false)
/-- the slice value '.slice A n _' reads as these rows -/
structure RulesIn (w : World) (B : Nat) (A : Option Addr) (L : List RV) : Prop where
  cells : ∀ k (h : k < L.length), ∃ ad, A = some ad ∧ ad.block < B ∧ w.cell? (ad.add (k * 6)) = some (.int .i64 L[k].code) ∧ w.cell? ⟨(ad.add (k * 6)).block, (ad.add (k * 6)).off + 1, none⟩ = some (.bool L[k].cmd) ∧ w.cell? ⟨(ad.add (k * 6)).block, (ad.add (k * 6)).off + 2, none⟩ = some (.bool L[k].rsp) ∧ w.cell? ⟨(ad.add (k * 6)).block, (ad.add (k * 6)).off + 3, none⟩ = some (.bool L[k].grp) ∧ w.cell? ⟨(ad.add (k * 6)).block, (ad.add (k * 6)).off + 4, none⟩ = some (.int .i64 L[k].least) ∧ w.cell? ⟨(ad.add (k * 6)).block, (ad.add (k * 6)).off + 5, none⟩ = some (.int .i64 L[k].most)
section
variable {w w' : World} {B B' n : Nat} {A : Option Addr} {L : List RV}
theorem RulesIn.none_ : RulesIn w B A [] := ⟨fun k h => by simp at h⟩
theorem RulesIn.keep (h : RulesIn w B A L) (hk : ∀ p : Addr, p.block < B → w'.cell? p = w.cell? p) : RulesIn w' B A L :=
  ⟨fun k hl => by
    obtain ⟨ad, e, hb, h0, h1, h2, h3, h4, h5⟩ := h.cells k hl
    have hx : ∀ q : Addr, q.block = (ad.add (k * 6)).block → w'.cell? q = w.cell? q := fun q hq => hk _ (by rw [hq, addr_add_block]; exact hb)
    exact ⟨ad, e, hb, (hx _ rfl).trans h0, (hx ⟨(ad.add (k * 6)).block, (ad.add (k * 6)).off + 1, none⟩ rfl).trans h1, (hx ⟨(ad.add (k * 6)).block, (ad.add (k * 6)).off + 2, none⟩ rfl).trans h2, (hx ⟨(ad.add (k * 6)).block, (ad.add (k * 6)).off + 3, none⟩ rfl).trans h3, (hx ⟨(ad.add (k * 6)).block, (ad.add (k * 6)).off + 4, none⟩ rfl).trans h4, (hx ⟨(ad.add (k * 6)).block, (ad.add (k * 6)).off + 5, none⟩ rfl).trans h5⟩⟩
theorem RulesIn.below (h : RulesIn w B A L) (hb : Below B w w') : RulesIn w' B A L := h.keep fun _ hp => hb.cell hp
theorem RulesIn.alloc (h : RulesIn w B A L) (hB : B ≤ w.heap.size) (o : Obj) : RulesIn (w.alloc o) B A L := h.keep fun p hp => World.cell?_alloc_lt w o p (by omega)
end
/-- the cells of rows -/
def RV.cells (r : RV) : List Value := [.int .i64 r.code, .bool r.cmd, .bool r.rsp, .bool r.grp, .int .i64 r.least, .int .i64 r.most]
def cellsL : List RV → List Value
  | [] => []
  | r :: L => r.cells ++ cellsL L
theorem cellsL_at (L : List RV) (k : Nat) (h : k < L.length) (j : Nat) (hj : j < 6) : (cellsL L)[k * 6 + j]? = L[k].cells[j]? := by
  induction L generalizing k with
  | nil => simp at h
  | cons r L ih =>
    cases k with
    | zero =>
      rw [Nat.zero_mul, Nat.zero_add, cellsL, List.getElem?_append_left (by simp [RV.cells]; omega)]
      rfl
    | succ k =>
      rw [cellsL, List.getElem?_append_right (by simp [RV.cells]; omega)]
      have : (k + 1) * 6 + j - r.cells.length = k * 6 + j := by simp [RV.cells]; omega
      rw [this, ih k (by simpa using h)]
      rfl
theorem RulesIn.made (w : World) (L : List RV) (a : Array Value) (T : TypeId) (ha : a.toList = cellsL L) : RulesIn (w.alloc (.cells a T)) (w.heap.size + 1) (some ⟨w.heap.size, 0, none⟩) L := by
  refine ⟨fun k h => ⟨_, rfl, Nat.lt_succ_self _, ?_⟩⟩
  have hadd : (⟨w.heap.size, 0, none⟩ : Addr).add (k * 6) = ⟨w.heap.size, k * 6, none⟩ := by
    unfold Addr.add; split <;> simp_all
  rw [hadd]
  have hc : ∀ j (hj : j < 6), (w.alloc (.cells a T)).cell? ⟨w.heap.size, k * 6 + j, none⟩ = L[k].cells[j]? := fun j hj => by
    rw [cell_of_row _ _ (k * 6 + j) _ _ (0, 0) (heap_alloc_new w _), ← cellsL_at L k h j hj, ← ha, Array.getElem?_toList]
  exact ⟨hc 0 (by omega), hc 1 (by omega), hc 2 (by omega), hc 3 (by omega), hc 4 (by omega), hc 5 (by omega)⟩
/-- rules has answered -/
def RulesB (L : List RV) (w : World) (e : Ending) (w' : World) : Prop :=
  ∃ A, e = .returned (.slice A L.length L.length) ∧ RulesIn w' w'.heap.size A L ∧ Below w.heap.size w w'
theorem RulesB.made {w : World} {L : List RV} {a : Array Value} {T : TypeId} (n : Nat) (hn : n = L.length) (ha : a.toList = cellsL L) : RulesB L w (.returned (.slice (some ⟨w.heap.size, 0, none⟩) n n)) (w.alloc (.cells a T)) :=
  ⟨_, by rw [hn], by have := RulesIn.made w L a T ha; simpa using this, (Below.refl _ _).alloc (Nat.le_refl _) _⟩
theorem rules_none (f : Int) (w : World) (h0 : f ≠ 0) (h1 : f ≠ 1) (h2 : f ≠ 2) : Calls Try.prog 37 #[.int .i64 f] w (RulesB (rowsF f) w) := by
  have e : rowsF f = [] := by unfold rowsF; rw [if_neg h0, if_neg h1, if_neg h2]
  rw [e]
  go_enter Try.func37, Try.ntmps37
  go_wp2
  go_ret
  exact ⟨none, rfl, RulesIn.none_, Below.refl _ _⟩
theorem rules_i (w : World) : Calls Try.prog 37 #[.int .i64 0] w (RulesB rowsI w) := by
  go_enter Try.func37, Try.ntmps37
  go_wp2
  go_ret
  exact RulesB.made 1 rfl rfl
set_option maxHeartbeats 800000 in
theorem rules_s (w : World) : Calls Try.prog 37 #[.int .i64 1] w (RulesB rowsS w) := by
  go_enter Try.func37, Try.ntmps37
  go_wp2
  go_ret
  exact RulesB.made 3 rfl rfl
set_option maxHeartbeats 3200000 in
theorem rules_u (w : World) : Calls Try.prog 37 #[.int .i64 2] w (RulesB rowsU w) := by
  go_enter Try.func37, Try.ntmps37
  go_wp2
  go_ret
  exact RulesB.made 10 rfl rfl
theorem rules_any (f : Int) (w : World) : Calls Try.prog 37 #[.int .i64 f] w (RulesB (rowsF f) w) := by
  by_cases h0 : f = 0
  · subst h0; exact rules_i w
  · by_cases h1 : f = 1
    · subst h1; exact rules_s w
    · by_cases h2 : f = 2
      · subst h2; exact rules_u w
      · exact rules_none f w h0 h1 h2
theorem rowsF_le (f : Int) : (rowsF f).length ≤ 10 := by
  unfold rowsF; split
  · decide
  · split
    · decide
    · split <;> decide

/-- ruleOf has answered -/
def RuleD (r : RV × Bool) (w : World) (e : Ending) (w' : World) : Prop :=
  e = .returned (.tuple #[.agg #[.int .i64 r.1.code, .bool r.1.cmd, .bool r.1.rsp, .bool r.1.grp, .int .i64 r.1.least, .int .i64 r.1.most], .bool r.2]) ∧ Below w.heap.size w w'
theorem ruleOf_any (f k : Int) (w : World) : Calls Try.prog 33 #[.int .i64 f, .int .i64 k] w (RuleD (rowOf f k) w) := by
  have hle := rowsF_le f
  obtain ⟨L, hL⟩ : ∃ L, Hid (rowsF f = L) := ⟨_, cover rfl⟩
  rw [hL.out] at hle
  obtain ⟨w1, hw1⟩ : ∃ w1, Hid (w1 = w.alloc (.cells #[.int .i64 0, .bool false, .bool false, .bool false, .int .i64 0, .int .i64 0] 57)) := ⟨_, cover rfl⟩
  have H1 : Hid (Below w.heap.size w w1) := cover (by rw [hw1.out]; exact (Below.refl _ _).alloc (Nat.le_refl _) _)
  have hs1 : w1.heap.size = w.heap.size + 1 := by rw [hw1.out]; simp
  have G1 : Hid (w1.heap[w.heap.size]? = some (.cells #[.int .i64 0, .bool false, .bool false, .bool false, .int .i64 0, .int .i64 0] 57 (0, 0))) := cover (by rw [hw1.out]; exact heap_alloc_new _ _)
  go_enter Try.func33, Try.ntmps33
  go_wp2_with fail
  rw [← hw1.out]
  refine (rules_any f w1).mono ?_
  rw [hL.out]
  rintro e w2 ⟨A, rfl, hr, hb2⟩
  have hs2 := hb2.size
  have G2 := cover ((hb2.block w.heap.size (by omega)).trans G1.out)
  have H2 := cover (H1.out.trans (hb2.mono (by omega)))
  clear hb2
  by_cases hk0 : k < 0
  · have HR : Hid (rowOf f k = (zRV, false)) := cover (by unfold rowOf; rw [if_pos hk0])
    go_wp2_with (refine wpList_store_row rfl _ _ _ rfl w.heap.size zr rfl rfl 57 zr G2.out rule_size rfl (rule_one _ _ _ _ _ _) ?_)
    exact bodyPost_ret (v := .tuple #[.agg zr, .bool false]) (results_cell_and (by rfl) _ _ w.heap.size _ zr (0, 0) _ (.bool false) rfl (setRow_heap _ _ _ _ _ _ G2.out) rfl Try.underlying57 rfl rule_size) rfl ⟨by rw [HR.out]; rfl, Go.below_setRow H2.out (Nat.le_refl _) _⟩
  · obtain ⟨m, rfl⟩ : ∃ m : Nat, k = (m : Int) := ⟨k.toNat, by omega⟩
    by_cases hm : m < L.length
    · have HR : Hid (rowOf f (m : Int) = (L[m], true)) := cover (by
        unfold rowOf
        rw [if_neg hk0, hL.out, Int.toNat_natCast, List.getElem?_eq_getElem hm])
      obtain ⟨ad, rfl, hblk, h0, h1, h2, h3, h4, h5⟩ := hr.cells m hm
      obtain ⟨R, hRR⟩ : ∃ R, Hid (L[m] = R) := ⟨_, cover rfl⟩
      rw [hRR.out] at h0 h1 h2 h3 h4 h5 HR
      clear hr
      go_wp2_with (refine wpList_store_row rfl _ _ _ rfl w.heap.size #[.int .i64 R.code, .bool R.cmd, .bool R.rsp, .bool R.grp, .int .i64 R.least, .int .i64 R.most] rfl rfl 57 zr G2.out rule_size rfl (rule_one _ _ _ _ _ _) ?_)
      exact bodyPost_ret (v := .tuple #[.agg #[.int .i64 R.code, .bool R.cmd, .bool R.rsp, .bool R.grp, .int .i64 R.least, .int .i64 R.most], .bool true]) (results_cell_and (by rfl) _ _ w.heap.size _ #[.int .i64 R.code, .bool R.cmd, .bool R.rsp, .bool R.grp, .int .i64 R.least, .int .i64 R.most] (0, 0) _ (.bool true) rfl (setRow_heap _ _ _ _ _ _ G2.out) rfl Try.underlying57 rfl rule_size) rfl ⟨by rw [HR.out], Go.below_setRow H2.out (Nat.le_refl _) _⟩
    · have HR : Hid (rowOf f (m : Int) = (zRV, false)) := cover (by
        unfold rowOf
        rw [if_neg hk0, hL.out, Int.toNat_natCast, List.getElem?_eq_none (by omega)])
      clear hr
      go_wp2_with (refine wpList_store_row rfl _ _ _ rfl w.heap.size zr rfl rfl 57 zr G2.out rule_size rfl (rule_one _ _ _ _ _ _) ?_)
      exact bodyPost_ret (v := .tuple #[.agg zr, .bool false]) (results_cell_and (by rfl) _ _ w.heap.size _ zr (0, 0) _ (.bool false) rfl (setRow_heap _ _ _ _ _ _ G2.out) rfl Try.underlying57 rfl rule_size) rfl ⟨by rw [HR.out]; rfl, Go.below_setRow H2.out (Nat.le_refl _) _⟩

/-- is it within these bounds? -/
def inB (n a b : Int) : Bool := decide (a ≤ n) && decide (n ≤ b)
theorem isWithin_any (n a b : Int) (w : World) : Calls Try.prog 38 #[.int .i64 n, .int .i64 a, .int .i64 b] w fun e w' => e = .returned (.bool (inB n a b)) ∧ w' = w := by
  by_cases h1 : a ≤ n
  · by_cases h2 : n ≤ b
    · have HB : Hid (inB n a b = true) := cover (by simp [inB, h1, h2])
      go_enter Try.func38, Try.ntmps38
      go_wp2
      go_ret
      exact ⟨ret_bool HB.out.symm, rfl⟩
    · have HB : Hid (inB n a b = false) := cover (by simp [inB]; omega)
      go_enter Try.func38, Try.ntmps38
      go_wp2
      go_ret
      exact ⟨ret_bool HB.out.symm, rfl⟩
  · have HB : Hid (inB n a b = false) := cover (by simp [inB]; omega)
    go_enter Try.func38, Try.ntmps38
    go_wp2
    go_ret
    exact ⟨ret_bool HB.out.symm, rfl⟩
theorem and_one {n : Int} (h0 : 0 ≤ n) (h1 : n ≤ 255) : (bits BinOp.and IntKind.i64 n 1 == 0) = decide (n % 2 = 0) := by
  have h : ∀ m : Nat, m < 256 → (bits BinOp.and IntKind.i64 (m : Int) 1 == 0) = decide ((m : Int) % 2 = 0) := by decide +kernel
  obtain ⟨m, rfl⟩ : ∃ m : Nat, n = (m : Int) := ⟨n.toNat, by omega⟩
  exact h m (by omega)
theorem isEven_any (n : Int) (w : World) (h0 : 0 ≤ n) (h1 : n ≤ 255) : Calls Try.prog 39 #[.int .i64 n] w fun e w' => e = .returned (.bool (decide (n % 2 = 0))) ∧ w' = w := by
  have HB := cover (and_one h0 h1)
  go_enter Try.func39, Try.ntmps39
  go_wp2
  go_ret
  exact ⟨ret_bool HB.out, rfl⟩
end Go.Proofs.Ytbhdncbnjlgigaa
