/- Plain facts on sums: bursts, sealed rows, three rows: no program is named here. -/
import Derived.Test.YtbpmhfekjihhhaaCMath
namespace Go.Proofs.Ytbpmhfekjihhhaa

theorem bitAt_lt {l : List Int} {q : Nat} (h : 8 * l.length ≤ q) : bitAt l q = false := by
  unfold bitAt
  rw [List.getD_eq_getElem?_getD, List.getElem?_eq_none (by omega)]; simp
theorem byte_ext {x y : Int} (hx : 0 ≤ x ∧ x ≤ 255) (hy : 0 ≤ y ∧ y ≤ 255) (h : ∀ i, i < 8 → x.toNat.testBit i = y.toNat.testBit i) : x = y := by
  have : x.toNat = y.toNat := by
    apply Nat.eq_of_testBit_eq
    intro i
    by_cases hi : i < 8
    · exact h i hi
    · have h8 : 256 ≤ 2 ^ i := Nat.le_trans (by decide : 256 ≤ 2 ^ 8) (Nat.pow_le_pow_right (by decide) (by omega))
      rw [Nat.testBit_lt_two_pow (by omega), Nat.testBit_lt_two_pow (by omega)]
  omega
theorem bits_ext {a b : List Int} (ha : Bts a) (hb : Bts b) (hl : a.length = b.length) (h : ∀ q, bitAt a q = bitAt b q) : a = b := by
  apply List.ext_getElem hl
  intro i h1 h2
  refine byte_ext (ha.at h1) (hb.at h2) (fun j hj => ?_)
  have := h (8 * i + j)
  unfold bitAt at this
  rw [show (8 * i + j) / 8 = i by omega, show (8 * i + j) % 8 = j by omega, List.getD_eq_getElem?_getD, List.getD_eq_getElem?_getD, List.getElem?_eq_getElem h1, List.getElem?_eq_getElem h2] at this
  exact this
theorem xorI_bts {x y : Int} (hx : 0 ≤ x ∧ x ≤ 255) (hy : 0 ≤ y ∧ y ≤ 255) : 0 ≤ xorI x y ∧ xorI x y ≤ 255 := by
  unfold xorI
  have : x.toNat ^^^ y.toNat < 2 ^ 8 := Nat.xor_lt_two_pow (by omega) (by omega)
  omega
theorem xorL_bts {a b : List Int} (ha : Bts a) (hb : Bts b) : Bts (xorL a b) := by
  intro x hx
  obtain ⟨i, hi, rfl⟩ := List.getElem_of_mem hx
  unfold xorL at hi ⊢
  rw [List.length_zipWith] at hi
  rw [List.getElem_zipWith]
  exact xorI_bts (ha.at (by omega)) (hb.at (by omega))
theorem bitAt_xor {a b : List Int} (hl : a.length = b.length) (q : Nat) : bitAt (xorL a b) q = (bitAt a q ^^ bitAt b q) := by
  by_cases hq : q / 8 < a.length
  · unfold bitAt xorL
    rw [List.getD_eq_getElem?_getD, List.getD_eq_getElem?_getD, List.getD_eq_getElem?_getD, List.getElem?_eq_getElem (by rw [List.length_zipWith]; omega), List.getElem?_eq_getElem hq, List.getElem?_eq_getElem (by omega), List.getElem_zipWith]
    simp only [Option.getD_some, xorI, Int.toNat_natCast, Nat.testBit_xor]
  · rw [bitAt_lt (l := xorL a b) (by rw [xorL_length hl]; omega), bitAt_lt (l := a) (by omega), bitAt_lt (l := b) (by omega)]; rfl
/-- two rows that are unlike in at most 32 bits that follow one another, and turn a register alike, are one -/
theorem burst_eq {a b : List Int} (ha : Bts a) (hb : Bts b) (hl : a.length = b.length) {k : Nat} (h : ∀ q, ¬ (k ≤ q ∧ q < k + 32) → bitAt a q = bitAt b q) {s : W32} (hr : run s a = run s b) : a = b := by
  have h0 : run 0 (xorL a b) = 0 := by
    have := run_xor hl s s
    rw [hr, BitVec.xor_self, BitVec.xor_self] at this
    exact this
  rw [run_bits (xorL_bts ha hb)] at h0
  have hz := burst_zero (k := k) (fun q hq => by rw [bitsOf_getD, bitAt_xor hl, h q hq]; simp) h0
  refine bits_ext ha hb hl (fun q => ?_)
  have := hz q
  rw [bitsOf_getD, bitAt_xor hl] at this
  revert this
  cases bitAt a q <;> cases bitAt b q <;> simp
theorem summ_eq_run {a b : List Int} (h : summ a = summ b) : run (~~~ (0 : W32)) a = run (~~~ (0 : W32)) b := by
  unfold summ more at h
  have := congrArg (fun x : W32 => ~~~ x) h
  simpa using this
theorem burst_summ {a b : List Int} (ha : Bts a) (hb : Bts b) (hl : a.length = b.length) {k : Nat} (h : ∀ q, ¬ (k ≤ q ∧ q < k + 32) → bitAt a q = bitAt b q) (hr : summ a = summ b) : a = b :=
  burst_eq ha hb hl h (summ_eq_run hr)

/-- a register as four bytes, the lowest first -/
def le4 (v : W32) : List Int := [((v.toNat % 256 : Nat) : Int), ((v.toNat / 256 % 256 : Nat) : Int), ((v.toNat / 65536 % 256 : Nat) : Int), ((v.toNat / 16777216 : Nat) : Int)]
theorem le4_bts (v : W32) : Bts (le4 v) := by
  have := v.isLt
  unfold le4
  exact Bts.cons (by omega) (Bts.cons (by omega) (Bts.cons (by omega) (Bts.cons (by omega) Bts.nil)))
theorem le4_length (v : W32) : (le4 v).length = 4 := rfl
theorem le4_bit (v : W32) (q : Nat) (hq : q < 32) : bitAt (le4 v) q = v.getLsbD q := by
  have hv := v.isLt
  have hb : v.getLsbD q = v.toNat.testBit q := rfl
  rw [hb]
  unfold bitAt le4
  have d2 : v.toNat / 256 = v.toNat / 2 ^ 8 := rfl
  have d3 : v.toNat / 65536 = v.toNat / 2 ^ 16 := rfl
  have d4 : v.toNat / 16777216 = v.toNat / 2 ^ 24 := rfl
  have m : ∀ n : Nat, n % 256 = n % 2 ^ 8 := fun _ => rfl
  rcases (show q / 8 = 0 ∨ q / 8 = 1 ∨ q / 8 = 2 ∨ q / 8 = 3 by omega) with h | h | h | h
  · rw [h]; simp only [List.getD_cons_zero, Int.toNat_natCast]
    rw [m, Nat.testBit_mod_two_pow, show q % 8 = q by omega]; simp; omega
  · rw [h]; simp only [List.getD_cons_succ, List.getD_cons_zero, Int.toNat_natCast]
    rw [m, Nat.testBit_mod_two_pow, d2, Nat.testBit_div_two_pow, show q % 8 + 8 = q by omega]; simp; omega
  · rw [h]; simp only [List.getD_cons_succ, List.getD_cons_zero, Int.toNat_natCast]
    rw [m, Nat.testBit_mod_two_pow, d3, Nat.testBit_div_two_pow, show q % 8 + 16 = q by omega]; simp; omega
  · rw [h]; simp only [List.getD_cons_succ, List.getD_cons_zero, Int.toNat_natCast]
    rw [d4, Nat.testBit_div_two_pow, show q % 8 + 24 = q by omega]
theorem le4_inj {u v : W32} (h : le4 u = le4 v) : u = v := by
  apply BitVec.eq_of_getLsbD_eq; intro i hi
  rw [← le4_bit u i hi, ← le4_bit v i hi, h]
theorem run_le4 (s v : W32) : run s (le4 v) = steps 32 (s ^^^ v) := by
  have hz : v >>> 32 = 0#32 := by
    apply BitVec.eq_of_getLsbD_eq; intro i hi
    rw [BitVec.getLsbD_ushiftRight, BitVec.getLsbD_of_ge _ _ (by omega)]; simp
  rw [run_bits (le4_bts v), steps_bits, hz, BitVec.xor_zero]
  congr 1
  apply List.ext_getElem?
  intro i
  have hlen : (bitsOf (le4 v)).length = 32 := by simp [bitsOf, le4]
  by_cases hi : i < 32
  · have h1 := bitsOf_getD (le4 v) i
    rw [le4_bit v i hi, List.getD_eq_getElem?_getD, List.getElem?_eq_getElem (by omega)] at h1
    rw [List.getElem?_eq_getElem (by omega), List.getElem?_map, List.getElem?_range hi]
    simpa using h1
  · rw [List.getElem?_eq_none (by omega), List.getElem?_eq_none (by simp; omega)]

/-- what is sealed -/
def sealB (b : List Int) : List Int := b ++ le4 (summ b)
theorem sealB_length (b : List Int) : (sealB b).length = b.length + 4 := by unfold sealB; rw [List.length_append, le4_length]
theorem sealB_bts {b : List Int} (h : Bts b) : Bts (sealB b) := h.append (le4_bts _)
/-- is it a sealed row? -/
def okOpen (c : List Int) : Bool := decide (4 ≤ c.length) && decide (c.drop (c.length - 4) = le4 (summ (c.take (c.length - 4))))
def openB (c : List Int) : List Int := if okOpen c = true then c.take (c.length - 4) else []
theorem okOpen_seal (b : List Int) : okOpen (sealB b) = true := by
  unfold okOpen
  rw [sealB_length, Nat.add_sub_cancel]
  unfold sealB
  rw [List.drop_append_of_le_length (Nat.le_refl _), List.drop_length, List.take_append_of_le_length (Nat.le_refl _), List.take_length]
  simp
theorem openB_seal (b : List Int) : openB (sealB b) = b := by
  unfold openB
  rw [if_pos (okOpen_seal b), sealB_length, Nat.add_sub_cancel]
  unfold sealB
  rw [List.take_append_of_le_length (Nat.le_refl _), List.take_length]
theorem okOpen_iff (c : List Int) : okOpen c = true ↔ 4 ≤ c.length ∧ c = sealB (c.take (c.length - 4)) := by
  unfold okOpen
  rw [Bool.and_eq_true, decide_eq_true_eq, decide_eq_true_eq]
  constructor
  · rintro ⟨h1, h2⟩
    refine ⟨h1, ?_⟩
    unfold sealB
    rw [← h2, List.take_append_drop]
  · rintro ⟨h1, h2⟩
    refine ⟨h1, ?_⟩
    have h3 : (sealB (c.take (c.length - 4))).drop (c.length - 4) = le4 (summ (c.take (c.length - 4))) := by
      unfold sealB; exact List.drop_left' (by rw [List.length_take]; omega)
    rw [← h2] at h3
    exact h3
theorem run_seal (b : List Int) : run (~~~ (0 : W32)) (sealB b) = steps 32 (~~~ (0 : W32)) := by
  unfold sealB summ more
  rw [run_append, run_le4]
  congr 1
  apply BitVec.eq_of_getLsbD_eq; intro i hi
  simp only [BitVec.getLsbD_xor, BitVec.getLsbD_not, hi, decide_true, Bool.true_and]
  cases (run (~~~ (0 : W32)) b).getLsbD i <;> simp
/-- a sealed row that is turned in at most 32 bits that follow one another is none, or is as it was -/
theorem burst_open {b c : List Int} (hb : Bts b) (hc : Bts c) (hl : c.length = b.length + 4) {k : Nat} (h : ∀ q, ¬ (k ≤ q ∧ q < k + 32) → bitAt c q = bitAt (sealB b) q) (ho : okOpen c = true) : c = sealB b := by
  have h1 := ((okOpen_iff c).1 ho).2
  refine burst_eq hc (sealB_bts hb) (by rw [sealB_length, hl]) h (s := ~~~ (0 : W32)) ?_
  rw [run_seal, h1, run_seal]

/-- of three rows of one length -/
theorem summ_three {a b c : List Int} (h1 : a.length = b.length) (h2 : a.length = c.length) : summ (xorL (xorL a b) c) = summ a ^^^ summ b ^^^ summ c := by
  unfold summ more
  have e : (~~~ (0 : W32)) = (~~~ (0 : W32) ^^^ ~~~ (0 : W32)) ^^^ ~~~ (0 : W32) := by decide
  have h3 := run_xor (a := xorL a b) (b := c) (by rw [xorL_length h1]; exact h2) (~~~ (0 : W32) ^^^ ~~~ (0 : W32)) (~~~ (0 : W32))
  rw [← e, run_xor h1] at h3
  rw [h3]
  apply BitVec.eq_of_getLsbD_eq; intro i hi
  simp only [BitVec.getLsbD_xor, BitVec.getLsbD_not, hi, decide_true, Bool.true_and]
  cases (run (~~~ (0 : W32)) a).getLsbD i <;> cases (run (~~~ (0 : W32)) b).getLsbD i <;> cases (run (~~~ (0 : W32)) c).getLsbD i <;> rfl
end Go.Proofs.Ytbpmhfekjihhhaa
