/- Plain facts on the sum of a frame (a register of 32 bits, the lowest bit first): no program is named here. -/
import Derived.Test.YtbpmhfekjihhhaaOMath
namespace Go.Proofs.Ytbpmhfekjihhhaa

abbrev W32 := BitVec 32
def poly : W32 := 0xedb88320#32
/-- one bit on -/
def step (s : W32) : W32 := if s.getLsbD 0 then (s >>> 1) ^^^ poly else s >>> 1
def steps : Nat → W32 → W32
  | 0, s => s
  | n + 1, s => steps n (step s)
theorem xor4 (a b c d : W32) : (a ^^^ b) ^^^ (c ^^^ d) = (a ^^^ c) ^^^ (b ^^^ d) := by
  rw [BitVec.xor_assoc, ← BitVec.xor_assoc b c d, BitVec.xor_comm b c, BitVec.xor_assoc c b d, ← BitVec.xor_assoc a c]
theorem step_xor (a b : W32) : step (a ^^^ b) = step a ^^^ step b := by
  unfold step
  rw [BitVec.getLsbD_xor, BitVec.ushiftRight_xor_distrib]
  rcases ha : a.getLsbD 0 with _ | _ <;> rcases hb : b.getLsbD 0 with _ | _
  · simp
  · simp [BitVec.xor_assoc]
  · simp [BitVec.xor_assoc, BitVec.xor_comm poly]
  · simp only [Bool.xor_self, Bool.false_eq_true, if_false, if_true]
    rw [xor4]; simp
theorem step_zero : step 0 = 0 := by decide
theorem steps_zero (n : Nat) : steps n 0 = 0 := by
  induction n with
  | zero => rfl
  | succ n ih => rw [steps, step_zero, ih]
theorem steps_xor (n : Nat) (a b : W32) : steps n (a ^^^ b) = steps n a ^^^ steps n b := by
  induction n generalizing a b with
  | zero => rfl
  | succ n ih => rw [steps, step_xor, ih]; rfl
theorem steps_add (m n : Nat) (s : W32) : steps (m + n) s = steps n (steps m s) := by
  induction m generalizing s with
  | zero => rw [Nat.zero_add]; rfl
  | succ m ih => rw [Nat.succ_add, steps, ih]; rfl
theorem step_eq_zero {c : W32} (h : step c = 0) : c = 0 := by
  unfold step at h
  split at h
  · have h31 := congrArg (fun x : W32 => x.getLsbD 31) h
    simp [poly] at h31
  · rename_i hl
    apply BitVec.eq_of_getLsbD_eq
    intro i hi
    rcases i with _ | i
    · simpa using hl
    · have := congrArg (fun x : W32 => x.getLsbD i) h
      simp at this
      rw [Nat.add_comm 1 i] at this
      simpa using this
theorem steps_eq_zero {n : Nat} {c : W32} (h : steps n c = 0) : c = 0 := by
  induction n generalizing c with
  | zero => exact h
  | succ n ih => exact step_eq_zero (ih h)
theorem xor_eq_zero {a b : W32} (h : a ^^^ b = 0) : a = b := by
  have : (a ^^^ b) ^^^ b = 0 ^^^ b := by rw [h]
  rw [BitVec.xor_assoc, BitVec.xor_self] at this
  simpa using this
theorem steps_inj {n : Nat} {a b : W32} (h : steps n a = steps n b) : a = b :=
  xor_eq_zero (steps_eq_zero (n := n) (by rw [steps_xor, h, BitVec.xor_self]; rfl))

/-- a byte in a register -/
def byteB (x : Int) : W32 := BitVec.ofNat 32 x.toNat
def feed (s : W32) (x : Int) : W32 := steps 8 (s ^^^ byteB x)
def run (s : W32) (l : List Int) : W32 := l.foldl feed s
theorem run_append (s : W32) (a b : List Int) : run s (a ++ b) = run (run s a) b := List.foldl_append
theorem run_nil (s : W32) : run s [] = s := rfl
theorem run_cons (s : W32) (x : Int) (l : List Int) : run s (x :: l) = run (feed s x) l := rfl
theorem run_snoc (s : W32) (l : List Int) (x : Int) : run s (l ++ [x]) = feed (run s l) x := by rw [run_append]; rfl
theorem run_take_succ (s : W32) (l : List Int) (k : Nat) (h : k < l.length) : run s (l.take (k + 1)) = feed (run s (l.take k)) l[k] := by
  rw [List.take_succ_eq_append_getElem h, run_snoc]
/-- the sum of bytes behind bytes whose sum is s -/
def more (s : W32) (l : List Int) : W32 := ~~~ run (~~~ s) l
def summ (l : List Int) : W32 := more 0 l
theorem more_append (s : W32) (a b : List Int) : more s (a ++ b) = more (more s a) b := by
  unfold more; rw [run_append, BitVec.not_not]
theorem more_nil (s : W32) : more s [] = s := by unfold more; rw [run_nil, BitVec.not_not]
theorem summ_append (a b : List Int) : summ (a ++ b) = more (summ a) b := more_append _ _ _

/-! ### by a table -/
theorem steps_shift (k : Nat) (u : W32) (h : ∀ i, i < k → u.getLsbD i = false) : steps k u = u >>> k := by
  induction k generalizing u with
  | zero => simp [steps]
  | succ k ih =>
    have h0 : step u = u >>> 1 := by unfold step; rw [h 0 (by omega)]; simp
    rw [steps, h0, ih _ (fun i hi => by rw [BitVec.getLsbD_ushiftRight]; exact h _ (by omega)), ← BitVec.shiftRight_add, Nat.add_comm]
theorem steps_table (v : W32) : steps 8 v = steps 8 (v &&& 255#32) ^^^ (v >>> 8) := by
  have e : v = (v &&& 255#32) ^^^ (v &&& ~~~ 255#32) := by
    apply BitVec.eq_of_getLsbD_eq; intro i hi
    simp only [BitVec.getLsbD_xor, BitVec.getLsbD_and, BitVec.getLsbD_not, hi, decide_true, Bool.true_and]
    cases v.getLsbD i <;> cases (255#32).getLsbD i <;> rfl
  have h : ∀ i, i < 8 → (v &&& ~~~ 255#32).getLsbD i = false := by
    intro i hi
    rw [BitVec.getLsbD_and, BitVec.getLsbD_not]
    have : (255#32).getLsbD i = true := by
      match i, hi with
      | 0, _ => decide
      | 1, _ => decide
      | 2, _ => decide
      | 3, _ => decide
      | 4, _ => decide
      | 5, _ => decide
      | 6, _ => decide
      | 7, _ => decide
    rw [this]; simp
  have e2 : (v &&& ~~~ 255#32) >>> 8 = v >>> 8 := by
    apply BitVec.eq_of_getLsbD_eq; intro i hi
    rw [BitVec.getLsbD_ushiftRight, BitVec.getLsbD_ushiftRight, BitVec.getLsbD_and, BitVec.getLsbD_not]
    by_cases h8 : 8 + i < 32
    · have : (255#32).getLsbD (8 + i) = false := by
        rw [BitVec.getLsbD_ofNat]
        have : Nat.testBit 255 (8 + i) = false := Nat.testBit_lt_two_pow (Nat.lt_of_lt_of_le (by decide : 255 < 2 ^ 8) (Nat.pow_le_pow_right (by decide) (by omega)))
        rw [this]; simp
      rw [this]; simp [h8]
    · have : v.getLsbD (8 + i) = false := BitVec.getLsbD_of_ge _ _ (by omega)
      rw [this]; rfl
  conv => lhs; rw [e]
  rw [steps_xor, steps_shift 8 _ h, e2]

/-! ### rows that are unlike -/
/-- two rows, xor'd byte by byte -/
def xorI (x y : Int) : Int := ((x.toNat ^^^ y.toNat : Nat) : Int)
def xorL (a b : List Int) : List Int := List.zipWith xorI a b
theorem byteB_xor (x y : Int) : byteB (xorI x y) = byteB x ^^^ byteB y := by
  unfold byteB xorI
  apply BitVec.eq_of_getLsbD_eq; intro i hi
  rw [BitVec.getLsbD_xor, BitVec.getLsbD_ofNat, BitVec.getLsbD_ofNat, BitVec.getLsbD_ofNat]
  simp only [Int.toNat_natCast, Nat.testBit_xor, hi, decide_true, Bool.true_and]
theorem feed_xor (s t : W32) (x y : Int) : feed (s ^^^ t) (xorI x y) = feed s x ^^^ feed t y := by
  unfold feed; rw [byteB_xor, xor4, steps_xor]
theorem run_xor {a b : List Int} (h : a.length = b.length) (s t : W32) : run (s ^^^ t) (xorL a b) = run s a ^^^ run t b := by
  induction a generalizing b s t with
  | nil =>
    have : b = [] := List.eq_nil_of_length_eq_zero h.symm
    subst this; rfl
  | cons x a ih =>
    match b, h with
    | y :: b, h =>
      show run (feed (s ^^^ t) (xorI x y)) (xorL a b) = run (feed s x) a ^^^ run (feed t y) b
      rw [feed_xor, ih (by simpa using h)]
theorem xorL_length {a b : List Int} (h : a.length = b.length) : (xorL a b).length = a.length := by unfold xorL; rw [List.length_zipWith]; omega

/-- bits, the lowest of each byte first -/
def bitW (b : Bool) : W32 := if b then 1#32 else 0#32
def runBits (s : W32) (l : List Bool) : W32 := l.foldl (fun s b => step (s ^^^ bitW b)) s
theorem runBits_append (s : W32) (a b : List Bool) : runBits s (a ++ b) = runBits (runBits s a) b := List.foldl_append
theorem runBits_false (s : W32) (n : Nat) : runBits s (List.replicate n false) = steps n s := by
  induction n generalizing s with
  | zero => rfl
  | succ n ih =>
    rw [List.replicate_succ]
    show runBits (step (s ^^^ bitW false)) _ = steps n (step s)
    rw [ih]; simp [bitW]
theorem split_low (v : W32) : step v = step (bitW (v.getLsbD 0)) ^^^ (v >>> 1) := by
  unfold step bitW
  rcases v.getLsbD 0 with _ | _
  · simp
  · simp [BitVec.xor_comm]
theorem steps_bits (n : Nat) (s v : W32) : steps n (s ^^^ v) = runBits s ((List.range n).map v.getLsbD) ^^^ (v >>> n) := by
  induction n generalizing s v with
  | zero => simp [steps, runBits]
  | succ n ih =>
    have e1 : step (s ^^^ v) = step (s ^^^ bitW (v.getLsbD 0)) ^^^ (v >>> 1) := by
      rw [step_xor, split_low v, step_xor, BitVec.xor_assoc]
    have e2 : (List.range (n + 1)).map v.getLsbD = v.getLsbD 0 :: (List.range n).map (v >>> 1).getLsbD := by
      rw [List.range_succ_eq_map, List.map_cons, List.map_map]
      congr 1
      apply List.map_congr_left; intro i _
      simp only [Function.comp, BitVec.getLsbD_ushiftRight]
      rw [Nat.add_comm]
    rw [steps, e1, ih, e2, ← BitVec.shiftRight_add, Nat.add_comm 1 n]
    rfl
/-- a row of at most 32 bits that turns a register of noughts into one of noughts is a row of noughts -/
theorem bits_zero {l : List Bool} (hl : l.length ≤ 32) (h : runBits 0 l = 0) : ∀ i, l.getD i false = false := by
  have hb : (List.range l.length).map ((BitVec.ofBoolListLE l).setWidth 32).getLsbD = l := by
    apply List.ext_getElem (by simp)
    intro i h1 h2
    simp only [List.getElem_map, List.getElem_range, BitVec.getLsbD_setWidth, BitVec.getLsbD_ofBoolListLE]
    rw [List.getD_eq_getElem?_getD, List.getElem?_eq_getElem h2]
    simp; omega
  have hs := steps_bits l.length 0 ((BitVec.ofBoolListLE l).setWidth 32)
  rw [hb, h] at hs
  have hz : ((BitVec.ofBoolListLE l).setWidth 32) >>> l.length = (0 : W32) := by
    apply BitVec.eq_of_getLsbD_eq; intro i hi
    rw [BitVec.getLsbD_ushiftRight, BitVec.getLsbD_setWidth, BitVec.getLsbD_ofBoolListLE, List.getD_eq_getElem?_getD, List.getElem?_eq_none (by omega)]
    simp
  rw [hz] at hs
  have hv := steps_eq_zero (n := l.length) (c := (0 : W32) ^^^ (BitVec.ofBoolListLE l).setWidth 32) (by rw [hs]; rfl)
  intro i
  by_cases hi : i < l.length
  · have := congrArg (fun x : W32 => x.getLsbD i) hv
    simp only [BitVec.getLsbD_xor, BitVec.getLsbD_setWidth, BitVec.getLsbD_ofBoolListLE] at this
    have hi32 : i < 32 := by omega
    simpa [hi32] using this
  · rw [List.getD_eq_getElem?_getD, List.getElem?_eq_none (by omega)]; rfl
/-- .. wherever it stands among noughts -/
theorem burst_zero {l : List Bool} {k : Nat} (h : ∀ q, ¬ (k ≤ q ∧ q < k + 32) → l.getD q false = false) (hr : runBits 0 l = 0) : ∀ q, l.getD q false = false := by
  have e1 : l.take k = List.replicate (l.take k).length false := by
    apply List.eq_replicate_of_mem
    intro b hb
    obtain ⟨i, hi, rfl⟩ := List.getElem_of_mem hb
    rw [List.length_take] at hi
    have := h i (by omega)
    rw [List.getD_eq_getElem?_getD, List.getElem?_eq_getElem (by omega)] at this
    rw [List.getElem_take]; exact this
  have e3 : (l.drop k).drop 32 = List.replicate ((l.drop k).drop 32).length false := by
    apply List.eq_replicate_of_mem
    intro b hb
    obtain ⟨i, hi, rfl⟩ := List.getElem_of_mem hb
    rw [List.length_drop, List.length_drop] at hi
    have := h (k + (32 + i)) (by omega)
    rw [List.getD_eq_getElem?_getD, List.getElem?_eq_getElem (by omega)] at this
    rw [List.getElem_drop, List.getElem_drop]; exact this
  have e : l = l.take k ++ ((l.drop k).take 32 ++ (l.drop k).drop 32) := by rw [List.take_append_drop, List.take_append_drop]
  have hr' := hr
  rw [e, runBits_append, runBits_append, e1, runBits_false, steps_zero, e3, runBits_false] at hr'
  have hm := bits_zero (l := (l.drop k).take 32) (by rw [List.length_take]; omega) (steps_eq_zero hr')
  intro q
  by_cases hq : k ≤ q ∧ q < k + 32
  · have := hm (q - k)
    rw [List.getD_eq_getElem?_getD, List.getElem?_take_of_lt (by omega), List.getElem?_drop, show k + (q - k) = q by omega] at this
    rw [List.getD_eq_getElem?_getD]; exact this
  · exact h q hq

def bitsOf (l : List Int) : List Bool := l.flatMap fun x => (List.range 8).map (byteB x).getLsbD
theorem feed_bits {x : Int} (h : 0 ≤ x ∧ x ≤ 255) (s : W32) : feed s x = runBits s ((List.range 8).map (byteB x).getLsbD) := by
  have hz : byteB x >>> 8 = 0#32 := by
    apply BitVec.eq_of_toNat_eq
    simp only [byteB, BitVec.toNat_ushiftRight, BitVec.toNat_ofNat, Nat.shiftRight_eq_div_pow]
    have : x.toNat < 256 := by omega
    rw [Nat.mod_eq_of_lt (by omega)]
    omega
  unfold feed; rw [steps_bits, hz, BitVec.xor_zero]
theorem run_bits {l : List Int} (h : Bts l) (s : W32) : run s l = runBits s (bitsOf l) := by
  induction l generalizing s with
  | nil => rfl
  | cons x l ih =>
    show run (feed s x) l = runBits s ((List.range 8).map (byteB x).getLsbD ++ bitsOf l)
    rw [runBits_append, ← feed_bits h.head, ih h.tail]
/-- the bit of a row of bytes at place q -/
def bitAt (l : List Int) (q : Nat) : Bool := (l.getD (q / 8) 0).toNat.testBit (q % 8)
theorem bitsOf_getD (l : List Int) (q : Nat) : (bitsOf l).getD q false = bitAt l q := by
  induction l generalizing q with
  | nil => simp [bitsOf, bitAt]
  | cons x l ih =>
    show ((List.range 8).map (byteB x).getLsbD ++ bitsOf l).getD q false = _
    by_cases hq : q < 8
    · rw [List.getD_eq_getElem?_getD, List.getElem?_append_left (by simpa using hq), List.getElem?_map, List.getElem?_range hq]
      have h0 : q / 8 = 0 := by omega
      have h1 : q % 8 = q := by omega
      unfold bitAt
      rw [h0, h1]
      simp only [Option.map_some, Option.getD_some, byteB, BitVec.getLsbD_ofNat, List.getD_cons_zero]
      rw [decide_eq_true (show q < 32 by omega)]; simp
    · rw [List.getD_eq_getElem?_getD, List.getElem?_append_right (by simp; omega)]
      have := ih (q - 8)
      rw [List.getD_eq_getElem?_getD] at this
      simp only [List.length_map, List.length_range]
      rw [this]
      unfold bitAt
      have h0 : q / 8 = (q - 8) / 8 + 1 := by omega
      have h1 : q % 8 = (q - 8) % 8 := by omega
      rw [h0, h1, List.getD_cons_succ]
end Go.Proofs.Ytbpmhfekjihhhaa
