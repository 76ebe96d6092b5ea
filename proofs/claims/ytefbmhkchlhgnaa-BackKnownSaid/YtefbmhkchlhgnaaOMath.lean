/- Plain facts on rows of bytes as numbers: no program is named here. -/
import Derived.RowKit
namespace Go.Proofs.Ytefbmhkchlhgnaa

/-- all are bytes -/
def Bts (l : List Int) : Prop := ∀ x ∈ l, 0 ≤ x ∧ x ≤ 255

theorem Bts.nil : Bts [] := fun _ h => by cases h
theorem Bts.append {a b : List Int} (ha : Bts a) (hb : Bts b) : Bts (a ++ b) := fun x h => by
  rcases List.mem_append.1 h with h | h
  · exact ha x h
  · exact hb x h
theorem Bts.cons {x : Int} {a : List Int} (hx : 0 ≤ x ∧ x ≤ 255) (ha : Bts a) : Bts (x :: a) := fun y h => by
  rcases List.mem_cons.1 h with rfl | h
  · exact hx
  · exact ha y h
theorem Bts.head {x : Int} {a : List Int} (h : Bts (x :: a)) : 0 ≤ x ∧ x ≤ 255 := h x List.mem_cons_self
theorem Bts.tail {x : Int} {a : List Int} (h : Bts (x :: a)) : Bts a := fun y hy => h y (List.mem_cons_of_mem _ hy)
theorem Bts.take {a : List Int} (h : Bts a) (k : Nat) : Bts (a.take k) := fun x hx => h x (List.mem_of_mem_take hx)
theorem Bts.drop {a : List Int} (h : Bts a) (k : Nat) : Bts (a.drop k) := fun x hx => h x (List.mem_of_mem_drop hx)
theorem Bts.at {a : List Int} (h : Bts a) {k : Nat} (hk : k < a.length) : 0 ≤ a[k] ∧ a[k] ≤ 255 := h _ (List.getElem_mem hk)
theorem Bts.atD {a : List Int} (h : Bts a) (k : Nat) : 0 ≤ a[k]?.getD 0 ∧ a[k]?.getD 0 ≤ 255 := by
  by_cases hk : k < a.length
  · rw [List.getElem?_eq_getElem hk]; exact h.at hk
  · rw [List.getElem?_eq_none (by omega)]; simp

theorem pow256_pos (n : Nat) : (0 : Int) < 256 ^ n := Int.pow_pos (by decide)
theorem pow256_mono {a b : Nat} (h : a ≤ b) : (256 : Int) ^ a ≤ 256 ^ b := by
  induction b with
  | zero => have : a = 0 := by omega
            subst this; exact Int.le_refl _
  | succ b ih =>
    by_cases e : a = b + 1
    · subst e; exact Int.le_refl _
    · have := ih (by omega)
      have := pow256_pos b
      rw [Int.pow_succ]; omega

/-- a row of bytes as a number, the highest first -/
def getv (l : List Int) : Int := l.foldl (fun m x => m * 256 + x) 0
theorem getv_from (l : List Int) (m : Int) : l.foldl (fun m x => m * 256 + x) m = m * 256 ^ l.length + getv l := by
  induction l generalizing m with
  | nil => simp [getv]
  | cons x l ih =>
    show l.foldl _ (m * 256 + x) = _ * 256 ^ (l.length + 1) + l.foldl (fun m x => m * 256 + x) (0 * 256 + x)
    rw [ih, ih (0 * 256 + x), Int.pow_succ, Int.add_mul, Int.zero_mul, Int.zero_add, Int.mul_assoc, Int.mul_comm 256 (256 ^ l.length)]
    omega
theorem getv_nil : getv [] = 0 := rfl
theorem getv_cons (x : Int) (l : List Int) : getv (x :: l) = x * 256 ^ l.length + getv l := by
  show l.foldl _ (0 * 256 + x) = _
  rw [getv_from]; simp
theorem getv_append (a b : List Int) : getv (a ++ b) = getv a * 256 ^ b.length + getv b := by
  unfold getv; rw [List.foldl_append, getv_from]; rfl
theorem getv_snoc (l : List Int) (x : Int) : getv (l ++ [x]) = getv l * 256 + x := by simp [getv]
theorem getv_take_succ (l : List Int) (k : Nat) (h : k < l.length) : getv (l.take (k + 1)) = getv (l.take k) * 256 + l[k] := by
  rw [List.take_succ_eq_append_getElem h, getv_snoc]
theorem getv_bd {l : List Int} (h : Bts l) : 0 ≤ getv l ∧ getv l < 256 ^ l.length := by
  induction l with
  | nil => simp [getv_nil]
  | cons x l ih =>
    have h1 := ih h.tail
    have h2 := h.head
    have hp := pow256_pos l.length
    have e1 : 0 ≤ x * 256 ^ l.length := Int.mul_nonneg h2.1 (by omega)
    have e2 : x * 256 ^ l.length ≤ 255 * 256 ^ l.length := Int.mul_le_mul_of_nonneg_right h2.2 (by omega)
    rw [getv_cons, List.length_cons, Int.pow_succ]
    omega
theorem getv_bd7 {l : List Int} (h : Bts l) (hl : l.length ≤ 7) : 0 ≤ getv l ∧ getv l < 72057594037927936 := by
  have h1 := getv_bd h
  have h2 := pow256_mono hl
  have h3 : (256 : Int) ^ 7 = 72057594037927936 := by decide
  omega
theorem getv_bd6 {l : List Int} (h : Bts l) (hl : l.length ≤ 6) : 0 ≤ getv l ∧ getv l < 36028797018963968 := by
  have h1 := getv_bd h
  have h2 := pow256_mono hl
  have h3 : (256 : Int) ^ 6 = 281474976710656 := by decide
  omega
theorem getv_zeros (k : Nat) (l : List Int) : getv (List.replicate k 0 ++ l) = getv l := by
  have h : getv (List.replicate k 0) = 0 := by
    induction k with
    | zero => rfl
    | succ k ih => rw [List.replicate_succ, getv_cons, ih]; simp
  rw [getv_append, h]; simp

/-- so many low bytes of a number, the highest first -/
def low (n : Int) : Nat → List Int
  | 0 => []
  | i + 1 => (n / 256 ^ i % 256) :: low n i
theorem low_length (n : Int) (w : Nat) : (low n w).length = w := by
  induction w with
  | zero => rfl
  | succ w ih => simp [low, ih]
theorem low_bts (n : Int) (w : Nat) : Bts (low n w) := by
  induction w with
  | zero => exact Bts.nil
  | succ w ih => exact Bts.cons (by omega) ih
theorem mod_step (n p : Int) (hp : 0 < p) : n % (p * 256) = n / p % 256 * p + n % p := by
  have h1 := Int.emod_nonneg n (by omega : p ≠ 0)
  have h2 := Int.emod_lt_of_pos n hp
  have h3 : 0 ≤ n / p % 256 * p := Int.mul_nonneg (by omega) (by omega)
  have h4 : n / p % 256 * p ≤ 255 * p := Int.mul_le_mul_of_nonneg_right (by omega) (by omega)
  have h5 : p * (n / p) + n % p = n := Int.mul_ediv_add_emod n p
  have h6 : 256 * (n / p / 256) + n / p % 256 = n / p := Int.mul_ediv_add_emod (n / p) 256
  have h7 : p * (n / p) = p * 256 * (n / p / 256) + n / p % 256 * p := by
    have : p * (256 * (n / p / 256) + n / p % 256) = p * (n / p) := by rw [h6]
    rw [← this, Int.mul_add, ← Int.mul_assoc, Int.mul_comm p (n / p % 256)]
  exact ((Int.ediv_emod_unique (a := n) (b := p * 256) (r := n / p % 256 * p + n % p) (q := n / p / 256) (by omega)).2 ⟨by omega, by omega, by omega⟩).2
theorem getv_low (n : Int) (w : Nat) : getv (low n w) = n % 256 ^ w := by
  induction w with
  | zero => simp [low, getv_nil, Int.emod_one]
  | succ w ih => rw [low, getv_cons, low_length, ih, Int.pow_succ, mod_step n _ (pow256_pos w)]
theorem getv_inj {a b : List Int} (ha : Bts a) (hb : Bts b) (hl : a.length = b.length) (h : getv a = getv b) : a = b := by
  induction a generalizing b with
  | nil => exact (List.eq_nil_of_length_eq_zero hl.symm).symm
  | cons x a ih =>
    match b, hl with
    | y :: b, hl =>
      have hl' : a.length = b.length := by simpa using hl
      have h1 := getv_bd ha.tail
      have h2 := getv_bd hb.tail
      rw [getv_cons, getv_cons] at h
      rw [hl'] at h h1
      have hp := pow256_pos b.length
      have e : x = y := by
        rcases Int.lt_trichotomy x y with hlt | he | hlt
        · have := Int.mul_le_mul_of_nonneg_right (show x + 1 ≤ y by omega) (Int.le_of_lt hp)
          rw [Int.add_mul] at this; omega
        · exact he
        · have := Int.mul_le_mul_of_nonneg_right (show y + 1 ≤ x by omega) (Int.le_of_lt hp)
          rw [Int.add_mul] at this; omega
      subst e
      rw [ih ha.tail hb.tail hl' (by omega)]
theorem low_getv {l : List Int} (h : Bts l) {w : Nat} (hw : l.length = w) : low (getv l) w = l := by
  subst hw
  have hb := getv_bd h
  exact getv_inj (low_bts _ _) h (low_length _ _) (by rw [getv_low, Int.emod_eq_of_lt hb.1 hb.2])
theorem getv_low_in {n : Int} {w : Nat} (h0 : 0 ≤ n) (h1 : n < 256 ^ w) : getv (low n w) = n := by
  rw [getv_low, Int.emod_eq_of_lt h0 h1]
theorem low_ahead {n : Int} {w : Nat} (h0 : 0 ≤ n) (h1 : n < 256 ^ w) : low n (w + 1) = 0 :: low n w := by
  rw [low, Int.ediv_eq_zero_of_lt h0 h1]; rfl
/-- the order of numbers is the order of their bytes -/
theorem getv_lt {p s t : List Int} {u v : Int} (hs : Bts s) (ht : Bts t) (hl : s.length = t.length) (h : u < v) : getv (p ++ u :: s) < getv (p ++ v :: t) := by
  have h1 := getv_bd hs
  have h2 := getv_bd ht
  have := Int.mul_le_mul_of_nonneg_right (show u + 1 ≤ v by omega) (Int.le_of_lt (pow256_pos t.length))
  rw [Int.add_mul] at this
  rw [getv_append, getv_append, getv_cons, getv_cons]
  simp only [List.length_cons, hl]
  rw [hl] at h1
  omega

/-- the document's Put: none, or so many bytes -/
def fitsB (n w : Int) : Bool := decide (1 ≤ w) && decide (w ≤ 7) && decide (0 ≤ n) && decide (n < 256 ^ w.toNat)
def putv (n w : Int) : List Int := if fitsB n w = true then low n w.toNat else []
/-- the document's Get -/
def getB (l : List Int) : Int := if 1 ≤ l.length ∧ l.length ≤ 7 then getv l else 0
theorem fitsB_iff (n w : Int) : fitsB n w = true ↔ (1 ≤ w ∧ w ≤ 7 ∧ 0 ≤ n ∧ n < 256 ^ w.toNat) := by
  simp [fitsB, and_assoc]
theorem putv_bts (n w : Int) : Bts (putv n w) := by
  unfold putv; split
  · exact low_bts _ _
  · exact Bts.nil
theorem putv_length_le (n w : Int) : (putv n w).length ≤ 7 := by
  unfold putv; split
  · rename_i h; rw [fitsB_iff] at h; rw [low_length]; omega
  · simp
theorem putv_no {n w : Int} (h : fitsB n w = false) : putv n w = [] := by simp [putv, h]
theorem putv_yes {n w : Int} (h : fitsB n w = true) : putv n w = low n w.toNat := by simp [putv, h]
theorem getB_bd {l : List Int} (h : Bts l) : 0 ≤ getB l ∧ getB l < 72057594037927936 := by
  unfold getB; split
  · exact getv_bd7 h (by omega)
  · decide
theorem getB_putv {n w : Int} (h : fitsB n w = true) : getB (putv n w) = n := by
  rw [putv_yes h]; rw [fitsB_iff] at h
  unfold getB
  rw [low_length, if_pos (by omega), getv_low_in h.2.2.1 h.2.2.2]
end Go.Proofs.Ytefbmhkchlhgnaa
