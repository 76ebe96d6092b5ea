/- One bit of a row of bytes is turned: no program is named here. -/
import Derived.Laws.BitsAllLaws
import Derived.IntWalk
import Derived.WalkKit
import Derived.Test.YtjidhpmjdhjciaaOMath
namespace Go.Proofs.Ytjidhpmjdhjciaa
open Go.RowKit

def xorI (x y : Int) : Int := ((x.toNat ^^^ y.toNat : Nat) : Int)
theorem xorI_bts {x y : Int} (hx : 0 ≤ x ∧ x ≤ 255) (hy : 0 ≤ y ∧ y ≤ 255) : 0 ≤ xorI x y ∧ xorI x y ≤ 255 := by
  unfold xorI
  have : x.toNat ^^^ y.toNat < 2 ^ 8 := Nat.xor_lt_two_pow (by omega) (by omega)
  omega
theorem xorI_twice {x y : Int} (hx : 0 ≤ x) : xorI (xorI x y) y = x := by
  unfold xorI
  rw [Int.toNat_natCast, Nat.xor_assoc, Nat.xor_self, Nat.xor_zero]; omega
theorem xorI_ne {x : Int} (hx : 0 ≤ x) (r : Nat) : xorI x ((2 ^ r : Nat) : Int) ≠ x := by
  unfold xorI
  intro h
  have h1 : x.toNat ^^^ 2 ^ r = x.toNat := by rw [Int.toNat_natCast] at h; omega
  have h2 : (x.toNat ^^^ 2 ^ r).testBit r = x.toNat.testBit r := by rw [h1]
  rw [Nat.testBit_xor, Nat.testBit_two_pow_self] at h2
  cases hb : x.toNat.testBit r <;> simp [hb] at h2
theorem xor8_pow {x : Int} (hx : 0 ≤ x ∧ x ≤ 255) {r : Nat} (hr : r < 8) : bits BinOp.xor IntKind.u8 x (2 ^ r % 256) = xorI x ((2 ^ r : Nat) : Int) := by
  have h1 : (2 : Nat) ^ r ≤ 2 ^ 7 := Nat.pow_le_pow_right (by decide) (by omega)
  have h2 : ((2 : Int) ^ r % 256) = ((2 ^ r : Nat) : Int) := by
    rw [show (2 : Int) ^ r = ((2 ^ r : Nat) : Int) by simp]
    generalize (2 : Nat) ^ r = z at h1
    omega
  rw [h2, u8_xor x _ hx.1 (by omega) (Int.natCast_nonneg _) (by generalize (2 : Nat) ^ r = z at h1; omega)]; rfl
/-- the byte at place q is turned in its bit r -/
def turnAt (l : List Int) (q r : Nat) : List Int := l.set q (xorI (l.getD q 0) ((2 ^ r : Nat) : Int))
theorem turnAt_length (l : List Int) (q r : Nat) : (turnAt l q r).length = l.length := by simp [turnAt]
theorem pow_byte {r : Nat} (hr : r < 8) : (0 : Int) ≤ ((2 ^ r : Nat) : Int) ∧ ((2 ^ r : Nat) : Int) ≤ 255 := by
  have : (2 : Nat) ^ r ≤ 2 ^ 7 := Nat.pow_le_pow_right (by decide) (by omega)
  refine ⟨Int.natCast_nonneg _, ?_⟩
  generalize (2 : Nat) ^ r = z at this
  omega
theorem turnAt_bts {l : List Int} (h : Bts l) (q : Nat) {r : Nat} (hr : r < 8) : Bts (turnAt l q r) := by
  intro x hx
  unfold turnAt at hx
  rcases List.mem_or_eq_of_mem_set hx with h1 | rfl
  · exact h x h1
  · exact xorI_bts (by rw [List.getD_eq_getElem?_getD]; exact h.atD q) (pow_byte hr)
theorem turnAt_twice {l : List Int} (h : Bts l) (q r : Nat) : turnAt (turnAt l q r) q r = l := by
  apply List.ext_getElem?
  intro i
  unfold turnAt
  by_cases hi : q = i
  · subst hi
    by_cases hl : q < l.length
    · rw [List.getElem?_set_self (by simpa using hl), List.getD_eq_getElem?_getD, List.getElem?_set_self hl, Option.getD_some, xorI_twice (by rw [List.getD_eq_getElem?_getD]; exact (h.atD q).1)]
      rw [List.getD_eq_getElem?_getD, List.getElem?_eq_getElem hl]; rfl
    · rw [List.getElem?_eq_none (by simp; omega), List.getElem?_eq_none (by omega)]
  · rw [List.getElem?_set_ne hi, List.getElem?_set_ne hi]
theorem turnAt_ne {l : List Int} (h : Bts l) {q : Nat} (hq : q < l.length) (r : Nat) : turnAt l q r ≠ l := by
  intro he
  have h1 : (turnAt l q r)[q]? = l[q]? := by rw [he]
  unfold turnAt at h1
  rw [List.getElem?_set_self hq, List.getD_eq_getElem?_getD, List.getElem?_eq_getElem hq] at h1
  injection h1 with h1
  exact xorI_ne (h.at hq).1 r h1
theorem turnAt_far (l : List Int) {q r i : Nat} (h : i ≠ q) : (turnAt l q r)[i]? = l[i]? := by
  unfold turnAt; rw [List.getElem?_set_ne (fun e => h e.symm)]
/-- which bit is meant -/
def spot (bit : Int) (n : Nat) : Nat := (bit % ((8 * n : Nat) : Int)).toNat
theorem spot_lt (bit : Int) {n : Nat} (h : 0 < n) : spot bit n / 8 < n := by
  have h1 := Int.emod_lt_of_pos bit (show (0 : Int) < ((8 * n : Nat) : Int) by omega)
  have h2 := Int.emod_nonneg bit (show ((8 * n : Nat) : Int) ≠ 0 by omega)
  unfold spot; omega
theorem spot_at (x : Int) (n : Nat) (h0 : 0 < n) (hn : n ≤ 1000000) : (wrap64 (x.tmod ((8 * n : Nat) : Int) + ((8 * n : Nat) : Int))).tmod ((8 * n : Nat) : Int) = (spot x n : Int) := by
  obtain ⟨N, hN⟩ : ∃ N, N = 8 * n := ⟨_, rfl⟩
  unfold spot
  rw [← hN]
  have h1 := Int.lt_tmod_of_pos x (show (0 : Int) < (N : Int) by omega)
  have h2 := Int.tmod_lt_of_pos x (show (0 : Int) < (N : Int) by omega)
  have h5 : (x.tmod (N : Int)) % (N : Int) = x % (N : Int) := by
    rw [← Int.emod_emod_of_dvd x (Int.dvd_refl (N : Int))]
    have h6 := Int.tmod_add_mul_tdiv x (N : Int)
    have h7 : x % (N : Int) = (x.tmod N + N * x.tdiv N) % (N : Int) := by rw [h6]
    rw [h7, Int.add_mul_emod_self_left, Int.emod_emod]
  generalize x.tmod (N : Int) = r at h1 h2 h5
  rw [IntWalk.wrap64_in (r + N) ⟨by omega, by omega⟩]
  rw [Int.tmod_eq_emod_of_nonneg (by omega), Int.add_emod_right, h5]
  have h3 := Int.emod_nonneg x (show (N : Int) ≠ 0 by omega)
  omega
/-- that bit is turned -/
def turnB (l : List Int) (bit : Int) : List Int := turnAt l (spot bit l.length / 8) (spot bit l.length % 8)
theorem turnB_length (l : List Int) (bit : Int) : (turnB l bit).length = l.length := turnAt_length _ _ _
theorem turnB_bts {l : List Int} (h : Bts l) (bit : Int) : Bts (turnB l bit) := turnAt_bts h _ (by omega)
theorem turnB_twice {l : List Int} (h : Bts l) (bit : Int) : turnB (turnB l bit) bit = l := by
  unfold turnB; rw [turnAt_length]; exact turnAt_twice h _ _
theorem turnB_ne {l : List Int} (h : Bts l) (h0 : 0 < l.length) (bit : Int) : turnB l bit ≠ l := turnAt_ne h (spot_lt bit h0) _
end Go.Proofs.Ytjidhpmjdhjciaa
