/- What stands behind a control, plainly: numbers, reasons, classes, statuses: their bytes, what bytes are, there and back. No program is named here. -/
import Derived.WalkKit
import Derived.Test.YtgpmimohoepeiaaOMath
import Derived.Test.YtgpmimohoepeiaaUMath
namespace Go.Proofs.Ytgpmimohoepeiaa
open Go.RowKit

/-- a Frmr's reason -/
structure RsV where
  ctl : Int
  vs : Int
  vr : Int
  rsp : Bool
  w : Bool
  x : Bool
  y : Bool
  z : Bool
  v : Bool
theorem RsV.ext' {p q : RsV} (h1 : p.ctl = q.ctl) (h2 : p.vs = q.vs) (h3 : p.vr = q.vr) (h4 : p.rsp = q.rsp) (h5 : p.w = q.w) (h6 : p.x = q.x) (h7 : p.y = q.y) (h8 : p.z = q.z) (h9 : p.v = q.v) : p = q := by
  cases p; cases q; simp at *; exact ⟨h1, h2, h3, h4, h5, h6, h7, h8, h9⟩
def zRs : RsV := ⟨0, 0, 0, false, false, false, false, false, false⟩
/-- may it be? -/
def OkR (r : RsV) : Prop := (0 ≤ r.ctl ∧ r.ctl ≤ 65535) ∧ (0 ≤ r.vs ∧ r.vs ≤ 127) ∧ (0 ≤ r.vr ∧ r.vr ≤ 127)
instance (r : RsV) : Decidable (OkR r) := by unfold OkR; infer_instance
/-- its last byte -/
def bitsR (r : RsV) : Int := fl r.w + 2 * fl r.x + 4 * fl r.y + 8 * fl r.z + 16 * fl r.v
def encRs (r : RsV) : List Int := [r.ctl / 256, r.ctl % 256, 2 * r.vs, 2 * r.vr + fl r.rsp, bitsR r]
/-- its bytes, or what may not be (1: argument) -/
def putRs (r : RsV) : List Int × Int := if OkR r then (encRs r, 0) else ([], 1)
def bitAt (n k : Int) : Bool := decide (n / k % 2 = 1)
/-- what bytes are, or what is wrong (2: short, 3: long, 4: form) -/
def getRs : List Int → RsV × Int
  | [b0, b1, b2, b3, b4] => if b2 % 2 = 1 ∨ 31 < b4 then (zRs, 4) else (⟨b0 * 256 + b1, b2 / 2, b3 / 2, decide (b3 % 2 = 1), bitAt b4 1, bitAt b4 2, bitAt b4 4, bitAt b4 8, bitAt b4 16⟩, 0)
  | l => (zRs, if l.length < 5 then 2 else 3)
theorem getRs_5 (b0 b1 b2 b3 b4 : Int) : getRs [b0, b1, b2, b3, b4] = if b2 % 2 = 1 ∨ 31 < b4 then (zRs, 4) else (⟨b0 * 256 + b1, b2 / 2, b3 / 2, decide (b3 % 2 = 1), bitAt b4 1, bitAt b4 2, bitAt b4 4, bitAt b4 8, bitAt b4 16⟩, 0) := rfl
theorem getRs_no {l : List Int} (h : l.length ≠ 5) : getRs l = (zRs, if l.length < 5 then 2 else 3) := by
  match l, h with
  | [], _ | [_], _ | [_, _], _ | [_, _, _], _ | [_, _, _, _], _ => rfl
  | [_, _, _, _, _], h => exact absurd rfl h
  | _ :: _ :: _ :: _ :: _ :: _ :: _, _ => rfl
theorem bits_there (a b c d e : Bool) : (0 ≤ fl a + 2 * fl b + 4 * fl c + 8 * fl d + 16 * fl e ∧ fl a + 2 * fl b + 4 * fl c + 8 * fl d + 16 * fl e ≤ 31) ∧ bitAt (fl a + 2 * fl b + 4 * fl c + 8 * fl d + 16 * fl e) 1 = a ∧ bitAt (fl a + 2 * fl b + 4 * fl c + 8 * fl d + 16 * fl e) 2 = b ∧ bitAt (fl a + 2 * fl b + 4 * fl c + 8 * fl d + 16 * fl e) 4 = c ∧ bitAt (fl a + 2 * fl b + 4 * fl c + 8 * fl d + 16 * fl e) 8 = d ∧ bitAt (fl a + 2 * fl b + 4 * fl c + 8 * fl d + 16 * fl e) 16 = e := by
  cases a <;> cases b <;> cases c <;> cases d <;> cases e <;> decide
theorem bits_back {n : Int} (h0 : 0 ≤ n) (h1 : n ≤ 31) : fl (bitAt n 1) + 2 * fl (bitAt n 2) + 4 * fl (bitAt n 4) + 8 * fl (bitAt n 8) + 16 * fl (bitAt n 16) = n := by
  have h : ∀ m : Nat, m < 32 → fl (bitAt (m : Int) 1) + 2 * fl (bitAt (m : Int) 2) + 4 * fl (bitAt (m : Int) 4) + 8 * fl (bitAt (m : Int) 8) + 16 * fl (bitAt (m : Int) 16) = (m : Int) := by decide +kernel
  obtain ⟨m, rfl⟩ : ∃ m : Nat, n = (m : Int) := ⟨n.toNat, by omega⟩
  exact h m (by omega)
/-- a reason that may be is read as it was -/
theorem getRs_enc {r : RsV} (h : OkR r) : getRs (encRs r) = (r, 0) := by
  obtain ⟨hc, hs, hr⟩ := h
  obtain ⟨hb, b1, b2, b3, b4, b5⟩ := bits_there r.w r.x r.y r.z r.v
  obtain ⟨q1, q2⟩ := poll_back r.vr r.rsp
  have hb' : 0 ≤ bitsR r ∧ bitsR r ≤ 31 := hb
  unfold encRs
  rw [getRs_5, if_neg (by omega)]
  have e : (⟨r.ctl / 256 * 256 + r.ctl % 256, 2 * r.vs / 2, (2 * r.vr + fl r.rsp) / 2, decide ((2 * r.vr + fl r.rsp) % 2 = 1), bitAt (bitsR r) 1, bitAt (bitsR r) 2, bitAt (bitsR r) 4, bitAt (bitsR r) 8, bitAt (bitsR r) 16⟩ : RsV) = r :=
    RsV.ext' (by show r.ctl / 256 * 256 + r.ctl % 256 = r.ctl; omega) (by show 2 * r.vs / 2 = r.vs; omega) q1 q2 b1 b2 b3 b4 b5
  rw [e]
/-- bytes that are one are written as they were -/
theorem enc_getRs {b : List Int} (hb : Bts b) {r : RsV} (h : getRs b = (r, 0)) : OkR r ∧ encRs r = b := by
  by_cases h5 : b.length = 5
  · match b, h5, hb, h with
    | [b0, b1, b2, b3, b4], _, hb, h =>
      have h0 := hb b0 (by simp)
      have h1 := hb b1 (by simp)
      have h2 := hb b2 (by simp)
      have h3 := hb b3 (by simp)
      have h4 := hb b4 (by simp)
      rw [getRs_5] at h
      by_cases hf : b2 % 2 = 1 ∨ 31 < b4
      · rw [if_pos hf] at h; injection h with _ h; omega
      · rw [if_neg hf] at h
        injection h with h _
        subst h
        have hx3 : 2 * (b3 / 2) + fl (decide (b3 % 2 = 1)) = b3 := by
          by_cases h2 : b3 % 2 = 1
          · rw [decide_eq_true h2]; simp only [fl]; simp; omega
          · rw [decide_eq_false h2]; simp only [fl]; simp; omega
        refine ⟨⟨⟨?_, ?_⟩, ⟨?_, ?_⟩, ⟨?_, ?_⟩⟩, ?_⟩
        · show 0 ≤ b0 * 256 + b1; omega
        · show b0 * 256 + b1 ≤ 65535; omega
        · show 0 ≤ b2 / 2; omega
        · show b2 / 2 ≤ 127; omega
        · show 0 ≤ b3 / 2; omega
        · show b3 / 2 ≤ 127; omega
        · show [(b0 * 256 + b1) / 256, (b0 * 256 + b1) % 256, 2 * (b2 / 2), 2 * (b3 / 2) + fl (decide (b3 % 2 = 1)), fl (bitAt b4 1) + 2 * fl (bitAt b4 2) + 4 * fl (bitAt b4 4) + 8 * fl (bitAt b4 8) + 16 * fl (bitAt b4 16)] = [b0, b1, b2, b3, b4]
          rw [hx3, bits_back h4.1 (by omega), show (b0 * 256 + b1) / 256 = b0 by omega, show (b0 * 256 + b1) % 256 = b1 by omega, show 2 * (b2 / 2) = b2 by omega]
  · rw [getRs_no h5] at h; injection h with _ h; split at h <;> omega
theorem encRs_bts {r : RsV} (h : OkR r) : Bts (encRs r) := by
  obtain ⟨hc, hs, hr⟩ := h
  have hb : 0 ≤ bitsR r ∧ bitsR r ≤ 31 := (bits_there r.w r.x r.y r.z r.v).1
  have hf := fl_le r.rsp
  intro y hy
  unfold encRs at hy
  simp at hy
  omega
theorem low_ctl {n : Int} (h0 : 0 ≤ n) (h1 : n ≤ 65535) : low n 2 = [n / 256, n % 256] := by
  have e1 : n / 256 ^ 1 % 256 = n / 256 := by rw [Int.pow_one]; omega
  have e0 : n / 256 ^ 0 % 256 = n % 256 := by rw [Int.pow_zero]; omega
  unfold low low low
  rw [e1, e0]
theorem getv_two (a b : Int) : getv [a, b] = a * 256 + b := by simp [getv]

/-- a class -/
structure CV where
  fm : Int
  ty : Int
  wd : Int
def zCV : CV := ⟨0, 0, 0⟩
def OkC (c : CV) : Prop := (0 ≤ c.fm ∧ c.fm ≤ 255) ∧ (0 ≤ c.ty ∧ c.ty ≤ 31) ∧ (0 ≤ c.wd ∧ c.wd ≤ 127)
instance (c : CV) : Decidable (OkC c) := by unfold OkC; infer_instance
def encC (c : CV) : List Int := [c.fm, c.ty, 2 * c.wd]
def putC (c : CV) : List Int × Int := if OkC c then (encC c, 0) else ([], 1)
def getC : List Int → CV × Int
  | [b0, b1, b2] => if 31 < b1 ∨ b2 % 2 = 1 then (zCV, 4) else (⟨b0, b1, b2 / 2⟩, 0)
  | l => (zCV, if l.length < 3 then 2 else 3)
theorem getC_3 (b0 b1 b2 : Int) : getC [b0, b1, b2] = if 31 < b1 ∨ b2 % 2 = 1 then (zCV, 4) else (⟨b0, b1, b2 / 2⟩, 0) := rfl
theorem getC_no {l : List Int} (h : l.length ≠ 3) : getC l = (zCV, if l.length < 3 then 2 else 3) := by
  match l, h with
  | [], _ | [_], _ | [_, _], _ => rfl
  | [_, _, _], h => exact absurd rfl h
  | _ :: _ :: _ :: _ :: _, _ => rfl
theorem getC_enc {c : CV} (h : OkC c) : getC (encC c) = (c, 0) := by
  obtain ⟨h1, h2, h3⟩ := h
  unfold encC
  rw [getC_3, if_neg (by omega), show 2 * c.wd / 2 = c.wd by omega]
theorem encC_bts {c : CV} (h : OkC c) : Bts (encC c) := by
  obtain ⟨h1, h2, h3⟩ := h
  intro y hy
  unfold encC at hy
  simp at hy
  omega

/-- a status ahead of bytes -/
def putS (s : Int) (b : List Int) : List Int × Int := if 0 ≤ s ∧ s ≤ 255 then (s :: b, 0) else ([], 1)
def getS : List Int → Int × List Int × Int
  | [] => (0, [], 2)
  | x :: b => (x, b, 0)
/-- an attempt's number -/
def numB (n : Int) : List Int := if 0 ≤ n ∧ n < 4294967296 then low n 4 else [0, 0, 0, 0]
def readN (b : List Int) : Int × Bool := if b.length = 4 then (getv b, true) else (0, false)
theorem numB_len (n : Int) : (numB n).length = 4 := by
  unfold numB; split
  · exact low_length _ _
  · rfl
theorem numB_bts (n : Int) : Bts (numB n) := by
  unfold numB; split
  · exact low_bts _ _
  · intro x hx; simp at hx; subst hx; decide
theorem readN_num {n : Int} (h0 : 0 ≤ n) (h1 : n < 4294967296) : readN (numB n) = (n, true) := by
  unfold readN
  rw [if_pos (numB_len n)]
  unfold numB
  rw [if_pos ⟨h0, h1⟩, getv_low_in h0 (by simpa using h1)]
theorem readN_longer (n x : Int) : readN (numB n ++ [x]) = (0, false) := by
  unfold readN
  rw [if_neg (by rw [List.length_append, numB_len]; simp)]

/-! what the walk shows of bits -/
theorem at_1 {n : Int} (h0 : 0 ≤ n) (h1 : n ≤ 255) : (bits BinOp.and IntKind.i64 n 1 != 0) = bitAt n 1 := by
  have h : ∀ m : Nat, m < 256 → (bits BinOp.and IntKind.i64 (m : Int) 1 != 0) = bitAt (m : Int) 1 := by decide +kernel
  obtain ⟨m, rfl⟩ : ∃ m : Nat, n = (m : Int) := ⟨n.toNat, by omega⟩
  exact h m (by omega)
theorem at_2 {n : Int} (h0 : 0 ≤ n) (h1 : n ≤ 255) : (bits BinOp.and IntKind.i64 n 2 != 0) = bitAt n 2 := by
  have h : ∀ m : Nat, m < 256 → (bits BinOp.and IntKind.i64 (m : Int) 2 != 0) = bitAt (m : Int) 2 := by decide +kernel
  obtain ⟨m, rfl⟩ : ∃ m : Nat, n = (m : Int) := ⟨n.toNat, by omega⟩
  exact h m (by omega)
theorem at_4 {n : Int} (h0 : 0 ≤ n) (h1 : n ≤ 255) : (bits BinOp.and IntKind.i64 n 4 != 0) = bitAt n 4 := by
  have h : ∀ m : Nat, m < 256 → (bits BinOp.and IntKind.i64 (m : Int) 4 != 0) = bitAt (m : Int) 4 := by decide +kernel
  obtain ⟨m, rfl⟩ : ∃ m : Nat, n = (m : Int) := ⟨n.toNat, by omega⟩
  exact h m (by omega)
theorem at_8 {n : Int} (h0 : 0 ≤ n) (h1 : n ≤ 255) : (bits BinOp.and IntKind.i64 n 8 != 0) = bitAt n 8 := by
  have h : ∀ m : Nat, m < 256 → (bits BinOp.and IntKind.i64 (m : Int) 8 != 0) = bitAt (m : Int) 8 := by decide +kernel
  obtain ⟨m, rfl⟩ : ∃ m : Nat, n = (m : Int) := ⟨n.toNat, by omega⟩
  exact h m (by omega)
theorem at_16 {n : Int} (h0 : 0 ≤ n) (h1 : n ≤ 255) : (bits BinOp.and IntKind.i64 n 16 != 0) = bitAt n 16 := by
  have h : ∀ m : Nat, m < 256 → (bits BinOp.and IntKind.i64 (m : Int) 16 != 0) = bitAt (m : Int) 16 := by decide +kernel
  obtain ⟨m, rfl⟩ : ∃ m : Nat, n = (m : Int) := ⟨n.toNat, by omega⟩
  exact h m (by omega)
theorem u32_and (a b : Nat) (ha : a < 4294967296) (hb : b < 4294967296) : bits BinOp.and IntKind.u32 (a : Int) (b : Int) = ((a &&& b : Nat) : Int) := by
  have f1 : (BitVec.ofInt 32 ((a : Nat) : Int)).toNat = a := by
    rw [BitVec.ofInt_natCast, BitVec.toNat_ofNat]; exact Nat.mod_eq_of_lt (by omega)
  have f2 : (BitVec.ofInt 32 ((b : Nat) : Int)).toNat = b := by
    rw [BitVec.ofInt_natCast, BitVec.toNat_ofNat]; exact Nat.mod_eq_of_lt (by omega)
  have hlt : a &&& b ≤ a := Nat.and_le_left
  show IntKind.u32.wrap ((BitVec.ofInt 32 (a : Int) &&& BitVec.ofInt 32 (b : Int)).toNat : Int) = _
  rw [BitVec.toNat_and, f1, f2, IntKind.wrap_u32']
  omega
/-- the lowest bits of a number -/
theorem and_31 {n : Int} (h0 : 0 ≤ n) (h1 : n < 4294967296) : bits BinOp.and IntKind.u32 n 31 = n % 32 := by
  obtain ⟨m, rfl⟩ : ∃ m : Nat, n = (m : Int) := ⟨n.toNat, by omega⟩
  have h := u32_and m 31 (by omega) (by decide)
  rw [show (31 : Nat) = 2 ^ 5 - 1 from rfl, Nat.and_two_pow_sub_one_eq_mod] at h
  simpa using h
theorem and_127 {n : Int} (h0 : 0 ≤ n) (h1 : n < 4294967296) : bits BinOp.and IntKind.u32 n 127 = n % 128 := by
  obtain ⟨m, rfl⟩ : ∃ m : Nat, n = (m : Int) := ⟨n.toNat, by omega⟩
  have h := u32_and m 127 (by omega) (by decide)
  rw [show (127 : Nat) = 2 ^ 7 - 1 from rfl, Nat.and_two_pow_sub_one_eq_mod] at h
  simpa using h
end Go.Proofs.Ytgpmimohoepeiaa
