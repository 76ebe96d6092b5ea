/- Registers of 32 bits as the integers that the walks have: no program is named here. -/
import Derived.Laws.BitsAllLaws
import Derived.WalkKit
import Derived.Test.YtbpmhfekjihhhaaCBurst
namespace Go.Proofs.Ytbpmhfekjihhhaa
open Go.RowKit

theorem byteB_toNat {x : Int} (h : 0 ≤ x ∧ x ≤ 255) : (byteB x).toNat = x.toNat := by
  unfold byteB; rw [BitVec.toNat_ofNat]; exact Nat.mod_eq_of_lt (by omega)
/-- a register as an integer -/
def rg (s : W32) : Int := s.toNat
theorem rg_bd (s : W32) : 0 ≤ rg s ∧ rg s < 4294967296 := by
  unfold rg; have := s.isLt; omega
theorem rg_inj {s t : W32} (h : rg s = rg t) : s = t := BitVec.eq_of_toNat_eq (by unfold rg at h; omega)
theorem rg_of {n : Int} (h0 : 0 ≤ n) (h1 : n < 4294967296) : rg (BitVec.ofNat 32 n.toNat) = n := by
  unfold rg; rw [BitVec.toNat_ofNat, Nat.mod_eq_of_lt (by omega)]; omega
theorem rg_xor (s t : W32) : bits BinOp.xor IntKind.u32 (rg s) (rg t) = rg (s ^^^ t) := by
  unfold rg; rw [u32_xor_nat _ _ s.isLt t.isLt, BitVec.toNat_xor]
theorem rg_shr1 (s : W32) : rg s / (2 : Int) = rg (s >>> 1) := by
  unfold rg; rw [BitVec.toNat_ushiftRight, Nat.shiftRight_eq_div_pow]; omega
theorem rg_shr8 (s : W32) : rg s / (256 : Int) = rg (s >>> 8) := by
  unfold rg; rw [BitVec.toNat_ushiftRight, Nat.shiftRight_eq_div_pow]; omega
theorem rg_low (s : W32) : bits BinOp.and IntKind.u32 (rg s) 1 = if s.getLsbD 0 = true then 1 else 0 := by
  unfold rg
  have h := u32_and_nat s.toNat 1 s.isLt (by decide)
  rw [show ((1 : Nat) : Int) = 1 from rfl] at h
  rw [h, nat_mask1]
  have e : s.getLsbD 0 = s.toNat.testBit 0 := rfl
  rw [e, Nat.testBit_zero]
  by_cases hb : s.toNat % 2 = 1
  · simp [hb]
  · simp [hb]; omega
theorem rg_byte {x : Int} (h : 0 ≤ x ∧ x ≤ 255) : x = rg (byteB x) := by
  unfold rg; rw [byteB_toNat h]; omega
theorem steps_succ (k : Nat) (s : W32) : steps (k + 1) s = step (steps k s) := steps_add k 1 s
/-- a bit on, where the lowest is set -/
theorem rg_step_one {s : W32} {x : Int} (hx : x = rg s) (h : s.getLsbD 0 = true) :
    (bits BinOp.and IntKind.u32 x 1 == 1) = true ∧ bits BinOp.xor IntKind.u32 (x / 2) 3988292384 = rg (step s) := by
  subst hx
  refine ⟨by rw [rg_low, h]; rfl, ?_⟩
  rw [rg_shr1, show (3988292384 : Int) = rg poly by decide, rg_xor]
  unfold step; rw [if_pos h]
theorem rg_step_zero {s : W32} {x : Int} (hx : x = rg s) (h : s.getLsbD 0 = false) :
    (bits BinOp.and IntKind.u32 x 1 == 1) = false ∧ x / 2 = rg (step s) := by
  subst hx
  refine ⟨by rw [rg_low, h]; rfl, ?_⟩
  rw [rg_shr1]
  unfold step; rw [h]; rfl
theorem rg_not (s : W32) : bits BinOp.xor IntKind.u32 IntKind.u32.max (rg s) = rg (~~~ s) := by
  rw [show IntKind.u32.max = rg (BitVec.allOnes 32) by decide, rg_xor, BitVec.allOnes_xor]
/-- the row of a table that a byte asks for -/
def ix (s : W32) (x : Int) : Nat := s.toNat % 256 ^^^ x.toNat
theorem ix_lt {s : W32} {x : Int} (h : 0 ≤ x ∧ x ≤ 255) : ix s x < 256 := Nat.xor_lt_two_pow (n := 8) (by omega) (by omega)
theorem ix_walk {s : W32} {x : Int} (h : 0 ≤ x ∧ x ≤ 255) : bits BinOp.xor IntKind.u8 (rg s % 256) x = (ix s x : Int) := by
  rw [show rg s % 256 = ((s.toNat % 256 : Nat) : Int) by unfold rg; omega, show x = ((x.toNat : Nat) : Int) by omega, u8_xor_nat _ _ (by omega) (by omega)]
  unfold ix; rw [Int.toNat_natCast]
theorem Bts.get {l : List Int} (h : Bts l) {k : Nat} {x : Int} (hx : l[k]? = some x) : 0 ≤ x ∧ x ≤ 255 := h x (List.mem_of_getElem? hx)
/-- by a table -/
def feedT (f : Nat → W32) (s : W32) (x : Int) : W32 := (s >>> 8) ^^^ f (ix s x)
def runT (f : Nat → W32) (s : W32) (l : List Int) : W32 := l.foldl (feedT f) s
theorem runT_take_succ (f : Nat → W32) (s : W32) (l : List Int) (k : Nat) (h : k < l.length) : runT f s (l.take (k + 1)) = feedT f (runT f s (l.take k)) l[k] := by
  unfold runT; rw [List.take_succ_eq_append_getElem h, List.foldl_append]; rfl
theorem runT_snoc (f : Nat → W32) (s : W32) (l : List Int) (x : Int) : runT f s (l ++ [x]) = feedT f (runT f s l) x := by unfold runT; rw [List.foldl_append]; rfl
def moreT (f : Nat → W32) (s : W32) (l : List Int) : W32 := ~~~ runT f (~~~ s) l
theorem feedT_walk (f : Nat → W32) (s : W32) (x : Int) : bits BinOp.xor IntKind.u32 (rg s / (256 : Int)) (rg (f (ix s x))) = rg (feedT f s x) := by
  rw [rg_shr8, rg_xor]; rfl
end Go.Proofs.Ytbpmhfekjihhhaa
