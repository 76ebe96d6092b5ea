/- Plain facts on frames: there and back; what is cut, or has bytes behind it; a bit that is turned. -/
import Derived.Test.YtbpmhfekjihhhaaMMath
import Derived.Test.YtbpmhfekjihhhaaCTurn
namespace Go.Proofs.Ytbpmhfekjihhhaa
open Go.RowKit
set_option linter.unusedVariables false

section
variable {to fr d : List Int}
theorem body_to (h1 : to.length = 6) : (bodyB to fr d).take 6 = to := by
  unfold bodyB; rw [← h1, List.take_left]
theorem body_drop6 (h1 : to.length = 6) : (bodyB to fr d).drop 6 = fr ++ (low d.length 2 ++ (d ++ List.replicate (46 - d.length) 0)) := by
  unfold bodyB; rw [← h1, List.drop_left]
theorem body_fr (h1 : to.length = 6) (h2 : fr.length = 6) : ((bodyB to fr d).drop 6).take 6 = fr := by
  rw [body_drop6 h1]
  conv => lhs; rw [← h2]
  rw [List.take_left]
theorem body_drop12 (h1 : to.length = 6) (h2 : fr.length = 6) : (bodyB to fr d).drop 12 = low d.length 2 ++ (d ++ List.replicate (46 - d.length) 0) := by
  rw [show 12 = 6 + 6 from rfl, ← List.drop_drop, body_drop6 h1]
  conv => lhs; rw [← h2]
  rw [List.drop_left]
theorem body_len (h1 : to.length = 6) (h2 : fr.length = 6) : ((bodyB to fr d).drop 12).take 2 = low d.length 2 := by
  rw [body_drop12 h1 h2]
  exact List.take_left' (low_length _ _)
theorem body_drop14 (h1 : to.length = 6) (h2 : fr.length = 6) : (bodyB to fr d).drop 14 = d ++ List.replicate (46 - d.length) 0 := by
  rw [show 14 = 12 + 2 from rfl, ← List.drop_drop, body_drop12 h1 h2]
  exact List.drop_left' (low_length _ _)
theorem body_x6 {f0 : Int} {l : List Int} (h1 : to.length = 6) : (bodyB to (f0 :: l) d).getD 6 0 = f0 := by
  have h := body_drop6 (fr := f0 :: l) (d := d) h1
  have e : (bodyB to (f0 :: l) d).getD 6 0 = ((bodyB to (f0 :: l) d).drop 6).getD 0 0 := by simp [List.getD_eq_getElem?_getD, List.getElem?_drop]
  rw [e, h]; simp
theorem lenF_body (h1 : to.length = 6) (h2 : fr.length = 6) (hn : d.length ≤ 1500) : lenF (bodyB to fr d) = d.length := by
  unfold lenF
  rw [body_len h1 h2, getv_low_in (by omega) (by have : (256 : Int) ^ 2 = 65536 := by decide
                                                 omega)]
  omega
theorem allZ_zeros (k : Nat) : allZ (List.replicate k 0) = true := by
  unfold allZ; rw [List.all_eq_true]; intro x hx; rw [(List.mem_replicate.1 hx).2]; rfl
end
section
variable {to d l : List Int} {f0 : Int}
theorem okF_body (h1 : to.length = 6) (h2 : (f0 :: l).length = 6) (hn : d.length ≤ 1500) (hg : grp f0 = false) : okF (bodyB to (f0 :: l) d) = true := by
  unfold okF
  rw [body_x6 h1, lenF_body h1 h2 hn, body_drop14 h1 h2, hg, List.drop_left, allZ_zeros]
  simp; omega
theorem body64 (h1 : to.length = 6) (h2 : (f0 :: l).length = 6) : 60 ≤ (bodyB to (f0 :: l) d).length := by
  rw [bodyB_length _ h1 h2]; omega
theorem errD_enc (h1 : to.length = 6) (h2 : (f0 :: l).length = 6) (hn : d.length ≤ 1500) (hg : grp f0 = false) : errD (sealB (bodyB to (f0 :: l) d)) = 0 := by
  have h := body64 (d := d) h1 h2
  exact errD_ok (by rw [sealB_length]; omega) (okOpen_seal _) (by rw [openB_seal]; exact okF_body h1 h2 hn hg)
theorem enc_D (h1 : to.length = 6) (h2 : (f0 :: l).length = 6) (hn : d.length ≤ 1500) (hg : grp f0 = false) :
    toD (sealB (bodyB to (f0 :: l) d)) = to ∧ frD (sealB (bodyB to (f0 :: l) d)) = f0 :: l ∧ daD (sealB (bodyB to (f0 :: l) d)) = d := by
  unfold toD frD daD toF frF daF
  rw [errD_enc h1 h2 hn hg, if_pos rfl, if_pos rfl, if_pos rfl, openB_seal, okF_body h1 h2 hn hg, if_pos rfl, if_pos rfl, if_pos rfl, body_to h1, body_fr h1 h2, lenF_body h1 h2 hn, body_drop14 h1 h2, List.take_left]
  exact ⟨rfl, rfl, rfl⟩
theorem enc_length (h1 : to.length = 6) (h2 : (f0 :: l).length = 6) : (sealB (bodyB to (f0 :: l) d)).length = 18 + max d.length 46 := by
  rw [sealB_length, bodyB_length _ h1 h2]; omega
end

theorem lenF_take (l : List Int) {k : Nat} (hk : 14 ≤ k) : lenF (l.take k) = lenF l := by
  unfold lenF
  rw [List.drop_take, List.take_take, show min 2 (k - 12) = 2 by omega]
theorem lenF_append (l m : List Int) (h : 14 ≤ l.length) : lenF (l ++ m) = lenF l := by
  unfold lenF
  rw [List.drop_append_of_le_length (by omega), List.take_append_of_le_length (by rw [List.length_drop]; omega)]
theorem errD_zero {l : List Int} (h : errD l = 0) : 64 ≤ l.length ∧ okOpen l = true ∧ okF (openB l) = true := by
  unfold errD at h
  by_cases h1 : l.length < 64
  · rw [if_pos h1] at h; cases h
  · rw [if_neg h1] at h
    rcases h2 : okOpen l with _ | _
    · rw [h2, if_pos rfl] at h; cases h
    · rw [h2, if_neg (by decide)] at h
      rcases h3 : okF (openB l) with _ | _
      · rw [h3, if_pos rfl] at h; cases h
      · exact ⟨by omega, rfl, rfl⟩
theorem errD_len {l : List Int} (h : errD l = 0) : l.length = 18 + max (lenF l) 46 := by
  obtain ⟨h1, h2, h3⟩ := errD_zero h
  have h4 := openB_length h2
  have e : openB l = l.take (l.length - 4) := by unfold openB; rw [if_pos h2]
  have h5 : ((openB l).drop 14).length = max (lenF (openB l)) 46 := by
    unfold okF at h3
    simp only [Bool.and_eq_true, decide_eq_true_eq] at h3
    exact h3.1.2
  rw [List.length_drop, h4] at h5
  rw [e, lenF_take _ (by omega)] at h5
  omega
section
variable {to d l : List Int} {f0 : Int}
theorem lenF_seal (h1 : to.length = 6) (h2 : (f0 :: l).length = 6) (hn : d.length ≤ 1500) : lenF (sealB (bodyB to (f0 :: l) d)) = d.length := by
  have h := body64 (d := d) h1 h2
  unfold sealB
  rw [lenF_append _ _ (by omega), lenF_body h1 h2 hn]
/-- a frame that is cut is none -/
theorem errD_cut (h1 : to.length = 6) (h2 : (f0 :: l).length = 6) (hn : d.length ≤ 1500) {k : Nat} (hk : k < (sealB (bodyB to (f0 :: l) d)).length) : errD ((sealB (bodyB to (f0 :: l) d)).take k) ≠ 0 := fun h => by
  have h3 := errD_len h
  have h4 := enc_length (d := d) h1 h2
  have h5 : ((sealB (bodyB to (f0 :: l) d)).take k).length = k := by rw [List.length_take]; omega
  have h6 := (errD_zero h).1
  rw [lenF_take _ (by omega), lenF_seal h1 h2 hn] at h3
  omega
/-- a frame that has bytes behind it is none -/
theorem errD_more (h1 : to.length = 6) (h2 : (f0 :: l).length = 6) (hn : d.length ≤ 1500) {m : List Int} (hm : 0 < m.length) : errD (sealB (bodyB to (f0 :: l) d) ++ m) ≠ 0 := fun h => by
  have h3 := errD_len h
  have h4 := enc_length (d := d) h1 h2
  rw [lenF_append _ _ (by omega), lenF_seal h1 h2 hn, List.length_append] at h3
  omega
end
theorem turnAt_ne {l : List Int} {q r : Nat} (hq : q < l.length) (hb : Bts l) : turnAt l q r ≠ l := fun h => by
  have h1 := congrArg (fun x => x.getD q 0) h
  unfold turnAt at h1
  simp only [List.getD_eq_getElem?_getD, List.getElem?_set_self hq, Option.getD_some] at h1
  generalize hx : l[q]?.getD 0 = x at h1
  have hx0 : 0 ≤ x := by rw [← hx]; exact (hb.atD q).1
  unfold xorI at h1
  have h2 : x.toNat ^^^ 2 ^ r = x.toNat := by
    have h9 := congrArg Int.toNat h1
    rw [Int.toNat_natCast, Int.toNat_natCast] at h9
    exact h9
  have h3 := congrArg (fun y => Nat.testBit y r) h2
  simp only [Nat.testBit_xor, Nat.testBit_two_pow_self] at h3
  revert h3
  cases x.toNat.testBit r <;> simp
/-- a frame with one bit turned has a wrong sum -/
theorem errD_turn {b : List Int} (hb : Bts b) (h60 : 60 ≤ b.length) {k : Nat} (hk : k < 8 * (sealB b).length) : errD (turnAt (sealB b) (k / 8) (k % 8)) = 5 := by
  refine errD_sum (by rw [turnAt_length, sealB_length]; omega) ?_
  cases h : okOpen (turnAt (sealB b) (k / 8) (k % 8)) with
  | false => rfl
  | true =>
    exfalso
    have hs := sealB_bts hb
    refine turnAt_ne (q := k / 8) (r := k % 8) (by omega) hs (burst_open hb (turnAt_bts hs _ (by omega)) (by rw [turnAt_length, sealB_length]) (k := k) (fun q hq => ?_) h)
    exact turnAt_bit _ q (by omega)
end Go.Proofs.Ytbpmhfekjihhhaa
