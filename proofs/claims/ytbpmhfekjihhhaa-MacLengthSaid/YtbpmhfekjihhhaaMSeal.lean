/- What stands where in a frame that went out. -/
import Derived.Test.YtbpmhfekjihhhaaMUse
namespace Go.Proofs.Ytbpmhfekjihhhaa
open Go.RowKit
set_option linter.unusedVariables false

section
variable {t0 t1 t2 t3 t4 t5 f0 f1 f2 f3 f4 f5 : Int} {d s : List Int}
theorem SealOf.body (hs : SealOf [t0, t1, t2, t3, t4, t5] [f0, f1, f2, f3, f4, f5] d s) : (bodyB [t0, t1, t2, t3, t4, t5] [f0, f1, f2, f3, f4, f5] d).length = s.length - 4 := by rw [← hs.eq, sealB_length]; omega
theorem SealOf.at_ (hs : SealOf [t0, t1, t2, t3, t4, t5] [f0, f1, f2, f3, f4, f5] d s) {k : Nat} (hk : k < s.length - 4) : s[k]? = (bodyB [t0, t1, t2, t3, t4, t5] [f0, f1, f2, f3, f4, f5] d)[k]? := by
  conv => lhs; rw [← hs.eq]
  rw [sealB, List.getElem?_append_left (by rw [hs.body]; exact hk)]
theorem SealOf.toAt (hs : SealOf [t0, t1, t2, t3, t4, t5] [f0, f1, f2, f3, f4, f5] d s) : ∀ j a, j < 6 → [t0, t1, t2, t3, t4, t5][j]? = some a → s[j]? = some a := fun j a hj ha => by
  have h := body_to (to := [t0, t1, t2, t3, t4, t5]) (fr := [f0, f1, f2, f3, f4, f5]) (d := d) rfl
  rw [hs.at_ (by have := hs.len; omega), ← List.getElem?_take_of_lt hj, h]; exact ha
theorem SealOf.frAt (hs : SealOf [t0, t1, t2, t3, t4, t5] [f0, f1, f2, f3, f4, f5] d s) : ∀ j a, j < 6 → [f0, f1, f2, f3, f4, f5][j]? = some a → s[6 + j]? = some a := fun j a hj ha => by
  have h := body_fr (to := [t0, t1, t2, t3, t4, t5]) (fr := [f0, f1, f2, f3, f4, f5]) (d := d) rfl rfl
  rw [hs.at_ (by have := hs.len; omega), ← List.getElem?_drop, ← List.getElem?_take_of_lt hj, h]; exact ha
theorem SealOf.zeroAt (hs : SealOf [t0, t1, t2, t3, t4, t5] [f0, f1, f2, f3, f4, f5] d s) : ∀ k, 14 + d.length + k < s.length - 4 → s[14 + d.length + k]? = some 0 := fun k hk => by
  have h := body_drop14 (to := [t0, t1, t2, t3, t4, t5]) (fr := [f0, f1, f2, f3, f4, f5]) (d := d) rfl rfl
  rw [hs.at_ hk, show 14 + d.length + k = 14 + (d.length + k) by omega, ← List.getElem?_drop, h, List.getElem?_append_right (by omega), show d.length + k - d.length = k by omega, List.getElem?_replicate, if_pos (by have := hs.len; omega)]
/-- the length's two bytes -/
theorem SealOf.lenAt (hs : SealOf [t0, t1, t2, t3, t4, t5] [f0, f1, f2, f3, f4, f5] d s) : s[12]? = some ((d.length : Int) / 256 % 256) ∧ s[13]? = some ((d.length : Int) % 256) := by
  have h := body_drop12 (to := [t0, t1, t2, t3, t4, t5]) (fr := [f0, f1, f2, f3, f4, f5]) (d := d) rfl rfl
  have hl := hs.len
  constructor
  · rw [hs.at_ (by omega), show 12 = 12 + 0 from rfl, ← List.getElem?_drop, h]; simp [low]
  · rw [hs.at_ (by omega), show 13 = 12 + 1 from rfl, ← List.getElem?_drop, h]; simp [low]
/-- the sum's four bytes -/
theorem SealOf.sumAt (hs : SealOf [t0, t1, t2, t3, t4, t5] [f0, f1, f2, f3, f4, f5] d s) : ∃ v : W32, summ (s.take (s.length - 4)) = v ∧ s[s.length - 4]? = some (rg v % 256) ∧ s[s.length - 3]? = some (rg v / 256 % 256) ∧ s[s.length - 2]? = some (rg v / 65536 % 256) ∧ s[s.length - 1]? = some (rg v / 16777216) := by
  have hb := hs.body
  have hl := hs.len
  have e : s = bodyB [t0, t1, t2, t3, t4, t5] [f0, f1, f2, f3, f4, f5] d ++ le4 (summ (bodyB [t0, t1, t2, t3, t4, t5] [f0, f1, f2, f3, f4, f5] d)) := by rw [← hs.eq]; rfl
  refine ⟨summ (bodyB [t0, t1, t2, t3, t4, t5] [f0, f1, f2, f3, f4, f5] d), ?_, ?_⟩
  · rw [← hb]; conv => lhs; rw [e]
    rw [List.take_left]
  · have hk : ∀ i, i < 4 → s[s.length - 4 + i]? = (le4 (summ (bodyB [t0, t1, t2, t3, t4, t5] [f0, f1, f2, f3, f4, f5] d)))[i]? := fun i hi => by
      rw [← hb]
      conv => lhs; rw [e]
      rw [List.getElem?_append_right (by omega), Nat.add_sub_cancel_left]
    rw [le4_rg] at hk
    exact ⟨hk 0 (by decide), by rw [show s.length - 3 = s.length - 4 + 1 by omega]; exact hk 1 (by decide), by rw [show s.length - 2 = s.length - 4 + 2 by omega]; exact hk 2 (by decide), by rw [show s.length - 1 = s.length - 4 + 3 by omega]; exact hk 3 (by decide)⟩
end
end Go.Proofs.Ytbpmhfekjihhhaa
