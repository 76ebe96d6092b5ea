/- What hit hands back: the row with one bit turned. -/
import Derived.Test.YtbpmhfekjihhhaaMAwake
import Derived.Test.YtbpmhfekjihhhaaCTurn
namespace Go.Proofs.Ytbpmhfekjihhhaa
open Go.RowKit
set_option linter.unusedVariables false

set_option maxHeartbeats 1600000 in
theorem hit_any (A : Option Addr) (c B m k : Nat) (s : List Int) (bit : Int) (w : World) (hr : Row w B A s.length s) (hB : B ≤ w.heap.size) (hb : Bts s) (h0 : 0 < s.length) (h1 : s.length ≤ 12000) (hm : Hid (m = 8 * s.length)) (hk : k < m) (ek : (wrap64 (bit.tmod (m : Int) + (m : Int))).tmod (m : Int) = (k : Int)) :
    Calls Try.prog 24 #[.slice A s.length c, .int .i64 bit] w (GivesB w (turnAt s (k / 8) (k % 8))) := by
  have em : (8 : Int) * (s.length : Int) = (m : Int) := by have := hm.out; omega
  have hm2 : m ≤ 96000 := by have := hm.out; omega
  have hm0 : ¬ (m : Int) = 0 := by have := hm.out; omega
  obtain ⟨q, hq⟩ : ∃ q, Hid (k / 8 = q) := ⟨_, cover rfl⟩
  obtain ⟨r, hr8⟩ : ∃ r, Hid (k % 8 = r) := ⟨_, cover rfl⟩
  have eq' : (k : Int) / 8 = (q : Int) := by have := hq.out; omega
  have er : (k : Int) % 8 = (r : Int) := by have := hr8.out; omega
  have hr3 : r < 8 := by have := hr8.out; omega
  have hql : q < s.length := by have := hq.out; have := hm.out; omega
  obtain ⟨x, hx⟩ : ∃ x, Hid (s[q]? = some x) := ⟨_, cover (List.getElem?_eq_getElem hql)⟩
  have hx2 : 0 ≤ x ∧ x ≤ 255 := hb x (List.mem_of_getElem? hx.out)
  have HX2 := cover hx2
  clear hb hx2
  go_enter Try.func24, Try.ntmps24
  go_wp2_with fail
  refine (copy_any A s.length c B s w hr hB (by omega)).mono ?_
  rintro e w1 ⟨A1, c1, rfl, ho1, hb1⟩
  obtain ⟨g, rfl, hg, hgl⟩ := own_some ho1 h0
  have hcell : w1.cell? ⟨g, q, none⟩ = some (.int .u8 x) := by rw [ho1.cellAt _ (by omega), List.getElem?_map, hx.out]; rfl
  have hfz : w1.frozen? ⟨g, q, none⟩ = false := ho1.frozenAt _
  have HO := cover ho1
  have hs1 := hb1.size
  have HB1 := cover hb1
  clear ho1 hr hb1
  go_wp2
  go_ret
  have hlen : (turnAt s (k / 8) (k % 8)).length = s.length := turnAt_length _ _ _
  have e : turnAt s (k / 8) (k % 8) = s.set q (xorI x ((2 ^ r : Nat) : Int)) := by
    unfold turnAt; rw [hq.out, hr8.out, List.getD_eq_getElem?_getD, hx.out]; rfl
  have h2 := (HO.out.stored q (.int .u8 (bits BinOp.xor IntKind.u8 x (2 ^ r % 256)))).1
  rw [← List.map_set, xor8_pow HX2.out hr3, ← e] at h2
  refine ⟨some ⟨g, 0, none⟩, c1, ret_slice hlen.symm, ?_, HB1.out.setCell (p := ⟨g, q, none⟩) hg _⟩
  unfold OwnB
  rw [hlen, xor8_pow HX2.out hr3]
  exact h2
end Go.Proofs.Ytbpmhfekjihhhaa
