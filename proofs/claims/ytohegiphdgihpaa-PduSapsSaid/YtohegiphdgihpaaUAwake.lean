/- A unit goes there and back. -/
import Derived.Test.YtohegiphdgihpaaUDec
import Derived.Test.YtohegiphdgihpaaUREnc
namespace Go.Proofs.Ytohegiphdgihpaa
open Go.RowKit
set_option linter.unusedVariables false
set_option linter.unusedSimpArgs false

/-- the unit that goes there and back -/
def pA : PV := ⟨4, 8, false, 0, 0, 1, 2, true, [9]⟩
theorem mayA : MayP pA := ⟨by unfold MayN pA; simp, .inl (by unfold pA; simp)⟩
theorem encA : encOu pA = [4, 8, 2, 5, 9] ∧ errE pA = 0 := by
  unfold encOu errE
  rw [mayB_yes mayA]
  exact ⟨rfl, rfl⟩
theorem decA : decR [4, 8, 2, 5, 9] = (pA, 0) := dec_enc mayA

set_option maxHeartbeats 1600000 in
theorem awake_any (w : World) : Calls Try.prog 10 #[] w fun e w' => e = .returned (.bool true) ∧ Below w.heap.size w w' := by
  obtain ⟨w1, hw1⟩ : ∃ w1, Hid (w1 = (w.alloc (.cells #[.int .u8 9] 5)).alloc (.cells #[.int .i64 4, .int .i64 8, .bool false, .int .i64 0, .int .i64 0, .int .i64 1, .int .i64 2, .bool true, .slice (some ⟨w.heap.size, 0, none⟩) 1 1] 25)) := ⟨_, cover rfl⟩
  have hs1 : w1.heap.size = w.heap.size + 2 := by rw [hw1.out]; simp
  have H1 : Hid (Below w.heap.size w w1) := cover (by rw [hw1.out]; exact ((Below.refl _ _).alloc (Nat.le_refl _) _).alloc (by simp) _)
  have G1 : Hid (w1.heap[w.heap.size + 1]? = some (.cells #[.int .i64 4, .int .i64 8, .bool false, .int .i64 0, .int .i64 0, .int .i64 1, .int .i64 2, .bool true, .slice (some ⟨w.heap.size, 0, none⟩) 1 1] 25 (0, 0))) := cover (by rw [hw1.out]; exact heap_alloc2_new _ _ _)
  have R1 : Hid (Row w1 w1.heap.size (some ⟨w.heap.size, 0, none⟩) 1 [9]) := cover (by
    have h := (ownB_made w [9] #[.int .u8 9] rfl (by simp)).row
    rw [hw1.out]
    exact (h.alloc (Nat.le_refl _) _).more (by simp))
  go_enter Try.func10, Try.ntmps10
  go_wp2_with fail
  rw [← hw1.out]
  refine (enc_any pA (some ⟨w.heap.size, 0, none⟩) 1 w1.heap.size w1 R1.out (Nat.le_refl _) (by decide) (fun h => by cases h) (fun x hx => by simp [pA] at hx; subst hx; decide)).mono ?_
  rintro e w2 ⟨A2, c2, rfl, ho2, hb2⟩
  rw [encA.1] at ho2 ⊢
  rw [encA.2]
  have hs2 := hb2.size
  have H2 := cover (H1.out.trans (hb2.mono (by omega)))
  have G2 := cover ((hb2.block _ (by omega)).trans G1.out)
  have R2 := cover (R1.out.below hb2)
  have HO2 := cover ho2
  clear hb2 ho2
  go_wp2_with fail
  refine (dec_any_u A2 5 c2 w2.heap.size [4, 8, 2, 5, 9] w2 HO2.out.row (Nat.le_refl _) (fun x hx => by simp at hx; omega) (by decide)).mono ?_
  rintro e w3 ⟨A3, c3, rfl, ho3, hb3⟩
  rw [decA] at ho3 ⊢
  have hs3 := hb3.size
  have H3 := cover (H2.out.trans (hb3.mono (by omega)))
  have G3 := cover ((hb3.block _ (by omega)).trans G2.out)
  have R3 := cover (R2.out.below (hb3.mono hs2))
  have HO3 := cover (ownB_below HO2.out hb3)
  have HI3 := cover ho3
  clear hb3 ho3
  go_wp2_with fail
  obtain ⟨w5, hw5⟩ : ∃ w5, Hid (w5 = (w3.alloc (.cells #[.int .i64 pA.to, .int .i64 pA.frm, .bool pA.resp, .int .i64 pA.form, .int .i64 pA.kind, .int .i64 pA.ns, .int .i64 pA.nr, .bool pA.poll, .slice A3 pA.info.length c3] 25)).alloc (.cells #[.int .u8 4, .int .u8 8, .int .u8 2, .int .u8 5, .int .u8 9] 5)) := ⟨_, cover rfl⟩
  have hb5 : Below w3.heap.size w3 w5 := by rw [hw5.out]; exact ((Below.refl _ _).alloc (Nat.le_refl _) _).alloc (by simp) _
  have hs5 := hb5.size
  have H5 := cover (H3.out.trans (hb5.mono (by omega)))
  have G5 := cover ((hb5.block _ (by omega)).trans G3.out)
  have R5 := cover (R3.out.below (hb5.mono (by omega)))
  have hr5 := (ownB_below HO3.out hb5).row
  have hi5 := (ownB_below HI3.out hb5).row
  have q5 : w5.heap[w3.heap.size]? = some (.cells #[.int .i64 pA.to, .int .i64 pA.frm, .bool pA.resp, .int .i64 pA.form, .int .i64 pA.kind, .int .i64 pA.ns, .int .i64 pA.nr, .bool pA.poll, .slice A3 pA.info.length c3] 25 (0, 0)) := by rw [hw5.out]; exact heap_alloc2_old _ _ _
  have l5 : Row w5 w5.heap.size (some ⟨w3.heap.size + 1, 0, none⟩) 5 [4, 8, 2, 5, 9] := by
    have h := (ownB_made (w3.alloc (.cells #[.int .i64 pA.to, .int .i64 pA.frm, .bool pA.resp, .int .i64 pA.form, .int .i64 pA.kind, .int .i64 pA.ns, .int .i64 pA.nr, .bool pA.poll, .slice A3 pA.info.length c3] 25)) [4, 8, 2, 5, 9] #[.int .u8 4, .int .u8 8, .int .u8 2, .int .u8 5, .int .u8 9] rfl (by simp)).row
    rw [hw5.out]
    simpa using h
  have HR5 := cover hr5
  have HL5 := cover l5
  have HI5 := cover hi5
  have HQ5 := cover q5
  rw [← hw5.out]
  clear hb5 hr5 hi5 q5 l5
  refine (same_any A2 (some ⟨w3.heap.size + 1, 0, none⟩) 5 c2 5 w5.heap.size w5.heap.size [4, 8, 2, 5, 9] [4, 8, 2, 5, 9] w5 HR5.out HL5.out (by decide)).mono ?_
  rintro e w6 ⟨rfl, d, rfl⟩
  rw [decide_eq_true rfl]
  obtain ⟨p0, p1, p2, p3, p4, p5, p6, p7, p8⟩ := pdu_cells G5.out
  obtain ⟨q0, q1, q2, q3, q4, q5, q6, q7, q8⟩ := pdu_cells HQ5.out
  go_wp2_with fail
  refine (ref_pduSame_any pA pA (some ⟨w.heap.size, 0, none⟩) A3 1 c3 w1.heap.size w5.heap.size (w5.drewN d) (R5.out.drewN d) (HI5.out.drewN d) (by show w1.heap.size ≤ w5.heap.size; omega) (Nat.le_refl _) (by decide)).mono ?_
  rintro e w7 ⟨rfl, hb7⟩
  rw [eqB_refl]
  have H7 := cover ((below_drewN H5.out d).trans (hb7.mono (by show w.heap.size ≤ w5.heap.size; omega)))
  go_wp2
  go_ret
  exact ⟨rfl, (H7.out)⟩
end Go.Proofs.Ytohegiphdgihpaa
