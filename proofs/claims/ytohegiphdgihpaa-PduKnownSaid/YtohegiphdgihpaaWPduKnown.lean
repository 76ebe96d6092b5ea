/- The walk of PduKnown. -/
import Derived.Test.YtohegiphdgihpaaUAwake
namespace Go.Proofs.Ytohegiphdgihpaa
open Go.RowKit
set_option linter.unusedVariables false
set_option linter.unusedSimpArgs false

/-- bytes that were just made are read -/
theorem dec_made (w : World) (l : List Int) (a : Array Value) (n : Nat) (d : PV × Int) (hn : n = l.length) (ha : a.toList = l.map (Value.int .u8)) (hb : Bts l) (hl : l.length ≤ 100) (hd : Hid (decR l = d)) :
    Calls Try.prog 11 #[.slice (some ⟨w.heap.size, 0, none⟩) n n] (w.alloc (.cells a 5)) fun e w' => ∃ A c, e = .returned (.tuple #[.agg #[.int .i64 d.1.to, .int .i64 d.1.frm, .bool d.1.resp, .int .i64 d.1.form, .int .i64 d.1.kind, .int .i64 d.1.ns, .int .i64 d.1.nr, .bool d.1.poll, .slice A d.1.info.length c], .int .i64 d.2]) ∧ Below w.heap.size w w' := by
  subst hn
  have h := ownB_made w l a ha hl
  have hz : (w.alloc (.cells a 5)).heap.size = w.heap.size + 1 := by simp
  refine (dec_any_u _ l.length l.length _ l _ h.row (Nat.le_refl _) hb (by omega)).mono ?_
  rw [hd.out]
  rintro e w' ⟨A, c, he, _, hb'⟩
  exact ⟨A, c, he, ((Below.refl _ _).alloc (Nat.le_refl _) _).trans (hb'.mono (by omega))⟩
def pU : PV := ⟨4, 8, true, 2, 5, 0, 0, false, [0, 0, 0, 1]⟩
theorem decU : decR [4, 9, 99, 0, 0, 0, 1] = (pU, 0) := by
  have h : MayP pU := ⟨by unfold MayN pU; simp, .inr (.inr ⟨rfl, rfl, rfl, .inr (.inr (.inr (.inr (.inl ⟨.inl rfl, rfl, rfl, by decide⟩))))⟩)⟩
  exact dec_enc h
theorem dec2 : decR [4, 9] = (zPV, 2) := rfl
theorem dec3 : decR [4, 9, 1] = (zPV, 2) := by rw [decR_2, if_neg (by decide)]
theorem dec4 : decR [4, 9, 13, 0] = (zPV, 4) := by rw [decR_3, if_neg (by decide), if_neg (by decide), if_pos (by decide)]
def pO : PV := ⟨5, 8, false, 0, 0, 0, 0, false, []⟩
theorem encO' : encOu pO = [] ∧ errE pO = 1 := by
  have h : ¬ MayP pO := fun h => by
    rcases h.2 with h | h | h
    · exact absurd h.2.2 (by decide)
    · exact absurd h.1 (by decide)
    · exact absurd h.1 (by decide)
  unfold encOu errE
  rw [mayB_no h]
  exact ⟨rfl, rfl⟩

set_option maxHeartbeats 3200000 in
theorem walk_PduKnown (w : World) : Calls Try.prog 3 #[] w fun e w' => e = .returned (.bool true) ∧ Below w.heap.size w w' := by
  go_enter Try.func3, Try.ntmps3
  go_wp2_with fail
  refine (awake_any w).mono ?_
  rintro e w1 ⟨rfl, hb1⟩
  have hs1 := hb1.size
  have H1 := cover hb1
  clear hb1
  go_wp2_with fail
  refine (dec_made w1 [4, 9, 99, 0, 0, 0, 1] _ 7 _ rfl rfl (fun x hx => by simp at hx; omega) (by decide) (cover decU)).mono ?_
  rintro e w2 ⟨A2, c2, rfl, hb2⟩
  have hs2 := hb2.size
  have H2 := cover (H1.out.trans (hb2.mono hs1))
  clear hb2
  obtain ⟨w3, hw3⟩ : ∃ y, y = w2.alloc (.cells #[.int .i64 pU.to, .int .i64 pU.frm, .bool pU.resp, .int .i64 pU.form, .int .i64 pU.kind, .int .i64 pU.ns, .int .i64 pU.nr, .bool pU.poll, .slice A2 pU.info.length c2] 25) := ⟨_, rfl⟩
  have hbw3 : Below w2.heap.size w2 w3 := by rw [hw3]; exact (Below.refl _ _).alloc (Nat.le_refl _) _
  have hsw3 := hbw3.size
  have hltw3 : w2.heap.size < w3.heap.size := by rw [hw3]; simp
  have Gw3 : Hid (w3.heap[w2.heap.size]? = some (.cells #[.int .i64 pU.to, .int .i64 pU.frm, .bool pU.resp, .int .i64 pU.form, .int .i64 pU.kind, .int .i64 pU.ns, .int .i64 pU.nr, .bool pU.poll, .slice A2 pU.info.length c2] 25 (0, 0))) := cover (by rw [hw3]; exact heap_alloc_new _ _)
  have Hw3 := cover (H2.out.trans (hbw3.mono (by omega)))
  go_upto_region 4 with fail
  rw [← hw3]
  clear hw3 hbw3
  go_wp2_with fail
  refine (dec_made w3 [4, 9] _ 2 _ rfl rfl (fun x hx => by simp at hx; omega) (by decide) (cover dec2)).mono ?_
  rintro e w4 ⟨A4, c4, rfl, hbw4⟩
  have hsw4 := hbw4.size
  have Hw4 := cover (Hw3.out.trans (hbw4.mono (by omega)))
  have Gw4 := cover ((hbw4.block _ (by omega)).trans Gw3.out)
  clear hbw4
  obtain ⟨w5, hw5⟩ : ∃ y, y = w4.alloc (.cells #[.int .i64 zPV.to, .int .i64 zPV.frm, .bool zPV.resp, .int .i64 zPV.form, .int .i64 zPV.kind, .int .i64 zPV.ns, .int .i64 zPV.nr, .bool zPV.poll, .slice A4 zPV.info.length c4] 25) := ⟨_, rfl⟩
  have hbw5 : Below w4.heap.size w4 w5 := by rw [hw5]; exact (Below.refl _ _).alloc (Nat.le_refl _) _
  have hsw5 := hbw5.size
  have hltw5 : w4.heap.size < w5.heap.size := by rw [hw5]; simp
  have Hw5 := cover (Hw4.out.trans (hbw5.mono (by omega)))
  have Gw5 := cover ((hbw5.block _ (by omega)).trans Gw4.out)
  go_upto_region 5 with fail
  rw [← hw5]
  clear hw5 hbw5
  go_wp2_with fail
  refine (dec_made w5 [4, 9, 1] _ 3 _ rfl rfl (fun x hx => by simp at hx; omega) (by decide) (cover dec3)).mono ?_
  rintro e w6 ⟨A6, c6, rfl, hbw6⟩
  have hsw6 := hbw6.size
  have Hw6 := cover (Hw5.out.trans (hbw6.mono (by omega)))
  have Gw6 := cover ((hbw6.block _ (by omega)).trans Gw5.out)
  clear hbw6
  obtain ⟨w7, hw7⟩ : ∃ y, y = w6.alloc (.cells #[.int .i64 zPV.to, .int .i64 zPV.frm, .bool zPV.resp, .int .i64 zPV.form, .int .i64 zPV.kind, .int .i64 zPV.ns, .int .i64 zPV.nr, .bool zPV.poll, .slice A6 zPV.info.length c6] 25) := ⟨_, rfl⟩
  have hbw7 : Below w6.heap.size w6 w7 := by rw [hw7]; exact (Below.refl _ _).alloc (Nat.le_refl _) _
  have hsw7 := hbw7.size
  have hltw7 : w6.heap.size < w7.heap.size := by rw [hw7]; simp
  have Hw7 := cover (Hw6.out.trans (hbw7.mono (by omega)))
  have Gw7 := cover ((hbw7.block _ (by omega)).trans Gw6.out)
  go_upto_region 6 with fail
  rw [← hw7]
  clear hw7 hbw7
  go_wp2_with fail
  refine (dec_made w7 [4, 9, 13, 0] _ 4 _ rfl rfl (fun x hx => by simp at hx; omega) (by decide) (cover dec4)).mono ?_
  rintro e w8 ⟨A8, c8, rfl, hbw8⟩
  have hsw8 := hbw8.size
  have Hw8 := cover (Hw7.out.trans (hbw8.mono (by omega)))
  have Gw8 := cover ((hbw8.block _ (by omega)).trans Gw7.out)
  clear hbw8
  obtain ⟨w9, hw9⟩ : ∃ y, y = w8.alloc (.cells #[.int .i64 zPV.to, .int .i64 zPV.frm, .bool zPV.resp, .int .i64 zPV.form, .int .i64 zPV.kind, .int .i64 zPV.ns, .int .i64 zPV.nr, .bool zPV.poll, .slice A8 zPV.info.length c8] 25) := ⟨_, rfl⟩
  have hbw9 : Below w8.heap.size w8 w9 := by rw [hw9]; exact (Below.refl _ _).alloc (Nat.le_refl _) _
  have hsw9 := hbw9.size
  have hltw9 : w8.heap.size < w9.heap.size := by rw [hw9]; simp
  have Hw9 := cover (Hw8.out.trans (hbw9.mono (by omega)))
  have Gw9 := cover ((hbw9.block _ (by omega)).trans Gw8.out)
  go_upto_region 7 with fail
  rw [← hw9]
  clear hw9 hbw9
  go_wp2_with fail
  refine (enc_any pO none 0 0 w9 RowK.none_ (Nat.zero_le _) (Nat.le_refl _) (fun _ => rfl) (fun x hx => by cases hx)).mono ?_
  rintro e w10 ⟨A10, c10, rfl, _, hb10⟩
  rw [encO'.1, encO'.2]
  have hs10 := hb10.size
  have H10 := cover (Hw9.out.trans (hb10.mono (by omega)))
  have G10 := cover ((hb10.block _ (by omega)).trans Gw9.out)
  clear hb10
  obtain ⟨q0, q1, q2, q3, q4, q5, q6, q7, q8⟩ := pdu_cells G10.out
  go_wp2_with fail
  refine (code_any 1 w10).mono ?_
  rintro e w11 ⟨rfl, hb11⟩
  rw [show codeI 1 = 175 from rfl]
  have hs11 := hb11.size
  have H11 := cover (H10.out.trans (hb11.mono (by omega)))
  clear hb11
  go_wp2_with fail
  refine (code_any 10 w11).mono ?_
  rintro e w12 ⟨rfl, hb12⟩
  rw [show codeI 10 = 0 from rfl]
  have H12 := cover (H11.out.trans (hb12.mono (by omega)))
  clear hb12
  go_wp2
  go_ret
  exact ⟨rfl, H12.out⟩
end Go.Proofs.Ytohegiphdgihpaa
