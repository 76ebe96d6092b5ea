/- The walk of PduAll. -/
import Derived.Deep.CutBlock
import Derived.Deep.DeepCutAuto
import Derived.Test.YtohegiphdgihpaaWPduCodes
namespace Go.Proofs.Ytohegiphdgihpaa
open Go.RowKit
set_option linter.unusedVariables false
set_option linter.unusedSimpArgs false

set_option maxHeartbeats 3200000 in
theorem walk_PduAll (x y : Int) (A : Option Addr) (n c : Nat) (l : List Int) (w : World)
    (hx : (Lit.int .u8 x).wf = true) (hy : (Lit.int .u8 y).wf = true)
    (hlc : n ≤ c) (hcm : c ≤ maxLen) (hrr : Row w w.heap.size A n l ∧ Bts l ∧ (A = none → c = 0)) :
    Calls Try.prog 6 #[.int .u8 x, .int .u8 y, .slice A n c] w fun e w' => e = .returned (.bool true) ∧ Below w.heap.size w w' := by
  obtain ⟨hr, hbb, hn⟩ := hrr
  obtain rfl : l.length = n := hr.len
  have hxb := (bts_of_wf (l := [x, y]) (fun z hz => by simp at hz; rcases hz with rfl | rfl <;> assumption))
  have HX := cover hxb
  have HB := cover hbb
  have HR := cover hr
  have HN := cover hn
  obtain ⟨i0, hi, hz0, hz1, hz2⟩ := info_parts u8_info
  clear hr hn hxb hbb hx hy
  go_enter Try.func6, Try.ntmps6
  go_wp2_with fail
  refine (awake_any w).mono ?_
  rintro e w1 ⟨rfl, hb1⟩
  have H1 := cover hb1
  clear hb1
  by_cases g1 : 30 < (l.length : Int)
  · go_wp2
    go_ret
    exact ⟨rfl, H1.out⟩
  go_wp2_with fail
  go_loopw [7] (fun i wr => ∃ k : Nat, k ≤ 256 ∧ i = .int .i64 k ∧ Hid (Below w.heap.size w wr)) (fun i _ => 256 - (intOf i).toNat)
  case atStart => exact ⟨0, by decide, rfl, H1⟩
  case round =>
    clear H1
    obtain ⟨k, hk, rfl, hbel⟩ := hrel
    have hsz := hbel.out.size
    by_cases hlt : k < 256
    · have hltI : (k : Int) < 256 := by omega
      have wk : IntKind.u8.wrap (k : Int) = (k : Int) := w8 ⟨by omega, by omega⟩
      have wk2 : (k : Int) % 256 = (k : Int) := by omega
      have own0 := cover (ownB_made wr [x, y, (k : Int)] #[.int .u8 x, .int .u8 y, .int .u8 (k : Int)] rfl (by simp))
      have hbel2 : Hid (Below w.heap.size w (wr.alloc (.cells #[.int .u8 x, .int .u8 y, .int .u8 (k : Int)] 5))) := cover (hbel.out.alloc hsz _)
      have row2 := cover (HR.out.below hbel2.out)
      have h63 : [x, y, (k : Int)].length + l.length ≤ maxLen := by
        rw [show [x, y, (k : Int)].length = 3 from rfl]; unfold maxLen; omega
      have hby : ([x, y, (k : Int)].length + l.length) * 1 ≤ 140737488355328 := by
        rw [show [x, y, (k : Int)].length = 3 from rfl]; omega
      have hbs : wr.heap.size ≤ (wr.alloc (.cells #[.int .u8 x, .int .u8 y, .int .u8 (k : Int)] 5)).heap.size := by simp
      go_wp2_with (at_builtin; refine append_row rfl _ _ 23 rfl wr.heap.size 5 i0 (.int .u8 0) 1 Try.underlying23 hi hz0 hz1 hz2 rfl _ _ _ rfl own0.out w.heap.size A l.length c l rfl row2.out HN.out h63 hby hbs ?_)
      intro v2 w2 hown2 hg2
      have hsz2 : w.heap.size ≤ (wr.alloc (.cells #[.int .u8 x, .int .u8 y, .int .u8 (k : Int)] 5)).heap.size := by simp; omega
      have H2 := cover (below_grown hbel2.out hsz2 (own_base own0.out hsz) hg2)
      obtain ⟨A2, c2, rfl, _⟩ := own_shape hown2
      have HO2 : Hid (OwnB w2 wr.heap.size (.slice A2 (3 + l.length) c2) (x :: y :: (k : Int) :: l)) := cover (by
        have e : 3 + l.length = (x :: y :: (k : Int) :: l).length := by simp; omega
        unfold OwnB
        rw [← e]
        exact hown2)
      have hsb2 := hg2.size
      obtain ⟨L, hL⟩ : ∃ L, Hid (x :: y :: (k : Int) :: l = L) := ⟨_, cover rfl⟩
      have hLl : L.length = 3 + l.length := by rw [← hL.out]; simp; omega
      have BL : Hid (Bts L) := cover (by
        rw [← hL.out]
        intro z hz
        simp only [List.mem_cons] at hz
        rcases hz with rfl | rfl | rfl | hz
        · exact HX.out _ (by simp)
        · exact HX.out _ (by simp)
        · exact ⟨by omega, by omega⟩
        · exact HB.out z hz)
      rw [hL.out] at HO2
      rw [← hLl] at HO2 ⊢
      have hl33 : L.length ≤ 33 := by omega
      have hcap2 := own_cap HO2.out
      clear hown2 hg2 own0 hbel2 row2 h63 hby hbs hsz2 hLl
      have hs2 := H2.out.size
      go_wp2_with fail
      refine (dec_any_u A2 L.length c2 w2.heap.size L w2 HO2.out.row (Nat.le_refl _) BL.out (by omega)).mono ?_
      rintro e w3 ⟨A3, c3, rfl, ho3, hb3⟩
      obtain ⟨⟨d, er⟩, hd⟩ : ∃ d, Hid (decR L = d) := ⟨_, cover rfl⟩
      rw [hd.out] at ho3 ⊢
      have hs3 := hb3.size
      have H3 := cover (H2.out.trans (hb3.mono (by omega)))
      have HO23 := cover (ownB_below HO2.out hb3)
      have HO3 := cover ho3
      clear hb3 ho3
      obtain ⟨w4, hw4⟩ : ∃ z, z = w3.alloc (.cells #[.int .i64 d.to, .int .i64 d.frm, .bool d.resp, .int .i64 d.form, .int .i64 d.kind, .int .i64 d.ns, .int .i64 d.nr, .bool d.poll, .slice A3 d.info.length c3] 25) := ⟨_, rfl⟩
      have hb4 : Below w3.heap.size w3 w4 := by rw [hw4]; exact (Below.refl _ _).alloc (Nat.le_refl _) _
      have hs4 : w3.heap.size < w4.heap.size := by rw [hw4]; simp
      have H4 := cover (H3.out.trans (hb4.mono (by omega)))
      have D4 : Hid (w4.heap[w3.heap.size]? = some (.cells #[.int .i64 d.to, .int .i64 d.frm, .bool d.resp, .int .i64 d.form, .int .i64 d.kind, .int .i64 d.ns, .int .i64 d.nr, .bool d.poll, .slice A3 d.info.length c3] 25 (0, 0))) := cover (by rw [hw4]; exact heap_alloc_new _ _)
      have HO24 := cover (ownB_below HO23.out hb4)
      have HO34 := cover (ownB_below HO3.out hb4)
      go_upto_region 10 with fail
      rw [← hw4]
      clear hw4 hb4
      go_wp2_with fail
      refine (ref_dec_any A2 L.length c2 w4.heap.size L w4 HO24.out.row (Nat.le_refl _) BL.out hcap2 (by omega)).mono ?_
      rintro e w5 ⟨A5, c5, rfl, ho5, hb5⟩
      rw [hd.out] at ho5 ⊢
      have hs5 := hb5.size
      have H5 := cover (H4.out.trans (hb5.mono (by omega)))
      have D5 := cover ((hb5.block _ (by omega)).trans D4.out)
      have HO35 := cover (ownB_below HO34.out hb5)
      have HO5 := cover ho5
      clear hb5 ho5
      obtain ⟨w6, hw6⟩ : ∃ z, z = w5.alloc (.cells #[.int .i64 d.to, .int .i64 d.frm, .bool d.resp, .int .i64 d.form, .int .i64 d.kind, .int .i64 d.ns, .int .i64 d.nr, .bool d.poll, .slice A5 d.info.length c5] 25) := ⟨_, rfl⟩
      have hb6 : Below w5.heap.size w5 w6 := by rw [hw6]; exact (Below.refl _ _).alloc (Nat.le_refl _) _
      have hs6 : w5.heap.size < w6.heap.size := by rw [hw6]; simp
      have H6 := cover (H5.out.trans (hb6.mono (by omega)))
      have D6 := cover ((hb6.block _ (by omega)).trans D5.out)
      have E6 : Hid (w6.heap[w5.heap.size]? = some (.cells #[.int .i64 d.to, .int .i64 d.frm, .bool d.resp, .int .i64 d.form, .int .i64 d.kind, .int .i64 d.ns, .int .i64 d.nr, .bool d.poll, .slice A5 d.info.length c5] 25 (0, 0))) := cover (by rw [hw6]; exact heap_alloc_new _ _)
      have HO36 := cover (ownB_below HO35.out hb6)
      have HO56 := cover (ownB_below HO5.out hb6)
      go_upto_region 11 with fail
      rw [← hw6]
      clear hw6 hb6
      obtain ⟨p0, p1, p2, p3, p4, p5, p6, p7, p8⟩ := pdu_cells D6.out
      obtain ⟨q0, q1, q2, q3, q4, q5, q6, q7, q8⟩ := pdu_cells E6.out
      go_wp2_with fail
      clear p0 p1 p2 p3 p4 p5 p6 p7 p8 q0 q1 q2 q3 q4 q5 q6 q7 q8
      refine (ref_pduSame_any d d A3 A5 c3 c5 w6.heap.size w6.heap.size w6 HO36.out.row HO56.out.row (Nat.le_refl _) (Nat.le_refl _) (by have := decR_le L; rw [hd.out] at this; have h2 : d.info.length ≤ 1040 := this; omega)).mono ?_
      rintro e w7 ⟨rfl, hb7⟩
      rw [eqB_refl]
      have H7 := cover (H6.out.trans (hb7.mono (by omega)))
      clear hb7
      go_wp2
      go_roundw
      case rel => exact ⟨k + 1, by omega, by go_num, H7⟩
      case measure => simp [intOf]; omega
    · obtain rfl : k = 256 := by omega
      go_wp2
      go_ret
      exact ⟨rfl, hbel.out⟩
end Go.Proofs.Ytohegiphdgihpaa
