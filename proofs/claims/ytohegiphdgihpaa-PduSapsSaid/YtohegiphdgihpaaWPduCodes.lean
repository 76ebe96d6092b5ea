/- The walk of PduCodes. -/
import Derived.Deep.CutBlock
import Derived.Deep.DeepCutAuto
import Derived.Deep.RegionHeld3
import Derived.Test.YtohegiphdgihpaaOFrame
import Derived.Test.YtohegiphdgihpaaUAwake
import Derived.Test.YtohegiphdgihpaaURDec
namespace Go.Proofs.Ytohegiphdgihpaa
open Go.RowKit
set_option linter.unusedVariables false
set_option linter.unusedSimpArgs false

theorem encOu_le (q : PV) : (encOu q).length ≤ 1044 := by
  unfold encOu
  rcases hm : mayB q with _ | _
  · exact Nat.zero_le _
  · have h := mayB_iff.1 hm
    have h1 := enc_len h.fits
    have h2 : headN q ≤ 4 := by unfold headN; split <;> omega
    have h3 := h.1.2.2.2.2
    show (encP q).length ≤ 1044
    omega
theorem orForm_le (p : PV) : (orForm p).1.info.length ≤ 1040 := by
  by_cases h : MayP p
  · rw [orForm_yes h]; exact h.1.2.2.2.2
  · rw [orForm_no h]; exact Nat.zero_le _
theorem decR_le (l : List Int) : (decR l).1.info.length ≤ 1040 := by
  match l with
  | [] => exact Nat.zero_le _
  | [_] => exact Nat.zero_le _
  | [_, _] => exact Nat.zero_le _
  | [x0, x1, c] =>
    rw [decR_2]
    split
    · exact orForm_le _
    · exact Nat.zero_le _
  | x0 :: x1 :: c :: x3 :: r =>
    rw [decR_3]
    split
    · exact orForm_le _
    · split
      · exact orForm_le _
      · split
        · exact Nat.zero_le _
        · exact orForm_le _
/-- a contract of a call that makes memory, asked some time behind W0 -/
theorem from_below_u {f : Nat} {args : Array Value} {x : Ending} (h : ∀ W, Calls Try.prog f args W fun e w' => e = x ∧ Below W.heap.size W w') (W0 : World) :
    ∀ W', Below W0.heap.size W0 W' → Calls Try.prog f args W' fun e w' => e = x ∧ Below W0.heap.size W0 w' :=
  fun W' hb => (h W').mono fun _ _ ⟨he, hb'⟩ => ⟨he, hb.trans (hb'.mono hb.size)⟩

set_option maxHeartbeats 3200000 in
theorem walk_PduCodes (q : PV) (A : Option Addr) (c : Nat) (A1 : Option Addr) (n1 c1 : Nat) (l : List Int) (w : World)
    (hlc : q.info.length ≤ c) (hcm : c ≤ maxLen) (hr : Row w w.heap.size A q.info.length q.info) (hb : Bts q.info) (hn : A = none → c = 0)
    (hlc1 : n1 ≤ c1) (hcm1 : c1 ≤ maxLen) (hr1 : Row w w.heap.size A1 n1 l) (hb1 : ∀ x ∈ l, (Lit.int .u8 x).wf = true) :
    Calls Try.prog 4 #[.agg #[.int .i64 q.to, .int .i64 q.frm, .bool q.resp, .int .i64 q.form, .int .i64 q.kind, .int .i64 q.ns, .int .i64 q.nr, .bool q.poll, .slice A q.info.length c], .slice A1 n1 c1] w fun e w' => e = .returned (.bool true) ∧ Below w.heap.size w w' := by
  obtain rfl : l.length = n1 := hr1.len
  have HB1 := cover (bts_of_wf hb1)
  obtain ⟨w1, hw1⟩ : ∃ w1, Hid (w1 = w.alloc (.cells #[.int .i64 q.to, .int .i64 q.frm, .bool q.resp, .int .i64 q.form, .int .i64 q.kind, .int .i64 q.ns, .int .i64 q.nr, .bool q.poll, .slice A q.info.length c] 25)) := ⟨_, cover rfl⟩
  have hs1 : w.heap.size < w1.heap.size := by rw [hw1.out]; simp
  have H1 : Hid (Below w.heap.size w w1) := cover (by rw [hw1.out]; exact (Below.refl _ _).alloc (Nat.le_refl _) _)
  have G1 : Hid (w1.heap[w.heap.size]? = some (.cells #[.int .i64 q.to, .int .i64 q.frm, .bool q.resp, .int .i64 q.form, .int .i64 q.kind, .int .i64 q.ns, .int .i64 q.nr, .bool q.poll, .slice A q.info.length c] 25 (0, 0))) := cover (by rw [hw1.out]; exact heap_alloc_new _ _)
  have HR := cover hr
  have HR1 := cover hr1
  have HN := cover hn
  have HB := cover hb
  clear hr hr1 hb1 hn hb
  go_enter Try.func4, Try.ntmps4
  go_wp2_with fail
  rw [← hw1.out]
  refine (awake_any w1).mono ?_
  rintro e w2 ⟨rfl, hb2⟩
  have hs2 := hb2.size
  have H2 := cover (H1.out.trans (hb2.mono (by omega)))
  have G2 := cover ((hb2.block _ (by omega)).trans G1.out)
  clear hb2
  obtain ⟨p0, p1, p2, p3, p4, p5, p6, p7, p8⟩ := pdu_cells G2.out
  by_cases g1 : 2000 < (q.info.length : Int)
  · go_wp2
    go_ret
    exact ⟨rfl, H2.out⟩
  by_cases g2 : 2000 < (l.length : Int)
  · go_wp2
    go_ret
    exact ⟨rfl, H2.out⟩
  go_wp2_with fail
  clear p0 p1 p2 p3 p4 p5 p6 p7 p8
  refine (enc_any q A c w.heap.size w2 (HR.out.below H2.out) (by omega) hlc HN.out HB.out).mono ?_
  rintro e w3 ⟨A3, c3, rfl, ho3, hb3⟩
  have hs3 := hb3.size
  have H3 := cover (H2.out.trans (hb3.mono (by omega)))
  have G3 := cover ((hb3.block _ (by omega)).trans G2.out)
  have HO3 := cover ho3
  clear hb3 ho3
  obtain ⟨p0, p1, p2, p3, p4, p5, p6, p7, p8⟩ := pdu_cells G3.out
  go_wp2_with fail
  clear p0 p1 p2 p3 p4 p5 p6 p7 p8
  refine (ref_enc_any q A c w.heap.size w3 (HR.out.below H3.out) (by omega) hlc HN.out).mono ?_
  rintro e w4 ⟨A4, c4, rfl, ho4, hb4⟩
  have hs4 := hb4.size
  have H4 := cover (H3.out.trans (hb4.mono (by omega)))
  have G4 := cover ((hb4.block _ (by omega)).trans G3.out)
  have HO34 := cover (ownB_below HO3.out hb4)
  have HO4 := cover ho4
  clear hb4 ho4
  go_wp2_with fail
  refine (dec_any_u A1 l.length c1 w.heap.size l w4 (HR1.out.below H4.out) (by omega) HB1.out (by omega)).mono ?_
  rintro e w5 ⟨A5, c5, rfl, ho5, hb5⟩
  obtain ⟨⟨d, er⟩, hd⟩ : ∃ d, Hid (decR l = d) := ⟨_, cover rfl⟩
  rw [hd.out] at ho5 ⊢
  have hs5 := hb5.size
  have H5 := cover (H4.out.trans (hb5.mono (by omega)))
  have G5 := cover ((hb5.block _ (by omega)).trans G4.out)
  have HO35 := cover (ownB_below HO34.out hb5)
  have HO45 := cover (ownB_below HO4.out hb5)
  have HO5 := cover ho5
  clear hb5 ho5
  obtain ⟨w6, hw6⟩ : ∃ w6, w6 = w5.alloc (.cells #[.int .i64 d.to, .int .i64 d.frm, .bool d.resp, .int .i64 d.form, .int .i64 d.kind, .int .i64 d.ns, .int .i64 d.nr, .bool d.poll, .slice A5 d.info.length c5] 25) := ⟨_, rfl⟩
  have hb6 : Below w5.heap.size w5 w6 := by rw [hw6]; exact (Below.refl _ _).alloc (Nat.le_refl _) _
  have hs6 : w5.heap.size < w6.heap.size := by rw [hw6]; simp
  have H6 := cover (H5.out.trans (hb6.mono (by omega)))
  have G6 := cover ((hb6.block _ (by omega)).trans G5.out)
  have D6 : Hid (w6.heap[w5.heap.size]? = some (.cells #[.int .i64 d.to, .int .i64 d.frm, .bool d.resp, .int .i64 d.form, .int .i64 d.kind, .int .i64 d.ns, .int .i64 d.nr, .bool d.poll, .slice A5 d.info.length c5] 25 (0, 0))) := cover (by rw [hw6]; exact heap_alloc_new _ _)
  have HO36 := cover (ownB_below HO35.out hb6)
  have HO46 := cover (ownB_below HO45.out hb6)
  have HO56 := cover (ownB_below HO5.out hb6)
  go_upto_region 8 with fail
  rw [← hw6]
  clear hw6 hb6
  go_wp2_with fail
  refine (ref_dec_any A1 l.length c1 w.heap.size l w6 (HR1.out.below H6.out) (by omega) HB1.out hlc1 (by omega)).mono ?_
  rintro e w7 ⟨A7, c7, rfl, ho7, hb7⟩
  rw [hd.out] at ho7 ⊢
  have hs7 := hb7.size
  have H7 := cover (H6.out.trans (hb7.mono (by omega)))
  have G7 := cover ((hb7.block _ (by omega)).trans G6.out)
  have D7 := cover ((hb7.block _ (by omega)).trans D6.out)
  have HO37 := cover (ownB_below HO36.out hb7)
  have HO47 := cover (ownB_below HO46.out hb7)
  have HO57 := cover (ownB_below HO56.out hb7)
  have HO7 := cover ho7
  clear hb7 ho7
  obtain ⟨w8, hw8⟩ : ∃ w8, w8 = w7.alloc (.cells #[.int .i64 d.to, .int .i64 d.frm, .bool d.resp, .int .i64 d.form, .int .i64 d.kind, .int .i64 d.ns, .int .i64 d.nr, .bool d.poll, .slice A7 d.info.length c7] 25) := ⟨_, rfl⟩
  have hb8 : Below w7.heap.size w7 w8 := by rw [hw8]; exact (Below.refl _ _).alloc (Nat.le_refl _) _
  have hs8 : w7.heap.size < w8.heap.size := by rw [hw8]; simp
  have H8 := cover (H7.out.trans (hb8.mono (by omega)))
  have G8 := cover ((hb8.block _ (by omega)).trans G7.out)
  have D8 := cover ((hb8.block _ (by omega)).trans D7.out)
  have E8 : Hid (w8.heap[w7.heap.size]? = some (.cells #[.int .i64 d.to, .int .i64 d.frm, .bool d.resp, .int .i64 d.form, .int .i64 d.kind, .int .i64 d.ns, .int .i64 d.nr, .bool d.poll, .slice A7 d.info.length c7] 25 (0, 0))) := cover (by rw [hw8]; exact heap_alloc_new _ _)
  have HO38 := cover (ownB_below HO37.out hb8).row
  have HO48 := cover (ownB_below HO47.out hb8).row
  have HO58 := cover (ownB_below HO57.out hb8).row
  have HO78 := cover (ownB_below HO7.out hb8).row
  go_upto_region 9 with fail
  rw [← hw8]
  clear hw8 hb8
  obtain ⟨x, hx⟩ : ∃ x, Hid (encOu q = x) := ⟨_, cover rfl⟩
  rw [hx.out] at HO38 HO48 ⊢
  obtain ⟨ee, hee⟩ : ∃ x, Hid (errE q = x) := ⟨_, cover rfl⟩
  rw [hee.out]
  clear HO3 HO34 HO35 HO36 HO37 HO4 HO45 HO46 HO47 HO5 HO56 HO57 HO7 G1 G2 G3 G4 G5 G6 G7 D6 D7 H1 H2 H3 H4 H5 H6 H7
  have hxl : Hid (x.length ≤ 9223372036854775807) := cover (by rw [← hx.out]; have := encOu_le q; omega)
  have HM1 := cover (from_below_u (fun W => may_any q A c W) w8)
  have HM2 := cover (from_below_u (fun W => ref_may_any q A c W) w8)
  have HSB : Hid (∀ W, Below w8.heap.size w8 W → Calls Try.prog 18 #[.slice A3 x.length c3, .slice A4 x.length c4] W fun e w' => e = .returned (.bool true) ∧ Below w8.heap.size w8 w') :=
    cover (fun W hb => (same_any A3 A4 x.length c3 c4 w8.heap.size w8.heap.size x x W (HO38.out.below hb) (HO48.out.below hb) hxl.out).mono (by
      rintro e w' ⟨he, dd, rfl⟩
      exact ⟨by rw [he, decide_eq_true rfl], below_drewN hb dd⟩))
  have HSP : Hid (∀ W, Below w8.heap.size w8 W → Calls Try.prog 19 #[.agg #[.int .i64 d.to, .int .i64 d.frm, .bool d.resp, .int .i64 d.form, .int .i64 d.kind, .int .i64 d.ns, .int .i64 d.nr, .bool d.poll, .slice A5 d.info.length c5], .agg #[.int .i64 d.to, .int .i64 d.frm, .bool d.resp, .int .i64 d.form, .int .i64 d.kind, .int .i64 d.ns, .int .i64 d.nr, .bool d.poll, .slice A7 d.info.length c7]] W fun e w' => e = .returned (.bool true) ∧ Below w8.heap.size w8 w') :=
    cover (fun W hb => (ref_pduSame_any d d A5 A7 c5 c7 w8.heap.size w8.heap.size W (HO58.out.below hb) (HO78.out.below hb) hb.size hb.size (by have := decR_le l; rw [hd.out] at this; have h2 : d.info.length ≤ 1040 := this; omega)).mono (by
      rintro e w' ⟨he, hb'⟩
      exact ⟨by rw [he, eqB_refl], hb.trans (hb'.mono hb.size)⟩))
  have HC1 := cover (from_below_u (fun W => code_any q.kind W) w8)
  have HC2 := cover (from_below_u (fun W => ref_code_any q.kind W) w8)
  obtain ⟨⟨p0, p1, p2, p3, p4, p5, p6, p7, p8⟩, P⟩ := And.intro (pdu_cells G8.out) (cover (pdu_cells G8.out))
  obtain ⟨⟨q0, q1, q2, q3, q4, q5, q6, q7, q8⟩, Q⟩ := And.intro (pdu_cells D8.out) (cover (pdu_cells D8.out))
  obtain ⟨⟨r0, r1, r2, r3, r4, r5, r6, r7, r8⟩, R⟩ := And.intro (pdu_cells E8.out) (cover (pdu_cells E8.out))
  have z1 : w.heap.size < w8.heap.size := by omega
  have z2 : w5.heap.size < w8.heap.size := by omega
  have z3 : w7.heap.size < w8.heap.size := by omega
  go_region_held3 (fun w' => (World.cell? w' ⟨w.heap.size, 0, none⟩ = some (.int .i64 q.to) ∧ World.cell? w' ⟨w.heap.size, 1, none⟩ = some (.int .i64 q.frm) ∧ World.cell? w' ⟨w.heap.size, 2, none⟩ = some (.bool q.resp) ∧ World.cell? w' ⟨w.heap.size, 3, none⟩ = some (.int .i64 q.form) ∧ World.cell? w' ⟨w.heap.size, 4, none⟩ = some (.int .i64 q.kind) ∧ World.cell? w' ⟨w.heap.size, 5, none⟩ = some (.int .i64 q.ns) ∧ World.cell? w' ⟨w.heap.size, 6, none⟩ = some (.int .i64 q.nr) ∧ World.cell? w' ⟨w.heap.size, 7, none⟩ = some (.bool q.poll) ∧ World.cell? w' ⟨w.heap.size, 8, none⟩ = some (.slice A q.info.length c)) ∧ (World.cell? w' ⟨w5.heap.size, 0, none⟩ = some (.int .i64 d.to) ∧ World.cell? w' ⟨w5.heap.size, 1, none⟩ = some (.int .i64 d.frm) ∧ World.cell? w' ⟨w5.heap.size, 2, none⟩ = some (.bool d.resp) ∧ World.cell? w' ⟨w5.heap.size, 3, none⟩ = some (.int .i64 d.form) ∧ World.cell? w' ⟨w5.heap.size, 4, none⟩ = some (.int .i64 d.kind) ∧ World.cell? w' ⟨w5.heap.size, 5, none⟩ = some (.int .i64 d.ns) ∧ World.cell? w' ⟨w5.heap.size, 6, none⟩ = some (.int .i64 d.nr) ∧ World.cell? w' ⟨w5.heap.size, 7, none⟩ = some (.bool d.poll) ∧ World.cell? w' ⟨w5.heap.size, 8, none⟩ = some (.slice A5 d.info.length c5)) ∧ (World.cell? w' ⟨w7.heap.size, 0, none⟩ = some (.int .i64 d.to) ∧ World.cell? w' ⟨w7.heap.size, 1, none⟩ = some (.int .i64 d.frm) ∧ World.cell? w' ⟨w7.heap.size, 2, none⟩ = some (.bool d.resp) ∧ World.cell? w' ⟨w7.heap.size, 3, none⟩ = some (.int .i64 d.form) ∧ World.cell? w' ⟨w7.heap.size, 4, none⟩ = some (.int .i64 d.kind) ∧ World.cell? w' ⟨w7.heap.size, 5, none⟩ = some (.int .i64 d.ns) ∧ World.cell? w' ⟨w7.heap.size, 6, none⟩ = some (.int .i64 d.nr) ∧ World.cell? w' ⟨w7.heap.size, 7, none⟩ = some (.bool d.poll) ∧ World.cell? w' ⟨w7.heap.size, 8, none⟩ = some (.slice A7 d.info.length c7)) ∧ Below w8.heap.size w8 w')
    (first | exact ⟨P.out, Q.out, R.out, (Below.refl _ _).drew⟩ | exact ⟨nine_below P.out hbX z1, nine_below Q.out hbX z2, nine_below R.out hbX z3, hbX⟩)
    (first
      | (go_at_call 16; refine (HM1.out _ ?_).mono ?_; (go_split_ands; assumption); rintro e w9 ⟨rfl, hbX⟩)
      | (go_at_call 17; refine (HM2.out _ ?_).mono ?_; (go_split_ands; assumption); rintro e w9 ⟨rfl, hbX⟩)
      | (go_at_call 18; refine (HSB.out _ ?_).mono ?_; (go_split_ands; assumption); rintro e w9 ⟨rfl, hbX⟩)
      | (go_at_call 19; refine (HSP.out _ ?_).mono ?_; (go_split_ands; assumption); rintro e w9 ⟨rfl, hbX⟩)
      | (go_at_call 13; refine (HC1.out _ ?_).mono ?_; (go_split_ands; assumption); rintro e w9 ⟨rfl, hbX⟩)
      | (go_at_call 20; refine (HC2.out _ ?_).mono ?_; (go_split_ands; assumption); rintro e w9 ⟨rfl, hbX⟩))
  go_wp2
  go_ret
  exact ⟨by simp, H8.out.trans (hbX.mono H8.out.size)⟩
end Go.Proofs.Ytohegiphdgihpaa
