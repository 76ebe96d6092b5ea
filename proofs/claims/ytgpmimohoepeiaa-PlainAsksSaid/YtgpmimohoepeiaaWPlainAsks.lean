/- The walk of PlainAsks. -/
import Derived.Test.YtgpmimohoepeiaaUSame
import Derived.Test.YtgpmimohoepeiaaHVar
import Derived.Test.YtgpmimohoepeiaaHAwake
namespace Go.Proofs.Ytgpmimohoepeiaa
open Go.RowKit
set_option linter.unusedVariables false
set_option linter.unusedSimpArgs false

set_option maxRecDepth 100000 in
set_option maxHeartbeats 6400000 in
theorem walk_PlainAsks (frm tt : Int) (A : Option Addr) (n c : Nat) (b : List Int) (w : World) (hw0 : (Lit.int .i64 frm).wf = true) (hw1 : (Lit.int .i64 tt).wf = true) (hlc : n ≤ c) (hcm : c ≤ maxLen) (hr : Row w w.heap.size A n b) (hbt : ∀ x ∈ b, (Lit.int .u8 x).wf = true) :
    Calls Try.prog 4 #[.int .i64 frm, .int .i64 tt, .slice A n c] w fun e w' => e = .returned (.bool true) ∧ Below w.heap.size w w' := by
  obtain rfl : b.length = n := hr.len
  have HR := cover hr
  obtain ⟨n, hn⟩ : ∃ n, n = b.length := ⟨_, rfl⟩
  have HN := cover hn
  rw [← hn] at hlc ⊢
  clear hr hn
  obtain ⟨B, hB⟩ : ∃ B, w.heap.size = B := ⟨_, rfl⟩
  rw [hB] at HR ⊢
  have HBE := cover hB
  have hBw : B ≤ w.heap.size := by omega
  clear hB
  by_cases hbig : 1200 < n
  · have hl : (1200 : Int) < (n : Int) := by omega
    go_enter Try.func4, Try.ntmps4
    go_wp2_with fail
    refine (awake_any w).mono ?_
    rintro e w0 ⟨rfl, hb0⟩
    have HB0 : Hid (Below B w w0) := cover (hb0.mono hBw)
    clear hb0
    go_wp2
    go_ret
    exact ⟨rfl, HB0.out⟩
  have hl : ¬ (1200 : Int) < (n : Int) := by omega
  have HU : Hid (∀ W, Below B w W → B ≤ W.heap.size ∧ Row W B A b.length b) := cover fun W hb => ⟨by rw [← HBE.out]; exact hb.size, HR.out.below hb⟩
  have hmx : b.length ≤ 140737488355328 := by rw [← HN.out]; omega
  obtain ⟨r1, hr1⟩ : ∃ r, r = askP (uiQ frm tt) 1 b := ⟨_, rfl⟩
  obtain ⟨r2, hr2⟩ : ∃ r, r = askP (testQ frm tt) 0 b := ⟨_, rfl⟩
  obtain ⟨r3, hr3⟩ : ∃ r, r = askX frm tt n := ⟨_, rfl⟩
  have HL : Hid (r1.1.info.length ≤ 1024 ∧ r2.1.info.length ≤ 1024 ∧ r3.1.info.length ≤ 1024) := cover ⟨by rw [hr1]; exact askP_len _ _ _, by rw [hr2]; exact askP_len _ _ _, by rw [hr3]; exact askX_len _ _ _⟩
  have HC0 : Hid (∀ W, Below B w W → Calls Try.prog 14 #[.int .i64 frm, .int .i64 tt, .slice A n c] W (AskOut r1 W)) := cover fun W hb => by
    rw [hr1, HN.out]
    exact unit_any A c B b frm tt W (HU.out W hb).2 (HU.out W hb).1 hmx
  have HC1 : Hid (∀ W, Below B w W → Calls Try.prog 17 #[.int .i64 frm, .int .i64 tt, .slice A n c] W (AskOut r1 W)) := cover fun W hb => by
    rw [hr1, HN.out]
    exact runit_any A c B b frm tt W (HU.out W hb).2 (HU.out W hb).1 hmx
  have HC2 : Hid (∀ W, Below B w W → Calls Try.prog 12 #[.int .i64 frm, .int .i64 tt, .slice A n c] W (AskOut r2 W)) := cover fun W hb => by
    rw [hr2, HN.out]
    exact askTest_any A c B b frm tt W (HU.out W hb).2 (HU.out W hb).1 hmx
  have HC3 : Hid (∀ W, Below B w W → Calls Try.prog 18 #[.int .i64 frm, .int .i64 tt, .slice A n c] W (AskOut r2 W)) := cover fun W hb => by
    rw [hr2, HN.out]
    exact raskTest_any A c B b frm tt W (HU.out W hb).2 (HU.out W hb).1 hmx
  have HC4 : Hid (∀ W, Below B w W → Calls Try.prog 15 #[.int .i64 frm, .int .i64 tt, .int .i64 (n : Int)] W (AskOut r3 W)) := cover fun W hb => by
    rw [hr3]
    exact askXid_any frm tt n W
  have HC5 : Hid (∀ W, Below B w W → Calls Try.prog 19 #[.int .i64 frm, .int .i64 tt, .int .i64 (n : Int)] W (AskOut r3 W)) := cover fun W hb => by
    rw [hr3]
    exact raskXid_any frm tt n W
  clear hr1 hr2 hr3 HR hmx hbig
  go_enter Try.func4, Try.ntmps4
  go_wp2_with fail
  refine (awake_any w).mono ?_
  rintro e x0 ⟨rfl, hb0⟩
  have HB0 : Hid (Below B w x0) := cover (hb0.mono hBw)
  clear hb0
  go_wp2_with (fail)
  refine (HC0.out x0 HB0.out).mono ?_
  rintro e v0 ⟨A0, c0, rfl, HO⟩
  obtain ⟨x1, hx1, HV0, hbx⟩ := var_new HO.out.1 HO.out.2
  have HB1 : Hid (Below B w x1) := cover (HB0.out.trans (hbx.out.mono (HU.out _ HB0.out).1))
  obtain ⟨g0, hg0⟩ : ∃ g, g = v0.heap.size := ⟨_, rfl⟩
  have HG0 := cover hg0
  rw [← hg0] at HV0
  clear hbx HO hg0 HC0
  go_wp2_with (refine wpList_store_row rfl _ _ _ rfl v0.heap.size #[.int .i64 r1.1.to, .int .i64 r1.1.frm, .bool r1.1.resp, .int .i64 r1.1.form, .int .i64 r1.1.kind, .int .i64 r1.1.ns, .int .i64 r1.1.nr, .bool r1.1.poll, .slice A0 r1.1.info.length c0] rfl rfl 29 zp (heap_alloc_new _ _) pdu_size rfl (pdu_one _ _ _ _ _ _ _ _ _ _ _) ?_; rw [← hx1.out, ← HG0.out])
  refine (HC1.out x1 HB1.out).mono ?_
  rintro e v1 ⟨A1, c1, rfl, HO⟩
  obtain ⟨x2, hx2, HV1, hbx⟩ := var_new HO.out.1 HO.out.2
  have HB2 : Hid (Below B w x2) := cover (HB1.out.trans (hbx.out.mono (HU.out _ HB1.out).1))
  have HV0a := cover (HV0.out.below hbx.out)
  clear HV0
  have HV0 := HV0a
  clear HV0a
  obtain ⟨g1, hg1⟩ : ∃ g, g = v1.heap.size := ⟨_, rfl⟩
  have HG1 := cover hg1
  rw [← hg1] at HV1
  clear hbx HO hg1 HC1
  go_wp2_with (refine wpList_store_row rfl _ _ _ rfl v1.heap.size #[.int .i64 r1.1.to, .int .i64 r1.1.frm, .bool r1.1.resp, .int .i64 r1.1.form, .int .i64 r1.1.kind, .int .i64 r1.1.ns, .int .i64 r1.1.nr, .bool r1.1.poll, .slice A1 r1.1.info.length c1] rfl rfl 29 zp (heap_alloc_new _ _) pdu_size rfl (pdu_one _ _ _ _ _ _ _ _ _ _ _) ?_; rw [← hx2.out, ← HG1.out])
  refine (HC2.out x2 HB2.out).mono ?_
  rintro e v2 ⟨A2, c2, rfl, HO⟩
  obtain ⟨x3, hx3, HV2, hbx⟩ := var_new HO.out.1 HO.out.2
  have HB3 : Hid (Below B w x3) := cover (HB2.out.trans (hbx.out.mono (HU.out _ HB2.out).1))
  have HV0a := cover (HV0.out.below hbx.out)
  have HV1a := cover (HV1.out.below hbx.out)
  clear HV0 HV1
  have HV0 := HV0a
  have HV1 := HV1a
  clear HV0a HV1a
  obtain ⟨g2, hg2⟩ : ∃ g, g = v2.heap.size := ⟨_, rfl⟩
  have HG2 := cover hg2
  rw [← hg2] at HV2
  clear hbx HO hg2 HC2
  go_wp2_with (refine wpList_store_row rfl _ _ _ rfl v2.heap.size #[.int .i64 r2.1.to, .int .i64 r2.1.frm, .bool r2.1.resp, .int .i64 r2.1.form, .int .i64 r2.1.kind, .int .i64 r2.1.ns, .int .i64 r2.1.nr, .bool r2.1.poll, .slice A2 r2.1.info.length c2] rfl rfl 29 zp (heap_alloc_new _ _) pdu_size rfl (pdu_one _ _ _ _ _ _ _ _ _ _ _) ?_; rw [← hx3.out, ← HG2.out])
  refine (HC3.out x3 HB3.out).mono ?_
  rintro e v3 ⟨A3, c3, rfl, HO⟩
  obtain ⟨x4, hx4, HV3, hbx⟩ := var_new HO.out.1 HO.out.2
  have HB4 : Hid (Below B w x4) := cover (HB3.out.trans (hbx.out.mono (HU.out _ HB3.out).1))
  have HV0a := cover (HV0.out.below hbx.out)
  have HV1a := cover (HV1.out.below hbx.out)
  have HV2a := cover (HV2.out.below hbx.out)
  clear HV0 HV1 HV2
  have HV0 := HV0a
  have HV1 := HV1a
  have HV2 := HV2a
  clear HV0a HV1a HV2a
  obtain ⟨g3, hg3⟩ : ∃ g, g = v3.heap.size := ⟨_, rfl⟩
  have HG3 := cover hg3
  rw [← hg3] at HV3
  clear hbx HO hg3 HC3
  go_wp2_with (refine wpList_store_row rfl _ _ _ rfl v3.heap.size #[.int .i64 r2.1.to, .int .i64 r2.1.frm, .bool r2.1.resp, .int .i64 r2.1.form, .int .i64 r2.1.kind, .int .i64 r2.1.ns, .int .i64 r2.1.nr, .bool r2.1.poll, .slice A3 r2.1.info.length c3] rfl rfl 29 zp (heap_alloc_new _ _) pdu_size rfl (pdu_one _ _ _ _ _ _ _ _ _ _ _) ?_; rw [← hx4.out, ← HG3.out])
  refine (HC4.out x4 HB4.out).mono ?_
  rintro e v4 ⟨A4, c4, rfl, HO⟩
  obtain ⟨x5, hx5, HV4, hbx⟩ := var_new HO.out.1 HO.out.2
  have HB5 : Hid (Below B w x5) := cover (HB4.out.trans (hbx.out.mono (HU.out _ HB4.out).1))
  have HV0a := cover (HV0.out.below hbx.out)
  have HV1a := cover (HV1.out.below hbx.out)
  have HV2a := cover (HV2.out.below hbx.out)
  have HV3a := cover (HV3.out.below hbx.out)
  clear HV0 HV1 HV2 HV3
  have HV0 := HV0a
  have HV1 := HV1a
  have HV2 := HV2a
  have HV3 := HV3a
  clear HV0a HV1a HV2a HV3a
  obtain ⟨g4, hg4⟩ : ∃ g, g = v4.heap.size := ⟨_, rfl⟩
  have HG4 := cover hg4
  rw [← hg4] at HV4
  clear hbx HO hg4 HC4
  go_wp2_with (refine wpList_store_row rfl _ _ _ rfl v4.heap.size #[.int .i64 r3.1.to, .int .i64 r3.1.frm, .bool r3.1.resp, .int .i64 r3.1.form, .int .i64 r3.1.kind, .int .i64 r3.1.ns, .int .i64 r3.1.nr, .bool r3.1.poll, .slice A4 r3.1.info.length c4] rfl rfl 29 zp (heap_alloc_new _ _) pdu_size rfl (pdu_one _ _ _ _ _ _ _ _ _ _ _) ?_; rw [← hx5.out, ← HG4.out])
  refine (HC5.out x5 HB5.out).mono ?_
  rintro e v5 ⟨A5, c5, rfl, HO⟩
  obtain ⟨x6, hx6, HV5, hbx⟩ := var_new HO.out.1 HO.out.2
  have HB6 : Hid (Below B w x6) := cover (HB5.out.trans (hbx.out.mono (HU.out _ HB5.out).1))
  have HV0a := cover (HV0.out.below hbx.out)
  have HV1a := cover (HV1.out.below hbx.out)
  have HV2a := cover (HV2.out.below hbx.out)
  have HV3a := cover (HV3.out.below hbx.out)
  have HV4a := cover (HV4.out.below hbx.out)
  clear HV0 HV1 HV2 HV3 HV4
  have HV0 := HV0a
  have HV1 := HV1a
  have HV2 := HV2a
  have HV3 := HV3a
  have HV4 := HV4a
  clear HV0a HV1a HV2a HV3a HV4a
  obtain ⟨g5, hg5⟩ : ∃ g, g = v5.heap.size := ⟨_, rfl⟩
  have HG5 := cover hg5
  rw [← hg5] at HV5
  clear hbx HO hg5 HC5
  go_wp2_with (first | (refine wpList_store_row rfl _ _ _ rfl v5.heap.size #[.int .i64 r3.1.to, .int .i64 r3.1.frm, .bool r3.1.resp, .int .i64 r3.1.form, .int .i64 r3.1.kind, .int .i64 r3.1.ns, .int .i64 r3.1.nr, .bool r3.1.poll, .slice A5 r3.1.info.length c5] rfl rfl 29 zp (heap_alloc_new _ _) pdu_size rfl (pdu_one _ _ _ _ _ _ _ _ _ _ _) ?_; rw [← hx6.out, ← HG5.out]) | (refine wpList_load_row rfl _ _ rfl g0 rfl 29 _ (0, 0) _ HV0.out.hd Try.underlying29 rfl pdu_size ?_) | (refine wpList_load_row rfl _ _ rfl g1 rfl 29 _ (0, 0) _ HV1.out.hd Try.underlying29 rfl pdu_size ?_))
  have s0 := ref_pduSame_any r1.1 r1.1 A0 A1 c0 c1 x6.heap.size x6.heap.size x6 HV0.out.row HV1.out.row (Nat.le_refl _) (Nat.le_refl _) (by have := HL.out; omega)
  rw [eqB_refl] at s0
  refine s0.mono ?_
  rintro e y0 ⟨rfl, hby⟩
  have HY0 : Hid (Below B w y0) := cover (HB6.out.trans (hby.mono (HU.out _ HB6.out).1))
  have HV2a := cover (HV2.out.below hby)
  have HV3a := cover (HV3.out.below hby)
  have HV4a := cover (HV4.out.below hby)
  have HV5a := cover (HV5.out.below hby)
  clear HV2 HV3 HV4 HV5 s0 hby
  have HV2 := HV2a
  have HV3 := HV3a
  have HV4 := HV4a
  have HV5 := HV5a
  clear HV2a HV3a HV4a HV5a
  obtain ⟨m0, m1, m2, m3, m4, m5, m6, m7, m8⟩ := pdu_cells HV2.out.hd
  obtain ⟨n0, n1, n2, n3, n4, n5, n6, n7, n8⟩ := pdu_cells HV3.out.hd
  go_wp2_with fail
  have s1 := ref_pduSame_any r2.1 r2.1 A2 A3 c2 c3 y0.heap.size y0.heap.size y0 HV2.out.row HV3.out.row (Nat.le_refl _) (Nat.le_refl _) (by have := HL.out; omega)
  rw [eqB_refl] at s1
  refine s1.mono ?_
  rintro e y1 ⟨rfl, hby⟩
  have HY1 : Hid (Below B w y1) := cover (HY0.out.trans (hby.mono (HU.out _ HY0.out).1))
  have HV4a := cover (HV4.out.below hby)
  have HV5a := cover (HV5.out.below hby)
  clear HV4 HV5 s1 hby m0 n0 m1 n1 m2 n2 m3 n3 m4 n4 m5 n5 m6 n6 m7 n7 m8 n8
  have HV4 := HV4a
  have HV5 := HV5a
  clear HV4a HV5a
  obtain ⟨m0, m1, m2, m3, m4, m5, m6, m7, m8⟩ := pdu_cells HV4.out.hd
  obtain ⟨n0, n1, n2, n3, n4, n5, n6, n7, n8⟩ := pdu_cells HV5.out.hd
  go_wp2_with fail
  have s2 := ref_pduSame_any r3.1 r3.1 A4 A5 c4 c5 y1.heap.size y1.heap.size y1 HV4.out.row HV5.out.row (Nat.le_refl _) (Nat.le_refl _) (by have := HL.out; omega)
  rw [eqB_refl] at s2
  refine s2.mono ?_
  rintro e y2 ⟨rfl, hby⟩
  have HY2 : Hid (Below B w y2) := cover (HY1.out.trans (hby.mono (HU.out _ HY1.out).1))
  clear s2 hby m0 n0 m1 n1 m2 n2 m3 n3 m4 n4 m5 n5 m6 n6 m7 n7 m8 n8
  go_wp2
  go_ret
  exact ⟨rfl, HY2.out⟩
end Go.Proofs.Ytgpmimohoepeiaa
