/- The walk of PlainKnown. -/
import Derived.Test.YtgpmimohoepeiaaHUse
import Derived.Test.YtgpmimohoepeiaaHAwake
namespace Go.Proofs.Ytgpmimohoepeiaa
open Go.RowKit
set_option linter.unusedVariables false
set_option linter.unusedSimpArgs false

abbrev lK : List SV := [⟨4, 1, []⟩, ⟨8, 4, []⟩]
abbrev pK : PV := ⟨255, 2, false, 2, 2, 0, 0, true, [1, 2]⟩
abbrev qK : PV := ⟨8, 2, false, 2, 1, 0, 0, true, [129, 7, 10]⟩
theorem isOne_pK : IsOne pK := ⟨⟨by unfold MayN; simp, .inr (.inr (by unfold MayU; simp))⟩, rfl, by decide⟩
theorem isOne_qK : IsOne qK := ⟨⟨by unfold MayN; simp, .inr (.inr (by unfold MayU; simp))⟩, rfl, by decide⟩
theorem askK : askP (testQ 2 255) 0 [1, 2] = (pK, 0) := askP_yes (by unfold OkSap testQ; simp) (by decide)
theorem askXK : askX 2 8 5 = (qK, 0) := by
  unfold askX
  rw [if_pos (by omega)]
  exact askP_yes (by unfold OkSap xidQ; simp) (by decide)
theorem sentPK : sentP lK pK = [⟨2, 0, true, 2, 2, 0, 0, true, [1, 2]⟩, ⟨2, 4, true, 2, 2, 0, 0, true, [1, 2]⟩, ⟨2, 8, true, 2, 2, 0, 0, true, [1, 2]⟩] := by
  rw [sentP_cmd isOne_pK (by decide) rfl]
  have e : askedS lK pK = [0, 4, 8] := by decide +kernel
  rw [e]
  rfl
theorem sentQK : sentP lK qK = [⟨2, 8, true, 2, 1, 0, 0, true, [129, 7, 128]⟩] := by
  rw [sentP_cmd isOne_qK (by decide) rfl]
  have e : askedS lK qK = [8] := by decide +kernel
  have e2 : clsS lK 8 = 4 := by decide +kernel
  rw [e, List.map_cons, List.map_nil]
  unfold ansV
  rw [e2]
  rfl
theorem toldPK (pe : A6) : toldP lK pe pK = [] := toldP_cmd (by decide) rfl
theorem toldQK (pe : A6) : toldP lK pe qK = [] := toldP_cmd (by decide) rfl
theorem zeros_row {w : World} {b : Nat} {v : Value} (k : Nat) (h : w.ownsRow b 5 1 v k (madeCells (Value.int .u8 0).cells (k * 1)).toList) : w.ownsRow b 5 1 v k ((List.replicate k (0 : Int)).map (Value.int .u8)) := by
  rw [show (Value.int IntKind.u8 0).cells = #[.int .u8 0] from rfl, toList_madeCells_one] at h
  rw [List.map_replicate]
  simpa using h
set_option maxRecDepth 100000 in
set_option maxHeartbeats 1600000 in
theorem walk_PlainKnown (w : World) : Calls Try.prog 3 #[] w fun e w' => e = .returned (.bool true) ∧ Below w.heap.size w w' := by
  obtain ⟨B, hB⟩ : ∃ B, B = w.heap.size := ⟨_, rfl⟩
  rw [← hB]
  have hBw : B ≤ w.heap.size := by omega
  have HAW := cover (awake_any w)
  rw [← hB] at HAW
  clear hB
  go_enter Try.func3, Try.ntmps3
  go_wp2_with fail
  refine HAW.out.mono ?_
  rintro e w0 ⟨rfl, hb0⟩
  have HB0 := cover hb0
  have hB0 : B ≤ w0.heap.size := by have := hb0.size; omega
  clear hb0 HAW
  go_wp2_with fail
  refine (new_has hB0).mono ?_
  rintro e w1 ⟨s, rfl, H1⟩
  have s1 := open_has H1.out.1 (n := 4) k64 1
  have e1 : openE [] 4 1 = 0 := by decide
  have e2 : openS [] 4 1 = [⟨4, 1, []⟩] := by unfold openS; rw [if_pos e1]; rfl
  rw [e1, e2] at s1
  go_wp2_with fail
  refine s1.mono ?_
  rintro e w2 ⟨rfl, H2⟩
  have s2 := open_has H2.out.1 (n := 8) k64 4
  have e3 : openE [⟨4, 1, []⟩] 8 4 = 0 := by decide
  have e4 : openS [⟨4, 1, []⟩] 8 4 = lK := by unfold openS; rw [if_pos e3]; rfl
  rw [e3, e4] at s2
  have HB2 := cover (HB0.out.trans (H1.out.2.trans H2.out.2))
  clear s1 e1 e2 e3 e4 H1
  go_wp2_with fail
  refine s2.mono ?_
  rintro e x0 ⟨rfl, H3⟩
  have HS0 := cover H3.out.1
  have HX0 := cover (HB2.out.trans H3.out.2)
  clear s2 H2 H3 HB2 HB0
  have HSZ : Hid (∀ W, SHas B W s lK → B ≤ W.heap.size) := cover fun W h => h.size
  -- a test to all
  obtain ⟨g, hg⟩ : ∃ g, x0.heap.size = g := ⟨_, rfl⟩
  obtain ⟨y0, hy0⟩ : ∃ y0, y0 = x0.alloc (.cells #[.int .u8 1, .int .u8 2] 5) := ⟨_, rfl⟩
  have hb : Below x0.heap.size x0 y0 := by rw [hy0]; exact (Below.refl _ _).alloc (Nat.le_refl _) _
  have hr : Row y0 (g + 1) (some ⟨g, 0, none⟩) 2 [1, 2] := by rw [hy0]; exact RowK.made_at x0 g [1, 2] _ _ rfl hg
  have hs : g + 1 ≤ y0.heap.size := by rw [hy0]; simp [hg]
  have s3 := askTest_any (some ⟨g, 0, none⟩) 2 (g + 1) [1, 2] 2 255 y0 hr hs (by decide)
  rw [askK] at s3
  have HSy := cover (HS0.out.below hb)
  have HXy := cover (HX0.out.trans (hb.mono HS0.out.size))
  clear hb hr hs HS0 HX0
  go_wp2_with (rw [← hy0]; refine s3.mono ?_)
  rintro e v1 ⟨A1, c1, rfl, HO⟩
  obtain ⟨x1, hx1, HV1, hbx⟩ := var_new (r := (pK, 0)) HO.out.1 HO.out.2
  have hx1' : Hid (x1 = (v1.alloc (.cells zp 29)).setRow v1.heap.size #[.int .i64 255, .int .i64 2, .bool false, .int .i64 2, .int .i64 2, .int .i64 0, .int .i64 0, .bool true, .slice A1 2 c1]) := hx1
  have HS1 := cover (HSy.out.below hbx.out)
  have HX1 := cover (HXy.out.trans (hbx.out.mono HSy.out.size))
  obtain ⟨g1, hg1⟩ : ∃ g, g = v1.heap.size := ⟨_, rfl⟩
  have HG1 := cover hg1
  rw [← hg1] at HV1
  clear hy0 hg s3 HO hbx HSy HXy hg1
  have s4 := hear_go HS1.out ⟨2, 0, 0, 0, 0, 0⟩ pK A1 c1 HV1.out.row (by decide)
  rw [sentPK, toldPK] at s4
  have HH1 := cover s4
  clear s4
  go_wp2_with (first
    | (refine wpList_store_row rfl _ _ _ rfl v1.heap.size #[.int .i64 255, .int .i64 2, .bool false, .int .i64 2, .int .i64 2, .int .i64 0, .int .i64 0, .bool true, .slice A1 2 c1] rfl rfl 29 zp (heap_alloc_new _ _) pdu_size rfl (pdu_one _ _ _ _ _ _ _ _ _ _ _) ?_; rw [← hx1'.out, ← HG1.out])
    | (refine wpList_load_row rfl _ _ rfl g1 rfl 29 _ (0, 0) _ HV1.out.hd Try.underlying29 rfl pdu_size ?_))
  refine HH1.out.mono ?_
  rintro e x2 ⟨Al, cl, Am, cm, rfl, H5⟩
  have HS2 := cover (HS1.out.below H5.out.2.2)
  have HX2 := cover (HX1.out.trans (H5.out.2.2.mono HS1.out.size))
  have HM2 := cover H5.out.2.1
  clear HH1 H5 HS1 HX1 HV1 hx1 hx1'
  have s2 := unit_any none 0 x2.heap.size [] 2 0 x2 RowK.none_ (Nat.le_refl _) (by decide)
  rw [show askP (uiQ 2 0) 1 [] = (zPV, 1) from askP_no (by unfold OkSap uiQ; simp)] at s2
  have HA2 := cover s2
  clear s2
  go_wp2_with (fail)
  refine HA2.out.mono ?_
  rintro e v3 ⟨A3, c3, rfl, HO⟩
  obtain ⟨x3, hx3, _, hbx⟩ := var_new (r := (zPV, 1)) HO.out.1 HO.out.2
  have hx3' : Hid (x3 = (v3.alloc (.cells zp 29)).setRow v3.heap.size #[.int .i64 0, .int .i64 0, .bool false, .int .i64 0, .int .i64 0, .int .i64 0, .int .i64 0, .bool false, .slice A3 0 c3]) := hx3
  have HS3 := cover (HS2.out.below hbx.out)
  have HX3 := cover (HX2.out.trans (hbx.out.mono HS2.out.size))
  have HM3 := cover (HM2.out.below hbx.out)
  clear HO hbx HS2 HX2 HM2 HA2
  have s3 := unit_any none 0 x3.heap.size [] 3 4 x3 RowK.none_ (Nat.le_refl _) (by decide)
  rw [show askP (uiQ 3 4) 1 [] = (zPV, 1) from askP_no (by unfold OkSap uiQ; simp)] at s3
  have HA3 := cover s3
  clear s3
  go_wp2_with (refine wpList_store_row rfl _ _ _ rfl v3.heap.size #[.int .i64 0, .int .i64 0, .bool false, .int .i64 0, .int .i64 0, .int .i64 0, .int .i64 0, .bool false, .slice A3 0 c3] rfl rfl 29 zp (heap_alloc_new _ _) pdu_size rfl (pdu_one _ _ _ _ _ _ _ _ _ _ _) ?_; rw [← hx3'.out])
  refine HA3.out.mono ?_
  rintro e v4 ⟨A4, c4, rfl, HO⟩
  obtain ⟨x4, hx4, _, hbx⟩ := var_new (r := (zPV, 1)) HO.out.1 HO.out.2
  have hx4' : Hid (x4 = (v4.alloc (.cells zp 29)).setRow v4.heap.size #[.int .i64 0, .int .i64 0, .bool false, .int .i64 0, .int .i64 0, .int .i64 0, .int .i64 0, .bool false, .slice A4 0 c4]) := hx4
  have HS4 := cover (HS3.out.below hbx.out)
  have HX4 := cover (HX3.out.trans (hbx.out.mono HS3.out.size))
  have HM4 := cover (HM3.out.below hbx.out)
  clear HO hbx HS3 HX3 HM3 HA3
  obtain ⟨i0, hi, hz0, hz1, hz2⟩ := info_parts u8_info
  go_wp2_with (first
    | (refine wpList_store_row rfl _ _ _ rfl v4.heap.size #[.int .i64 0, .int .i64 0, .bool false, .int .i64 0, .int .i64 0, .int .i64 0, .int .i64 0, .bool false, .slice A4 0 c4] rfl rfl 29 zp (heap_alloc_new _ _) pdu_size rfl (pdu_one _ _ _ _ _ _ _ _ _ _ _) ?_; rw [← hx4'.out])
    | (at_make; refine wpList_make_full _ rfl _ _ 27 rfl x4.heap.size 5 i0 (.int .u8 0) 1 Try.underlying27 hi hz0 hz1 .i64 .i64 _ _ 1025 rfl rfl rfl rfl (by rw [hz2]; omega) (by unfold maxLen; omega) (Nat.le_refl _) ?_; intro y4 hown4 hg4))
  have hb4 : Below x4.heap.size x4 y4 := (Below.refl _ _).grown hg4 (Nat.le_refl _) (fun k hk => by cases hk)
  have ho4 := zeros_row 1025 hown4
  obtain ⟨L5, hL5⟩ : ∃ L : List Int, L = List.replicate 1025 0 := ⟨_, rfl⟩
  have hl5 : L5.length = 1025 := by rw [hL5]; exact List.length_replicate
  rw [← hL5] at ho4
  have hr5 : Row y4 y4.heap.size (some ⟨x4.heap.size, 0, none⟩) L5.length L5 := by rw [hl5]; exact RowK.of_own ho4 hl5
  have s5 := unit_any (some ⟨x4.heap.size, 0, none⟩) 1025 y4.heap.size L5 2 4 y4 hr5 (Nat.le_refl _) (by rw [hl5]; decide)
  rw [hl5, show askP (uiQ 2 4) 1 L5 = (zPV, 3) from askP_long (by unfold OkSap uiQ; simp) (by rw [hl5]; decide)] at s5
  have HA5 := cover s5
  have HSy := cover (HS4.out.below hb4)
  have HXy := cover (HX4.out.trans (hb4.mono HS4.out.size))
  have HMy := cover (HM4.out.below hb4)
  clear s5 hr5 ho4 hL5 hl5 hown4 hg4 hb4 HS4 HX4 HM4 hi hz0 hz1 hz2
  go_wp2_with fail
  refine HA5.out.mono ?_
  rintro e v5 ⟨A5, c5, rfl, HO⟩
  obtain ⟨x5, hx5, _, hbx⟩ := var_new (r := (zPV, 3)) HO.out.1 HO.out.2
  have hx5' : Hid (x5 = (v5.alloc (.cells zp 29)).setRow v5.heap.size #[.int .i64 0, .int .i64 0, .bool false, .int .i64 0, .int .i64 0, .int .i64 0, .int .i64 0, .bool false, .slice A5 0 c5]) := hx5
  have HS5 := cover (HSy.out.below hbx.out)
  have HX5 := cover (HXy.out.trans (hbx.out.mono HSy.out.size))
  have HM5 := cover (HMy.out.below hbx.out)
  clear HO hbx HSy HXy HMy HA5
  have s6 := askXid_any 2 8 5 x5
  rw [askXK] at s6
  have HA6 := cover s6
  clear s6
  go_wp2_with (refine wpList_store_row rfl _ _ _ rfl v5.heap.size #[.int .i64 0, .int .i64 0, .bool false, .int .i64 0, .int .i64 0, .int .i64 0, .int .i64 0, .bool false, .slice A5 0 c5] rfl rfl 29 zp (heap_alloc_new _ _) pdu_size rfl (pdu_one _ _ _ _ _ _ _ _ _ _ _) ?_; rw [← hx5'.out])
  refine HA6.out.mono ?_
  rintro e v6 ⟨A6, c6, rfl, HO⟩
  obtain ⟨x6, hx6, HV6, hbx⟩ := var_new (r := (qK, 0)) HO.out.1 HO.out.2
  have hx6' : Hid (x6 = (v6.alloc (.cells zp 29)).setRow v6.heap.size #[.int .i64 8, .int .i64 2, .bool false, .int .i64 2, .int .i64 1, .int .i64 0, .int .i64 0, .bool true, .slice A6 3 c6]) := hx6
  have HS6 := cover (HS5.out.below hbx.out)
  have HX6 := cover (HX5.out.trans (hbx.out.mono HS5.out.size))
  have HM6 := cover (HM5.out.below hbx.out)
  obtain ⟨g6, hg6⟩ : ∃ g, g = v6.heap.size := ⟨_, rfl⟩
  have HG6 := cover hg6
  rw [← hg6] at HV6
  clear HO hbx HS5 HX5 HM5 HA6 hg6
  have s7 := hear_go HS6.out ⟨2, 0, 0, 0, 0, 0⟩ qK A6 c6 HV6.out.row (by decide)
  rw [sentQK, toldQK] at s7
  have HH7 := cover s7
  clear s7
  go_wp2_with (first
    | (refine wpList_store_row rfl _ _ _ rfl v6.heap.size #[.int .i64 8, .int .i64 2, .bool false, .int .i64 2, .int .i64 1, .int .i64 0, .int .i64 0, .bool true, .slice A6 3 c6] rfl rfl 29 zp (heap_alloc_new _ _) pdu_size rfl (pdu_one _ _ _ _ _ _ _ _ _ _ _) ?_; rw [← hx6'.out, ← HG6.out])
    | (refine wpList_load_row rfl _ _ rfl g6 rfl 29 _ (0, 0) _ HV6.out.hd Try.underlying29 rfl pdu_size ?_))
  refine HH7.out.mono ?_
  rintro e x7 ⟨Aj, cj, Ak, ck, rfl, H7⟩
  have HX7 := cover (HX6.out.trans (H7.out.2.2.mono HS6.out.size))
  have HZ7 : Hid (B ≤ x7.heap.size) := cover (Nat.le_trans HS6.out.size H7.out.2.2.size)
  have HV7 := cover (HV6.out.below H7.out.2.2)
  obtain ⟨gm, hAm, _, hlm, _, hgm, _, hatm⟩ := (HM6.out.below H7.out.2.2).ats (by simp)
  obtain ⟨gk, hAk, _, hlk, _, hgk, _, hatk⟩ := H7.out.2.1.ats (by simp)
  subst hAm hAk
  obtain ⟨_, _, hm0, _⟩ := hatm 0 _ rfl
  obtain ⟨_, _, hm1, _⟩ := hatm 1 _ rfl
  obtain ⟨_, _, hm2, _⟩ := hatm 2 _ rfl
  obtain ⟨A9, m9, hk0, hi9⟩ := hatk 0 _ rfl
  have d0 : x7.cell? ⟨gm, 1, none⟩ = some (.int .i64 0) := hm0 1 (by decide)
  have d1 : x7.cell? ⟨gm, 10, none⟩ = some (.int .i64 4) := hm1 1 (by decide)
  have d2 : x7.cell? ⟨gm, 19, none⟩ = some (.int .i64 8) := hm2 1 (by decide)
  have d3 : x7.cell? ⟨gk, 8, none⟩ = some (.slice A9 3 m9) := hk0 8 (by decide)
  have hlm3 : 3 ≤ cm := hlm
  have hlk1 : 1 ≤ ck := hlk
  obtain ⟨x8, hx8⟩ : ∃ x, x = x7.alloc (.cells #[.int .u8 129, .int .u8 7, .int .u8 128] 5) := ⟨_, rfl⟩
  have hb8 : Below x7.heap.size x7 x8 := by rw [hx8]; exact (Below.refl _ _).alloc (Nat.le_refl _) _
  have s8 := same_any A9 (some ⟨x7.heap.size, 0, none⟩) 3 m9 3 x7.heap.size (x7.heap.size + 1) [129, 7, 128] [129, 7, 128] x8 ((OwnB.row hi9).below hb8) (by rw [hx8]; exact RowK.made x7 [129, 7, 128] _ _ rfl) (by decide)
  rw [show decide (([129, 7, 128] : List Int) = [129, 7, 128]) = true from by decide] at s8
  have HH8 := cover s8
  have HX8 := cover (HX7.out.trans (hb8.mono HZ7.out))
  have HV8 := cover (HV7.out.below hb8)
  have HZ8 : Hid (B ≤ x8.heap.size) := cover (Nat.le_trans HZ7.out hb8.size)
  clear hatm hatk hm0 hm1 hm2 hk0 hi9 hlm hlk s8 hb8 H7 HM6 HS6 HX6 HV6 HH7 hgm hgk
  go_wp2_with (rw [← hx8]; refine HH8.out.mono ?_)
  rintro e y8 ⟨rfl, dd, rfl⟩
  obtain ⟨y9, hy9⟩ : ∃ y, y = x8.drewN dd := ⟨_, rfl⟩
  have hb9 : Below x8.heap.size x8 y9 := by rw [hy9]; exact below_drewN (Below.refl _ _) dd
  have HV9 := cover (HV8.out.below hb9)
  have HX9 := cover (HX8.out.trans (hb9.mono HZ8.out))
  have HZ9 : Hid (B ≤ y9.heap.size) := cover (Nat.le_trans HZ8.out hb9.size)
  rw [← hy9]
  clear hy9 hx8 HH8 HV8 HX8 hb9 d0 d1 d2 d3 HV7
  have d8 : y9.cell? ⟨g6, 8, none⟩ = some (.slice A6 3 c6) := by
    obtain ⟨_, _, _, _, _, _, _, _, h8⟩ := pdu_cells HV9.out.hd
    exact h8
  obtain ⟨x9, hx9⟩ : ∃ x, x = y9.alloc (.cells #[.int .u8 129, .int .u8 7, .int .u8 10] 5) := ⟨_, rfl⟩
  have hb10 : Below y9.heap.size y9 x9 := by rw [hx9]; exact (Below.refl _ _).alloc (Nat.le_refl _) _
  have s9 := same_any A6 (some ⟨y9.heap.size, 0, none⟩) 3 c6 3 y9.heap.size (y9.heap.size + 1) [129, 7, 10] [129, 7, 10] x9 (HV9.out.row.below hb10) (by rw [hx9]; exact RowK.made y9 [129, 7, 10] _ _ rfl) (by decide)
  rw [show decide (([129, 7, 10] : List Int) = [129, 7, 10]) = true from by decide] at s9
  have HH9 := cover s9
  have HX10 := cover (HX9.out.trans (hb10.mono HZ9.out))
  clear s9 hb10
  go_wp2_with (rw [← hx9]; refine HH9.out.mono ?_)
  rintro e y10 ⟨rfl, dd2, rfl⟩
  clear hx9 HH9
  go_wp2
  go_ret
  exact ⟨rfl, below_drewN HX10.out dd2⟩
end Go.Proofs.Ytgpmimohoepeiaa
