/- The walk of MacKnown. -/
import Derived.Laws.MakeOwn
import Derived.Deep.CutRange
import Derived.Deep.DeepCutAuto
import Derived.Test.YtbpmhfekjihhhaaMAwake
import Derived.Test.YtbpmhfekjihhhaaMStore
import Derived.Deep.RegionHeld3
namespace Go.Proofs.Ytbpmhfekjihhhaa
open Go.RowKit
set_option linter.unusedVariables false

/-- so many noughts -/
def zrow (n : Nat) : Array Value := madeCells (Value.int .u8 0).cells (n * 1)
theorem zrow_eq (n : Nat) : zrow n = ((List.replicate n (0 : Int)).map (Value.int .u8)).toArray := by
  apply Array.toList_inj.1
  unfold zrow
  rw [show (Value.int IntKind.u8 0).cells = #[.int .u8 0] from rfl, toList_madeCells_one]
  simp
theorem mk_row (w : World) (n : Nat) (hn : n ≤ 10000) :
    (Instr.makeSlice 28 (.int .i64 (n : Int)) (.int .i64 (n : Int))).run Try.prog w = .ok (.slice (some ⟨w.heap.size, 0, none⟩) n n) (w.alloc (.cells (zrow n) 5)) := by
  obtain ⟨i0, hi, hz0, hz1, hz2⟩ := info_parts u8_info
  have h := run_makeSlice (P := Try.prog) (w := w) 28 5 i0 (.int .u8 0) Try.underlying28 hi hz0 .i64 .i64 (n : Int) (n : Int) (by omega) (Int.le_refl _) (by rw [hz1]; omega) (by rw [hz2]; omega) (by omega)
  rw [hz1, Int.toNat_natCast] at h
  exact h
theorem mk_1501 (w : World) : (Instr.makeSlice 28 (.int .i64 1501) (.int .i64 1501)).run Try.prog w = .ok (.slice (some ⟨w.heap.size, 0, none⟩) 1501 1501) (w.alloc (.cells (zrow 1501) 5)) := mk_row w 1501 (by decide)
theorem mk_63 (w : World) : (Instr.makeSlice 28 (.int .i64 63) (.int .i64 63)).run Try.prog w = .ok (.slice (some ⟨w.heap.size, 0, none⟩) 63 63) (w.alloc (.cells (zrow 63) 5)) := mk_row w 63 (by decide)
theorem mk_64 (w : World) : (Instr.makeSlice 28 (.int .i64 64) (.int .i64 64)).run Try.prog w = .ok (.slice (some ⟨w.heap.size, 0, none⟩) 64 64) (w.alloc (.cells (zrow 64) 5)) := mk_row w 64 (by decide)
theorem zrow_row (w : World) (n : Nat) : Row (w.alloc (.cells (zrow n) 5)) (w.heap.size + 1) (some ⟨w.heap.size, 0, none⟩) n (List.replicate n 0) := by
  have h := RowK.made (κ := .u8) w (List.replicate n 0) (zrow n) 5 (zrow_eq n)
  rw [List.length_replicate] at h
  exact h
theorem no_64 : okOpen (List.replicate 64 0) = false := by decide +kernel
/-- Encode says what is wrong -/
theorem enc_wrong (T : Array Value) (t0 t1 t2 t3 t4 t5 f0 f1 f2 f3 f4 f5 : Int) (A : Option Addr) (n c B : Nat) (d : List Int) (E : Int) (w : World) (ht : Made T) (hr : Row w B A n d) (hB : B ≤ w.heap.size) (hc : n ≤ c) (hnil : A = none → c = 0) (h1 : Bts [t0, t1, t2, t3, t4, t5]) (h2 : Bts [f0, f1, f2, f3, f4, f5]) (h3 : Bts d)
    (hE : encE f0 d = E) (hE0 : E ≠ 0) :
    Calls Try.prog 14 #[.agg T, .agg #[.int .u8 t0, .int .u8 t1, .int .u8 t2, .int .u8 t3, .int .u8 t4, .int .u8 t5, .int .u8 f0, .int .u8 f1, .int .u8 f2, .int .u8 f3, .int .u8 f4, .int .u8 f5, .slice A n c]] w fun e w' => (∃ A' c', e = .returned (.tuple #[.slice A' 0 c', .int .i64 E])) ∧ Below w.heap.size w w' := by
  have hO : encO [t0, t1, t2, t3, t4, t5] [f0, f1, f2, f3, f4, f5] d f0 = [] := by unfold encO; rw [hE, if_neg hE0]
  refine (enc_any T t0 t1 t2 t3 t4 t5 f0 f1 f2 f3 f4 f5 A n c B d w ht hr hB hc hnil h1 h2 h3).mono ?_
  rintro e w' ⟨A', c', he, ho, hb⟩
  rw [hO, hE] at he
  exact ⟨⟨A', c', he⟩, hb⟩

attribute [local go_sem ↓] ldTab_fold stFrm_fold
attribute [local go_sem] ldTab_at stFrm_at zfAt_new zfAt_newD mk_1501 mk_63 mk_64

theorem zrow_next (w : World) (n : Nat) : Row ((w.alloc (.cells zf 36)).alloc (.cells (zrow n) 5)).drew (w.heap.size + 2) (some ⟨w.heap.size + 1, 0, none⟩) n (List.replicate n 0) := by
  have h := zrow_row (w.alloc (.cells zf 36)) n
  have e : (w.alloc (.cells zf 36)).heap.size = w.heap.size + 1 := by simp
  rw [e] at h
  exact h.drewN 1
theorem dec_63 : errD (List.replicate 63 0) = 2 := errD_short (by decide)
theorem dec_64 : errD (List.replicate 64 0) = 5 := errD_sum (by decide) no_64
set_option maxRecDepth 100000 in
set_option maxHeartbeats 3200000 in
theorem walk_MacKnown (w : World) : Calls Try.prog 3 #[] w fun e w' => e = .returned (.bool true) ∧ Below w.heap.size w w' := by
  go_enter Try.func3, Try.ntmps3
  go_wp2_with fail
  refine (awake_any w).mono ?_
  rintro e w0 ⟨rfl, hb0⟩
  go_wp2_with fail
  refine (make_any _).mono ?_
  rintro e w1 ⟨T, rfl, hT, hb1⟩
  have hs0 := hb0.size
  have hbel1 := hb0.trans (hb1.mono hs0)
  have hs1 := hbel1.size
  clear hb0 hb1 hs0
  go_wp2_with (first
    | (refine new_var rfl _ rfl _ _ (alloc_tab _) ?_)
    | (refine store_tab (w0 := w) rfl _ _ rfl w1.heap.size w.heap.size T tabRow rfl rfl hT (heap_alloc_new _ _) (hbel1.alloc hs1 _) hs1 ?_; intro w2 ht2 hb2; clear hbel1))
  obtain ⟨g, hg⟩ : ∃ g, g = w1.heap.size := ⟨_, rfl⟩
  rw [← hg] at ht2 hs1 ⊢
  clear hg
  have hT256 := hT.size
  have H2 := cover hb2
  have T2 := cover ht2
  have hts2 := ht2.of
  have hg2 := ht2.lt
  have HA2 := cover (from_below all_any w2)
  clear ht2 hb2
  go_region_held3 (fun w' => tabOf w' g = T ∧ Below w2.heap.size w2 w') (first | exact ⟨(tabOf_below hbX hg2).trans hts2, hbX⟩ | exact ⟨hts2, (Below.refl _ _).drew⟩)
    (first
      | (go_at_call 15; refine (HA2.out _ ?_).mono ?_; (go_split_ands; assumption); rintro e w3 ⟨rfl, hbX⟩)
      | (go_at_call 14; refine (enc_wrong T 0 0 0 0 0 0 255 255 255 255 255 255 none 0 0 0 [] 1 w3 hT RowK.none_ (Nat.zero_le _) (Nat.le_refl _) (fun _ => rfl) (by unfold Bts; decide) (by unfold Bts; decide) Bts.nil (by decide) (by decide)).mono ?_; rintro e w4 ⟨⟨A4, c4, rfl⟩, hbZ⟩; have hs3 := hbX.size; have hbX : Below w2.heap.size w2 w4 := hbX.trans (hbZ.mono hs3); clear hbZ))
  have H4 := cover (H2.out.trans (hbX.mono H2.out.size))
  have T4 := cover (T2.out.below hbX hg2)
  clear hbX hts2 hg2
  have hts4 := T4.out.of
  have hg4 := T4.out.lt
  have hZ1 : Below w4.heap.size w4 (w4.alloc (.cells (zrow 1501) 5)).drew := ((Below.refl _ _).alloc (Nat.le_refl _) _).drew
  go_wp2_with fail
  go_region_held3 (fun w' => tabOf w' g = T ∧ Below w4.heap.size w4 w') (first | exact ⟨(tabOf_below hbX hg4).trans hts4, hbX⟩ | exact ⟨hts4, (Below.refl _ _).drew⟩ | exact ⟨(tabOf_below hZ1 hg4).trans hts4, hZ1⟩)
    (first
      | (go_at_call 14; refine (enc_wrong T 0 0 0 0 0 0 0 0 0 0 0 0 (some ⟨w4.heap.size, 0, none⟩) 1501 1501 (w4.heap.size + 1) (List.replicate 1501 0) 3 (w4.alloc (.cells (zrow 1501) 5)).drew hT ((zrow_row w4 1501).drewN 1) (by simp) (Nat.le_refl _) (fun h => by cases h) (by unfold Bts; decide) (by unfold Bts; decide) (zeros_bts _) (by unfold encE; rw [grp_nought, if_neg (by decide), if_pos (by rw [List.length_replicate]; decide)]) (by decide)).mono ?_; rintro e w5 ⟨⟨A5, c5, rfl⟩, hbZ⟩; have hbX : Below w4.heap.size w4 w5 := hZ1.trans (hbZ.mono (by simp)); clear hbZ))
  have H5 := cover (H4.out.trans (hbX.mono H4.out.size))
  have T5 := cover (T4.out.below hbX hg4)
  clear hbX hts4 hg4 hZ1

  have hts5 := T5.out.of
  have hg5 := T5.out.lt
  have hZ1 : Below w5.heap.size w5 (w5.alloc (.cells (zrow 63) 5)).drew := ((Below.refl _ _).alloc (Nat.le_refl _) _).drew
  have hZ2 : Below w5.heap.size w5 ((w5.alloc (.cells (zrow 63) 5)).alloc (.cells zf 36)).drew := (((Below.refl _ _).alloc (Nat.le_refl _) _).alloc (by simp) _).drew
  have hZ3 : Below w5.heap.size w5 (w5.alloc (.cells zf 36)).drew := ((Below.refl _ _).alloc (Nat.le_refl _) _).drew
  have hZ4 : Below w5.heap.size w5 ((w5.alloc (.cells zf 36)).alloc (.cells (zrow 63) 5)).drew := (((Below.refl _ _).alloc (Nat.le_refl _) _).alloc (by simp) _).drew
  have hK0 := cover (And.intro hts5 (Below.refl w5.heap.size w5).drew : tabOf w5.drew g = T ∧ Below w5.heap.size w5 w5.drew)
  have hK1 := cover (And.intro ((tabOf_below hZ1 hg5).trans hts5) hZ1)
  have hK2 := cover (And.intro ((tabOf_below hZ2 hg5).trans hts5) hZ2)
  have hK3 := cover (And.intro ((tabOf_below hZ3 hg5).trans hts5) hZ3)
  have hK4 := cover (And.intro ((tabOf_below hZ4 hg5).trans hts5) hZ4)
  have HD1 := cover (dec_err T (some ⟨w5.heap.size, 0, none⟩) 63 63 (w5.heap.size + 1) (List.replicate 63 0) (w5.alloc (.cells (zrow 63) 5)).drew hT ((zrow_row w5 63).drewN 1) (by simp) (zeros_bts _) (Nat.le_refl _) (by decide) (by decide))
  have HD2 := cover (dec_err T (some ⟨w5.heap.size, 0, none⟩) 63 63 (w5.heap.size + 1) (List.replicate 63 0) ((w5.alloc (.cells (zrow 63) 5)).alloc (.cells zf 36)).drew hT (((zrow_row w5 63).alloc (by simp) _).drewN 1) (by simp) (zeros_bts _) (Nat.le_refl _) (by decide) (by decide))
  have HD3 := cover (dec_err T (some ⟨w5.heap.size + 1, 0, none⟩) 63 63 (w5.heap.size + 2) (List.replicate 63 0) ((w5.alloc (.cells zf 36)).alloc (.cells (zrow 63) 5)).drew hT (zrow_next w5 63) (by simp) (zeros_bts _) (Nat.le_refl _) (by decide) (by decide))
  go_upto_region 6 with fail
  go_cut [7] (fun v wx => v = .int .i64 2 ∧ Hid (Below w5.heap.size w5 wx))
  case first =>
    go_region_held3 (fun w' => tabOf w' g = T ∧ Below w5.heap.size w5 w')
      (first
        | with_reducible exact ⟨(tabOf_below hbX hg5).trans hts5, hbX⟩
        | with_reducible exact hK0.out
        | with_reducible exact hK1.out
        | with_reducible exact hK2.out
        | with_reducible exact hK3.out
        | with_reducible exact hK4.out
        | with_reducible exact ⟨(tabOf_below (hbX.alloc hbX.size _) hg5).trans hts5, hbX.alloc hbX.size _⟩
        | with_reducible exact ⟨(tabOf_below (Go.below_setRow hbX hzb _) hg5).trans hts5, Go.below_setRow hbX hzb _⟩
        | with_reducible exact ⟨(tabOf_below (Go.below_setRow (hbX.alloc hbX.size _) hbX.size _) hg5).trans hts5, Go.below_setRow (hbX.alloc hbX.size _) hbX.size _⟩)
      (first
        | (go_at_call 16; (first
            | ((with_reducible refine HD1.out.mono ?_); rintro e w11 ⟨⟨p0, p1, p2, p3, p4, p5, q0, q1, q2, q3, q4, q5, A11, m11, c11, he⟩, hb11⟩; rw [dec_63] at he; subst he; have hbX : Below w5.heap.size w5 w11 := hZ1.trans (hb11.mono (by simp)); clear hb11)
            | ((with_reducible refine HD2.out.mono ?_); rintro e w11 ⟨⟨p0, p1, p2, p3, p4, p5, q0, q1, q2, q3, q4, q5, A11, m11, c11, he⟩, hb11⟩; rw [dec_63] at he; subst he; have hzC : zfAt w11 (w5.heap.size + 1) = true := (by (have h := zfAt_below (zfAt_newD (w5.alloc (.cells (zrow 63) 5))) hb11 (by simp)); simpa using h); have hzb : w5.heap.size ≤ w5.heap.size + 1 := Nat.le_succ _; have hbX : Below w5.heap.size w5 w11 := hZ2.trans (hb11.mono (by simp; omega)); clear hb11)
            | ((with_reducible refine HD3.out.mono ?_); rintro e w11 ⟨⟨p0, p1, p2, p3, p4, p5, q0, q1, q2, q3, q4, q5, A11, m11, c11, he⟩, hb11⟩; rw [dec_63] at he; subst he; have hzC : zfAt w11 w5.heap.size = true := zfAt_below (zfAt_below (zfAt_new w5) (((Below.refl (w5.alloc (.cells zf 36)).heap.size (w5.alloc (.cells zf 36))).alloc (Nat.le_refl _) (.cells (zrow 63) 5)).drew) (by simp)) hb11 (by simp; omega); have hzb : w5.heap.size ≤ w5.heap.size := Nat.le_refl _; have hbX : Below w5.heap.size w5 w11 := hZ4.trans (hb11.mono (by simp; omega)); clear hb11))))
    all_goals
      go_wp2_with fail
      go_meet
      first
        | exact ⟨rfl, cover (Go.below_setRow hbX hzb _)⟩
        | exact ⟨rfl, cover (Go.below_setRow (hbX.alloc hbX.size _) hbX.size _)⟩
  case rest =>
  obtain ⟨rfl, hbc0⟩ := hcut
  obtain ⟨w6, hw6⟩ : ∃ w6, w6 = wc := ⟨_, rfl⟩
  subst hw6
  have H6 := cover (H5.out.trans (hbc0.out.mono H5.out.size))
  have T6 := cover (T5.out.below hbc0.out hg5)
  clear hbc0 hts5 hg5 hZ1 hZ2 hZ3 hZ4 hK0 hK1 hK2 hK3 hK4 HD1 HD2 HD3

  have hts6 := T6.out.of
  have hg6 := T6.out.lt
  have hZ1 : Below w6.heap.size w6 (w6.alloc (.cells (zrow 64) 5)).drew := ((Below.refl _ _).alloc (Nat.le_refl _) _).drew
  have hZ2 : Below w6.heap.size w6 ((w6.alloc (.cells (zrow 64) 5)).alloc (.cells zf 36)).drew := (((Below.refl _ _).alloc (Nat.le_refl _) _).alloc (by simp) _).drew
  have hZ3 : Below w6.heap.size w6 (w6.alloc (.cells zf 36)).drew := ((Below.refl _ _).alloc (Nat.le_refl _) _).drew
  have hZ4 : Below w6.heap.size w6 ((w6.alloc (.cells zf 36)).alloc (.cells (zrow 64) 5)).drew := (((Below.refl _ _).alloc (Nat.le_refl _) _).alloc (by simp) _).drew
  have hK0 := cover (And.intro hts6 (Below.refl w6.heap.size w6).drew : tabOf w6.drew g = T ∧ Below w6.heap.size w6 w6.drew)
  have hK1 := cover (And.intro ((tabOf_below hZ1 hg6).trans hts6) hZ1)
  have hK2 := cover (And.intro ((tabOf_below hZ2 hg6).trans hts6) hZ2)
  have hK3 := cover (And.intro ((tabOf_below hZ3 hg6).trans hts6) hZ3)
  have hK4 := cover (And.intro ((tabOf_below hZ4 hg6).trans hts6) hZ4)
  have HD1 := cover (dec_err T (some ⟨w6.heap.size, 0, none⟩) 64 64 (w6.heap.size + 1) (List.replicate 64 0) (w6.alloc (.cells (zrow 64) 5)).drew hT ((zrow_row w6 64).drewN 1) (by simp) (zeros_bts _) (Nat.le_refl _) (by decide) (by decide))
  have HD2 := cover (dec_err T (some ⟨w6.heap.size, 0, none⟩) 64 64 (w6.heap.size + 1) (List.replicate 64 0) ((w6.alloc (.cells (zrow 64) 5)).alloc (.cells zf 36)).drew hT (((zrow_row w6 64).alloc (by simp) _).drewN 1) (by simp) (zeros_bts _) (Nat.le_refl _) (by decide) (by decide))
  have HD3 := cover (dec_err T (some ⟨w6.heap.size + 1, 0, none⟩) 64 64 (w6.heap.size + 2) (List.replicate 64 0) ((w6.alloc (.cells zf 36)).alloc (.cells (zrow 64) 5)).drew hT (zrow_next w6 64) (by simp) (zeros_bts _) (Nat.le_refl _) (by decide) (by decide))
  go_upto_region 7 with fail
  go_cut [9] (fun v wx => v = .int .i64 5 ∧ Hid (Below w6.heap.size w6 wx))
  case first =>
    go_region_held3 (fun w' => tabOf w' g = T ∧ Below w6.heap.size w6 w')
      (first
        | with_reducible exact ⟨(tabOf_below hbX hg6).trans hts6, hbX⟩
        | with_reducible exact hK0.out
        | with_reducible exact hK1.out
        | with_reducible exact hK2.out
        | with_reducible exact hK3.out
        | with_reducible exact hK4.out
        | with_reducible exact ⟨(tabOf_below (hbX.alloc hbX.size _) hg6).trans hts6, hbX.alloc hbX.size _⟩
        | with_reducible exact ⟨(tabOf_below (Go.below_setRow hbX hzb _) hg6).trans hts6, Go.below_setRow hbX hzb _⟩
        | with_reducible exact ⟨(tabOf_below (Go.below_setRow (hbX.alloc hbX.size _) hbX.size _) hg6).trans hts6, Go.below_setRow (hbX.alloc hbX.size _) hbX.size _⟩)
      (first
        | (go_at_call 16; (first
            | ((with_reducible refine HD1.out.mono ?_); rintro e w11 ⟨⟨p0, p1, p2, p3, p4, p5, q0, q1, q2, q3, q4, q5, A11, m11, c11, he⟩, hb11⟩; rw [dec_64] at he; subst he; have hbX : Below w6.heap.size w6 w11 := hZ1.trans (hb11.mono (by simp)); clear hb11)
            | ((with_reducible refine HD2.out.mono ?_); rintro e w11 ⟨⟨p0, p1, p2, p3, p4, p5, q0, q1, q2, q3, q4, q5, A11, m11, c11, he⟩, hb11⟩; rw [dec_64] at he; subst he; have hzC : zfAt w11 (w6.heap.size + 1) = true := (by (have h := zfAt_below (zfAt_newD (w6.alloc (.cells (zrow 64) 5))) hb11 (by simp)); simpa using h); have hzb : w6.heap.size ≤ w6.heap.size + 1 := Nat.le_succ _; have hbX : Below w6.heap.size w6 w11 := hZ2.trans (hb11.mono (by simp; omega)); clear hb11)
            | ((with_reducible refine HD3.out.mono ?_); rintro e w11 ⟨⟨p0, p1, p2, p3, p4, p5, q0, q1, q2, q3, q4, q5, A11, m11, c11, he⟩, hb11⟩; rw [dec_64] at he; subst he; have hzC : zfAt w11 w6.heap.size = true := zfAt_below (zfAt_below (zfAt_new w6) (((Below.refl (w6.alloc (.cells zf 36)).heap.size (w6.alloc (.cells zf 36))).alloc (Nat.le_refl _) (.cells (zrow 64) 5)).drew) (by simp)) hb11 (by simp; omega); have hzb : w6.heap.size ≤ w6.heap.size := Nat.le_refl _; have hbX : Below w6.heap.size w6 w11 := hZ4.trans (hb11.mono (by simp; omega)); clear hb11))))
    all_goals
      go_wp2_with fail
      go_meet
      first
        | exact ⟨rfl, cover (Go.below_setRow hbX hzb _)⟩
        | exact ⟨rfl, cover (Go.below_setRow (hbX.alloc hbX.size _) hbX.size _)⟩
  case rest =>
  obtain ⟨rfl, hbc0⟩ := hcut
  obtain ⟨w7, hw7⟩ : ∃ w7, w7 = wc := ⟨_, rfl⟩
  subst hw7
  have H7 := cover (H6.out.trans (hbc0.out.mono H6.out.size))
  have T7 := cover (T6.out.below hbc0.out hg6)
  clear hbc0 hts6 hg6 hZ1 hZ2 hZ3 hZ4 hK0 hK1 hK2 hK3 hK4 HD1 HD2 HD3
  have hs7 := H7.out.size
  go_wp2_with fail
  refine (station_in 3 (by decide) (by decide) w7).mono ?_
  rintro e w8 ⟨rfl, hb8⟩
  have H8 := cover (H7.out.trans (hb8.mono hs7))
  have hs8 := H8.out.size
  clear hb8
  go_wp2_with fail
  refine (group_any 2 0 0 0 0 3 w8).mono ?_
  rintro e w9 ⟨he, hb9⟩
  rw [grp_two] at he
  subst he
  have H9 := cover (H8.out.trans (hb9.mono hs8))
  have hs9 := H9.out.size
  clear hb9
  go_wp2_with fail
  refine (all_any w9).mono ?_
  rintro e w10 ⟨rfl, hb10⟩
  have H10 := cover (H9.out.trans (hb10.mono hs9))
  have hs10 := H10.out.size
  clear hb10
  go_wp2_with fail
  refine (group_any 255 255 255 255 255 255 w10).mono ?_
  rintro e w11 ⟨he, hb11⟩
  rw [grp_all] at he
  subst he
  have H11 := cover (H10.out.trans (hb11.mono hs10))
  have hs11 := H11.out.size
  clear hb11
  go_wp2_with fail
  refine (station_in 3 (by decide) (by decide) w11).mono ?_
  rintro e w12 ⟨rfl, hb12⟩
  have H12 := cover (H11.out.trans (hb12.mono hs11))
  have hs12 := H12.out.size
  clear hb12
  go_wp2_with fail
  refine (number_any 2 0 0 0 0 3 (by decide) (by decide) w12).mono ?_
  rintro e w13 ⟨he, hb13⟩
  rw [show num6 [2, 0, 0, 0, 0, 3] 3 = 3 by decide] at he
  subst he
  have H13 := cover (H12.out.trans (hb13.mono hs12))
  have hs13 := H13.out.size
  clear hb13
  go_wp2_with fail
  refine (all_any w13).mono ?_
  rintro e w14 ⟨rfl, hb14⟩
  have H14 := cover (H13.out.trans (hb14.mono hs13))
  have hs14 := H14.out.size
  clear hb14
  go_wp2_with fail
  refine (number_any 255 255 255 255 255 255 (by decide) (by decide) w14).mono ?_
  rintro e w15 ⟨he, hb15⟩
  rw [show num6 [255, 255, 255, 255, 255, 255] 255 = -1 by decide] at he
  subst he
  go_wp2
  go_ret
  exact ⟨rfl, H14.out.trans (hb15.mono hs14)⟩
end Go.Proofs.Ytbpmhfekjihhhaa
