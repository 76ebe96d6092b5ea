/- The walk of ClockLeft. -/
import Derived.Test.YtodiocioldakjaaKAwake
import Derived.Test.YtodiocioldakjaaKRuns
namespace Go.Proofs.Ytodiocioldakjaa
open Go.RowKit
set_option linter.unusedVariables false

theorem runs_has {B : Nat} {w : World} {c m now : Nat} {l : List (Int × Int)} (h : CIHas B w c m now l) (n : Int) (k : Nat) (hk : k = if 0 ≤ n ∧ n < l.length then n.toNat else l.length) :
    Calls Try.prog 27 #[ptr c, .int .i64 n] w (RunsOut (l.take k) w) := by
  obtain ⟨V, h1, _⟩ := h; exact runs_any h1 n k hk
theorem told_one {lf : Int} (h : lf ≠ 1) : toldK [((3 : Int), lf)] = [] ∧ tickK [((3 : Int), lf)] = [(3, lf - 1)] := by
  constructor
  · unfold toldK; rw [List.filter_cons, if_neg (by simp [h])]; rfl
  · unfold tickK; rw [List.filter_cons, if_pos (by simp [h])]; rfl
/-- one timer, of which so much is left -/
def LeftAt (B : Nat) (w : World) (c now : Nat) (lf : Int) (wr : World) : Prop := CIHas B wr c 1 now [(3, lf)] ∧ Below B w wr
set_option maxRecDepth 100000 in
set_option maxHeartbeats 1600000 in
theorem walk_ClockLeft (a0 : Int) (A : Option Addr) (len cap : Nat) (l : List Int) (w : World) (h0' : (Lit.int .u16 a0).wf = true) (hlc : len ≤ cap) (hcm : cap ≤ maxLen) (hr : Row w w.heap.size A len l) (hbt : ∀ x ∈ l, (Lit.int .u8 x).wf = true) :
    Calls Try.prog 8 #[.int .u16 a0, .slice A len cap] w fun e w' => e = .returned (.bool true) ∧ Below w.heap.size w w' := by
  have h0 := u16_wf h0'
  have HR := cover hr
  have HT := cover hbt
  obtain ⟨B, hB⟩ : ∃ B, w.heap.size = B := ⟨_, rfl⟩
  rw [hB]
  have hBw : B ≤ w.heap.size := by omega
  have HBE := cover hB
  have HCM := cover hcm
  clear hB hr h0' hcm hbt
  by_cases hbig : 60 < len
  · go_enter Try.func8, Try.ntmps8
    go_wp2_with fail
    refine (awake_any w).mono ?_
    rintro e w0 ⟨rfl, hb0⟩
    have HB0 : Hid (Below B w w0) := cover (hb0.mono hBw)
    clear hb0
    go_wp2
    go_ret
    exact ⟨rfl, HB0.out⟩
  obtain ⟨n, hn⟩ : ∃ n : Int, (1 : Int) + a0 % 10000 = n := ⟨_, rfl⟩
  have hn1 : (1 : Int) ≤ n ∧ n ≤ 10000 := by omega
  go_enter Try.func8, Try.ntmps8
  go_wp2_with fail
  refine (awake_any w).mono ?_
  rintro e w0 ⟨rfl, hb0⟩
  have HB0 : Hid (Below B w w0) := cover (hb0.mono hBw)
  have hs0 : B ≤ w0.heap.size := Nat.le_trans hBw hb0.size
  clear hb0
  go_wp2_with fail
  refine (newI_has 1 (by decide) hs0).mono ?_
  rintro e w1 ⟨c, rfl, H1'⟩
  have H1 : Hid (CIHas B w1 c 1 0 [] ∧ Below B w w1) := cover ⟨H1'.out.1, HB0.out.trans H1'.out.2⟩
  clear H1' HB0
  have s1 := startI_has H1.out.1 3 n
  have b1 : startB 1 ([] : List (Int × Int)) 3 n 10000 = true := by rw [startB_is (by omega) (by omega)]; rfl
  rw [b1, if_pos rfl] at s1
  go_wp2_with fail
  refine s1.mono ?_
  rintro e w2 ⟨rfl, H2'⟩
  have H2 : Hid (LeftAt B w c 0 n w2) := cover ⟨H2'.out.1, H1.out.2.trans H2'.out.2⟩
  clear s1 H2' H1 b1
  have HNE := cover hn
  clear hn
  go_wp2_with fail
  go_loopw [7, 8] (fun a i wr => ∃ (lf : Int) (j now : Nat), j ≤ len ∧ 1 ≤ lf ∧ lf ≤ n ∧ now ≤ 20 * j ∧ a = .int .i64 lf ∧ i = .int .i64 j ∧ Hid (LeftAt B w c now lf wr)) (fun _ i _ => len - (intOf i).toNat)
  case atStart => exact ⟨n, 0, 0, by omega, by omega, by omega, by omega, rfl, rfl, H2⟩
  case round =>
    obtain ⟨lf, j, now, hj, hlf1, hlfn, hnow, rfl, rfl, hrel⟩ := hrel
    by_cases hlt : j < len
    · obtain ⟨ad, x, rfl, had, hc, hx⟩ := HR.out.at_ hlt
      have hxb : 0 ≤ x ∧ x ≤ 255 := u8_wf (HT.out x (List.mem_of_getElem? hx.out))
      obtain ⟨W, hW⟩ : ∃ W : Nat, x % 20 = (W : Int) := ⟨(x % 20).toNat, by omega⟩
      have hW20 : W < 20 := by omega
      have HC : Hid (∀ wx, Below B w wx → wx.cell? (ad.add j) = some (.int .u8 x)) := cover fun wx hb => (hb.cell (by rw [addr_add_block, ← HBE.out]; exact had)).trans hc
      clear hc hx
      go_wp2_with fail
      go_loopw [7, 9] (fun a k wx => ∃ (lk : Int) (kk : Nat), kk ≤ W ∧ 1 ≤ lk ∧ lk ≤ n ∧ a = .int .i64 lk ∧ k = .int .i64 kk ∧ Hid (LeftAt B w c (now + kk) lk wx)) (fun _ k _ => W - (intOf k).toNat)
      case atStart => exact ⟨lf, 0, Nat.zero_le _, hlf1, hlfn, rfl, rfl, hrel⟩
      case round =>
        obtain ⟨lk, kk, hkW, hlk1, hlkn, rfl, rfl, hrel2⟩ := hrel
        have hcx := HC.out _ hrel2.out.2
        by_cases hkl : kk < W
        · have hst := tickI_has hrel2.out.1 (by omega)
          go_wp2_with fail
          refine hst.mono ?_
          rintro e w5 ⟨A5, c5, rfl, H5⟩
          have hsub : IntKind.i64.wrap (lk - 1) = lk - 1 := by rw [IntKind.wrap_i64]; omega
          by_cases hl1 : lk = 1
          · subst hl1
            have H6 : Hid (CIHas B w5 c 1 (now + kk + 1) [] ∧ Below B w w5) := cover ⟨H5.out.2.1, hrel2.out.2.trans H5.out.2.2⟩
            have e1 : (toldK [((3 : Int), (1 : Int))]).length = 1 := by decide
            rw [e1]
            clear hst H5 hrel2 hcx
            have F1 := leftI_has H6.out.1 3
            rw [show leftK ([] : List (Int × Int)) 3 = 0 from rfl] at F1
            go_wp2_with fail
            refine F1.mono ?_
            rintro e w6 ⟨rfl, hb6⟩
            have H7 : Hid (CIHas B w6 c 1 (now + kk + 1) [] ∧ Below B w w6) := cover ⟨H6.out.1.below hb6, H6.out.2.trans (hb6.mono H6.out.1.size)⟩
            clear F1 hb6 H6
            have F2 := lenI_has H7.out.1
            go_wp2_with fail
            refine F2.mono ?_
            rintro e w' ⟨rfl, rfl⟩
            clear F2
            have F3 := runs_has H7.out.1 (-1) 0 (by simp)
            go_wp2_with fail
            refine F3.mono ?_
            rintro e w8 ⟨A8, c8, rfl, H8⟩
            have HB := cover (H7.out.2.trans (H8.out.2.mono H7.out.1.size))
            clear F3 H8 H7
            go_wp2
            go_ret
            exact ⟨rfl, HB.out⟩
          · obtain ⟨e1, e2⟩ := told_one hl1
            rw [e1, e2] at H5
            rw [e1]
            have H6 : Hid (LeftAt B w c (now + (kk + 1)) (lk - 1) w5) := cover ⟨H5.out.2.1, hrel2.out.2.trans H5.out.2.2⟩
            have hne : (lk - 1 == 0) = false := by rw [beq_eq_false_iff_ne]; omega
            clear hst H5 hrel2 hcx e1 e2
            go_wp2
            go_roundw
            case rel => exact ⟨lk - 1, kk + 1, by omega, by omega, by omega, rfl, by go_num, H6⟩
            case measure => simp [intOf]; omega
        · obtain rfl : kk = W := by omega
          have F1 := runs_has hrel2.out.1 (-1) 1 (by simp)
          rw [show [((3 : Int), lk)].take 1 = [(3, lk)] from rfl] at F1
          have H6 := cover hrel2.out
          clear hrel2
          go_wp2_with fail
          refine F1.mono ?_
          rintro e w6 ⟨A6, c6, rfl, H7⟩
          obtain ⟨g, c7, hv, _, hgl, k0, k1, _⟩ := H7.out.1.cell (k := 0) (x := (3, lk)) rfl
          have hA : A6 = some ⟨g, 0, none⟩ := by injection hv
          subst hA
          have H8 : Hid (LeftAt B w c (now + kk) lk w6) := cover ⟨H6.out.1.below H7.out.2, H6.out.2.trans (H7.out.2.mono H6.out.1.size)⟩
          have F2 := leftI_has H8.out.1 3
          rw [show leftK [((3 : Int), lk)] 3 = lk from by rw [leftK, if_pos rfl]] at F2
          rw [show [((3 : Int), lk)].length = 1 from rfl]
          clear F1 hv H7 H6
          go_wp2_with fail
          refine F2.mono ?_
          rintro e w9 ⟨rfl, hb9⟩
          have k0' : w9.cell? ⟨g, 0, none⟩ = some (.int .i64 3) := (hb9.cell (p := ⟨g, 0, none⟩) hgl).trans k0
          have k1' : w9.cell? ⟨g, 1, none⟩ = some (.int .i64 lk) := (hb9.cell (p := ⟨g, 1, none⟩) hgl).trans k1
          have H9 : Hid (LeftAt B w c (now + kk) lk w9) := cover ⟨H8.out.1.below hb9, H8.out.2.trans (hb9.mono H8.out.1.size)⟩
          have hc9 := HC.out _ H9.out.2
          clear F2 hb9 k0 k1 H8 hgl hcx
          obtain ⟨bq, hbq⟩ : ∃ bq, bits BinOp.and IntKind.u8 x 32 = bq := ⟨_, rfl⟩
          by_cases hq : bq = 32
          · have hqb : (bq == 32) = true := by rw [beq_iff_eq]; exact hq
            have s1 := startI_has H9.out.1 3 n
            have b1 : startB 1 [((3 : Int), lk)] 3 n 10000 = true := by rw [startB_is (by omega) (by omega)]; rfl
            have b2 : startK [((3 : Int), lk)] 3 n = [(3, n)] := by
              unfold startK stopK; rw [List.filter_cons, if_neg (by simp)]; rfl
            rw [b1, if_pos rfl, b2] at s1
            clear hq b1 b2
            go_wp2_with fail
            refine s1.mono ?_
            rintro e w10 ⟨rfl, H10⟩
            have HN : Hid (LeftAt B w c (now + kk) n w10) := cover ⟨H10.out.1, H9.out.2.trans H10.out.2⟩
            clear s1 H10 H9 hc9 k0' k1' hbq
            go_wp2
            go_roundw
            case rel => exact ⟨n, j + 1, now + kk, by omega, by omega, by omega, by omega, rfl, by go_num, HN⟩
            case measure => simp [intOf]; omega
          · have hqb : (bq == 32) = false := by rw [beq_eq_false_iff_ne]; exact hq
            clear hq
            go_wp2
            go_roundw
            case rel => exact ⟨lk, j + 1, now + kk, by omega, by omega, by omega, by omega, rfl, by go_num, H9⟩
            case measure => simp [intOf]; omega
    · have HB := cover hrel.out.2
      clear hrel
      go_wp2
      go_ret
      exact ⟨rfl, HB.out⟩
end Go.Proofs.Ytodiocioldakjaa
