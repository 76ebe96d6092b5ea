/- The walk of SapsClasses. -/
import Derived.Test.YtnegbiofnjdfaaaSHas
namespace Go.Proofs.Ytnegbiofnjdfaaa
open Go.RowKit
set_option linter.unusedVariables false

/-- one SAP, of a class; of class 0: it is not active -/
def oneL (a c : Int) : List SV := if c = 0 then [] else [⟨a, c, []⟩]
theorem oneL_has (a c : Int) : hasS (oneL a c) a = decide (c ≠ 0) := by
  unfold oneL
  split
  · rename_i h; rw [h]; rfl
  · rename_i h
    rw [hasS_cons]
    simp [h]
theorem oneL_cls (a c : Int) : clsS (oneL a c) a = c := by
  unfold oneL
  split
  · rename_i h; rw [h]; rfl
  · rw [clsS, if_pos rfl]
theorem oneL_close (a c : Int) : closeS (oneL a c) a = oneL a 0 := by
  unfold oneL
  rw [if_pos rfl]
  split
  · rfl
  · rw [close_cons, if_pos rfl]; rfl
theorem oneL_len (a c : Int) : (listS (oneL a c)).length = if c = 0 then 0 else 1 := by
  unfold oneL
  split <;> rfl
theorem oneL_open0 {a x : Int} (ha : OkSap a) (hx : OkCls x) : openE (oneL a 0) a x = 0 ∧ openS (oneL a 0) a x = oneL a x := by
  have e : openE (oneL a 0) a x = 0 := by unfold openE oneL; rw [if_pos ⟨ha, hx⟩]; rfl
  refine ⟨e, ?_⟩
  unfold openS
  rw [if_pos e]
  unfold oneL
  rw [if_pos rfl, if_neg (by unfold OkCls at hx; omega)]
  rfl
theorem oneL_open {a c x : Int} (ha : OkSap a) (hx : OkCls x) (hc : c ≠ 0) : openE (oneL a c) a x = 8 ∧ openS (oneL a c) a x = oneL a c := by
  have e : openE (oneL a c) a x = 8 := by unfold openE; rw [if_pos ⟨ha, hx⟩, oneL_has, if_pos (by simpa using hc)]
  exact ⟨e, by unfold openS; rw [if_neg (by rw [e]; decide)]⟩
def ClsAt (B : Nat) (w : World) (s : Nat) (a c : Int) (wr : World) : Prop := SHas B wr s (oneL a c) ∧ Below B w wr
set_option maxRecDepth 100000 in
set_option maxHeartbeats 1600000 in
theorem walk_SapsClasses (a0 : Int) (A : Option Addr) (len cap : Nat) (l : List Int) (w : World) (h0' : (Lit.int .u8 a0).wf = true) (hlc : len ≤ cap) (hcm : cap ≤ maxLen) (hr : Row w w.heap.size A len l) (hbt : ∀ x ∈ l, (Lit.int .u8 x).wf = true) :
    Calls Try.prog 8 #[.int .u8 a0, .slice A len cap] w fun e w' => e = .returned (.bool true) ∧ Below w.heap.size w w' := by
  have h0 := u8_wf h0'
  have HR := cover hr
  have HT := cover hbt
  obtain ⟨B, hB⟩ : ∃ B, w.heap.size = B := ⟨_, rfl⟩
  rw [hB]
  have hBw : B ≤ w.heap.size := by omega
  have HBE := cover hB
  have HCM := cover hcm
  clear hB hr h0' hcm hbt
  by_cases hbig : 60 < len
  · go_enter Try.func8, Try.ntmps8
    go_wp2_with fail
    refine (awake_any w).mono ?_
    rintro e w0 ⟨rfl, hb0⟩
    have HB0 : Hid (Below B w w0) := cover (hb0.mono hBw)
    clear hb0
    go_wp2
    go_ret
    exact ⟨rfl, HB0.out⟩
  obtain ⟨a, ha⟩ : ∃ a : Int, (2 : Int) + 2 * (a0 % 127) = a := ⟨_, rfl⟩
  have HA : Hid (OkSap a) := cover (by unfold OkSap; omega)
  have ha64 : I64 a := sap_64 HA.out
  go_enter Try.func8, Try.ntmps8
  go_wp2_with fail
  refine (awake_any w).mono ?_
  rintro e w0 ⟨rfl, hb0⟩
  have HB0 : Hid (Below B w w0) := cover (hb0.mono hBw)
  have hs0 : B ≤ w0.heap.size := Nat.le_trans hBw hb0.size
  clear hb0
  go_wp2_with fail
  refine (new_has hs0).mono ?_
  rintro e w1 ⟨s, rfl, H1'⟩
  have H1 : Hid (ClsAt B w s a 0 w1) := cover ⟨H1'.out.1, HB0.out.trans H1'.out.2⟩
  clear H1' HB0
  have hm1 : IntKind.i64.wrap (2 * (a0 % 127)) = 2 * (a0 % 127) := by rw [IntKind.wrap_i64]; omega
  have hm2 : IntKind.i64.wrap (2 + 2 * (a0 % 127)) = a := by rw [IntKind.wrap_i64]; omega
  have HAE := cover ha
  clear ha
  go_wp2_with fail
  clear hm1 hm2
  go_loopw [7, 8] (fun cv iv wr => ∃ (c : Int) (j : Nat), j ≤ len ∧ 0 ≤ c ∧ c ≤ 4 ∧ cv = .int .i64 c ∧ iv = .int .i64 j ∧ Hid (ClsAt B w s a c wr)) (fun _ i _ => len - (intOf i).toNat)
  case atStart => exact ⟨0, 0, by omega, by omega, by omega, rfl, rfl, H1⟩
  case round =>
    obtain ⟨c, j, hj, hc0, hc4, rfl, rfl, hrel⟩ := hrel
    by_cases hlt : j < len
    · obtain ⟨ad, x, rfl, had, hcx, hx⟩ := HR.out.at_ hlt
      have hxb : 0 ≤ x ∧ x ≤ 255 := u8_wf (HT.out x (List.mem_of_getElem? hx.out))
      have hcx' := (hrel.out.2.cell (by rw [addr_add_block, ← HBE.out]; exact had)).trans hcx
      clear hcx hx
      obtain ⟨y, hy⟩ : ∃ y : Int, (1 : Int) + x / 2 % 4 = y := ⟨_, rfl⟩
      have hy1 : 1 ≤ y ∧ y ≤ 4 := by omega
      have HY : Hid (OkCls y) := cover hy1
      have hand := and_one8 hxb.1 hxb.2
      go_upto_region 12 with fail
      clear hy
      by_cases hodd : x % 2 = 1
      · rw [decide_eq_true hodd] at hand
        have s1 := close_has hrel.out.1 ha64
        rw [oneL_close] at s1
        by_cases hcz : c = 0
        · subst hcz
          have e1 : closeE (oneL a 0) a = 7 := by unfold closeE; rw [oneL_has]; rfl
          rw [e1] at s1
          go_wp2_with fail
          refine s1.mono ?_
          rintro e w2 ⟨rfl, H2'⟩
          have H2 : Hid (ClsAt B w s a 0 w2) := cover ⟨H2'.out.1, hrel.out.2.trans H2'.out.2⟩
          clear s1 e1 H2' hrel hcx' hand hodd
          have s3 := class_has H2.out.1 ha64
          rw [oneL_cls] at s3
          have s4 := list_has H2.out.1
          have e4 : (listS (oneL a 0)).length = 0 := by rw [oneL_len, if_pos (by omega)]
          go_wp2_with fail
          refine s3.mono ?_
          rintro e w3 ⟨rfl, rfl⟩
          clear s3
          go_wp2_with fail
          refine s4.mono ?_
          rintro e w4 ⟨A4, c4, rfl, h4⟩
          have H4 : Hid (ClsAt B w s a 0 w4) := cover ⟨H2.out.1.below h4.out.2, H2.out.2.trans (h4.out.2.mono H2.out.1.size)⟩
          clear s4 h4 H2
          rw [e4]
          clear e4
          go_wp2
          go_roundw
          case rel => exact ⟨0, j + 1, by omega, by omega, by omega, rfl, by go_num, H4⟩
          case measure => simp [intOf]; omega
        · have e1 : closeE (oneL a c) a = 0 := by unfold closeE; rw [oneL_has, if_pos (by simpa using hcz)]
          rw [e1] at s1
          have hcp : (0 : Int) < c := by omega
          go_wp2_with fail
          refine s1.mono ?_
          rintro e w2 ⟨rfl, H2'⟩
          have H2 : Hid (ClsAt B w s a 0 w2) := cover ⟨H2'.out.1, hrel.out.2.trans H2'.out.2⟩
          clear s1 e1 H2' hrel hcx' hand hodd
          have s3 := class_has H2.out.1 ha64
          rw [oneL_cls] at s3
          have s4 := list_has H2.out.1
          have e4 : (listS (oneL a 0)).length = 0 := by rw [oneL_len, if_pos (by omega)]
          go_wp2_with fail
          refine s3.mono ?_
          rintro e w3 ⟨rfl, rfl⟩
          clear s3
          go_wp2_with fail
          refine s4.mono ?_
          rintro e w4 ⟨A4, c4, rfl, h4⟩
          have H4 : Hid (ClsAt B w s a 0 w4) := cover ⟨H2.out.1.below h4.out.2, H2.out.2.trans (h4.out.2.mono H2.out.1.size)⟩
          clear s4 h4 H2
          rw [e4]
          clear e4
          go_wp2
          go_roundw
          case rel => exact ⟨0, j + 1, by omega, by omega, by omega, rfl, by go_num, H4⟩
          case measure => simp [intOf]; omega
      · rw [decide_eq_false hodd] at hand
        by_cases hcz : c = 0
        · subst hcz
          have s1 := open_has hrel.out.1 ha64 y
          obtain ⟨e1, e2⟩ := oneL_open0 HA.out HY.out
          rw [e1, e2] at s1
          go_wp2_with fail
          refine s1.mono ?_
          rintro e w2 ⟨rfl, H2'⟩
          have H2 : Hid (ClsAt B w s a y w2) := cover ⟨H2'.out.1, hrel.out.2.trans H2'.out.2⟩
          clear s1 e1 e2 H2' hrel hcx' hand hodd
          have hlt1 : ¬ y < 1 := by omega
          have s3 := class_has H2.out.1 ha64
          rw [oneL_cls] at s3
          have s4 := list_has H2.out.1
          have e4 : (listS (oneL a y)).length = 1 := by rw [oneL_len, if_neg (by omega)]
          go_wp2_with fail
          refine s3.mono ?_
          rintro e w3 ⟨rfl, rfl⟩
          clear s3
          go_wp2_with fail
          refine s4.mono ?_
          rintro e w4 ⟨A4, c4, rfl, h4⟩
          have H4 : Hid (ClsAt B w s a y w4) := cover ⟨H2.out.1.below h4.out.2, H2.out.2.trans (h4.out.2.mono H2.out.1.size)⟩
          clear s4 h4 H2
          rw [e4]
          clear e4
          go_wp2
          go_roundw
          case rel => exact ⟨y, j + 1, by omega, by omega, by omega, rfl, by go_num, H4⟩
          case measure => simp [intOf]; omega
        · have s1 := open_has hrel.out.1 ha64 y
          obtain ⟨e1, e2⟩ := oneL_open HA.out HY.out hcz
          rw [e1, e2] at s1
          have hce : (c == 0) = false := by simpa using hcz
          go_wp2_with fail
          refine s1.mono ?_
          rintro e w2 ⟨rfl, H2'⟩
          have H2 : Hid (ClsAt B w s a c w2) := cover ⟨H2'.out.1, hrel.out.2.trans H2'.out.2⟩
          clear s1 e1 e2 H2' hrel hcx' hand hodd
          have hlt1 : ¬ c < 1 := by omega
          have s3 := class_has H2.out.1 ha64
          rw [oneL_cls] at s3
          have s4 := list_has H2.out.1
          have e4 : (listS (oneL a c)).length = 1 := by rw [oneL_len, if_neg (by omega)]
          go_wp2_with fail
          refine s3.mono ?_
          rintro e w3 ⟨rfl, rfl⟩
          clear s3
          go_wp2_with fail
          refine s4.mono ?_
          rintro e w4 ⟨A4, c4, rfl, h4⟩
          have H4 : Hid (ClsAt B w s a c w4) := cover ⟨H2.out.1.below h4.out.2, H2.out.2.trans (h4.out.2.mono H2.out.1.size)⟩
          clear s4 h4 H2
          rw [e4]
          clear e4
          go_wp2
          go_roundw
          case rel => exact ⟨c, j + 1, by omega, by omega, by omega, rfl, by go_num, H4⟩
          case measure => simp [intOf]; omega
    · obtain rfl : j = len := by omega
      have HB := cover hrel.out.2
      clear hrel
      go_wp2
      go_ret
      exact ⟨rfl, HB.out⟩
end Go.Proofs.Ytnegbiofnjdfaaa
