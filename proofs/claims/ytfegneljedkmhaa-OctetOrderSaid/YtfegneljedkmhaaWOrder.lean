/- The walk of OctetOrder. -/
import Derived.Test.YtfegneljedkmhaaOAwake
import Derived.Test.YtfegneljedkmhaaOFrame
import Derived.Deep.CutBlock
import Derived.Deep.DeepCutAuto
namespace Go.Proofs.Ytfegneljedkmhaa
open Go.RowKit

set_option maxHeartbeats 400000 in
theorem order_no (a b aw : Int) (w : World) (ha : a ≤ 9223372036854775807) (hb : b ≤ 9223372036854775807) (h0 : 0 ≤ aw) (h1 : aw ≤ 255) (k : Nat) (hk : 1 + aw % 7 = k) (h : fitsB a k = false ∨ fitsB b k = false) :
    Calls Try.prog 7 #[.int .i64 a, .int .i64 b, .int .u8 aw] w fun e w' => e = .returned (.bool true) ∧ Below w.heap.size w w' := by
  have hk1 : 1 ≤ k := by omega
  have hk7 : k ≤ 7 := by omega
  have HK := cover hk
  have HH := cover h
  clear hk h
  go_enter Try.func7, Try.ntmps7
  go_wp2_with fail
  refine (awake_any w).mono ?_
  rintro e w0 ⟨rfl, hb0⟩
  go_wp2_with fail
  rw [HK.out]
  by_cases hfa : fitsB a k = true
  · have hfb : fitsB b k = false := by
      rcases HH.out with h | h
      · rw [hfa] at h; cases h
      · exact h
    have HA := cover hfa
    have HB := cover hfb
    clear hfa hfb
    refine (put_fit a k w0 HA.out).mono ?_
    rintro e w1 ⟨A1, c1, rfl, hc1, hr1, hb1⟩
    go_wp2_with fail
    refine (put_no b k w1 HB.out hb).mono ?_
    rintro e w2 ⟨rfl, rfl⟩
    have hne : ((0 : Int) != (k : Int)) = true := by rw [bne_iff_ne]; omega
    go_wp2
    go_ret
    exact ⟨rfl, hb0.trans (hb1.mono hb0.size)⟩
  · have HA := cover (show fitsB a k = false by simpa using hfa)
    clear hfa
    refine (put_no a k w0 HA.out ha).mono ?_
    rintro e w1 ⟨rfl, rfl⟩
    go_wp2_with fail
    refine (put_any b k w0 hb).mono ?_
    rintro e w2 ⟨A2, c2, rfl, hr2, hb2⟩
    have hne : ((0 : Int) != (k : Int)) = true := by rw [bne_iff_ne]; omega
    go_wp2
    go_ret
    exact ⟨rfl, hb0.trans (hb2.mono hb0.size)⟩

/-- how two rows that are equal so far go on -/
def LessSo (l l' : List Int) (i : Nat) (b : Bool) : Prop := ∀ x y, l[i]? = some x → l'[i]? = some y → ¬ x = y → l.take i = l'.take i → b = decide (x < y)
theorem less_of (a b : Int) (k : Nat) (ha : 0 ≤ a ∧ a < 256 ^ k) (hb : 0 ≤ b ∧ b < 256 ^ k) {i : Nat} {x y : Int} (hx : (low a k)[i]? = some x) (hy : (low b k)[i]? = some y) (hne : ¬ x = y) (ht : (low a k).take i = (low b k).take i) :
    decide (a < b) = decide (x < y) := by
  obtain ⟨hi, rfl⟩ := List.getElem?_eq_some_iff.1 hx
  obtain ⟨hj, rfl⟩ := List.getElem?_eq_some_iff.1 hy
  have e1 : low a k = (low a k).take i ++ (low a k)[i] :: (low a k).drop (i + 1) := by rw [← List.drop_eq_getElem_cons, List.take_append_drop]
  have e2 : low b k = (low b k).take i ++ (low b k)[i] :: (low b k).drop (i + 1) := by rw [← List.drop_eq_getElem_cons, List.take_append_drop]
  have g1 := getv_low_in ha.1 ha.2
  have g2 := getv_low_in hb.1 hb.2
  rw [e1] at g1
  rw [e2, ← ht] at g2
  have hl : ((low a k).drop (i + 1)).length = ((low b k).drop (i + 1)).length := by simp [low_length]
  rcases Int.lt_trichotomy ((low a k)[i]) ((low b k)[i]) with h | h | h
  · have := getv_lt (p := (low a k).take i) ((low_bts a k).drop (i + 1)) ((low_bts b k).drop (i + 1)) hl h
    rw [g1, g2] at this
    simp [this, h]
  · exact absurd h hne
  · have := getv_lt (p := (low a k).take i) ((low_bts b k).drop (i + 1)) ((low_bts a k).drop (i + 1)) hl.symm h
    rw [g1, g2] at this
    simp [Int.not_lt.2 (Int.le_of_lt this), Int.not_lt.2 (Int.le_of_lt h)]

set_option maxHeartbeats 800000 in
theorem order_yes (a b aw : Int) (w : World) (h0 : 0 ≤ aw) (h1 : aw ≤ 255) (k : Nat) (hk : 1 + aw % 7 = k) (hfa : fitsB a k = true) (hfb : fitsB b k = true) :
    Calls Try.prog 7 #[.int .i64 a, .int .i64 b, .int .u8 aw] w fun e w' => e = .returned (.bool true) ∧ Below w.heap.size w w' := by
  have hk1 : 1 ≤ k := by omega
  have hk7 : k ≤ 7 := by omega
  have HK := cover hk
  have HA := cover hfa
  have HB := cover hfb
  clear hk hfa hfb
  go_enter Try.func7, Try.ntmps7
  go_wp2_with fail
  refine (awake_any w).mono ?_
  rintro e w0 ⟨rfl, hb0⟩
  go_wp2_with fail
  rw [HK.out]
  refine (put_fit a k w0 HA.out).mono ?_
  rintro e w1 ⟨A1, c1, rfl, hc1, hr1, hb1⟩
  go_wp2_with fail
  refine (put_fit b k w1 HB.out).mono ?_
  rintro e w2 ⟨A2, c2, rfl, hc2, hr2, hb2⟩
  have hne : ((k : Int) != (k : Int)) = false := by simp
  have hlt : Hid (∀ i x y, (low a k)[i]? = some x → (low b k)[i]? = some y → ¬ x = y → (low a k).take i = (low b k).take i → decide (x < y) = decide (a < b)) := by
    have fa := (fitsB_iff a k).1 HA.out
    have fb := (fitsB_iff b k).1 HB.out
    exact fun i x y hx hy hn ht => (less_of a b k ⟨fa.2.2.1, by simpa using fa.2.2.2⟩ ⟨fb.2.2.1, by simpa using fb.2.2.2⟩ hx hy hn ht).symm
  have hr1' : Row w2 w1.heap.size A1 k (low a k) := hr1.below hb2
  go_upto_block 0 with fail
  go_cut [10] (fun v wx => v = .bool (decide (a < b)) ∧ ∃ d, wx = w2.drewN d)
  case first =>
    go_wp2_with fail
    go_loopw [10, 11] (fun v i wr => ∃ j : Nat, j ≤ k ∧ i = .int .i64 j ∧ v = .bool false ∧ Hid ((low a k).take j = (low b k).take j) ∧ ∃ d, wr = w2.drewN d) (fun _ i _ => k - (intOf i).toNat)
    case atStart => exact ⟨0, Nat.zero_le _, rfl, rfl, cover rfl, 0, rfl⟩
    case round =>
      obtain ⟨j, hj, rfl, rfl, heq, d, rfl⟩ := hrel
      by_cases hltj : j < k
      · obtain ⟨ad, x, rfl, had, hc, hx⟩ := hr1'.at_ hltj
        obtain ⟨ad', y, rfl, had', hc', hy⟩ := hr2.at_ hltj
        by_cases hxy : x = y
        · have HN := cover (take_snoc_eq hx.out hy.out heq.out hxy)
          subst hxy
          go_wp2_with fail
          go_quiet (fail)
          go_wp2
          go_roundw
          case rel => exact ⟨j + 1, by omega, by go_num, rfl, HN, _, rfl⟩
          case measure => simp [intOf]; omega
        · have HN := cover (hlt.out j x y hx.out hy.out hxy heq.out)
          go_wp2_with fail
          go_quiet (fail)
          go_wp2_with fail
          go_quiet (fail)
          go_wp2_with fail
          go_meet
          exact ⟨congrArg Value.bool HN.out, by rw [World.drewN_drewN, World.drewN_drewN]; exact ⟨_, rfl⟩⟩
      · obtain rfl : j = k := by omega
        have HN : Hid (decide (a < b) = false) := cover (by
          have h := heq.out
          have fa := (fitsB_iff a j).1 HA.out
          have fb := (fitsB_iff b j).1 HB.out
          rw [List.take_of_length_le (by rw [low_length]; omega), List.take_of_length_le (by rw [low_length]; omega)] at h
          have e1 := getv_low_in fa.2.2.1 fa.2.2.2
          have e2 := getv_low_in fb.2.2.1 fb.2.2.2
          simp only [Int.toNat_natCast] at e1 e2
          rw [h] at e1
          have : a = b := by omega
          simp [this])
        go_wp2_with fail
        go_meet
        exact ⟨congrArg Value.bool HN.out.symm, _, rfl⟩
  case rest =>
    obtain ⟨rfl, d, rfl⟩ := hcut
    have bel : Below w.heap.size w (w2.drewN d) := below_drewN ((hb0.trans (hb1.mono hb0.size)).trans (hb2.mono (by have := hb0.size; have := hb1.size; omega))) _
    have heqb : (decide (a < b) == decide (a < b)) = true := by simp
    by_cases h7 : k < 7
    · go_wp2_with fail
      have HC := cover (show fitsB a ((k + 1 : Nat) : Int) = true by
        have fa := (fitsB_iff a k).1 HA.out
        rw [fitsB_iff]
        have h4 : a < 256 ^ k := by simpa using fa.2.2.2
        have := pow256_mono (show k ≤ k + 1 by omega)
        refine ⟨by omega, by omega, fa.2.2.1, ?_⟩
        simp only [Int.toNat_natCast]; omega)
      refine (put_fit_at a _ (k + 1) _ (by omega) HC.out).mono ?_
      rintro e w3 ⟨A3, c3, rfl, hc3, hr3, hb3⟩
      have h4 : a < 256 ^ k := by have fa := (fitsB_iff a k).1 HA.out; simpa using fa.2.2.2
      have h3 : 0 ≤ a := ((fitsB_iff a k).1 HA.out).2.2.1
      have HL := cover (low_ahead h3 h4)
      clear h4
      obtain ⟨ad3, x3, rfl, had3, hcz, hx3⟩ := hr3.at_ (k := 0) (by omega)
      have hx0 : x3 = 0 := by have := hx3.out; rw [HL.out] at this; simpa using this.symm
      subst hx0
      have ha0 : ad3.add 0 = ad3 := rfl
      rw [ha0] at hcz
      clear ha0
      have hcut := hr3.cut (k := 1) (by omega) hc3
      have hc31 : ¬ c3 = 1 := by omega
      rw [if_neg hc31, HL.out] at hcut
      have hrow3 : Row w3 w3.heap.size (some (ad3.add 1)) k (low a k) := by simpa using hcut
      clear hcut
      have hrow1 : Row w3 w1.heap.size A1 k (low a k) := (hr1'.drewN d).below (hb3.mono hb2.size)
      go_wp2_with fail
      refine (same_any _ A1 k _ c1 _ _ (low a k) (low a k) w3 hrow3 hrow1 (by omega)).mono ?_
      rintro e w4 ⟨rfl, d4, rfl⟩
      go_wp2
      go_ret
      exact ⟨rfl, below_drewN (bel.trans (hb3.mono bel.size)) _⟩
    · go_wp2
      go_ret
      exact ⟨rfl, bel⟩

theorem walk_OctetOrder (a b aw : Int) (w : World) (wa : (Lit.int .i64 a).wf = true) (wb : (Lit.int .i64 b).wf = true) (ww : (Lit.int .u8 aw).wf = true) :
    Calls Try.prog 7 #[.int .i64 a, .int .i64 b, .int .u8 aw] w fun e w' => e = .returned (.bool true) ∧ Below w.heap.size w w' := by
  have h1 := i64_of_wf wa
  have h2 := i64_of_wf wb
  have h3 := bts_of_wf (l := [aw]) (fun x hx => by simp at hx; subst hx; exact ww) aw (by simp)
  obtain ⟨k, hk⟩ : ∃ k : Nat, 1 + aw % 7 = (k : Int) := ⟨(1 + aw % 7).toNat, by omega⟩
  by_cases ha : fitsB a k = true
  · by_cases hb : fitsB b k = true
    · exact order_yes a b aw w h3.1 h3.2 k hk ha hb
    · exact order_no a b aw w h1.2 h2.2 h3.1 h3.2 k hk (.inr (by simpa using hb))
  · exact order_no a b aw w h1.2 h2.2 h3.1 h3.2 k hk (.inl (by simpa using ha))
end Go.Proofs.Ytfegneljedkmhaa
