/- The walk of CrcLinear. -/
import Derived.Test.YtckjbndkoompmaaCAwake
import Derived.Test.YtckjbndkoompmaaOFrame
import Derived.Test.YtckjbndkoompmaaOCopy
import Derived.RegionTactic
import Derived.ChangeAlike
import Derived.Deep.RegionHeld3
namespace Go.Proofs.Ytckjbndkoompmaa
open Go.RowKit
set_option linter.unusedVariables false
attribute [local go_sem ↓] ldTab_fold
attribute [local go_sem] ldTab_at

theorem xor8 {x y : Int} (hx : 0 ≤ x ∧ x ≤ 255) (hy : 0 ≤ y ∧ y ≤ 255) : bits BinOp.xor IntKind.u8 x y = xorI x y := by
  rw [u8_xor x y hx.1 (by omega) hy.1 (by omega)]; rfl
/-- so many bytes of three rows are mixed -/
def mixTo (a b c : List Int) (j : Nat) : List Int := (xorL (xorL a b) c).take j ++ a.drop j
theorem mixTo_zero (a b c : List Int) : mixTo a b c 0 = a := by simp [mixTo]
theorem mix_len {a b c : List Int} (h1 : a.length = b.length) (h2 : a.length = c.length) : (xorL (xorL a b) c).length = a.length := by
  rw [xorL_length (by rw [xorL_length h1]; exact h2), xorL_length h1]
theorem mixTo_length {a b c : List Int} (h1 : a.length = b.length) (h2 : a.length = c.length) {j : Nat} (hj : j ≤ a.length) : (mixTo a b c j).length = a.length := by
  unfold mixTo; rw [List.length_append, List.length_take, List.length_drop, mix_len h1 h2]; omega
theorem mixTo_all {a b c : List Int} (h1 : a.length = b.length) (h2 : a.length = c.length) : mixTo a b c a.length = xorL (xorL a b) c := by
  unfold mixTo; rw [List.take_of_length_le (by rw [mix_len h1 h2]; omega), List.drop_length, List.append_nil]
theorem mixTo_step {a b c : List Int} (h1 : a.length = b.length) (h2 : a.length = c.length) {j : Nat} {x y z : Int} (hx : a[j]? = some x) (hy : b[j]? = some y) (hz : c[j]? = some z) :
    (mixTo a b c j)[j]? = some x ∧ (mixTo a b c j).set j (xorI (xorI x y) z) = mixTo a b c (j + 1) := by
  obtain ⟨hj, rfl⟩ := List.getElem?_eq_some_iff.1 hx
  obtain ⟨hj1, rfl⟩ := List.getElem?_eq_some_iff.1 hy
  obtain ⟨hj2, rfl⟩ := List.getElem?_eq_some_iff.1 hz
  have hm : (xorL (xorL a b) c).length = a.length := mix_len h1 h2
  have hl : ((xorL (xorL a b) c).take j).length = j := by rw [List.length_take, hm]; omega
  have hd : a.drop j = a[j] :: a.drop (j + 1) := List.drop_eq_getElem_cons hj
  have he : (xorL (xorL a b) c)[j]'(by omega) = xorI (xorI a[j] b[j]) c[j] := by
    unfold xorL; rw [List.getElem_zipWith, List.getElem_zipWith]
  unfold mixTo
  constructor
  · rw [List.getElem?_append_right (by omega), hl, Nat.sub_self, hd]; rfl
  · rw [List.set_append_right _ _ (by omega), hl, Nat.sub_self, hd, List.set_cons_zero, List.take_succ_eq_append_getElem (by omega), he, List.append_assoc]; rfl

/-- at the head of a round of the law's loop -/
structure MixAt (w : World) (g B : Nat) (T : Array Value) (a b c : List Int) (v : Value) (n j : Nat) (wr : World) : Prop where
  own : wr.ownsRow B 5 1 v n ((mixTo a b c j).map (Value.int .u8))
  tab : TabIn wr g T tabRow
  bel : Below w.heap.size w wr

set_option maxRecDepth 100000 in
set_option maxHeartbeats 1600000 in
theorem linear_law (A : Option Addr) (n ca : Nat) (a : List Int) (A1 : Option Addr) (n1 c1 : Nat) (b : List Int) (A2 : Option Addr) (n2 c2 : Nat) (c : List Int) (w : World)
    (hr : Row w w.heap.size A n a) (hr1 : Row w w.heap.size A1 n1 b) (hr2 : Row w w.heap.size A2 n2 c) (ba : Bts a) (bb : Bts b) (bc : Bts c) (hl : n ≤ 500) (hl1 : n ≤ n1) (hl2 : n ≤ n2) (hc1 : n1 ≤ c1) (hc2 : n2 ≤ c2) (hm1 : c1 ≤ 9223372036854775807) (hm2 : c2 ≤ 9223372036854775807) :
    Calls Try.prog 7 #[.slice A n ca, .slice A1 n1 c1, .slice A2 n2 c2] w fun e w' => e = .returned (.bool true) ∧ Below w.heap.size w w' := by
  obtain rfl : a.length = n := hr.len
  obtain ⟨b', hb'⟩ : ∃ b', Hid (b' = b.take a.length) := ⟨_, cover rfl⟩
  obtain ⟨c', hc'⟩ : ∃ c', Hid (c' = c.take a.length) := ⟨_, cover rfl⟩
  have HL : Hid (a.length = b'.length ∧ a.length = c'.length) := cover ⟨by rw [hb'.out, List.length_take, hr1.len]; omega, by rw [hc'.out, List.length_take, hr2.len]; omega⟩
  have hr1' : Row w w.heap.size A1 a.length b' := by rw [hb'.out]; exact hr1.take hl1
  have hr2' : Row w w.heap.size A2 a.length c' := by rw [hc'.out]; exact hr2.take hl2
  have HB : Hid (Bts a ∧ Bts b' ∧ Bts c') := cover ⟨ba, by rw [hb'.out]; exact bb.take _, by rw [hc'.out]; exact bc.take _⟩
  have d1 : decide ((500 : Int) < (a.length : Int)) = false := by simp; omega
  have d2 : decide ((n1 : Int) < (a.length : Int)) = false := by simp; omega
  have d3 : decide ((n2 : Int) < (a.length : Int)) = false := by simp; omega
  have hlc1 : a.length ≤ c1 := by omega
  have hlc2 : a.length ≤ c2 := by omega
  clear hr1 hr2 ba bb bc hb' hc'
  go_enter Try.func7, Try.ntmps7
  go_wp2_with fail
  refine (awake_any w).mono ?_
  rintro e w0 ⟨rfl, hb0⟩
  go_wp2_with fail
  refine (make_any _).mono ?_
  rintro e w1 ⟨T, rfl, hT, hb1⟩
  have hs0 := hb0.size
  have hbel1 := hb0.trans (hb1.mono hs0)
  have hs1 := hbel1.size
  clear hb0 hb1 hs0
  go_wp2_with (first
    | (refine new_var rfl _ rfl _ _ (alloc_tab _) ?_)
    | (refine store_tab (w0 := w) rfl _ _ rfl w1.heap.size w.heap.size T tabRow rfl rfl hT (heap_alloc_new _ _) (hbel1.alloc hs1 _) hs1 ?_; intro w2 ht2 hb2))
  have hs2 := hb2.size
  refine (copy_any A a.length ca w.heap.size a w2 (hr.below hb2) hs2 (by omega)).mono ?_
  rintro e w3 ⟨A3, c3, rfl, ho3, hb3⟩
  have hst : Hid (MixAt w w1.heap.size w2.heap.size T a b' c' (.slice A3 a.length c3) a.length 0 w3) := cover ⟨by rw [mixTo_zero]; exact ho3, ht2.below hb3 ht2.lt, hb2.trans (hb3.mono hs2)⟩
  obtain ⟨g, hg⟩ : ∃ g, g = w1.heap.size := ⟨_, rfl⟩
  have hlt2 := ht2.lt
  rw [← hg] at hst hs1 hlt2 ⊢
  clear ho3 hb3 ht2 hbel1 hg hb2
  obtain ⟨B, hB⟩ : ∃ B, B = w2.heap.size := ⟨_, rfl⟩
  rw [← hB] at hst hs2 hlt2
  clear hB
  go_wp2_with fail
  go_loopw [9] (fun i wr => ∃ k : Nat, k ≤ a.length ∧ i = .int .i64 k ∧ Hid (MixAt w g B T a b' c' (.slice A3 a.length c3) a.length k wr)) (fun i _ => a.length - (intOf i).toNat)
  case atStart => exact ⟨0, Nat.zero_le _, rfl, hst⟩
  case round =>
    clear hst
    obtain ⟨k, hk, rfl, hat⟩ := hrel
    obtain ⟨hown, htab, hbel⟩ := hat.out
    by_cases hlt : k < a.length
    · obtain ⟨A3', c3', hv3, hA3⟩ := own_shape hown
      injection hv3 with e1 _ e2
      subst e1 e2
      obtain ⟨g3, rfl, hB3, hlt3⟩ : ∃ g3, A3 = some ⟨g3, 0, none⟩ ∧ B ≤ g3 ∧ g3 < wr.heap.size := by
        rcases hA3 with rfl | h
        · rcases hown.2 with ⟨_, h0⟩ | ⟨g', cap, cur, hv, _⟩
          · omega
          · injection hv with hv; cases hv
        · exact h
      clear hA3
      obtain ⟨ad, x, rfl, had, hc, hx⟩ := (hr.below hbel).at_ hlt
      obtain ⟨ad1, y, rfl, had1, hcy, hy⟩ := (hr1'.below hbel).at_ hlt
      obtain ⟨ad2, z, rfl, had2, hcz, hz⟩ := (hr2'.below hbel).at_ hlt
      have bx := HB.out.1.get hx.out
      have by' := HB.out.2.1.get hy.out
      have bz := HB.out.2.2.get hz.out
      have hxx : Hid (bits BinOp.xor IntKind.u8 (bits BinOp.xor IntKind.u8 x y) z = xorI (xorI x y) z) := cover (by
        rw [xor8 bx by', xor8 (xorI_bts bx by') bz])
      obtain ⟨m1, m2⟩ := mixTo_step HL.out.1 HL.out.2 hx.out hy.out hz.out
      have hcx : wr.cell? ⟨g3, k, none⟩ = some (.int .u8 x) := by
        rw [hown.cellAt k (by omega), List.getElem?_map, m1]; rfl
      have hfx : wr.frozen? ⟨g3, k, none⟩ = false := hown.frozenAt _
      have hst := (hown.stored k (.int .u8 (bits BinOp.xor IntKind.u8 (bits BinOp.xor IntKind.u8 x y) z))).1
      rw [← List.map_set, hxx.out, m2] at hst
      have HN : Hid (∀ d, MixAt w g B T a b' c' (.slice (some ⟨g3, 0, none⟩) a.length c3) a.length (k + 1) ((wr.setCell ⟨g3, k, none⟩ (.int .u8 (bits BinOp.xor IntKind.u8 (bits BinOp.xor IntKind.u8 x y) z))).drewN d)) := cover (fun d => by
        rw [hxx.out]
        exact ⟨hst, ⟨(heap_setCell_other wr _ g _ (by show g ≠ g3; omega)).trans htab.blk, htab.tab⟩, below_drewN (hbel.setCell (by show w.heap.size ≤ g3; omega) _) d⟩)
      clear hst m1 m2 hown htab hat bx by' bz
      go_wp2
      go_region
      all_goals
        go_wp2
        go_roundw
        case rel => exact ⟨k + 1, by omega, by go_num, HN.out _⟩
        case measure => simp [intOf]; omega
    · obtain rfl : k = a.length := by omega
      rw [mixTo_all HL.out.1 HL.out.2] at hown
      have hts := htab.of
      have hT256 := hT.size
      have hglt := htab.lt
      obtain ⟨sa, hsa⟩ : ∃ s, Hid (s = summ a) := ⟨_, cover rfl⟩
      obtain ⟨sb, hsb⟩ : ∃ s, Hid (s = summ b') := ⟨_, cover rfl⟩
      obtain ⟨sc, hsc⟩ : ∃ s, Hid (s = summ c') := ⟨_, cover rfl⟩
      have H0 := cover (sum_from T A3 a.length c3 wr.heap.size (xorL (xorL a b') c') wr hT (RowK.of_own hown (by rw [mix_len HL.out.1 HL.out.2])) (Nat.le_refl _) (xorL_bts (xorL_bts HB.out.1 HB.out.2.1) HB.out.2.2) (by omega))
      have H1 := cover (sum_from T A a.length ca w.heap.size a wr hT (hr.below hbel) hbel.size HB.out.1 (by omega))
      have H2 := cover (sum_from T A1 a.length c1 w.heap.size b' wr hT (hr1'.below hbel) hbel.size HB.out.2.1 (by omega))
      have H3 := cover (sum_from T A2 a.length c2 w.heap.size c' wr hT (hr2'.below hbel) hbel.size HB.out.2.2 (by omega))
      rw [summ_three HL.out.1 HL.out.2, ← hsa.out, ← hsb.out, ← hsc.out] at H0
      rw [← hsa.out] at H1
      rw [← hsb.out] at H2
      rw [← hsc.out] at H3
      have x1 := rg_xor sa sb
      have x2 := rg_xor (sa ^^^ sb) sc
      have hbw := cover hbel
      clear hown htab hbel hat
      go_wp2_with fail
      go_region_held3 (fun w' => tabOf w' g = T ∧ Below wr.heap.size wr w') (first | exact ⟨hts, (Below.refl _ _).drew⟩ | exact ⟨(tabOf_below hbX hglt).trans hts, hbX⟩)
        ((go_at_call 15; (first | (with_reducible refine (H0.out _ ?_).mono ?_) | (with_reducible refine (H1.out _ ?_).mono ?_) | (with_reducible refine (H2.out _ ?_).mono ?_) | (with_reducible refine (H3.out _ ?_).mono ?_)); (go_split_ands; assumption); rintro e w6 ⟨rfl, hbX⟩))
      go_wp2
      go_ret
      have hsw := hbw.out.size
      exact ⟨rfl, hbw.out.trans (hbX.mono hsw)⟩

theorem walk_CrcLinear (A : Option Addr) (n ca : Nat) (a : List Int) (A1 : Option Addr) (n1 c1 : Nat) (b : List Int) (A2 : Option Addr) (n2 c2 : Nat) (c : List Int) (w : World)
    (hlc0 : n ≤ ca) (hcm0 : ca ≤ maxLen) (hr0 : Row w w.heap.size A n a) (hb0 : ∀ x ∈ a, (Lit.int .u8 x).wf = true)
    (hlc1 : n1 ≤ c1) (hcm1 : c1 ≤ maxLen) (hr1 : Row w w.heap.size A1 n1 b) (hb1 : ∀ x ∈ b, (Lit.int .u8 x).wf = true)
    (hlc2 : n2 ≤ c2) (hcm2 : c2 ≤ maxLen) (hr2 : Row w w.heap.size A2 n2 c) (hb2 : ∀ x ∈ c, (Lit.int .u8 x).wf = true) :
    Calls Try.prog 7 #[.slice A n ca, .slice A1 n1 c1, .slice A2 n2 c2] w fun e w' => e = .returned (.bool true) ∧ Below w.heap.size w w' := by
  unfold maxLen at hcm0 hcm1 hcm2
  have e0 := bts_of_wf hb0
  have e1 := bts_of_wf hb1
  have e2 := bts_of_wf hb2
  clear hb0 hb1 hb2
  by_cases h0 : 500 < n
  · have d1 : decide ((500 : Int) < (n : Int)) = true := by simp; omega
    clear hr0 hr1 hr2 e0 e1 e2
    go_enter Try.func7, Try.ntmps7
    go_wp2_with fail
    refine (awake_any w).mono ?_
    rintro e w0 ⟨rfl, hb0⟩
    go_wp2
    go_ret
    exact ⟨rfl, hb0⟩
  · by_cases h1 : n1 < n
    · have d1 : decide ((500 : Int) < (n : Int)) = false := by simp; omega
      have d2 : decide ((n1 : Int) < (n : Int)) = true := by simp; omega
      clear hr0 hr1 hr2 e0 e1 e2
      go_enter Try.func7, Try.ntmps7
      go_wp2_with fail
      refine (awake_any w).mono ?_
      rintro e w0 ⟨rfl, hb0⟩
      go_wp2
      go_ret
      exact ⟨rfl, hb0⟩
    · by_cases h2 : n2 < n
      · have d1 : decide ((500 : Int) < (n : Int)) = false := by simp; omega
        have d2 : decide ((n1 : Int) < (n : Int)) = false := by simp; omega
        have d3 : decide ((n2 : Int) < (n : Int)) = true := by simp; omega
        clear hr0 hr1 hr2 e0 e1 e2
        go_enter Try.func7, Try.ntmps7
        go_wp2_with fail
        refine (awake_any w).mono ?_
        rintro e w0 ⟨rfl, hb0⟩
        go_wp2
        go_ret
        exact ⟨rfl, hb0⟩
      · exact linear_law A n ca a A1 n1 c1 b A2 n2 c2 c w hr0 hr1 hr2 e0 e1 e2 (by omega) (by omega) (by omega) hlc1 hlc2 hcm1 hcm2
end Go.Proofs.Ytckjbndkoompmaa
