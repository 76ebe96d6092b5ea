/- The walk of CrcSums. -/
import Derived.Test.YtckjbndkoompmaaCAwake
import Derived.Test.YtckjbndkoompmaaCRef
import Derived.Test.YtckjbndkoompmaaORowsIn
import Derived.Deep.RegionHeld3
namespace Go.Proofs.Ytckjbndkoompmaa
open Go.RowKit
set_option linter.unusedVariables false
attribute [local go_sem ↓] ldTab_fold
attribute [local go_sem] ldTab_at

theorem cut_at (x : Int) (n : Nat) (hn : n ≤ 3000) : ∃ k : Nat, k ≤ n ∧ (wrap64 (wrap64 (x.tmod ((n : Int) + 1) + (n : Int)) + 1)).tmod ((n : Int) + 1) = (k : Int) := by
  have h1 := Int.lt_tmod_of_pos x (show (0 : Int) < (n : Int) + 1 by omega)
  have h2 := Int.tmod_lt_of_pos x (show (0 : Int) < (n : Int) + 1 by omega)
  generalize x.tmod ((n : Int) + 1) = r at h1 h2
  rw [IntWalk.wrap64_in (r + n) ⟨by omega, by omega⟩, IntWalk.wrap64_in (r + n + 1) ⟨by omega, by omega⟩]
  rw [Int.tmod_eq_emod_of_nonneg (by omega)]
  have h3 := Int.emod_nonneg (r + n + 1) (show ((n : Int) + 1) ≠ 0 by omega)
  have h4 := Int.emod_lt_of_pos (r + n + 1) (show (0 : Int) < (n : Int) + 1 by omega)
  exact ⟨((r + n + 1) % ((n : Int) + 1)).toNat, by omega, by omega⟩

theorem openB_le (l : List Int) : (openB l).length ≤ l.length := by
  unfold openB; split
  · rw [List.length_take]; omega
  · simp
theorem same_yes (A A' : Option Addr) (n c c' B B' : Nat) (l : List Int) (w w0 : World) (h1 : Row w B A n l) (h2 : Row w B' A' n l) (hmax : n ≤ 9223372036854775807) (hb : Below w0.heap.size w0 w) :
    Calls Try.prog 16 #[.slice A n c, .slice A' n c'] w fun e w' => e = .returned (.bool true) ∧ Below w0.heap.size w0 w' :=
  (same_any A A' n c c' B B' l l w h1 h2 hmax).mono fun e w' ⟨he, d, hw⟩ => ⟨by rw [he, decide_eq_true rfl], by rw [hw]; exact below_drewN hb d⟩

set_option maxRecDepth 100000 in
set_option maxHeartbeats 1600000 in
theorem sums_far (A : Option Addr) (n ca k : Nat) (l : List Int) (cut : Int) (w : World) (hk : k ≤ n) (ek : (wrap64 (wrap64 (cut.tmod ((n : Int) + 1) + (n : Int)) + 1)).tmod ((n : Int) + 1) = (k : Int)) (hck : ¬ ca = k) (hr : Row w w.heap.size A n l) (hb : Bts l) (hl : n ≤ 3000) (hlc : n ≤ ca) (hcm : ca ≤ 9223372036854775807) (hnil : Hid (A = none → ca = 0)) :
    Calls Try.prog 4 #[.slice A n ca, .int .i64 cut] w fun e w' => e = .returned (.bool true) ∧ Below w.heap.size w w' := by
  have HL := cover hr.len
  have HB := cover hb
  have d0 : decide ((3000 : Int) < (n : Int)) = false := by simp; omega
  clear hb
  go_enter Try.func4, Try.ntmps4
  go_wp2_with fail
  refine (awake_any w).mono ?_
  rintro e w0 ⟨rfl, hb0⟩
  go_wp2_with fail
  refine (make_any _).mono ?_
  rintro e w1 ⟨T, rfl, hT, hb1⟩
  have hs0 := hb0.size
  have hbel1 := hb0.trans (hb1.mono hs0)
  have hs1 := hbel1.size
  clear hb0 hb1 hs0
  go_wp2_with (first
    | (refine new_var rfl _ rfl _ _ (alloc_tab _) ?_)
    | (refine store_tab (w0 := w) rfl _ _ rfl w1.heap.size w.heap.size T tabRow rfl rfl hT (heap_alloc_new _ _) (hbel1.alloc hs1 _) hs1 ?_; intro w2 ht2 hb2; clear hbel1; have hts2 := ht2.of; have hT256 := hT.size))
  obtain ⟨g, hg⟩ : ∃ g, g = w1.heap.size := ⟨_, rfl⟩
  rw [← hg] at ht2 hs1 hts2 ⊢
  clear hg
  have hs2 := hb2.size
  have hr2 := hr.below hb2
  refine (ref_sum_any A n ca w.heap.size l w2 hr2 HB.out (by omega)).mono ?_
  rintro e w3 ⟨rfl, rfl⟩
  go_wp2_with fail
  refine (open_made T A n ca w.heap.size l w2 hT hr2 hs2 HB.out hlc (by omega) hcm).mono ?_
  rintro e w4 ⟨A4, c4, rfl, ho4, hb4⟩
  have ht4 := ht2.below hb4 ht2.lt
  have hbel4 := hb2.trans (hb4.mono hs2)
  have hs4 := hbel4.size
  clear hb4 hr2 ht2 hb2 hts2
  go_wp2_with fail
  refine (ref_open_any A n ca w.heap.size l w4 (hr.below hbel4) hs4 HB.out hlc (by omega) hcm).mono ?_
  rintro e w5 ⟨A5, c5, rfl, ho5, hb5⟩
  have ht5 := ht4.below hb5 ht4.lt
  have hbel5 := hbel4.trans (hb5.mono hs4)
  have hs5 := hbel5.size
  have hts5 := ht5.of
  have hgl := ht5.lt
  have hr5 := hr.below hbel5
  have hrx : Row w5 w5.heap.size A4 (openB l).length (openB l) := (own_below ho4 hb5 |> fun h => RowK.of_own h rfl)
  have hry : Row w5 w5.heap.size A5 (openB l).length (openB l) := ho5.row
  have H5 := cover (And.intro ht5 (And.intro hbel5 (And.intro hr5 (And.intro hrx hry))))
  clear ho4 ho5 hb5 ht4 hbel4 ht5 hbel5 hr5 hrx hry hs4
  have HS := cover (sum_from T A n ca w.heap.size l w5 hT H5.out.2.2.1 hs5 HB.out (by omega))
  have HK := cover (sum_from T A k ca w.heap.size (l.take k) w5 hT (H5.out.2.2.1.take hk) hs5 (HB.out.take k) (by omega))
  have HW : Hid (∀ W', Below w5.heap.size w5 W' → Calls Try.prog 14 #[.slice A n ca] W' fun e w' => e = .returned (.int .u32 (rg (summ l))) ∧ Below w5.heap.size w5 w') := cover (fun W' h =>
    (slow_any A n ca w.heap.size l W' (H5.out.2.2.1.below (h.mono hs5)) HB.out (by omega)).mono fun e w' ⟨he, hw⟩ => ⟨he, by rw [← hw]; exact h⟩)
  have HE : Hid (∀ W', Below w5.heap.size w5 W' → Calls Try.prog 13 #[.agg T, .slice A n ca] W' fun e w' => ∃ A' c', e = .returned (.slice A' (sealB l).length c') ∧ Row w' w'.heap.size A' (sealB l).length (sealB l) ∧ Below W'.heap.size W' w' ∧ Below w5.heap.size w5 w') := cover (fun W' h =>
    (seal_made T A n ca w.heap.size l W' hT (H5.out.2.2.1.below (h.mono hs5)) (by have := h.size; omega) HB.out hlc hnil.out (by omega)).mono fun e w' ⟨A', c', he, ho, hb⟩ => ⟨A', c', he, ho.row, hb, h.trans (hb.mono h.size)⟩)
  have HF : Hid (∀ W', Below w5.heap.size w5 W' → Calls Try.prog 20 #[.slice A n ca] W' fun e w' => ∃ A' c', e = .returned (.slice A' (sealB l).length c') ∧ Row w' w'.heap.size A' (sealB l).length (sealB l) ∧ Below W'.heap.size W' w' ∧ Below w5.heap.size w5 w') := cover (fun W' h =>
    (ref_seal_any A n ca w.heap.size l W' (H5.out.2.2.1.below (h.mono hs5)) (by have := h.size; omega) HB.out (by omega)).mono fun e w' ⟨A', c', he, ho, hb⟩ => ⟨A', c', he, ho.row, hb, h.trans (hb.mono h.size)⟩)
  have HX : Hid (∀ W', Below w5.heap.size w5 W' → Calls Try.prog 16 #[.slice A4 (openB l).length c4, .slice A5 (openB l).length c5] W' fun e w' => e = .returned (.bool true) ∧ Below w5.heap.size w5 w') := cover (fun W' h =>
    (same_any A4 A5 _ c4 c5 _ _ (openB l) (openB l) W' (H5.out.2.2.2.1.below h) (H5.out.2.2.2.2.below h) (by have := openB_le l; have := HL.out; omega)).mono fun e w' ⟨he, d, hw⟩ => ⟨by rw [he, decide_eq_true rfl], by rw [hw]; exact below_drewN h d⟩)
  have HM : Hid (∀ W', Below w5.heap.size w5 W' → Calls Try.prog 19 #[.agg T, .int .u32 (rg (summ (l.take k))), .slice (if ca = k then A else A.map (·.add k)) (n - k) (ca - k)] W' fun e w' => e = .returned (.int .u32 (rg (summ l))) ∧ Below w5.heap.size w5 w') := cover (fun W' h => by
    have h1 := more_made T _ (n - k) (ca - k) w.heap.size (l.drop k) W' (summ (l.take k)) hT ((H5.out.2.2.1.cut hk hlc).below (h.mono hs5)) (by have := h.size; omega) (HB.out.drop k) (by omega)
    rw [← summ_append, List.take_append_drop] at h1
    exact h1.mono fun e w' ⟨he, hb⟩ => ⟨he, h.trans (hb.mono h.size)⟩)
  have ik0 : (0 : Int) ≤ (k : Int) := by omega
  have ik1 : (k : Int) ≤ (n : Int) := by omega
  have ik2 : (n : Int) ≤ (ca : Int) := by omega
  have hkca : k ≤ ca := by omega
  clear ek
  go_wp2_with fail
  have HM' := HM.out
  rw [if_neg hck] at HM'
  have HM2 := cover HM'
  clear HM'
  go_region_held3 (fun w' => tabOf w' g = T ∧ Below w5.heap.size w5 w') (first | exact ⟨hts5, (Below.refl _ _).drew⟩ | exact ⟨(tabOf_below hbX hgl).trans hts5, hbX⟩)
    (first
      | (go_at_call 15; (first | (with_reducible refine (HS.out _ ?_).mono ?_) | (with_reducible refine (HK.out _ ?_).mono ?_)); (go_split_ands; assumption); rintro e w6 ⟨rfl, hbX⟩)
      | (go_at_call 14; refine (HW.out _ ?_).mono ?_; (go_split_ands; assumption); rintro e w6 ⟨rfl, hbX⟩)
      | (go_at_call 19; refine (HM2.out _ ?_).mono ?_; (go_split_ands; assumption); rintro e w6 ⟨rfl, hbX⟩)
      | (go_at_call 13; refine (HE.out _ ?_).mono ?_; (go_split_ands; assumption); rintro e w7 ⟨A7, c7, rfl, hr7, hb7, hbX⟩)
      | (go_at_call 20; refine (HF.out _ ?_).mono ?_; (go_split_ands; assumption); rintro e w8 ⟨A8, c8, rfl, hr8, hb8, hbX⟩)
      | (go_at_call 16; (first | (with_reducible refine (HX.out _ ?_).mono ?_; (go_split_ands; assumption)) | (refine (same_yes A7 A8 _ c7 c8 _ _ (sealB l) w8 w5 (hr7.below hb8) hr8 (by rw [sealB_length, HL.out]; omega) hbX).mono ?_)); rintro e w9 ⟨rfl, hbX⟩))
  go_wp2
  go_ret
  exact ⟨rfl, H5.out.2.1.trans (hbX.mono hs5)⟩


set_option maxRecDepth 100000 in
set_option maxHeartbeats 1600000 in
theorem sums_end (A : Option Addr) (k : Nat) (l : List Int) (cut : Int) (w : World) (ek : (wrap64 (wrap64 (cut.tmod ((k : Int) + 1) + (k : Int)) + 1)).tmod ((k : Int) + 1) = (k : Int)) (hr : Row w w.heap.size A k l) (hb : Bts l) (hl : k ≤ 3000) (hcm : k ≤ 9223372036854775807) (hnil : Hid (A = none → k = 0)) :
    Calls Try.prog 4 #[.slice A k k, .int .i64 cut] w fun e w' => e = .returned (.bool true) ∧ Below w.heap.size w w' := by
  have HL := cover hr.len
  have hlc : k ≤ k := Nat.le_refl _
  have hk : k ≤ k := Nat.le_refl _
  have HB := cover hb
  have d0 : decide ((3000 : Int) < (k : Int)) = false := by simp; omega
  clear hb
  go_enter Try.func4, Try.ntmps4
  go_wp2_with fail
  refine (awake_any w).mono ?_
  rintro e w0 ⟨rfl, hb0⟩
  go_wp2_with fail
  refine (make_any _).mono ?_
  rintro e w1 ⟨T, rfl, hT, hb1⟩
  have hs0 := hb0.size
  have hbel1 := hb0.trans (hb1.mono hs0)
  have hs1 := hbel1.size
  clear hb0 hb1 hs0
  go_wp2_with (first
    | (refine new_var rfl _ rfl _ _ (alloc_tab _) ?_)
    | (refine store_tab (w0 := w) rfl _ _ rfl w1.heap.size w.heap.size T tabRow rfl rfl hT (heap_alloc_new _ _) (hbel1.alloc hs1 _) hs1 ?_; intro w2 ht2 hb2; clear hbel1; have hts2 := ht2.of; have hT256 := hT.size))
  obtain ⟨g, hg⟩ : ∃ g, g = w1.heap.size := ⟨_, rfl⟩
  rw [← hg] at ht2 hs1 hts2 ⊢
  clear hg
  have hs2 := hb2.size
  have hr2 := hr.below hb2
  refine (ref_sum_any A k k w.heap.size l w2 hr2 HB.out (by omega)).mono ?_
  rintro e w3 ⟨rfl, rfl⟩
  go_wp2_with fail
  refine (open_made T A k k w.heap.size l w2 hT hr2 hs2 HB.out hlc (by omega) hcm).mono ?_
  rintro e w4 ⟨A4, c4, rfl, ho4, hb4⟩
  have ht4 := ht2.below hb4 ht2.lt
  have hbel4 := hb2.trans (hb4.mono hs2)
  have hs4 := hbel4.size
  clear hb4 hr2 ht2 hb2 hts2
  go_wp2_with fail
  refine (ref_open_any A k k w.heap.size l w4 (hr.below hbel4) hs4 HB.out hlc (by omega) hcm).mono ?_
  rintro e w5 ⟨A5, c5, rfl, ho5, hb5⟩
  have ht5 := ht4.below hb5 ht4.lt
  have hbel5 := hbel4.trans (hb5.mono hs4)
  have hs5 := hbel5.size
  have hts5 := ht5.of
  have hgl := ht5.lt
  have hr5 := hr.below hbel5
  have hrx : Row w5 w5.heap.size A4 (openB l).length (openB l) := (own_below ho4 hb5 |> fun h => RowK.of_own h rfl)
  have hry : Row w5 w5.heap.size A5 (openB l).length (openB l) := ho5.row
  have H5 := cover (And.intro ht5 (And.intro hbel5 (And.intro hr5 (And.intro hrx hry))))
  clear ho4 ho5 hb5 ht4 hbel4 ht5 hbel5 hr5 hrx hry hs4
  have HS := cover (sum_from T A k k w.heap.size l w5 hT H5.out.2.2.1 hs5 HB.out (by omega))
  have HK := cover (sum_from T A k k w.heap.size (l.take k) w5 hT (H5.out.2.2.1.take hk) hs5 (HB.out.take k) (by omega))
  have HW : Hid (∀ W', Below w5.heap.size w5 W' → Calls Try.prog 14 #[.slice A k k] W' fun e w' => e = .returned (.int .u32 (rg (summ l))) ∧ Below w5.heap.size w5 w') := cover (fun W' h =>
    (slow_any A k k w.heap.size l W' (H5.out.2.2.1.below (h.mono hs5)) HB.out (by omega)).mono fun e w' ⟨he, hw⟩ => ⟨he, by rw [← hw]; exact h⟩)
  have HE : Hid (∀ W', Below w5.heap.size w5 W' → Calls Try.prog 13 #[.agg T, .slice A k k] W' fun e w' => ∃ A' c', e = .returned (.slice A' (sealB l).length c') ∧ Row w' w'.heap.size A' (sealB l).length (sealB l) ∧ Below W'.heap.size W' w' ∧ Below w5.heap.size w5 w') := cover (fun W' h =>
    (seal_made T A k k w.heap.size l W' hT (H5.out.2.2.1.below (h.mono hs5)) (by have := h.size; omega) HB.out hlc hnil.out (by omega)).mono fun e w' ⟨A', c', he, ho, hb⟩ => ⟨A', c', he, ho.row, hb, h.trans (hb.mono h.size)⟩)
  have HF : Hid (∀ W', Below w5.heap.size w5 W' → Calls Try.prog 20 #[.slice A k k] W' fun e w' => ∃ A' c', e = .returned (.slice A' (sealB l).length c') ∧ Row w' w'.heap.size A' (sealB l).length (sealB l) ∧ Below W'.heap.size W' w' ∧ Below w5.heap.size w5 w') := cover (fun W' h =>
    (ref_seal_any A k k w.heap.size l W' (H5.out.2.2.1.below (h.mono hs5)) (by have := h.size; omega) HB.out (by omega)).mono fun e w' ⟨A', c', he, ho, hb⟩ => ⟨A', c', he, ho.row, hb, h.trans (hb.mono h.size)⟩)
  have HX : Hid (∀ W', Below w5.heap.size w5 W' → Calls Try.prog 16 #[.slice A4 (openB l).length c4, .slice A5 (openB l).length c5] W' fun e w' => e = .returned (.bool true) ∧ Below w5.heap.size w5 w') := cover (fun W' h =>
    (same_any A4 A5 _ c4 c5 _ _ (openB l) (openB l) W' (H5.out.2.2.2.1.below h) (H5.out.2.2.2.2.below h) (by have := openB_le l; have := HL.out; omega)).mono fun e w' ⟨he, d, hw⟩ => ⟨by rw [he, decide_eq_true rfl], by rw [hw]; exact below_drewN h d⟩)
  have HM : Hid (∀ W', Below w5.heap.size w5 W' → Calls Try.prog 19 #[.agg T, .int .u32 (rg (summ (l.take k))), .slice (if k = k then A else A.map (·.add k)) (k - k) (k - k)] W' fun e w' => e = .returned (.int .u32 (rg (summ l))) ∧ Below w5.heap.size w5 w') := cover (fun W' h => by
    have h1 := more_made T _ (k - k) (k - k) w.heap.size (l.drop k) W' (summ (l.take k)) hT ((H5.out.2.2.1.cut hk hlc).below (h.mono hs5)) (by have := h.size; omega) (HB.out.drop k) (by omega)
    rw [← summ_append, List.take_append_drop] at h1
    exact h1.mono fun e w' ⟨he, hb⟩ => ⟨he, h.trans (hb.mono h.size)⟩)
  have ik0 : (0 : Int) ≤ (k : Int) := by omega
  have ik1 : (k : Int) ≤ (k : Int) := by omega
  have ik2 : (k : Int) ≤ (k : Int) := by omega
  have hkca : k ≤ k := by omega
  clear ek
  go_wp2_with fail
  have HM' := HM.out
  simp only [if_true, Nat.sub_self] at HM'
  rw [show l.take k = l from List.take_of_length_le (by rw [HL.out]; omega)] at HM'
  have HM2 := cover HM'
  clear HM'
  go_region_held3 (fun w' => tabOf w' g = T ∧ Below w5.heap.size w5 w') (first | exact ⟨hts5, (Below.refl _ _).drew⟩ | exact ⟨(tabOf_below hbX hgl).trans hts5, hbX⟩)
    (first
      | (go_at_call 15; (first | (with_reducible refine (HS.out _ ?_).mono ?_) | (with_reducible refine (HK.out _ ?_).mono ?_)); (go_split_ands; assumption); rintro e w6 ⟨rfl, hbX⟩)
      | (go_at_call 14; refine (HW.out _ ?_).mono ?_; (go_split_ands; assumption); rintro e w6 ⟨rfl, hbX⟩)
      | (go_at_call 19; refine (HM2.out _ ?_).mono ?_; (go_split_ands; assumption); rintro e w6 ⟨rfl, hbX⟩)
      | (go_at_call 13; refine (HE.out _ ?_).mono ?_; (go_split_ands; assumption); rintro e w7 ⟨A7, c7, rfl, hr7, hb7, hbX⟩)
      | (go_at_call 20; refine (HF.out _ ?_).mono ?_; (go_split_ands; assumption); rintro e w8 ⟨A8, c8, rfl, hr8, hb8, hbX⟩)
      | (go_at_call 16; (first | (with_reducible refine (HX.out _ ?_).mono ?_; (go_split_ands; assumption)) | (refine (same_yes A7 A8 _ c7 c8 _ _ (sealB l) w8 w5 (hr7.below hb8) hr8 (by rw [sealB_length, HL.out]; omega) hbX).mono ?_)); rintro e w9 ⟨rfl, hbX⟩))
  go_wp2
  go_ret
  exact ⟨rfl, H5.out.2.1.trans (hbX.mono hs5)⟩


theorem walk_CrcSums (A : Option Addr) (n ca : Nat) (l : List Int) (cut : Int) (w : World) (hlc : n ≤ ca) (hcm : ca ≤ maxLen) (hr : Row w w.heap.size A n l ∧ Bts l ∧ (A = none → ca = 0)) (wc : (Lit.int .i64 cut).wf = true) :
    Calls Try.prog 4 #[.slice A n ca, .int .i64 cut] w fun e w' => e = .returned (.bool true) ∧ Below w.heap.size w w' := by
  unfold maxLen at hcm
  by_cases h0 : 3000 < n
  · have d1 : decide ((3000 : Int) < (n : Int)) = true := by simp; omega
    clear hr
    go_enter Try.func4, Try.ntmps4
    go_wp2_with fail
    refine (awake_any w).mono ?_
    rintro e w0 ⟨rfl, hb0⟩
    go_wp2
    go_ret
    exact ⟨rfl, hb0⟩
  · obtain ⟨k, hk, ek⟩ := cut_at cut n (by omega)
    by_cases hck : ca = k
    · obtain rfl : n = k := by omega
      subst hck
      exact sums_end A _ l cut w ek hr.1 hr.2.1 (by omega) hcm (cover hr.2.2)
    · exact sums_far A n ca k l cut w hk ek hck hr.1 hr.2.1 (by omega) hlc hcm (cover hr.2.2)
end Go.Proofs.Ytckjbndkoompmaa
