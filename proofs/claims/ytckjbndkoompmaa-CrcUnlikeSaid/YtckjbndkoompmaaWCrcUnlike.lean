/- The walk of CrcUnlike. -/
import Derived.Test.YtckjbndkoompmaaCAwake
import Derived.Test.YtckjbndkoompmaaCRef
import Derived.Test.YtckjbndkoompmaaCTurn
import Derived.Deep.CutBlock
import Derived.Deep.DeepCutAuto
import Derived.Test.YtckjbndkoompmaaORowsIn
import Derived.Deep.RegionHeld3
namespace Go.Proofs.Ytckjbndkoompmaa
open Go.RowKit
set_option linter.unusedVariables false
attribute [local go_sem ↓] ldTab_fold
attribute [local go_sem] ldTab_at

set_option maxRecDepth 100000 in
set_option maxHeartbeats 3200000 in
theorem unlike_law (A : Option Addr) (ca m k : Nat) (l : List Int) (at_ row : Int) (w : World) (hr : Row w w.heap.size A l.length l) (hb : Bts l) (hm : Hid (m = 8 * l.length)) (hk : k < m) (ek : (wrap64 (at_.tmod (m : Int) + (m : Int))).tmod (m : Int) = (k : Int))
    (h1 : 0 < l.length) (hl : l.length ≤ 1000) (hr0 : 0 < row) (hr1 : row < 4294967296) (hlc : l.length ≤ ca) (hcm : ca ≤ 9223372036854775807) (hnil : Hid (A = none → ca = 0)) :
    Calls Try.prog 9 #[.slice A l.length ca, .int .i64 at_, .int .u32 row] w fun e w' => e = .returned (.bool true) ∧ Below w.heap.size w w' := by
  have HB := cover hb
  have d0 : ((l.length : Int) == 0) = false := by simp; intro h; subst h; simp at h1
  have d1 : decide ((1000 : Int) < (l.length : Int)) = false := by simp; omega
  have d2 : (row == 0) = false := by simp; omega
  have em : (8 : Int) * (l.length : Int) = (m : Int) := by have := hm.out; omega
  have hm2 : m ≤ 8000 := by have := hm.out; omega
  clear hb
  go_enter Try.func9, Try.ntmps9
  go_wp2_with fail
  refine (awake_any w).mono ?_
  rintro e w0 ⟨rfl, hb0⟩
  go_wp2_with fail
  refine (make_any _).mono ?_
  rintro e w1 ⟨T, rfl, hT, hb1⟩
  have hs0 := hb0.size
  have hbel1 := hb0.trans (hb1.mono hs0)
  have hs1 := hbel1.size
  clear hb0 hb1 hs0
  go_wp2_with (first
    | (refine new_var rfl _ rfl _ _ (alloc_tab _) ?_)
    | (refine store_tab (w0 := w) rfl _ _ rfl w1.heap.size w.heap.size T tabRow rfl rfl hT (heap_alloc_new _ _) (hbel1.alloc hs1 _) hs1 ?_; intro w2 ht2 hb2; clear hbel1; have hts2 := ht2.of; have hT256 := hT.size))
  obtain ⟨g, hg⟩ : ∃ g, g = w1.heap.size := ⟨_, rfl⟩
  rw [← hg] at ht2 hs1 hts2 ⊢
  clear hg
  have hs2 := hb2.size
  have hr2 := hr.below hb2
  clear em ek
  refine (copy_any A l.length ca w.heap.size l w2 hr2 hs2 (by omega)).mono ?_
  rintro e w3 ⟨A3, c3, rfl, ho3, hb3⟩
  have ht3 := ht2.below hb3 ht2.lt
  have hgl := ht2.lt
  have hbel3 := hb2.trans (hb3.mono hs2)
  have hs3 := hbel3.size
  obtain ⟨g3, rfl, hg3, hgl3⟩ := own_some ho3 h1
  obtain ⟨B, hB⟩ : ∃ B, Hid (B = w2.heap.size) := ⟨_, cover rfl⟩
  have hst : Hid (TurnAt w2.heap.size g3 c3 l k (fun j => (bits BinOp.and IntKind.u32 (row / 2 ^ j) 1 == 1)) 0 w3 w3) := cover ⟨ho3, OnlyB.refl _ _⟩
  have H3 := cover (And.intro ht3 hbel3)
  clear ho3 hb3 ht2 hb2 hr2 ht3 hbel3 hts2
  go_upto_block 0 with fail
  go_cut [11] (fun i wx => Hid (∃ j, j ≤ 32 ∧ TurnAt w2.heap.size g3 c3 l k (fun j => (bits BinOp.and IntKind.u32 (row / 2 ^ j) 1 == 1)) j w3 wx))
  case first =>
    go_wp2_with fail
    go_loopw [11] (fun i wr => ∃ j : Nat, j ≤ 32 ∧ i = .int .i64 j ∧ Hid (TurnAt w2.heap.size g3 c3 l k (fun j => (bits BinOp.and IntKind.u32 (row / 2 ^ j) 1 == 1)) j w3 wr)) (fun i _ => 32 - (intOf i).toNat)
    case atStart => exact ⟨0, by decide, rfl, hst⟩
    case round =>
      clear hst
      obtain ⟨j, hj, rfl, hat⟩ := hrel
      by_cases hlt : j < 32
      · by_cases hin : k + j < m
        · have hql : (k + j) / 8 < l.length := by have := hm.out; omega
          obtain ⟨x, hcx, hfx, hy0, hn0⟩ := hat.out.step HB.out hql
          have HY := cover hy0
          have HN := cover hn0
          obtain ⟨q, hq⟩ : ∃ q, Hid ((k + j) / 8 = q) := ⟨_, cover rfl⟩
          obtain ⟨r, hr8⟩ : ∃ r, Hid ((k + j) % 8 = r) := ⟨_, cover rfl⟩
          have eq' : ((k : Int) + (j : Int)) / 8 = (q : Int) := by have := hq.out; omega
          have er : ((k : Int) + (j : Int)) % 8 = (r : Int) := by have := hr8.out; omega
          have hr3 : r < 8 := by have := hr8.out; omega
          rw [hq.out] at hql hcx hfx
          rw [hq.out, hr8.out] at HY
          clear hy0 hn0 hat
          go_wp2
          · have hbit : (bits BinOp.and IntKind.u32 (row / 2 ^ j) 1 == 1) = true := by assumption
            go_roundw
            case rel => exact ⟨j + 1, by omega, by go_num, cover (HY.out hbit)⟩
            case measure => simp [intOf]; omega
          · have hbit : (bits BinOp.and IntKind.u32 (row / 2 ^ j) 1 == 1) = false := by assumption
            go_roundw
            case rel => exact ⟨j + 1, by omega, by go_num, cover (HN.out hbit)⟩
            case measure => simp [intOf]; omega
        · go_wp2_with fail
          go_meet
          exact cover ⟨j, by omega, hat.out⟩
      · go_wp2_with fail
        go_meet
        exact cover ⟨j, by omega, hat.out⟩
  case rest =>
    clear hst
    obtain ⟨j, hj, hat⟩ := hcut.out
    obtain ⟨hown, honly⟩ := hat
    obtain ⟨c', hc'⟩ : ∃ c', Hid (turnTo l k (fun j => (bits BinOp.and IntKind.u32 (row / 2 ^ j) 1 == 1)) j = c') := ⟨_, cover rfl⟩
    have hlc' : Hid (c'.length = l.length) := cover (by rw [← hc'.out, turnTo_length])
    have hbc' : Hid (Bts c') := cover (by rw [← hc'.out]; exact turnTo_bts HB.out _ _ _)
    obtain ⟨q, hq⟩ : ∃ q : Bool, Hid (decide (l = c') = q) := ⟨_, cover rfl⟩
    have hsum : (rg (summ l) == rg (summ c')) = q := by
      rw [← hq.out]
      by_cases e : l = c'
      · rw [decide_eq_true e, e]; simp
      · rw [decide_eq_false e, beq_eq_false_iff_ne]
        intro h
        refine e (burst_summ HB.out hbc'.out hlc'.out.symm (k := k) (fun q hq => ?_) (rg_inj h))
        rw [← hc'.out]
        exact (turnTo_far l k _ hj q hq).symm
    rw [hc'.out] at hown
    have hgc : g < w3.heap.size := by have := H3.out.1.lt; exact this
    have htc := only_tab H3.out.1 honly (by omega)
    have hbc := below_only H3.out.2 honly (by omega) hs3
    have hsc := hbc.size
    have hglc := htc.lt
    have htsc := htc.of
    have hrc := hr.below hbc
    have hrcc : Row wc wc.heap.size (some ⟨g3, 0, none⟩) l.length c' := RowK.of_own hown hlc'.out
    have HC := cover (And.intro hrc (And.intro hrcc hbc))
    have HS1 := cover (sum_from T A l.length ca w.heap.size l wc hT hrc hsc HB.out (by omega))
    have HS2 := cover (sum_from T (some ⟨g3, 0, none⟩) l.length c3 wc.heap.size c' wc hT hrcc (Nat.le_refl _) hbc'.out (by omega))
    obtain ⟨m2, hm2'⟩ : ∃ m2, Hid (m2 = l.length + 4) := ⟨_, cover rfl⟩
    have ew : IntKind.i64.wrap ((l.length : Int) + 4) = (m2 : Int) := by have := hm2'.out; rw [IntWalk.i64_in _ (by omega)]; omega
    have HE : Hid (∀ W', Below wc.heap.size wc W' → Calls Try.prog 13 #[.agg T, .slice A l.length ca] W' fun e w' => ∃ A' c', e = .returned (.slice A' m2 c') ∧ l.length ≤ c' ∧ Row w' w'.heap.size A' l.length l ∧ Below wc.heap.size wc w') := cover (fun W' h =>
      (seal_made T A l.length ca w.heap.size l W' hT (HC.out.1.below (h.mono hsc)) (by have := h.size; omega) HB.out hlc hnil.out (by omega)).mono fun e w' ⟨A', c', he, ho, hb⟩ => ⟨A', c', by rw [he, sealB_length, hm2'.out], by have := own_cap ho; rw [sealB_length] at this; omega, by
        have h1 := ho.row.take (k := l.length) (by rw [sealB_length]; omega)
        have h2 : (sealB l).take l.length = l := by unfold sealB; rw [List.take_append_of_le_length (Nat.le_refl _), List.take_length]
        rw [h2] at h1; exact h1, h.trans (hb.mono h.size)⟩)
    have ik1 : (0 : Int) ≤ (l.length : Int) := by omega
    clear hcut hown honly htc hbc hrc hrcc
    go_wp2_with fail
    go_region_held3 (fun w' => tabOf w' g = T ∧ Below wc.heap.size wc w') (first | exact ⟨htsc, (Below.refl _ _).drew⟩ | exact ⟨(tabOf_below hbX hglc).trans htsc, hbX⟩)
      (first
        | (go_at_call 15; (first | (with_reducible refine (HS1.out _ ?_).mono ?_) | (with_reducible refine (HS2.out _ ?_).mono ?_)); (go_split_ands; assumption); rintro e w6 ⟨rfl, hbX⟩)
        | (go_at_call 13; refine (HE.out _ ?_).mono ?_; (go_split_ands; assumption); rintro e w7 ⟨A7, c7, rfl, hlc7, hr7, hbX⟩; have ic7 : (l.length : Int) ≤ (c7 : Int) := by omega)
        | (go_at_call 16; (first | (with_reducible refine (same_or A _ l.length ca c3 _ _ l c' _ wc q hq (HC.out.1.below (Below.mono ?_ hsc)) (HC.out.2.1.below ?_) (by omega) ?_).mono ?_; (go_split_ands; assumption); (go_split_ands; assumption); (go_split_ands; assumption)) | (refine (same_or A7 A l.length c7 ca _ _ l l w7 wc true (cover (decide_eq_true rfl)) hr7 (HC.out.1.below (Below.mono hbX hsc)) (by omega) hbX).mono ?_)); rintro e w9 ⟨rfl, hbX⟩))
    go_wp2
    go_ret
    exact ⟨rfl, HC.out.2.2.trans (hbX.mono hsc)⟩

theorem walk_CrcUnlike (A : Option Addr) (n ca : Nat) (l : List Int) (at_ row : Int) (w : World) (hlc : n ≤ ca) (hcm : ca ≤ maxLen) (hr : Row w w.heap.size A n l ∧ Bts l ∧ (A = none → ca = 0)) (wa : (Lit.int .i64 at_).wf = true) (wr : (Lit.int .u32 row).wf = true) :
    Calls Try.prog 9 #[.slice A n ca, .int .i64 at_, .int .u32 row] w fun e w' => e = .returned (.bool true) ∧ Below w.heap.size w w' := by
  unfold maxLen at hcm
  obtain ⟨hrow, hb, hnil⟩ := hr
  obtain rfl : l.length = n := hrow.len
  have hw : 0 ≤ row ∧ row < 4294967296 := by
    simp only [Lit.wf, Bool.and_eq_true, decide_eq_true_eq] at wr
    have h1 : IntKind.u32.min = 0 := by decide
    have h2 : IntKind.u32.max = 4294967295 := by decide
    omega
  clear wa wr
  by_cases h0 : l.length = 0
  · have d0 : ((l.length : Int) == 0) = true := by simp; simpa using h0
    clear hrow hb hnil h0
    go_enter Try.func9, Try.ntmps9
    go_wp2_with fail
    refine (awake_any w).mono ?_
    rintro e w0 ⟨rfl, hb0⟩
    go_wp2
    go_ret
    exact ⟨rfl, hb0⟩
  · have d0 : ((l.length : Int) == 0) = false := by simp; simpa using h0
    by_cases h1 : 1000 < l.length
    · have d1 : decide ((1000 : Int) < (l.length : Int)) = true := by simp; omega
      clear hrow hb hnil h0
      go_enter Try.func9, Try.ntmps9
      go_wp2_with fail
      refine (awake_any w).mono ?_
      rintro e w0 ⟨rfl, hb0⟩
      go_wp2
      go_ret
      exact ⟨rfl, hb0⟩
    · have d1 : decide ((1000 : Int) < (l.length : Int)) = false := by simp; omega
      by_cases h2 : row = 0
      · have d2 : (row == 0) = true := by simp; exact h2
        clear hrow hb hnil h0 h2
        go_enter Try.func9, Try.ntmps9
        go_wp2_with fail
        refine (awake_any w).mono ?_
        rintro e w0 ⟨rfl, hb0⟩
        go_wp2
        go_ret
        exact ⟨rfl, hb0⟩
      · obtain ⟨k, hk, ek⟩ := bit_at at_ (8 * l.length) (by omega) (by omega)
        exact unlike_law A ca (8 * l.length) k l at_ row w hrow hb (cover rfl) hk ek (by omega) (by omega) (by omega) hw.2 hlc hcm (cover hnil)
end Go.Proofs.Ytckjbndkoompmaa
