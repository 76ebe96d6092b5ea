/- The walk of CrcBursts. -/
import Derived.Test.YtckjbndkoompmaaCAwake
import Derived.Test.YtckjbndkoompmaaCRef
import Derived.Test.YtckjbndkoompmaaCTurn
import Derived.Deep.CutBlock
import Derived.Deep.DeepCutAuto
import Derived.Test.YtckjbndkoompmaaORowsIn
import Derived.Deep.RegionHeld3
namespace Go.Proofs.Ytckjbndkoompmaa
open Go.RowKit
set_option linter.unusedVariables false
attribute [local go_sem ↓] ldTab_fold
attribute [local go_sem] ldTab_at

set_option maxRecDepth 100000 in
set_option maxHeartbeats 3200000 in
theorem bursts_law (A : Option Addr) (ca m k : Nat) (l : List Int) (at_ row : Int) (w : World) (hr : Row w w.heap.size A l.length l) (hb : Bts l) (hm : Hid (m = 8 * (l.length + 4))) (hk : k < m) (ek : (wrap64 (at_.tmod (m : Int) + (m : Int))).tmod (m : Int) = (k : Int))
    (hl : l.length ≤ 2000) (hr0 : 0 ≤ row) (hr1 : row < 4294967296) (hlc : l.length ≤ ca) (hcm : ca ≤ 9223372036854775807) (hnil : Hid (A = none → ca = 0)) :
    Calls Try.prog 5 #[.slice A l.length ca, .int .i64 at_, .int .u32 row] w fun e w' => e = .returned (.bool true) ∧ Below w.heap.size w w' := by
  have HB := cover hb
  have d1 : decide ((2000 : Int) < (l.length : Int)) = false := by simp; omega
  have hm2 : m ≤ 16032 := by have := hm.out; omega
  obtain ⟨s, hs⟩ : ∃ s, Hid (sealB l = s) := ⟨_, cover rfl⟩
  have hsl : Hid (s.length = l.length + 4) := cover (by rw [← hs.out, sealB_length])
  have em : (8 : Int) * (s.length : Int) = (m : Int) := by have := hm.out; rw [hsl.out]; omega
  have hbs : Hid (Bts s) := cover (by rw [← hs.out]; exact sealB_bts hb)
  have hsl0 : 0 < s.length := by rw [hsl.out]; omega
  have hsl2 : s.length ≤ 2004 := by rw [hsl.out]; omega
  clear hb
  go_enter Try.func5, Try.ntmps5
  go_wp2_with fail
  refine (awake_any w).mono ?_
  rintro e w0 ⟨rfl, hb0⟩
  go_wp2_with fail
  refine (make_any _).mono ?_
  rintro e w1 ⟨T, rfl, hT, hb1⟩
  have hs0 := hb0.size
  have hbel1 := hb0.trans (hb1.mono hs0)
  have hs1 := hbel1.size
  clear hb0 hb1 hs0
  go_wp2_with (first
    | (refine new_var rfl _ rfl _ _ (alloc_tab _) ?_)
    | (refine store_tab (w0 := w) rfl _ _ rfl w1.heap.size w.heap.size T tabRow rfl rfl hT (heap_alloc_new _ _) (hbel1.alloc hs1 _) hs1 ?_; intro w2 ht2 hb2; clear hbel1; have hts2 := ht2.of; have hT256 := hT.size))
  obtain ⟨g, hg⟩ : ∃ g, g = w1.heap.size := ⟨_, rfl⟩
  rw [← hg] at ht2 hs1 hts2 ⊢
  clear hg
  have hs2 := hb2.size
  have hr2 := hr.below hb2
  refine (seal_made T A l.length ca w.heap.size l w2 hT hr2 hs2 HB.out hlc hnil.out (by omega)).mono ?_
  rintro e w3 ⟨A3, c3, rfl, ho3, hb3⟩
  rw [hs.out] at ho3 ⊢
  have ht3 := ht2.below hb3 ht2.lt
  have hbel3 := hb2.trans (hb3.mono hs2)
  have hs3 := hbel3.size
  have hts3 := ht3.of
  have hgl := ht2.lt
  have hs23 := hb3.size
  clear ht2 hb2 hr2 hts2 hb3
  go_wp2_with fail
  have hro3 : Row w3 w3.heap.size A3 s.length (sealB l) := by rw [hs.out]; exact ho3.row
  refine (open_sealed T A3 s.length c3 w3.heap.size l w3 hT hro3 (Nat.le_refl _) HB.out (own_cap ho3) (by omega) (own_max ho3)).mono ?_
  rintro e w4 ⟨A4, c4, rfl, ho4, hb4⟩
  have ht4 := ht3.below hb4 ht3.lt
  have hbel4 := hbel3.trans (hb4.mono hs3)
  have hs4 := hbel4.size
  have ho34 := own_below ho3 hb4
  have hs34 := hb4.size
  obtain ⟨g3, rfl, hg3, hgl3⟩ := own_some ho34 hsl0
  have hne : g ≠ g3 := by omega
  have H4 := cover (And.intro ht4 (And.intro hbel4 ho34))
  clear ht3 hbel3 hts3 ho3 hro3 hb4 ht4 hbel4 ho34
  go_wp2_with fail
  refine (same_any A4 A l.length c4 ca _ _ l l w4 ho4.row (hr.below H4.out.2.1) (by omega)).mono ?_
  rintro e w5 ⟨he, d5, hw5⟩
  rw [decide_eq_true rfl] at he
  subst he
  have hb5 : Below w4.heap.size w4 w5 := by rw [hw5]; exact below_drewN (Below.refl _ _) _
  have ht5 := H4.out.1.below hb5 H4.out.1.lt
  have hbel5 := H4.out.2.1.trans (hb5.mono hs4)
  have ho5 := own_below H4.out.2.2 hb5
  have hs5 := hbel5.size
  have hs45 := hb5.size
  clear hw5 hb5 ho4
  go_wp2_with fail
  refine (copy_any (some ⟨g3, 0, none⟩) s.length c3 w5.heap.size s w5 (RowK.of_own ho5 rfl) (Nat.le_refl _) (by omega)).mono ?_
  rintro e w6 ⟨A6, c6, rfl, ho6, hb6⟩
  have ht6 := ht5.below hb6 ht5.lt
  have hbel6 := hbel5.trans (hb6.mono hs5)
  have hs6 := hbel6.size
  have ho56 := own_below ho5 hb6
  have hcc := own_cap ho56
  have hcx := own_max ho56
  have hs56 := hb6.size
  obtain ⟨g6, rfl, hg6, hgl6⟩ := own_some ho6 hsl0
  have hne6 : g6 ≠ g3 := by omega
  have hst : Hid (TurnAt w2.heap.size g3 c3 s k (fun j => (bits BinOp.and IntKind.u32 (row / 2 ^ j) 1 == 1)) 0 w6 w6) := cover ⟨ho56, OnlyB.refl _ _⟩
  have H6 := cover (And.intro ht6 (And.intro hbel6 ho6))
  clear ht5 hbel5 ho5 hb6 ht6 hbel6 ho6 ho56 em ek
  go_upto_block 0 with fail
  go_cut [14] (fun i wx => Hid (∃ j, j ≤ 32 ∧ TurnAt w2.heap.size g3 c3 s k (fun j => (bits BinOp.and IntKind.u32 (row / 2 ^ j) 1 == 1)) j w6 wx))
  case first =>
    go_wp2_with fail
    go_loopw [14] (fun i wr => ∃ j : Nat, j ≤ 32 ∧ i = .int .i64 j ∧ Hid (TurnAt w2.heap.size g3 c3 s k (fun j => (bits BinOp.and IntKind.u32 (row / 2 ^ j) 1 == 1)) j w6 wr)) (fun i _ => 32 - (intOf i).toNat)
    case atStart => exact ⟨0, by decide, rfl, hst⟩
    case round =>
      clear hst
      obtain ⟨j, hj, rfl, hat⟩ := hrel
      by_cases hlt : j < 32
      · by_cases hin : k + j < m
        · have hql : (k + j) / 8 < s.length := by have := hm.out; have := hsl.out; omega
          obtain ⟨x, hcx, hfx, hy0, hn0⟩ := hat.out.step hbs.out hql
          have HY := cover hy0
          have HN := cover hn0
          obtain ⟨q, hq⟩ : ∃ q, Hid ((k + j) / 8 = q) := ⟨_, cover rfl⟩
          obtain ⟨r, hr8⟩ : ∃ r, Hid ((k + j) % 8 = r) := ⟨_, cover rfl⟩
          have eq' : ((k : Int) + (j : Int)) / 8 = (q : Int) := by have := hq.out; omega
          have er : ((k : Int) + (j : Int)) % 8 = (r : Int) := by have := hr8.out; omega
          have hr3 : r < 8 := by have := hr8.out; omega
          rw [hq.out] at hql hcx hfx
          rw [hq.out, hr8.out] at HY
          clear hy0 hn0 hat
          go_wp2
          · have hbit : (bits BinOp.and IntKind.u32 (row / 2 ^ j) 1 == 1) = true := by assumption
            go_roundw
            case rel => exact ⟨j + 1, by omega, by go_num, cover (HY.out hbit)⟩
            case measure => simp [intOf]; omega
          · have hbit : (bits BinOp.and IntKind.u32 (row / 2 ^ j) 1 == 1) = false := by assumption
            go_roundw
            case rel => exact ⟨j + 1, by omega, by go_num, cover (HN.out hbit)⟩
            case measure => simp [intOf]; omega
        · go_wp2_with fail
          go_meet
          exact cover ⟨j, by omega, hat.out⟩
      · go_wp2_with fail
        go_meet
        exact cover ⟨j, by omega, hat.out⟩
  case rest =>
    clear hst
    obtain ⟨j, hj, hat⟩ := hcut.out
    obtain ⟨hown, honly⟩ := hat
    obtain ⟨c', hc'⟩ : ∃ c', Hid (turnTo s k (fun j => (bits BinOp.and IntKind.u32 (row / 2 ^ j) 1 == 1)) j = c') := ⟨_, cover rfl⟩
    have hlc' : Hid (c'.length = s.length) := cover (by rw [← hc'.out, turnTo_length])
    have hbc' : Hid (Bts c') := cover (by rw [← hc'.out]; exact turnTo_bts hbs.out _ _ _)
    obtain ⟨q, hq⟩ : ∃ q : Bool, Hid (decide (s = c') = q) := ⟨_, cover rfl⟩
    have hok : Hid (okOpen c' = q) := cover (by
      rw [← hq.out]
      by_cases e : s = c'
      · rw [decide_eq_true e, ← e, ← hs.out, okOpen_seal]
      · rw [decide_eq_false e]
        cases h : okOpen c'
        · rfl
        · refine absurd ?_ e
          rw [← hs.out]
          refine (burst_open HB.out hbc'.out (by rw [hlc'.out, hsl.out]) (k := k) (fun q hq => ?_) h).symm
          rw [hs.out, ← hc'.out]
          exact turnTo_far s k _ hj q hq)
    rw [hc'.out] at hown
    have htc := only_tab H6.out.1 honly hne
    have hbc := below_only H6.out.2.1 honly (by omega) hs6
    have hsc := hbc.size
    have ho6 : wc.ownsRow w5.heap.size 5 1 (.slice (some ⟨g6, 0, none⟩) s.length c6) s.length (s.map (Value.int .u8)) :=
      World.ownsRow.kept H6.out.2.2 honly (.inr (by simp [Value.ownBlock]; exact hne6))
    have hrcc : Row wc wc.heap.size (some ⟨g3, 0, none⟩) s.length c' := RowK.of_own hown hlc'.out
    have hrw : Row wc wc.heap.size (some ⟨g6, 0, none⟩) s.length s := RowK.of_own ho6 rfl
    have HC := cover (And.intro hrcc (And.intro hrw (And.intro htc hbc)))
    have hcap := own_cap hown
    clear hcut hown honly htc hbc hrcc hrw ho6
    go_wp2_with (refine load_tab rfl _ rfl _ _ _ HC.out.2.2.1 rfl ?_)
    refine (open_made T (some ⟨g3, 0, none⟩) s.length c3 wc.heap.size c' wc hT HC.out.1 (Nat.le_refl _) hbc'.out hcc (by omega) hcx).mono ?_
    rintro e w7 ⟨A7, c7, he, ho7, hb7⟩
    rw [hok.out] at he
    subst he
    have hrx := cover ((HC.out.2.1.below hb7))
    have hry := cover ((HC.out.1.below hb7))
    have hbel7 := HC.out.2.2.2.trans (hb7.mono hsc)
    have hs7 := hbel7.size
    clear ho7 hb7
    go_wp2_with fail
    refine (same_any (some ⟨g6, 0, none⟩) (some ⟨g3, 0, none⟩) s.length c6 c3 _ _ s c' w7 hrx.out hry.out (by omega)).mono ?_
    rintro e w8 ⟨he, d8, rfl⟩
    rw [hq.out] at he
    subst he
    go_wp2
    go_ret
    exact ⟨ret_bool (by simp), below_drewN hbel7 _⟩

theorem walk_CrcBursts (A : Option Addr) (n ca : Nat) (l : List Int) (at_ row : Int) (w : World) (hlc : n ≤ ca) (hcm : ca ≤ maxLen) (hr : Row w w.heap.size A n l ∧ Bts l ∧ (A = none → ca = 0)) (wa : (Lit.int .i64 at_).wf = true) (wr : (Lit.int .u32 row).wf = true) :
    Calls Try.prog 5 #[.slice A n ca, .int .i64 at_, .int .u32 row] w fun e w' => e = .returned (.bool true) ∧ Below w.heap.size w w' := by
  unfold maxLen at hcm
  obtain ⟨hrow, hb, hnil⟩ := hr
  obtain rfl : l.length = n := hrow.len
  have hw : 0 ≤ row ∧ row < 4294967296 := by
    simp only [Lit.wf, Bool.and_eq_true, decide_eq_true_eq] at wr
    have h1 : IntKind.u32.min = 0 := by decide
    have h2 : IntKind.u32.max = 4294967295 := by decide
    omega
  clear wa wr
  by_cases h1 : 2000 < l.length
  · have d1 : decide ((2000 : Int) < (l.length : Int)) = true := by simp; omega
    clear hrow hb hnil
    go_enter Try.func5, Try.ntmps5
    go_wp2_with fail
    refine (awake_any w).mono ?_
    rintro e w0 ⟨rfl, hb0⟩
    go_wp2
    go_ret
    exact ⟨rfl, hb0⟩
  · obtain ⟨k, hk, ek⟩ := bit_at at_ (8 * (l.length + 4)) (by omega) (by omega)
    exact bursts_law A ca (8 * (l.length + 4)) k l at_ row w hrow hb (cover rfl) hk ek (by omega) hw.1 hw.2 hlc hcm (cover hnil)
end Go.Proofs.Ytckjbndkoompmaa
