/- The walk of CrcParts. -/
import Derived.Test.YtckjbndkoompmaaCAwake
import Derived.Test.YtckjbndkoompmaaORowsIn
import Derived.Deep.RegionHeld3
namespace Go.Proofs.Ytckjbndkoompmaa
open Go.RowKit
set_option linter.unusedVariables false
attribute [local go_sem ↓] ldTab_fold
attribute [local go_sem] ldTab_at

/-- at the head of a round of the law's loop -/
structure PartsAt (w : World) (ls : List (List Int)) (g : Nat) (T : Array Value) (k : Nat) (v : Value) (wr : World) : Prop where
  own : wr.ownsRow (g + 1) 5 1 v (totL (ls.take k)) ((ls.take k).flatten.map (Value.int .u8))
  tab : TabIn wr g T tabRow
  bel : Below w.heap.size w wr
  few : totL (ls.take k) ≤ 200 * k

set_option maxRecDepth 100000 in
set_option maxHeartbeats 1600000 in
theorem parts_law (A : Option Addr) (len cap : Nat) (ls : List (List Int)) (w : World) (hr : RowsB w w.heap.size A len ls) (hb : Btss ls) (hl : len ≤ 60) :
    Calls Try.prog 8 #[.slice A len cap] w fun e w' => e = .returned (.bool true) ∧ Below w.heap.size w w' := by
  obtain ⟨i0, hi, hz0, hz1, hz2⟩ := info_parts u8_info
  have HB := cover hb
  have HL := cover hr.len
  have hd60 : decide ((60 : Int) < (len : Int)) = false := by simp; omega
  clear hb
  go_enter Try.func8, Try.ntmps8
  go_wp2_with fail
  refine (awake_any w).mono ?_
  rintro e w0 ⟨rfl, hb0⟩
  go_wp2_with fail
  refine (make_any _).mono ?_
  rintro e w1 ⟨T, rfl, hT, hb1⟩
  have hs0 := hb0.size
  have hbel1 := hb0.trans (hb1.mono hs0)
  have hs1 := hbel1.size
  clear hb0 hb1 hs0
  go_wp2_with (first
    | (refine new_var rfl _ rfl _ _ (alloc_tab _) ?_)
    | (refine store_tab (w0 := w) rfl _ _ rfl w1.heap.size w.heap.size T tabRow rfl rfl hT (heap_alloc_new _ _) (hbel1.alloc hs1 _) hs1 ?_; intro w2 ht2 hb2)
    | (refine load_tab rfl _ rfl _ _ _ ht2 rfl ?_))
  refine (sum_made T none 0 0 0 [] _ hT RowK.none_ (by omega) Bts.nil (by decide)).mono ?_
  rintro e w3 ⟨rfl, hb3⟩
  have hst : Hid (PartsAt w ls w1.heap.size T 0 (.slice none 0 0) w3) := cover ⟨World.ownsRow_nil _ _ _ _, ht2.below hb3 ht2.lt, hb2.trans (hb3.mono hb2.size), by simp [totL]⟩
  obtain ⟨g, hg⟩ : ∃ g, g = w1.heap.size := ⟨_, rfl⟩
  rw [← hg] at hst hs1 ⊢
  clear hb3 hb2 ht2 hbel1 hg
  go_wp2_with fail
  go_loopw [4, 5, 6] (fun v s i wr => ∃ k : Nat, k ≤ len ∧ i = .int .i64 k ∧ s = .int .u32 (rg (summ (ls.take k).flatten)) ∧ Hid (PartsAt w ls g T k v wr)) (fun _ _ i _ => len - (intOf i).toNat)
  case atStart => exact ⟨0, Nat.zero_le _, rfl, rfl, hst⟩
  case round =>
    clear hst
    obtain ⟨k, hk, rfl, rfl, hat⟩ := hrel
    obtain ⟨hown, htab, hbel, hfew⟩ := hat.out
    have hsz := hbel.size
    have hglt := htab.lt
    by_cases hlt : k < len
    · obtain ⟨ad, A', c', x, rfl, had, hc, hlc, hrow, hnil0, hx⟩ := (hr.below hbel).at_ hlt
      have hnil := cover hnil0
      have hbx := cover (HB.out.get hx.out)
      have hm0 := totL_next hx.out
      have HM := cover hm0
      clear hnil0 hm0
      by_cases hlx : 200 < x.length
      · go_wp2
        go_ret
        exact ⟨rfl, hbel⟩
      · have hfew2 : totL (ls.take k) + x.length ≤ 200 * (k + 1) := by omega
        clear hat
        go_wp2_with (at_builtin; refine append_row rfl _ _ 28 rfl (g + 1) 5 i0 (.int .u8 0) 1 Try.underlying28 hi hz0 hz1 hz2 rfl _ _ _ rfl hown w.heap.size A' x.length c' x rfl hrow hnil.out (by unfold maxLen; omega) (by omega) hglt ?_)
        intro v' w5 hown5 hg5
        rw [← List.map_take, ← List.map_flatten] at hown5
        have htab5 : TabIn w5 g T tabRow := ⟨(hg5.block g hglt (fun e => by have := (hown.lt g e.symm).1; omega)).trans htab.blk, htab.tab⟩
        have hbel5 : Below w.heap.size w w5 := hbel.grown hg5 hsz (fun i hi => by have := (hown.lt i hi).1; omega)
        obtain ⟨ad2, A2, c2, x2, he2, had2, hc2, hlc2, hrow2, hnil2, hx2⟩ := (hr.below hbel5).at_ hlt
        obtain rfl : ad2 = ad := by injection he2 with h; exact h.symm
        have hts := htab5.of
        have hT256 := hT.size
        clear he2 hc hown hg5 htab hbel
        have hx22 : ls[k]? = some x2 := hx2.out
        have hmr := more_made T A2 x2.length c2 w.heap.size x2 w5.drew (summ (ls.take k).flatten) hT (hrow2.keep fun _ _ => rfl) hbel5.size (HB.out.get hx22) (by have := hx.out; rw [hx22] at this; injection this with this; subst this; omega)
        rw [← summ_append, ← flatten_next hx22] at hmr
        have HMR := cover hmr
        have HX : Hid (x2 = x) := cover (by have := hx.out; rw [hx22] at this; injection this)
        have hsz5 := hbel5.size
        have hg5lt := htab5.lt
        have H5 := cover (And.intro hown5 (And.intro htab5 hbel5))
        clear hmr hx22 hrow hrow2 hown5 htab5 hbel5
        go_wp2_with fail
        go_region_held3 (fun w' => tabOf w' g = T ∧ w'.cell? (ad2.add k) = some (.slice A2 x2.length c2)) (first | exact ⟨hts, hc2⟩ | exact ⟨(tabOf_below hb6 hg5lt).trans hts, (hb6.cell (by rw [addr_add_block]; show ad2.block < w5.heap.size; omega)).trans hc2⟩)
          ((go_at_call 19; refine HMR.out.mono ?_; rintro e w6 ⟨rfl, hb6⟩))
        have hb6' : Below w5.heap.size w5 w6 := ((Below.refl _ _).drew).trans hb6
        have htab6 := H5.out.2.1.below hb6' hg5lt
        have hbel6 := H5.out.2.2.trans (hb6'.mono hsz5)
        have hsz6 := hbel6.size
        go_wp2_with (refine load_tab rfl _ rfl _ _ _ htab6 rfl ?_)
        refine (more_made T none 0 0 0 [] w6 _ hT RowK.none_ (by omega) Bts.nil (by decide)).mono ?_
        rintro e w7 ⟨rfl, hb7⟩
        rw [more_nil]
        have htab7 := htab6.below hb7 htab6.lt
        have hbel7 := hbel6.trans (hb7.mono hsz6)
        have hts7 := htab7.of
        obtain ⟨A7, c7, rfl, _⟩ := own_shape H5.out.1
        have hrow7 : Row w7 w5.heap.size A7 (totL (ls.take k) + x.length) (ls.take (k + 1)).flatten := by
          have h1 := (RowK.of_own (l := (ls.take (k + 1)).flatten) (κ := .u8) (A := A7) (c := c7) (by rw [flatten_next hx.out, List.map_append]; exact H5.out.1) (by rw [totL_flatten, HM.out]))
          exact (h1.below hb6').below (hb7.mono hb6'.size)
        have H7 := cover hrow7
        have H78 : Hid (Below w5.heap.size w5 w7) := cover (hb6'.trans (hb7.mono hb6'.size))
        clear hrow7 hb7 hb6' htab6 hts hc2
        go_wp2_with fail
        refine (sum_made T A7 _ c7 w5.heap.size _ w7 hT H7.out H78.out.size ((HB.out.take _).flatten) (by omega)).mono ?_
        rintro e w8 ⟨rfl, hb8⟩
        have hs7 := hbel7.size
        have HN : Hid (PartsAt w ls g T (k + 1) (.slice A7 (totL (ls.take k) + x.length) c7) w8) := cover (by
          refine ⟨?_, htab7.below hb8 htab7.lt, hbel7.trans (hb8.mono hs7), by rw [HM.out]; exact hfew2⟩
          rw [HM.out, flatten_next hx.out, List.map_append]
          exact own_below (own_below H5.out.1 H78.out) hb8)
        go_wp2_with fail
        go_roundw
        case rel =>
          exact ⟨k + 1, by omega, by go_num, rfl, HN⟩
        case measure => simp [intOf]; omega
    · obtain rfl : k = len := by omega
      have HT : Hid (ls.take k = ls) := cover (List.take_of_length_le (by rw [HL.out]; omega))
      rw [HT.out] at hown hfew ⊢
      obtain ⟨A7, c7, rfl, _⟩ := own_shape hown
      have hrow := cover (RowK.of_own hown (by rw [totL_flatten]))
      clear hat hown
      go_wp2_with fail
      refine (slow_any A7 _ c7 _ ls.flatten wr hrow.out HB.out.flatten (by omega)).mono ?_
      rintro e w8 ⟨rfl, rfl⟩
      go_wp2
      go_ret
      exact ⟨ret_bool (by simp), hbel⟩

theorem walk_CrcParts (A : Option Addr) (len cap : Nat) (ls : List (List Int)) (w : World) (hlc : len ≤ cap) (hcm : cap ≤ maxLen) (hr : RowsB w w.heap.size A len ls ∧ Btss ls) :
    Calls Try.prog 8 #[.slice A len cap] w fun e w' => e = .returned (.bool true) ∧ Below w.heap.size w w' := by
  unfold maxLen at hcm
  by_cases hl : 60 < len
  · clear hr
    go_enter Try.func8, Try.ntmps8
    go_wp2_with fail
    refine (awake_any w).mono ?_
    rintro e w0 ⟨rfl, hb0⟩
    go_wp2
    go_ret
    exact ⟨rfl, hb0⟩
  · exact parts_law A len cap ls w hr.1 hr.2 (by omega)
end Go.Proofs.Ytckjbndkoompmaa
