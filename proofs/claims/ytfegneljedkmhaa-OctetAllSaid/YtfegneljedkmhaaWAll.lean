/- The walk of OctetAll. -/
import Derived.Test.YtfegneljedkmhaaOAwake
import Derived.Test.YtfegneljedkmhaaOFrame
import Derived.Test.YtfegneljedkmhaaOAll
import Derived.Deep.CutBlock
import Derived.Deep.DeepCutAuto
import Derived.Deep.QuietTactic
import Derived.BigQuiet
import Derived.Deep.RegionLaw
import Derived.Deep.AppendLies
namespace Go.Proofs.Ytfegneljedkmhaa
open Go.RowKit
set_option linter.unusedVariables false

/-- at the head of a round of the law's first loop -/
def MadeAt (w : World) (l : List Int) (j : Nat) (v : Value) (wr : World) : Prop :=
  wr.ownsRow w.heap.size 5 1 v (2 * j) ((by2 (l.take j)).map (Value.int .u8)) ∧ Below w.heap.size w wr

set_option maxRecDepth 100000 in
set_option maxHeartbeats 1600000 in
theorem all_law (A : Option Addr) (len cap : Nat) (l : List Int) (n : Int) (w : World) (hr : RowK .u16 w w.heap.size A len l) (hu : U16 l) (hl : len ≤ 200) :
    Calls Try.prog 6 #[.slice A len cap, .int .i64 n] w fun e w' => e = .returned (.bool true) ∧ Below w.heap.size w w' := by
  obtain ⟨i0, hi, hz0, hz1, hz2⟩ := info_parts u8_info
  have HU := cover hu
  have HLL := cover hr.len
  clear hu
  go_enter Try.func6, Try.ntmps6
  go_wp2_with fail
  refine (awake_any w).mono ?_
  rintro e w0 ⟨rfl, hb0⟩
  have hst : Hid (MadeAt w l 0 (.slice none 0 0) w0) := cover ⟨World.ownsRow_nil _ _ _ _, hb0⟩
  go_upto_block 0 with fail
  go_cut [5] (fun v wx => ∃ A1 c1, v = .slice A1 (2 * len) c1 ∧ Hid (RowK .u8 wx wx.heap.size A1 (2 * len) (by2 l) ∧ Below w.heap.size w wx))
  case first =>
    go_wp2_with fail
    go_loopw [5, 6] (fun v i wr => ∃ j : Nat, j ≤ len ∧ i = .int .i64 j ∧ Hid (MadeAt w l j v wr)) (fun _ i _ => len - (intOf i).toNat)
    case atStart => exact ⟨0, Nat.zero_le _, rfl, hst⟩
    case round =>
      obtain ⟨j, hj, rfl, hrel⟩ := hrel
      obtain ⟨hown, hbel⟩ := hrel.out
      have hsz := hbel.size
      by_cases hlt : j < len
      · obtain ⟨ad, x, rfl, had, hc, hx⟩ := (hr.below hbel).at_ hlt
        go_wp2_with fail
        have hx2 : 0 ≤ x ∧ x ≤ 65535 := by
          have := hx.out
          obtain ⟨hj', rfl⟩ := List.getElem?_eq_some_iff.1 this
          exact HU.out _ (List.getElem_mem hj')
        have hw1 : IntKind.u8.wrap (x / 256) = x / 256 := by rw [IntKind.wrap_u8]; omega
        have hw2 : IntKind.u8.wrap x = x % 256 := by rw [IntKind.wrap_u8]
        have hnews := (RowK.made (κ := .u8) wr.drew [IntKind.u8.wrap (x / 256), IntKind.u8.wrap x] #[.int .u8 (IntKind.u8.wrap (x / 256)), .int .u8 (IntKind.u8.wrap x)] 5 rfl).news
        have hone : ∀ u ∈ [Value.int .u8 (IntKind.u8.wrap (x / 256)), Value.int .u8 (IntKind.u8.wrap x)], u.oneCell' = true := fun u hu => by simp at hu; rcases hu with rfl | rfl <;> rfl
        have hbase : w.heap.size ≤ (wr.drew.alloc (.cells #[.int .u8 (IntKind.u8.wrap (x / 256)), .int .u8 (IntKind.u8.wrap x)] 5)).heap.size := by simp; omega
        have HW1 := cover hw1
        have HW2 := cover hw2
        clear hw1 hw2
        go_region_law ((refine step_append_lies _ (by rfl) _ _ _ (by rfl) w.heap.size 5 i0 (.int .u8 0) 1 1 Try.underlying25 hi hz0 hz1 hz2 rfl (by decide) _ (2 * j) _ (by rfl) (hown.drew.alloc _) ⟨wr.heap.size, 0, none⟩ 2 2 [.int .u8 (IntKind.u8.wrap (x / 256)), .int .u8 (IntKind.u8.wrap x)] (by rfl) (by rfl) hnews hone (by omega) (by unfold maxLen; omega) (by omega) hbase _ rfl ?_; intro g cap w1 hown1 hgrow hat hlt1))
        all_goals
          have HN : Hid (MadeAt w l (j + 1) (.slice (some ⟨g, 0, none⟩) (2 * j + 2) cap) w1) := cover (by
            refine ⟨?_, ((hbel.drew).alloc (by show w.heap.size ≤ wr.heap.size; omega) _).grown hgrow hbase (fun k hk => (hown.lt k hk).1)⟩
            rw [List.take_add_one, hx.out]
            show w1.ownsRow _ _ _ _ (2 * (j + 1)) ((by2 (l.take j ++ [x])).map _)
            rw [by2_snoc, List.map_append]
            have := hown1
            rw [HW1.out, HW2.out] at this
            exact this)
          clear hown1 hgrow hat hlt1 hown hnews hone hbase
          go_wp2
          go_roundw
          case rel => exact ⟨j + 1, by omega, by go_num, HN⟩
          case measure => simp [intOf]; omega
      · obtain rfl : j = len := by omega
        obtain ⟨A1, c1, rfl, _⟩ := own_shape hown
        rw [List.take_of_length_le (by rw [HLL.out]; omega)] at hown
        have HR : Hid (RowK .u8 wr wr.heap.size A1 (2 * j) (by2 l) ∧ Below w.heap.size w wr) := cover ⟨RowK.of_own hown (by rw [by2_length, HLL.out]), hbel⟩
        clear hown
        go_wp2_with fail
        go_meet
        exact ⟨A1, c1, rfl, HR⟩
  case rest =>
    obtain ⟨A1, c1, rfl, hrel⟩ := hcut
    obtain ⟨hrow, hbel⟩ := hrel.out
    have hbl : Hid ((by2 l).length = 2 * len) := cover (by rw [by2_length, HLL.out])
    go_wp2_with fail
    refine (new_any A1 (2 * len) c1 _ (by2 l) wc hrow (Nat.le_refl _) (by omega)).mono ?_
    rintro e w2 ⟨g, rfl, hr2, hg2, hb2⟩
    have hsz := hbel.size
    have hbel2 := hbel.trans (hb2.mono hsz)
    by_cases hn1 : n < 1
    · go_wp2_with fail
      refine (all_out n _ g w2 (.inl hn1)).mono ?_
      rintro e w3 ⟨rfl, hb3⟩
      go_wp2_with fail
      refine (failed_any g g _ false w3 (hr2.below hb3 hr2.lt)).mono ?_
      rintro e w4 ⟨rfl, rfl⟩
      go_wp2
      go_ret
      exact ⟨rfl, hbel2.trans (hb3.mono hbel2.size)⟩
    · by_cases hn2 : 1048576 < n
      · go_wp2_with fail
        refine (all_out n _ g w2 (.inr hn2)).mono ?_
        rintro e w3 ⟨rfl, hb3⟩
        go_wp2_with fail
        refine (failed_any g g _ false w3 (hr2.below hb3 hr2.lt)).mono ?_
        rintro e w4 ⟨rfl, rfl⟩
        go_wp2
        go_ret
        exact ⟨ret_bool (by simp; omega), hbel2.trans (hb3.mono hbel2.size)⟩
      · obtain ⟨k, rfl⟩ : ∃ k : Nat, (k : Int) = n := ⟨n.toNat, by omega⟩
        have hwg : w.heap.size ≤ g := by omega
        have hall := all_in l g k w2 hr2 HU.out (by rw [HLL.out]; exact hl) (by omega) (by omega)
        by_cases hkl : k ≤ len
        · have hall' : Calls Try.prog 24 #[.int .i64 k, .func (.func 25) #[] #[], .pointer (some ⟨g, 0, none⟩)] w2 (AllYes l g k w2) := hall.mono fun e w' h => by unfold AllB at h; rwa [if_pos (by rw [HLL.out]; exact hkl)] at h
          have HA := cover hall'
          clear hall hall' hr2
          go_wp2_with fail
          refine HA.out.mono ?_
          rintro e w3 ⟨A3, c3, rfl, hrow3, hrd3, ho3⟩
          have hbel3 := below_only hbel2 ho3 hwg hbel2.size
          go_wp2_with fail
          refine (left_any g g _ false w3 hrd3).mono ?_
          rintro e w4 ⟨he, rfl⟩
          obtain rfl : e = .returned (.int .i64 (2 * ((len : Int) - (k : Int)))) := by
            rw [he, by2_length, List.length_drop, HLL.out]; exact ret_int (by omega)
          clear he
          have hr3 := hr.below hbel3
          go_wp2_with fail
          go_loopw [9] (fun i wr => ∃ j : Nat, j ≤ k ∧ i = .int .i64 j ∧ ∃ d, wr = w3.drewN d) (fun i _ => k - (intOf i).toNat)
          case atStart => exact ⟨0, Nat.zero_le _, rfl, 0, rfl⟩
          case round =>
            obtain ⟨j, hj, rfl, d, rfl⟩ := hrel
            by_cases hlt : j < k
            · obtain ⟨ad, x, rfl, had, hc, hx⟩ := hrow3.at_ hlt
              obtain ⟨ad', y, rfl, had', hc', hy⟩ := hr3.at_ (k := j) (by omega)
              have hxy : x = y := by
                have e1 := hx.out
                rw [List.getElem?_take_of_lt hlt, hy.out] at e1
                injection e1 with e1; exact e1.symm
              subst hxy
              have hx2 : 0 ≤ x ∧ x ≤ 65535 := by
                have := hy.out
                obtain ⟨hj', rfl⟩ := List.getElem?_eq_some_iff.1 this
                exact HU.out _ (List.getElem_mem hj')
              go_wp2_with fail
              go_quiet (fail)
              go_wp2
              go_roundw
              case rel => exact ⟨j + 1, by omega, by go_num, _, rfl⟩
              case measure => simp [intOf]; omega
            · obtain rfl : j = k := by omega
              go_wp2
              go_ret
              exact ⟨rfl, below_drewN hbel3 _⟩
        · have hall' : Calls Try.prog 24 #[.int .i64 k, .func (.func 25) #[] #[], .pointer (some ⟨g, 0, none⟩)] w2 (AllNo g w2) := hall.mono fun e w' h => by unfold AllB at h; rwa [if_neg (by rw [HLL.out]; exact hkl)] at h
          have HA := cover hall'
          clear hall hall' hr2
          go_wp2_with fail
          refine HA.out.mono ?_
          rintro e w3 ⟨rfl, hrd3, ho3⟩
          have hbel3 := below_only hbel2 ho3 hwg hbel2.size
          go_wp2_with fail
          refine (failed_any g g _ true w3 hrd3).mono ?_
          rintro e w4 ⟨rfl, rfl⟩
          go_wp2
          go_ret
          exact ⟨ret_bool (by simp), hbel3⟩

theorem u16_of_wf {l : List Int} (h : ∀ x ∈ l, (Lit.int .u16 x).wf = true) : U16 l := fun x hx => by
  have := h x hx
  simp only [Lit.wf, Bool.and_eq_true, decide_eq_true_eq] at this
  have h1 : IntKind.u16.min = 0 := by decide
  have h2 : IntKind.u16.max = 65535 := by decide
  omega
set_option maxRecDepth 100000 in
theorem walk_OctetAll (A : Option Addr) (len cap : Nat) (l : List Int) (n : Int) (w : World) (hlc : len ≤ cap) (hcm : cap ≤ maxLen) (hr : RowK .u16 w w.heap.size A len l) (hb : ∀ x ∈ l, (Lit.int .u16 x).wf = true) (wn : (Lit.int .i64 n).wf = true) :
    Calls Try.prog 6 #[.slice A len cap, .int .i64 n] w fun e w' => e = .returned (.bool true) ∧ Below w.heap.size w w' := by
  unfold maxLen at hcm
  have h1 := u16_of_wf hb
  by_cases hl : 200 < len
  · clear hb h1 hr wn
    go_enter Try.func6, Try.ntmps6
    go_wp2_with fail
    refine (awake_any w).mono ?_
    rintro e w0 ⟨rfl, hb0⟩
    go_wp2
    go_ret
    exact ⟨rfl, hb0⟩
  exact all_law A len cap l n w hr h1 (by omega)
end Go.Proofs.Ytfegneljedkmhaa
