/- The walk of WindowPlays. -/
import Derived.Deep.CutBlock
import Derived.Deep.DeepCutAuto
import Derived.Deep.RegionHeld3
import Derived.Test.YtdjfnhplbhhgiaaIAwake
import Derived.Test.YtdjfnhplbhhgiaaIRef
import Derived.Test.YtdjfnhplbhhgiaaIDeeds
namespace Go.Proofs.Ytdjfnhplbhhgiaa
open Go.RowKit
set_option linter.unusedVariables false
set_option linter.unusedSimpArgs false

theorem rnew_no (m : Int) (h : m < 1 ∨ 64 < m) (W : World) :
    Calls Try.prog 13 #[.int .i64 m] W fun e W' => e = .returned (.tuple #[.pointer none, .int .i64 1]) ∧ Below W.heap.size W W' := by
  by_cases h1 : m < 1
  · go_enter Try.func13, Try.ntmps13
    go_wp2
    go_ret2
    exact ⟨rfl, Below.refl _ _⟩
  · have h2 : m > 64 := by omega
    clear h
    go_enter Try.func13, Try.ntmps13
    go_wp2
    go_ret2
    exact ⟨rfl, Below.refl _ _⟩
theorem rnew_yes (m : Int) (h : 1 ≤ m ∧ m ≤ 64) (W : World) :
    Calls Try.prog 13 #[.int .i64 m] W fun e W' => e = .returned (.tuple #[ptr W.heap.size, .int .i64 0]) ∧ Hid (WiR W' W.heap.size m (freshW m) ∧ Below W.heap.size W W') := by
  have h1 : ¬ m < 1 := by omega
  have h2 : ¬ m > 64 := by omega
  obtain ⟨w2, hw2⟩ : ∃ w2, Hid (w2 = W.alloc (.cells (vC m m 0) 36)) := ⟨_, cover rfl⟩
  have HN : Hid (WiR w2 W.heap.size m (freshW m) ∧ Below W.heap.size W w2) := cover (by
    rw [hw2.out]
    exact ⟨⟨WOk.fresh h.1, by omega, heap_alloc_new _ _⟩, (Below.refl _ _).alloc (Nat.le_refl _) _⟩)
  clear h
  go_enter Try.func13, Try.ntmps13
  go_wp2
  rw [← hw2.out]
  go_ret2
  exact ⟨rfl, HN⟩
/-- the program's Window and the document's, that stand the same -/
structure WiDuo (B : Nat) (W0 W : World) (t r : Nat) (m : Int) (v : WV) : Prop where
  one : WiOne B W0 W t m v
  two : WiR W r m v
  ne : t ≠ r
  lo : B ≤ r
theorem WiDuo.below {B t r : Nat} {W0 W W' : World} {m : Int} {v : WV} (h : WiDuo B W0 W t r m v) (hb : Below W.heap.size W W') : WiDuo B W0 W' t r m v := ⟨h.one.below hb, h.two.below hb, h.ne, h.lo⟩
theorem WiDuo.drewN {B t r : Nat} {W0 W : World} {m : Int} {v : WV} (h : WiDuo B W0 W t r m v) (n : Nat) : WiDuo B W0 (W.drewN n) t r m v := ⟨h.one.drewN n, h.two.drewN n, h.ne, h.lo⟩
/-- both have done the same -/
theorem WiDuo.turn {B t r : Nat} {W0 W W1 W2 : World} {m : Int} {v v' : WV} (h : WiDuo B W0 W t r m v) (h1 : WiP W1 t m v' ∧ OnlyB t W W1) (h2 : WiR W2 r m v' ∧ OnlyB r W1 W2) : WiDuo B W0 W2 t r m v' := by
  have k1 := h.one.turn h1
  refine ⟨⟨k1.wi.only h2.2 h.ne, k1.lo, below_only k1.bel h2.2 h.lo k1.siz, Nat.le_trans k1.siz h2.2.size⟩, h2.1, h.ne, h.lo⟩
/-- the document's, behind the program's -/
theorem WiDuo.late {B t r : Nat} {W0 W W1 : World} {m : Int} {v v' : WV} (h : WiDuo B W0 W t r m v) (h1 : WiP W1 t m v' ∧ OnlyB t W W1) : WiR W1 r m v := h.two.only h1.2 (Ne.symm h.ne)

set_option maxRecDepth 100000 in
set_option maxHeartbeats 1600000 in
theorem walk_WindowPlays (m : Int) (A : Option Addr) (len cap : Nat) (ds : List IDV) (w : World) (hlc : len ≤ cap) (hcm : cap ≤ maxLen) (hd : IDs w w.heap.size A len ds ∧ ∀ q ∈ ds, IDOk q) :
    Calls Try.prog 4 #[.int .i64 m, .slice A len cap] w fun e w' => e = .returned (.bool true) ∧ Below w.heap.size w w' := by
  obtain ⟨b, hb⟩ : ∃ b, b = w.heap.size := ⟨_, rfl⟩
  have HG := cover hb
  rw [← hb] at hd
  have HD := cover hd
  have s0 := cover (awake_any w)
  clear hb hd
  go_enter Try.func4, Try.ntmps4
  go_wp2_with fail
  refine s0.out.mono ?_
  rintro e w0 ⟨rfl, h0⟩
  have H0 : Hid (Below b w w0 ∧ b ≤ w0.heap.size) := cover (by rw [HG.out]; exact ⟨h0, h0.size⟩)
  clear h0 s0
  by_cases hlong : (200 : Int) < (len : Int)
  · go_wp2
    go_ret
    exact ⟨rfl, by rw [← HG.out]; exact H0.out.1⟩
  have HL : Hid (len ≤ 200) := cover (by omega)
  have HD6 : Hid (decide ((200 : Int) < (len : Int)) = false) := cover (decide_eq_false hlong)
  have hl : ¬ (200 : Int) < (len : Int) := hlong
  clear hlong
  by_cases hm : 1 ≤ m ∧ m ≤ 64
  · have HM := cover hm
    clear hm
    obtain ⟨t, ht⟩ : ∃ t, t = w0.heap.size := ⟨_, rfl⟩
    go_wp2_with fail
    refine (new_yes m HM.out w0).mono ?_
    rintro e w1 ⟨rfl, h1⟩
    have H1 : Hid (WiOne b w w1 t m (freshW m)) := cover (by rw [ht]; exact WiOne.new H0.out.1 H0.out.2 h1.out)
    rw [← ht]
    clear ht h1 H0
    obtain ⟨r, hr⟩ : ∃ r, r = w1.heap.size := ⟨_, rfl⟩
    go_wp2_with fail
    refine (rnew_yes m HM.out w1).mono ?_
    rintro e w2 ⟨rfl, h2⟩
    have H2 : Hid (WiDuo b w w2 t r m (freshW m)) := cover (by
      refine ⟨H1.out.below h2.out.2, by rw [hr]; exact h2.out.1, ?_, ?_⟩
      · have := H1.out.wi.lt; omega
      · have := H1.out.siz; omega)
    rw [← hr]
    clear hr h2 H1
    go_wp2_with fail
    simp only [HD6.out]
    go_loopw [9] (fun iv wr => ∃ j : Nat, j ≤ len ∧ iv = .int .i64 j ∧ Hid (∃ v, WiDuo b w wr t r m v)) (fun i _ => len - (intOf i).toNat)
    case atStart => exact ⟨0, by omega, rfl, cover ⟨_, H2.out⟩⟩
    case round =>
      clear H2
      obtain ⟨j, hj, rfl, hrel⟩ := hrel
      by_cases hlt : j < len
      · obtain ⟨q, hq⟩ : ∃ q, ds[j]? = some q := ⟨_, List.getElem?_eq_getElem (by rw [HD.out.1.len]; exact hlt)⟩
        obtain ⟨v, h4⟩ := hrel.out
        obtain ⟨ad, hA, hc0⟩ := HD.out.1.at_ j q hq
        have HC : Hid (∀ W, Below b w W → IDAt W b ad j q) := cover fun W hW => hc0.below hW
        subst hA
        have H4 := cover h4
        have hc := HC.out _ h4.one.bel
        have c0 := hc.c0
        have c1 := hc.c1
        have hlt' : (j : Int) < (len : Int) := by omega
        have HLT := cover hlt
        clear hc hc0 h4 hrel hq hlt hl
        obtain ⟨x, hx⟩ : ∃ x, q.what = x := ⟨_, rfl⟩
        obtain ⟨n, hn⟩ : ∃ n, q.num = n := ⟨_, rfl⟩
        have HC' : Hid (∀ W, Below b w W → W.cell? (ad.add (j * 2)) = some (.int .i64 x) ∧ W.cell? ⟨(ad.add (j * 2)).block, (ad.add (j * 2)).off + 1, none⟩ = some (.int .i64 n)) := cover fun W hW => ⟨by rw [← hx]; exact (HC.out W hW).c0, by rw [← hn]; exact (HC.out W hW).c1⟩
        rw [hx] at c0
        rw [hn] at c1
        clear hx hn HC
        by_cases hbig : (100000 : Int) < n
        · have HN := cover H4.out.one.bel
          clear H4
          go_wp2
          go_ret
          exact ⟨rfl, by rw [← HG.out]; exact HN.out⟩
        have hbig' : ¬ (100000 : Int) < n := hbig
        have HB : Hid (n ≤ 9223372036854775807) := cover (by omega)
        clear hbig
        have hrest : Hid (∀ wx, (∃ v, WiDuo b w wx t r m v) → ∃ v, WiDuo b w wx t r m v ∧ WiDuo b w wx.drew t r m v) := cover fun wx ⟨v, h⟩ => ⟨v, h, h.drewN 1⟩
        go_upto_block 2 with fail
        go_cut [] (fun wx => Hid (∃ v, WiDuo b w wx t r m v))
        case first =>
          by_cases d1 : x ≤ 1
          case pos =>
            go_wp2_with fail
            refine (slow_any H4.out.one.wi).mono ?_
            rintro e w4 ⟨rfl, h5⟩
            have H5 := cover h5.out
            have HR := cover (H4.out.late h5.out)
            clear h5
            go_wp2_with fail
            refine (rslow_any HR.out).mono ?_
            rintro e w5 ⟨rfl, h6⟩
            have HN : Hid (∃ v, WiDuo b w w5 t r m v) := cover ⟨_, H4.out.turn H5.out h6.out⟩
            clear h6 HR H5
            go_wp2
            go_meet
            exact HN
          have hd1 : ¬ x ≤ 1 := d1
          by_cases d7 : x ≤ 7
          case pos =>
            go_wp2_with fail
            refine (acked_any H4.out.one.wi n HB.out).mono ?_
            rintro e w4 ⟨rfl, h5⟩
            have H5 := cover h5.out
            have HR := cover (H4.out.late h5.out)
            have c0 := (HC'.out _ (H4.out.one.turn h5.out).bel).1
            have c1 := (HC'.out _ (H4.out.one.turn h5.out).bel).2
            clear h5
            go_wp2_with fail
            refine (racks_any HR.out n HB.out).mono ?_
            rintro e w5 ⟨rfl, h6⟩
            have HN : Hid (∃ v, WiDuo b w w5 t r m v) := cover ⟨_, H4.out.turn H5.out h6.out⟩
            clear h6 HR H5
            go_wp2
            go_meet
            exact HN
          have hd7 : ¬ x ≤ 7 := d7
          go_wp2_with fail
          refine (fresh_any H4.out.one.wi).mono ?_
          rintro e w4 ⟨rfl, h5⟩
          have H5 := cover h5.out
          have HR := cover (H4.out.late h5.out)
          clear h5
          go_wp2_with fail
          refine (rfresh_any HR.out).mono ?_
          rintro e w5 ⟨rfl, h6⟩
          have HN : Hid (∃ v, WiDuo b w w5 t r m v) := cover ⟨_, H4.out.turn H5.out h6.out⟩
          clear h6 HR H5
          go_wp2
          go_meet
          exact HN
        case rest =>
          obtain ⟨v', h5⟩ := hcut.out
          have H5 := cover h5
          clear h5 hcut c0 c1 H4 hbig'
          obtain ⟨r0, r1, r2⟩ := three_cells H5.out.two.hd
          obtain ⟨o, ho⟩ : ∃ o, Hid (v'.wide = o) := ⟨_, cover rfl⟩
          rw [ho.out] at r1
          have CE : Hid (∀ W', (∃ d, W' = wc.drewN d) → Calls Try.prog 10 #[ptr t] W' fun e W'' => e = .returned (.int .i64 o) ∧ ∃ d, W'' = wc.drewN d) := cover fun W' ⟨d, hd⟩ => by
            rw [hd]
            refine (now_any (H5.out.one.wi.drewN d)).mono ?_
            rintro e W'' ⟨rfl, rfl⟩
            exact ⟨by rw [ho.out], d, rfl⟩
          go_upto_region 24 with fail
          go_region_held3 (fun W' : World => W'.cell? ⟨r, 1, none⟩ = some (.int .i64 o) ∧ ∃ d, W' = wc.drewN d)
            (first
              | exact ⟨r1, _, rfl⟩)
            ((go_at_call 10; refine (CE.out _ ?_).mono ?_; (go_split_ands; assumption); rintro e wX ⟨rfl, dX, rfl⟩))
          all_goals
            have HX := cover (H5.out.drewN dX)
            clear CE H5 r0 r1 r2
            generalize wc.drewN dX = wz at HX ⊢
            go_wp2
            go_roundw
            case rel => exact ⟨j + 1, by have := HLT.out; omega, by go_num, cover ⟨_, HX.out⟩⟩
            case measure =>
              have := HLT.out
              simp [intOf]; omega
      · obtain ⟨v, h4⟩ := hrel.out
        have HN := cover h4.one.bel
        have hlt' : ¬ (j : Int) < (len : Int) := by omega
        clear h4 hrel
        go_wp2
        go_ret
        exact ⟨rfl, by rw [← HG.out]; exact HN.out⟩
  · have hm' : m < 1 ∨ 64 < m := by omega
    have HM := cover hm'
    clear hm hm'
    go_wp2_with fail
    refine (new_no m HM.out w0).mono ?_
    rintro e w1 ⟨rfl, h1⟩
    have H1 : Hid (Below b w w1 ∧ b ≤ w1.heap.size) := cover ⟨H0.out.1.trans (h1.mono H0.out.2), Nat.le_trans H0.out.2 h1.size⟩
    clear h1 H0
    go_wp2_with fail
    refine (rnew_no m HM.out w1).mono ?_
    rintro e w2 ⟨rfl, h2⟩
    have H2 : Hid (Below b w w2) := cover (H1.out.1.trans (h2.mono H1.out.2))
    clear h2 H1
    go_wp2
    go_ret
    exact ⟨rfl, by rw [← HG.out]; exact H2.out⟩
end Go.Proofs.Ytdjfnhplbhhgiaa
