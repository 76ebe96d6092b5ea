/- What the document's own Window does. -/
import Derived.Deep.CutBlock
import Derived.Deep.DeepCutAuto
import Derived.BigQuiet
import Derived.Deep.QuietTactic
import Derived.Test.YtdjfnhplbhhgiaaOCells
import Derived.Test.YtdjfnhplbhhgiaaOMore
import Derived.Test.YtdjfnhplbhhgiaaIMath
namespace Go.Proofs.Ytdjfnhplbhhgiaa
open Go.RowKit
set_option linter.unusedVariables false
set_option linter.unusedSimpArgs false

/-- a Window of the document's at block t, so wide at most, that stands so -/
structure WiR (W : World) (t : Nat) (m : Int) (s : WV) : Prop where
  ok : WOk m s
  mb : m ≤ 1000000
  hd : W.heap[t]? = some (.cells (vC m s.wide s.cnt) 36 (0, 0))
theorem WiR.lt {W : World} {t : Nat} {m : Int} {v : WV} (h : WiR W t m v) : t < W.heap.size := block_lt h.hd
theorem WiR.keep {W W' : World} {t : Nat} {m : Int} {v : WV} (h : WiR W t m v) (hk : W'.heap[t]? = W.heap[t]?) : WiR W' t m v := ⟨h.ok, h.mb, hk.trans h.hd⟩
theorem WiR.below {W W' : World} {t : Nat} {m : Int} {v : WV} (h : WiR W t m v) (hb : Below W.heap.size W W') : WiR W' t m v := h.keep (hb.block t h.lt)
theorem WiR.only {W W' : World} {t g : Nat} {m : Int} {v : WV} (h : WiR W t m v) (hb : OnlyB g W W') (hne : t ≠ g) : WiR W' t m v := h.keep (hb.block t h.lt (fun e => hne (by injection e)))
theorem WiR.drewN {W : World} {t : Nat} {m : Int} {v : WV} (h : WiR W t m v) (n : Nat) : WiR (W.drewN n) t m v := h.keep rfl

theorem rslow_any {W : World} {t : Nat} {m : Int} {v : WV} (h : WiR W t m v) :
    Calls Try.prog 14 #[ptr t] W fun e W' => e = .returned (.tuple #[]) ∧ Hid (WiR W' t m slowW ∧ OnlyB t W W') := by
  obtain ⟨w2, hw2⟩ : ∃ w2, Hid (w2 = W.setCell ⟨t, 1, none⟩ (.int .i64 1)) := ⟨_, cover rfl⟩
  have T2 : w2.heap[t]? = some (.cells (vC m 1 v.cnt) 36 (0, 0)) := by rw [hw2.out, set_block h.hd]; rfl
  obtain ⟨w3, hw3⟩ : ∃ w3, Hid (w3 = w2.setCell ⟨t, 2, none⟩ (.int .i64 0)) := ⟨_, cover rfl⟩
  have T3 : w3.heap[t]? = some (.cells (vC m 1 0) 36 (0, 0)) := by rw [hw3.out, set_block T2]; rfl
  have HN : Hid (WiR w3 t m slowW ∧ OnlyB t W w3) := cover ⟨⟨WOk.slow (by have h1 := h.ok.1; have h2 := h.ok.2.1; omega), h.mb, T3⟩, by rw [hw3.out, hw2.out]; exact ((OnlyB.refl t W).setCell 1 _).setCell 2 _⟩
  obtain ⟨c0, c1, c2⟩ := three_cells h.hd
  obtain ⟨d0, d1, d2⟩ := three_cells T2
  have F1 := not_frozen h.hd 1
  have F2 := not_frozen T2 2
  clear T2 T3 h
  go_enter Try.func14, Try.ntmps14
  go_wp2_with (first
    | (rw [← hw2.out])
    | (rw [← hw3.out]))
  go_end0
  exact ⟨rfl, HN⟩
theorem rfresh_any {W : World} {t : Nat} {m : Int} {v : WV} (h : WiR W t m v) :
    Calls Try.prog 17 #[ptr t] W fun e W' => e = .returned (.tuple #[]) ∧ Hid (WiR W' t m (freshW m) ∧ OnlyB t W W') := by
  obtain ⟨w2, hw2⟩ : ∃ w2, Hid (w2 = W.setCell ⟨t, 1, none⟩ (.int .i64 m)) := ⟨_, cover rfl⟩
  have T2 : w2.heap[t]? = some (.cells (vC m m v.cnt) 36 (0, 0)) := by rw [hw2.out, set_block h.hd]; rfl
  obtain ⟨w3, hw3⟩ : ∃ w3, Hid (w3 = w2.setCell ⟨t, 2, none⟩ (.int .i64 0)) := ⟨_, cover rfl⟩
  have T3 : w3.heap[t]? = some (.cells (vC m m 0) 36 (0, 0)) := by rw [hw3.out, set_block T2]; rfl
  have HN : Hid (WiR w3 t m (freshW m) ∧ OnlyB t W w3) := cover ⟨⟨WOk.fresh (by have h1 := h.ok.1; have h2 := h.ok.2.1; omega), h.mb, T3⟩, by rw [hw3.out, hw2.out]; exact ((OnlyB.refl t W).setCell 1 _).setCell 2 _⟩
  obtain ⟨c0, c1, c2⟩ := three_cells h.hd
  obtain ⟨d0, d1, d2⟩ := three_cells T2
  have F1 := not_frozen h.hd 1
  have F2 := not_frozen T2 2
  clear T2 T3 h
  go_enter Try.func17, Try.ntmps17
  go_wp2_with (first
    | (rw [← hw2.out])
    | (rw [← hw3.out]))
  go_end0
  exact ⟨rfl, HN⟩
set_option maxHeartbeats 800000 in
theorem racks_any {W : World} {t : Nat} {m : Int} {v : WV} (h : WiR W t m v) (n : Int) (hn : n ≤ 9223372036854775807) :
    Calls Try.prog 15 #[ptr t, .int .i64 n] W fun e W' => e = .returned (.tuple #[]) ∧ Hid (WiR W' t m (ackW m n.toNat v) ∧ OnlyB t W W') := by
  have HV := cover h
  have HN := cover hn
  clear h hn
  go_enter Try.func15, Try.ntmps15
  go_wp2_with fail
  go_loopw [4] (fun iv wr => ∃ k : Nat, (k ≤ n.toNat ∧ iv = .int .i64 k) ∧ Hid (WiR wr t m (ackW m k v) ∧ OnlyB t W wr)) (fun iv _ => n.toNat - (intOf iv).toNat)
  case atStart => exact ⟨0, ⟨Nat.zero_le _, rfl⟩, cover ⟨HV.out, OnlyB.refl _ _⟩⟩
  case round =>
    obtain ⟨k, ⟨hk, rfl⟩, hrel⟩ := hrel
    obtain ⟨c0, c1, c2⟩ := three_cells hrel.out.1.hd
    obtain ⟨a, ha⟩ : ∃ a, Hid ((ackW m k v).wide = a) := ⟨_, cover rfl⟩
    obtain ⟨c, hc⟩ : ∃ c, Hid ((ackW m k v).cnt = c) := ⟨_, cover rfl⟩
    rw [ha.out] at c1
    rw [hc.out] at c2
    by_cases hlt : (k : Int) < n
    · by_cases hw : a < m
      · have HB : Hid (1 ≤ a ∧ 0 ≤ c ∧ c < a ∧ m ≤ 1000000 ∧ (k : Int) + 1 ≤ n ∧ k + 1 ≤ n.toNat ∧ a + 1 ≤ m) := cover (by
          have h1 := hrel.out.1.ok
          have h2 := h1.2.2.2.1 (by rw [ha.out]; exact hw)
          rw [ha.out, hc.out] at h2
          have h3 := h1.1
          have h4 := h1.2.2.1
          rw [ha.out] at h3
          rw [hc.out] at h4
          exact ⟨h3, h4, h2, hrel.out.1.mb, by omega, by omega, by omega⟩)
        have HS := cover (stepW_in (s := ackW m k v) (by rw [ha.out]; exact hw))
        rw [ha.out, hc.out] at HS
        have HW1 : Hid (wrap64 (c + 1) = c + 1) := cover (IntWalk.wrap64_in _ ⟨by have := HB.out; omega, by have := HB.out; omega⟩)
        have HW2 : Hid (wrap64 (a + 1) = a + 1) := cover (IntWalk.wrap64_in _ ⟨by have := HB.out; omega, by have := HB.out; omega⟩)
        have HW3 : Hid (wrap64 ((k : Int) + 1) = (k : Int) + 1) := cover (IntWalk.wrap64_in _ ⟨by omega, by have := HB.out; have := HN.out; omega⟩)
        go_upto_region 1 with fail
        go_quiet (fail)
        go_upto_region 3 with fail
        generalize hq : World.drewN wr _ = w1
        have H1 : Hid (WiR w1 t m (ackW m k v) ∧ OnlyB t W w1) := cover (by rw [← hq]; exact ⟨hrel.out.1.drewN _, hrel.out.2.drewN _⟩)
        have T1 := H1.out.1.hd
        rw [ha.out, hc.out] at T1
        clear hq hrel c0 c1 c2 hk hlt hw
        obtain ⟨w2, hw2⟩ : ∃ w2, Hid (w2 = w1.setCell ⟨t, 2, none⟩ (.int .i64 (c + 1))) := ⟨_, cover rfl⟩
        have T2 : w2.heap[t]? = some (.cells (vC m a (c + 1)) 36 (0, 0)) := by rw [hw2.out, set_block T1]; rfl
        have O2 : Hid (OnlyB t W w2) := cover (by rw [hw2.out]; exact H1.out.2.setCell 2 _)
        obtain ⟨c0, c1, c2⟩ := three_cells T1
        obtain ⟨d0, d1, d2⟩ := three_cells T2
        have F1 := not_frozen T1 2
        have T2' := cover T2
        have hw1 := HW1.out
        clear T1 T2
        go_upto_region 4 with (rw [← hw2.out])
        clear c0 c1 c2 F1 hw1
        go_quiet (fail)
        go_upto_if 36 with fail
        generalize hq : World.drewN w2 _ = w3
        have T3 : w3.heap[t]? = some (.cells (vC m a (c + 1)) 36 (0, 0)) := by rw [← hq]; exact T2'.out
        have O3 : Hid (OnlyB t W w3) := cover (by rw [← hq]; exact O2.out.drewN _)
        clear hq d0 d1 d2 T2' O2 hw2
        by_cases hs : a ≤ c + 1
        · have E := cover (HS.out.1 hs)
          obtain ⟨w4, hw4⟩ : ∃ w4, Hid (w4 = w3.setCell ⟨t, 1, none⟩ (.int .i64 (a + 1))) := ⟨_, cover rfl⟩
          have T4 : w4.heap[t]? = some (.cells (vC m (a + 1) (c + 1)) 36 (0, 0)) := by rw [hw4.out, set_block T3]; rfl
          obtain ⟨w5, hw5⟩ : ∃ w5, Hid (w5 = w4.setCell ⟨t, 2, none⟩ (.int .i64 0)) := ⟨_, cover rfl⟩
          have T5 : w5.heap[t]? = some (.cells (vC m (a + 1) 0) 36 (0, 0)) := by rw [hw5.out, set_block T4]; rfl
          have HNX : Hid (WiR w5 t m (ackW m (k + 1) v) ∧ OnlyB t W w5) := cover (by
            refine ⟨⟨(WOk.acked HV.out.ok (k + 1)).1, HV.out.mb, ?_⟩, by rw [hw5.out, hw4.out]; exact (O3.out.setCell 1 _).setCell 2 _⟩
            rw [show ackW m (k + 1) v = stepW m (ackW m k v) from rfl, E.out]
            exact T5)
          obtain ⟨c0, c1, c2⟩ := three_cells T3
          obtain ⟨d0, d1, d2⟩ := three_cells T4
          have F3 := not_frozen T3 1
          have F4 := not_frozen T4 2
          have hw2' := HW2.out
          have hw3' := HW3.out
          clear T3 T4 T5 O3 E
          go_wp2_with (first
            | (rw [← hw4.out])
            | (rw [← hw5.out]))
          go_roundw
          case rel => exact ⟨k + 1, ⟨HB.out.2.2.2.2.2.1, by go_num⟩, HNX⟩
          case measure =>
            have h9 := HB.out.2.2.2.2.2.1
            rw [hw3']
            clear hw2' hw3'
            simp [intOf]
            omega
        · have E := cover (HS.out.2 hs)
          have HNX : Hid (WiR w3 t m (ackW m (k + 1) v) ∧ OnlyB t W w3) := cover (by
            refine ⟨⟨(WOk.acked HV.out.ok (k + 1)).1, HV.out.mb, ?_⟩, O3.out⟩
            rw [show ackW m (k + 1) v = stepW m (ackW m k v) from rfl, E.out]
            exact T3)
          have hs' : ¬ c + 1 ≥ a := hs
          have hw3' := HW3.out
          clear T3 O3 E
          go_wp2
          go_roundw
          case rel => exact ⟨k + 1, ⟨HB.out.2.2.2.2.2.1, by go_num⟩, HNX⟩
          case measure =>
            have h9 := HB.out.2.2.2.2.2.1
            rw [hw3']
            clear hw3' hs hs'
            simp [intOf]
            omega
      · have hst := ackW_stop (m := m) (s := v) (j := k) (k := n.toNat) (by rw [ha.out]; omega) hk
        have HNX : Hid (∀ d, WiR (wr.drewN d) t m (ackW m n.toNat v) ∧ OnlyB t W (wr.drewN d)) := cover fun d => by rw [hst]; exact ⟨hrel.out.1.drewN d, hrel.out.2.drewN d⟩
        clear hst
        go_upto_region 1 with fail
        go_quiet (fail)
        go_wp2
        go_end0
        exact ⟨rfl, HNX.out _⟩
    · have hkn : k = n.toNat := by omega
      have HNX : Hid (∀ d, WiR (wr.drewN d) t m (ackW m n.toNat v) ∧ OnlyB t W (wr.drewN d)) := cover fun d => by rw [← hkn]; exact ⟨hrel.out.1.drewN d, hrel.out.2.drewN d⟩
      clear hkn
      go_upto_region 1 with fail
      go_quiet (fail)
      go_wp2
      go_end0
      exact ⟨rfl, HNX.out _⟩
end Go.Proofs.Ytdjfnhplbhhgiaa
