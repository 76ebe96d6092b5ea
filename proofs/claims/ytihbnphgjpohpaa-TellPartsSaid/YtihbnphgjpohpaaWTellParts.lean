/- The walk of TellParts. -/
import Derived.Deep.CutBlock
import Derived.Deep.DeepCutAuto
import Derived.Test.YtihbnphgjpohpaaTAwake
import Derived.Test.YtihbnphgjpohpaaTArr
namespace Go.Proofs.Ytihbnphgjpohpaa
open Go.RowKit
set_option linter.unusedVariables false
set_option linter.unusedSimpArgs false

set_option maxHeartbeats 1600000 in
set_option maxRecDepth 100000 in
theorem walk_TellParts (p : PV) (A : Option Addr) (c : Nat) (st0 : Int) (y0 y1 y2 : Int) (w : World)
    (hlc : p.info.length ≤ c) (hcm : c ≤ maxLen) (hr : Row w w.heap.size A p.info.length p.info) (hb : Bts p.info) (hn : A = none → c = 0)
    (hst : (Lit.int .u8 st0).wf = true) (hy : Bts [y0, y1, y2]) :
    Calls Try.prog 5 #[.agg #[.int .i64 p.to, .int .i64 p.frm, .bool p.resp, .int .i64 p.form, .int .i64 p.kind, .int .i64 p.ns, .int .i64 p.nr, .bool p.poll, .slice A p.info.length c], .int .u8 st0, .agg #[.int .u8 y0, .int .u8 y1, .int .u8 y2]] w fun e w' => e = .returned (.bool true) ∧ Below w.heap.size w w' := by
  clear hr hb hn
  have hst1 := byte_wf hst
  obtain ⟨hy0, hy1⟩ := hy y0 (by simp)
  obtain ⟨hy2, hy3⟩ := hy y1 (by simp)
  obtain ⟨hy4, hy5⟩ := hy y2 (by simp)
  clear hst hy
  have E0 := Go.i64_and127 y0
  have E1 := Go.i64_and127 y1
  have E2 := Go.i64_and127 y2
  obtain ⟨w1, hw1⟩ : ∃ w1, Hid (w1 = (w.alloc (.cells #[.int .i64 p.to, .int .i64 p.frm, .bool p.resp, .int .i64 p.form, .int .i64 p.kind, .int .i64 p.ns, .int .i64 p.nr, .bool p.poll, .slice A p.info.length c] 26)).alloc (.cells #[.int .u8 y0, .int .u8 y1, .int .u8 y2] 32)) := ⟨_, cover rfl⟩
  have hs1 : w1.heap.size = w.heap.size + 2 := by rw [hw1.out]; simp
  have H1 : Hid (Below w.heap.size w w1) := cover (by rw [hw1.out]; exact ((Below.refl _ _).alloc (Nat.le_refl _) _).alloc (by simp) _)
  have G1 : Hid (w1.heap[w.heap.size]? = some (.cells #[.int .i64 p.to, .int .i64 p.frm, .bool p.resp, .int .i64 p.form, .int .i64 p.kind, .int .i64 p.ns, .int .i64 p.nr, .bool p.poll, .slice A p.info.length c] 26 (0, 0))) := cover (by rw [hw1.out]; exact (((Below.refl _ _).alloc (Nat.le_refl _) _).block _ (by simp)).trans (heap_alloc_new _ _))
  have M1 : Hid (w1.heap[w.heap.size + 1]? = some (.cells #[.int .u8 y0, .int .u8 y1, .int .u8 y2] 32 (0, 0))) := cover (by rw [hw1.out, show w.heap.size + 1 = (w.alloc (.cells #[.int .i64 p.to, .int .i64 p.frm, .bool p.resp, .int .i64 p.form, .int .i64 p.kind, .int .i64 p.ns, .int .i64 p.nr, .bool p.poll, .slice A p.info.length c] 26)).heap.size by simp]; exact heap_alloc_new _ _)
  go_enter Try.func5, Try.ntmps5
  go_wp2_with fail
  rw [← hw1.out]
  refine (awake_any w1).mono ?_
  rintro e w2 ⟨rfl, hb2⟩
  have hs2 := hb2.size
  have H2 := cover (H1.out.trans (hb2.mono (by omega)))
  have G2 := cover ((hb2.block _ (by omega)).trans G1.out)
  have M2 := cover ((hb2.block _ (by omega)).trans M1.out)
  clear hb2
  obtain ⟨p0, p1, p2, p3, p4, p5, p6, p7, p8⟩ := pdu_cells G2.out
  obtain ⟨n0, n1, n2⟩ := cells3 M2.out
  by_cases hL : 2000 < p.info.length
  · have hLi : (2000 : Int) < (p.info.length : Int) := by omega
    go_wp2
    go_ret
    exact ⟨rfl, H2.out⟩
  have hLi : ¬ (2000 : Int) < (p.info.length : Int) := by omega
  have hs14 : 0 ≤ st0 % 14 ∧ st0 % 14 ≤ 13 := by omega
  go_wp2_with fail
  refine (event_any p (st0 % 14) (y0 % 128) (y1 % 128) (y2 % 128) A c w2).mono ?_
  rintro e w3 ⟨rfl, hb3⟩
  have hs3 := hb3.size
  have H3 := cover (H2.out.trans (hb3.mono (by omega)))
  have G3 := cover ((hb3.block _ (by omega)).trans G2.out)
  clear hb3 p0 p1 p2 p3 p4 p5 p6 p7 p8 n0 n1 n2 M1 M2
  obtain ⟨p0, p1, p2, p3, p4, p5, p6, p7, p8⟩ := pdu_cells G3.out
  have HB := cover (fun h => event_bd (p := p) h (st0 % 14) (y0 % 128) (y1 % 128) (y2 % 128))
  have H33 := cover (fun h => @event_three p h (st0 % 14) (y0 % 128) (y1 % 128) (y2 % 128))
  have HNO := cover (fun h => @event_no p h (st0 % 14) (y0 % 128) (y1 % 128) (y2 % 128))
  obtain ⟨ev, hev⟩ : ∃ z, Hid (eventP p (st0 % 14) (y0 % 128) (y1 % 128) (y2 % 128) = z) := ⟨_, cover rfl⟩
  simp only [hev.out] at HB H33 HNO ⊢
  clear E0 E1 E2 hy0 hy1 hy2 hy3 hy4 hy5
  go_wp2_with fail
  refine (type_any p A c w3).mono ?_
  rintro e w4 ⟨rfl, hb4⟩
  have hs4 := hb4.size
  have H4 := cover (H3.out.trans (hb4.mono (by omega)))
  have G4 := cover ((hb4.block _ (by omega)).trans G3.out)
  clear hb4 p0 p1 p2 p3 p4 p5 p6 p7 p8
  obtain ⟨p0, p1, p2, p3, p4, p5, p6, p7, p8⟩ := pdu_cells G4.out
  obtain ⟨t, hT⟩ : ∃ z, Hid (typeP p = z) := ⟨_, cover rfl⟩
  rw [hT.out] at HB H33 HNO ⊢
  by_cases ht : t = 2
  case neg =>
    have hev1 : ev = -1 := HNO.out ht
    have ht1 : (t != 2) = true := bne_iff_ne.2 ht
    subst hev1
    clear ht HB H33 HNO
    go_wp2
    go_ret
    exact ⟨rfl, H4.out⟩
  subst ht
  obtain ⟨hb8, hb28⟩ := HB.out rfl
  have HC := cover (H33.out rfl)
  clear HB H33 HNO
  by_cases h13 : ev < 13
  · go_wp2
    go_ret
    exact ⟨rfl, H4.out⟩
  by_cases h28 : ev = 28
  · have b28 : (ev == 28) = true := beq_iff_eq.2 h28
    subst h28
    go_wp2
    go_ret
    exact ⟨rfl, H4.out⟩
  have b28 : (ev == 28) = false := beq_eq_false_iff_ne.2 h28
  by_cases h8 : st0 % 14 < 8
  · go_wp2
    go_ret
    exact ⟨rfl, H4.out⟩
  obtain ⟨hc1, hc2⟩ := HC.out (by omega) (by omega) h28
  have HC1 := cover hc1
  have HC2 := cover hc2
  have hk3 : 0 ≤ (ev - 13) % 3 ∧ (ev - 13) % 3 ≤ 2 := by omega
  clear hc1 hc2 HC
  obtain ⟨k, hK⟩ : ∃ z, Hid ((ev - 13) % 3 = z) := ⟨_, cover rfl⟩
  rw [hK.out] at HC1 HC2 hk3
  go_wp2_with fail
  refine (asks_any p A c w4).mono ?_
  rintro e w5 ⟨rfl, hb5⟩
  have hs5 := hb5.size
  have H5 := cover (H4.out.trans (hb5.mono (by omega)))
  have G5 := cover ((hb5.block _ (by omega)).trans G4.out)
  clear hb5 p0 p1 p2 p3 p4 p5 p6 p7 p8
  obtain ⟨p0, p1, p2, p3, p4, p5, p6, p7, p8⟩ := pdu_cells G5.out
  rw [hK.out]
  rcases ha : asksP p with _ | _
  · have hk1 : (k == 1) = false := beq_eq_false_iff_ne.2 (fun e => by have := HC1.out.1 e; rw [ha] at this; cases this)
    by_cases hk2 : k = 2
    · obtain ⟨h1, h2, h3⟩ := HC2.out hk2
      rw [h1] at p2
      rw [h2] at p7
      subst hk2
      clear ha h1 h2
      go_wp2
      go_ret
      exact ⟨rfl, H5.out⟩
    · have hk2' : (k != 2) = true := bne_iff_ne.2 hk2
      clear ha hk2
      go_wp2
      go_ret
      exact ⟨rfl, H5.out⟩
  · have hk1 : k = 1 := HC1.out.2 ha
    subst hk1
    clear ha
    go_wp2
    go_ret
    exact ⟨rfl, H5.out⟩
end Go.Proofs.Ytihbnphgjpohpaa
