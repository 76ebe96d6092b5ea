/- The walk of TellRings. -/
import Derived.Test.YtihbnphgjpohpaaTAwake
import Derived.Test.YtihbnphgjpohpaaTArr
import Derived.BigQuiet
import Derived.Deep.QuietTactic
namespace Go.Proofs.Ytihbnphgjpohpaa
open Go.RowKit
set_option linter.unusedVariables false
set_option linter.unusedSimpArgs false

set_option maxHeartbeats 1600000 in
set_option maxRecDepth 100000 in
theorem walk_TellRings (p : PV) (A : Option Addr) (c : Nat) (st0 : Int) (y0 y1 y2 y3 : Int) (w : World)
    (hlc : p.info.length ≤ c) (hcm : c ≤ maxLen) (hr : Row w w.heap.size A p.info.length p.info) (hb : Bts p.info) (hn : A = none → c = 0)
    (hst : (Lit.int .u8 st0).wf = true) (hy : Bts [y0, y1, y2, y3]) :
    Calls Try.prog 6 #[.agg #[.int .i64 p.to, .int .i64 p.frm, .bool p.resp, .int .i64 p.form, .int .i64 p.kind, .int .i64 p.ns, .int .i64 p.nr, .bool p.poll, .slice A p.info.length c], .int .u8 st0, .agg #[.int .u8 y0, .int .u8 y1, .int .u8 y2, .int .u8 y3]] w fun e w' => e = .returned (.bool true) ∧ Below w.heap.size w w' := by
  clear hr hb hn
  have hst1 := byte_wf hst
  have hy0 := hy y0 (by simp)
  have hy1 := hy y1 (by simp)
  have hy2 := hy y2 (by simp)
  have hy3 := hy y3 (by simp)
  clear hst hy
  have E0 := Go.i64_and127 y0
  have E1 := Go.i64_and127 y1
  have E2 := Go.i64_and127 y2
  have E3 := Go.i64_and127 y3
  obtain ⟨w1, hw1⟩ : ∃ w1, Hid (w1 = (w.alloc (.cells #[.int .i64 p.to, .int .i64 p.frm, .bool p.resp, .int .i64 p.form, .int .i64 p.kind, .int .i64 p.ns, .int .i64 p.nr, .bool p.poll, .slice A p.info.length c] 26)).alloc (.cells #[.int .u8 y0, .int .u8 y1, .int .u8 y2, .int .u8 y3] 34)) := ⟨_, cover rfl⟩
  have hs1 : w1.heap.size = w.heap.size + 2 := by rw [hw1.out]; simp
  have H1 : Hid (Below w.heap.size w w1) := cover (by rw [hw1.out]; exact ((Below.refl _ _).alloc (Nat.le_refl _) _).alloc (by simp) _)
  have G1 : Hid (w1.heap[w.heap.size]? = some (.cells #[.int .i64 p.to, .int .i64 p.frm, .bool p.resp, .int .i64 p.form, .int .i64 p.kind, .int .i64 p.ns, .int .i64 p.nr, .bool p.poll, .slice A p.info.length c] 26 (0, 0))) := cover (by rw [hw1.out]; exact (((Below.refl _ _).alloc (Nat.le_refl _) _).block _ (by simp)).trans (heap_alloc_new _ _))
  have M1 : Hid (w1.heap[w.heap.size + 1]? = some (.cells #[.int .u8 y0, .int .u8 y1, .int .u8 y2, .int .u8 y3] 34 (0, 0))) := cover (by rw [hw1.out, show w.heap.size + 1 = (w.alloc (.cells #[.int .i64 p.to, .int .i64 p.frm, .bool p.resp, .int .i64 p.form, .int .i64 p.kind, .int .i64 p.ns, .int .i64 p.nr, .bool p.poll, .slice A p.info.length c] 26)).heap.size by simp]; exact heap_alloc_new _ _)
  go_enter Try.func6, Try.ntmps6
  go_wp2_with fail
  rw [← hw1.out]
  refine (awake_any w1).mono ?_
  rintro e w2 ⟨rfl, hb2⟩
  have hs2 := hb2.size
  have H2 := cover (H1.out.trans (hb2.mono (by omega)))
  have G2 := cover ((hb2.block _ (by omega)).trans G1.out)
  have M2 := cover ((hb2.block _ (by omega)).trans M1.out)
  clear hb2
  obtain ⟨p0, p1, p2, p3, p4, p5, p6, p7, p8⟩ := pdu_cells G2.out
  go_wp2_with fail
  refine (ref_may_any p A c w2).mono ?_
  rintro e w3 ⟨rfl, hb3⟩
  have hs3 := hb3.size
  have H3 := cover (H2.out.trans (hb3.mono (by omega)))
  have G3 := cover ((hb3.block _ (by omega)).trans G2.out)
  have M3 := cover ((hb3.block _ (by omega)).trans M2.out)
  clear hb3 p0 p1 p2 p3 p4 p5 p6 p7 p8
  obtain ⟨p0, p1, p2, p3, p4, p5, p6, p7, p8⟩ := pdu_cells G3.out
  obtain ⟨n0, n1, n2, n3⟩ := cells4 M3.out
  rcases hm : mayB p with _ | _
  · clear hm
    go_wp2
    go_ret
    exact ⟨rfl, H3.out⟩
  have HM := cover (mayB_iff.1 hm)
  clear hm
  by_cases hf : p.form = 2
  · have bf : (p.form == 2) = true := beq_iff_eq.2 hf
    clear hf
    go_wp2
    go_ret
    exact ⟨rfl, H3.out⟩
  have bf : (p.form == 2) = false := beq_eq_false_iff_ne.2 hf
  have HF := cover hf
  clear hf
  have hs14 : 0 ≤ st0 % 14 ∧ st0 % 14 ≤ 13 := by omega
  obtain ⟨vr, hVR⟩ : ∃ z, Hid (y0 % 128 = z) := ⟨_, cover rfl⟩
  obtain ⟨va, hVA⟩ : ∃ z, Hid (y1 % 128 = z) := ⟨_, cover rfl⟩
  obtain ⟨vs, hVS⟩ : ∃ z, Hid (y2 % 128 = z) := ⟨_, cover rfl⟩
  obtain ⟨u, hU⟩ : ∃ z, Hid (y3 % 128 = z) := ⟨_, cover rfl⟩
  obtain ⟨st, hST⟩ : ∃ z, Hid (st0 % 14 = z) := ⟨_, cover rfl⟩
  have bvr : 0 ≤ vr ∧ vr ≤ 127 := by have := hVR.out; omega
  have bva : 0 ≤ va ∧ va ≤ 127 := by have := hVA.out; omega
  have bvs : 0 ≤ vs ∧ vs ≤ 127 := by have := hVS.out; omega
  have bu : 0 ≤ u ∧ u ≤ 127 := by have := hU.out; omega
  rw [hVR.out] at E0
  rw [hVA.out] at E1
  rw [hVS.out] at E2
  rw [hU.out] at E3
  go_upto_region 5 with fail
  go_quiet (fail)
  have H4 := cover (below_drewN H3.out nq)
  have G4 : Hid ((w3.drewN nq).heap[w.heap.size]? = some (.cells #[.int .i64 p.to, .int .i64 p.frm, .bool p.resp, .int .i64 p.form, .int .i64 p.kind, .int .i64 p.ns, .int .i64 p.nr, .bool p.poll, .slice A p.info.length c] 26 (0, 0))) := cover G3.out
  have M4 : Hid ((w3.drewN nq).heap[w.heap.size + 1]? = some (.cells #[.int .u8 y0, .int .u8 y1, .int .u8 y2, .int .u8 y3] 34 (0, 0))) := cover M3.out
  have hs4 : w3.heap.size ≤ (w3.drewN nq).heap.size := Nat.le_refl _
  generalize w3.drewN nq = w4 at H4 G4 M4 hs4 ⊢
  clear p0 p1 p2 p3 p4 p5 p6 p7 p8 n0 n1 n2 n3
  obtain ⟨p0, p1, p2, p3, p4, p5, p6, p7, p8⟩ := pdu_cells G4.out
  obtain ⟨n0, n1, n2, n3⟩ := cells4 M4.out
  rw [hST.out]
  go_upto_region 6 with fail
  go_quiet (fail)
  have H5 := cover (below_drewN H4.out nq)
  have G5 : Hid ((w4.drewN nq).heap[w.heap.size]? = some (.cells #[.int .i64 p.to, .int .i64 p.frm, .bool p.resp, .int .i64 p.form, .int .i64 p.kind, .int .i64 p.ns, .int .i64 p.nr, .bool p.poll, .slice A p.info.length c] 26 (0, 0))) := cover G4.out
  have hs5 : w4.heap.size ≤ (w4.drewN nq).heap.size := Nat.le_refl _
  generalize w4.drewN nq = w5 at H5 G5 hs5 ⊢
  clear p0 p1 p2 p3 p4 p5 p6 p7 p8 n0 n1 n2 n3 E0 E1 E2 E3
  obtain ⟨p0, p1, p2, p3, p4, p5, p6, p7, p8⟩ := pdu_cells G5.out
  go_wp2_with fail
  refine (event_any p st vr va vs A c w5).mono ?_
  rintro e w6 ⟨rfl, hb6⟩
  have hs6 := hb6.size
  have H6 := cover (H5.out.trans (hb6.mono (by omega)))
  have G6 := cover ((hb6.block _ (by omega)).trans G5.out)
  clear hb6 p0 p1 p2 p3 p4 p5 p6 p7 p8
  have HE := cover (event_up HM.out HF.out st vr va vs u)
  obtain ⟨ev, hev⟩ : ∃ z, Hid (eventP p st vr va vs = z) := ⟨_, cover rfl⟩
  rw [hev.out] at HE ⊢
  obtain ⟨p0, p1, p2, p3, p4, p5, p6, p7, p8⟩ := pdu_cells G6.out
  obtain ⟨_, _, ⟨bns0, bns1⟩, ⟨bnr0, bnr1⟩, _⟩ := HM.out.1
  obtain ⟨q, hq⟩ : ∃ q : PV, Hid (upP p u = q) := ⟨_, cover rfl⟩
  rw [hq.out] at HE
  have hqi : Hid (q.info = p.info) := cover (by rw [← hq.out]; rfl)
  have fin : ∀ W : World, Below w6.heap.size w6 W → Calls Try.prog 10 #[.agg #[.int .i64 q.to, .int .i64 q.frm, .bool q.resp, .int .i64 q.form, .int .i64 q.kind, .int .i64 q.ns, .int .i64 q.nr, .bool q.poll, .slice A q.info.length c], .int .i64 st, .int .i64 ((vr + u) % 128), .int .i64 ((va + u) % 128), .int .i64 ((vs + u) % 128)] W fun e w' => e = .returned (.int .i64 ev) ∧ Below w6.heap.size w6 w' := fun W hW => by
    refine (event_any q st ((vr + u) % 128) ((va + u) % 128) ((vs + u) % 128) A c W).mono ?_
    rw [HE.out]
    rintro e w' ⟨rfl, hb'⟩
    exact ⟨rfl, hW.trans (hb'.mono hW.size)⟩
  have FIN := cover fin
  clear fin HE
  have hlt6 : w.heap.size < w6.heap.size := block_lt G6.out
  have a0 : ∀ o, (w6.alloc o).cell? ⟨w.heap.size, 0, none⟩ = _ := fun o => (World.cell?_alloc_lt w6 o ⟨w.heap.size, 0, none⟩ hlt6).trans p0
  have a3 : ∀ o, (w6.alloc o).cell? ⟨w.heap.size, 3, none⟩ = _ := fun o => (World.cell?_alloc_lt w6 o ⟨w.heap.size, 3, none⟩ hlt6).trans p3
  have a5 : ∀ o, (w6.alloc o).cell? ⟨w.heap.size, 5, none⟩ = _ := fun o => (World.cell?_alloc_lt w6 o ⟨w.heap.size, 5, none⟩ hlt6).trans p5
  have a6 : ∀ o, (w6.alloc o).cell? ⟨w.heap.size, 6, none⟩ = _ := fun o => (World.cell?_alloc_lt w6 o ⟨w.heap.size, 6, none⟩ hlt6).trans p6
  by_cases hf0 : p.form = 0
  · have bf0 : (p.form == 0) = true := beq_iff_eq.2 hf0
    have hqc : Hid ((#[.int .i64 q.to, .int .i64 q.frm, .bool q.resp, .int .i64 q.form, .int .i64 q.kind, .int .i64 q.ns, .int .i64 q.nr, .bool q.poll, .slice A q.info.length c] : Array Value) = #[.int .i64 p.to, .int .i64 p.frm, .bool p.resp, .int .i64 p.form, .int .i64 p.kind, .int .i64 ((p.ns + u) % 128), .int .i64 ((p.nr + u) % 128), .bool p.poll, .slice A p.info.length c]) := cover (by
      rw [← hq.out]
      unfold upP
      rw [if_pos hf0])
    rw [hqc.out] at FIN
    clear hf0
    go_wp2_with fail
    refine (FIN.out _ ((Below.refl _ _).alloc (Nat.le_refl _) _)).mono ?_
    rintro e w7 ⟨rfl, hb7⟩
    have H7 := cover (H6.out.trans (hb7.mono (by omega)))
    clear hb7
    go_wp2
    go_ret
    exact ⟨ret_bool (by simp), H7.out⟩
  · have bf0 : (p.form == 0) = false := beq_eq_false_iff_ne.2 hf0
    have hqc : Hid ((#[.int .i64 q.to, .int .i64 q.frm, .bool q.resp, .int .i64 q.form, .int .i64 q.kind, .int .i64 q.ns, .int .i64 q.nr, .bool q.poll, .slice A q.info.length c] : Array Value) = #[.int .i64 p.to, .int .i64 p.frm, .bool p.resp, .int .i64 p.form, .int .i64 p.kind, .int .i64 p.ns, .int .i64 ((p.nr + u) % 128), .bool p.poll, .slice A p.info.length c]) := cover (by
      rw [← hq.out]
      unfold upP
      rw [if_neg hf0])
    rw [hqc.out] at FIN
    clear hf0
    go_wp2_with fail
    refine (FIN.out _ ((Below.refl _ _).alloc (Nat.le_refl _) _)).mono ?_
    rintro e w7 ⟨rfl, hb7⟩
    have H7 := cover (H6.out.trans (hb7.mono (by omega)))
    clear hb7
    go_wp2
    go_ret
    exact ⟨ret_bool (by simp), H7.out⟩
end Go.Proofs.Ytihbnphgjpohpaa
