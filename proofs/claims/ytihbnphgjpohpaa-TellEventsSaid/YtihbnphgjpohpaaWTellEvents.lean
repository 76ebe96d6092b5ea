/- The walk of TellEvents. -/
import Derived.Test.YtihbnphgjpohpaaTAwake
import Derived.Test.YtihbnphgjpohpaaTREv
import Derived.Test.YtihbnphgjpohpaaTArr
namespace Go.Proofs.Ytihbnphgjpohpaa
open Go.RowKit
set_option linter.unusedVariables false
set_option linter.unusedSimpArgs false

set_option maxHeartbeats 1600000 in
set_option maxRecDepth 100000 in
theorem walk_TellEvents (p : PV) (A : Option Addr) (c : Nat) (st : Int) (vr va vs : Int) (w : World)
    (hlc : p.info.length ≤ c) (hcm : c ≤ maxLen) (hr : Row w w.heap.size A p.info.length p.info) (hb : Bts p.info) (hn : A = none → c = 0)
    (_ : (Lit.int .i64 st).wf = true) (_ : vs ≤ 9223372036854775807) :
    Calls Try.prog 4 #[.agg #[.int .i64 p.to, .int .i64 p.frm, .bool p.resp, .int .i64 p.form, .int .i64 p.kind, .int .i64 p.ns, .int .i64 p.nr, .bool p.poll, .slice A p.info.length c], .int .i64 st, .agg #[.int .i64 vr, .int .i64 va, .int .i64 vs]] w fun e w' => e = .returned (.bool true) ∧ Below w.heap.size w w' := by
  clear hr hb hn
  obtain ⟨w1, hw1⟩ : ∃ w1, Hid (w1 = (w.alloc (.cells #[.int .i64 p.to, .int .i64 p.frm, .bool p.resp, .int .i64 p.form, .int .i64 p.kind, .int .i64 p.ns, .int .i64 p.nr, .bool p.poll, .slice A p.info.length c] 26)).alloc (.cells #[.int .i64 vr, .int .i64 va, .int .i64 vs] 27)) := ⟨_, cover rfl⟩
  have hs1 : w1.heap.size = w.heap.size + 2 := by rw [hw1.out]; simp
  have H1 : Hid (Below w.heap.size w w1) := cover (by rw [hw1.out]; exact ((Below.refl _ _).alloc (Nat.le_refl _) _).alloc (by simp) _)
  have G1 : Hid (w1.heap[w.heap.size]? = some (.cells #[.int .i64 p.to, .int .i64 p.frm, .bool p.resp, .int .i64 p.form, .int .i64 p.kind, .int .i64 p.ns, .int .i64 p.nr, .bool p.poll, .slice A p.info.length c] 26 (0, 0))) := cover (by rw [hw1.out]; exact (((Below.refl _ _).alloc (Nat.le_refl _) _).block _ (by simp)).trans (heap_alloc_new _ _))
  have M1 : Hid (w1.heap[w.heap.size + 1]? = some (.cells #[.int .i64 vr, .int .i64 va, .int .i64 vs] 27 (0, 0))) := cover (by rw [hw1.out, show w.heap.size + 1 = (w.alloc (.cells #[.int .i64 p.to, .int .i64 p.frm, .bool p.resp, .int .i64 p.form, .int .i64 p.kind, .int .i64 p.ns, .int .i64 p.nr, .bool p.poll, .slice A p.info.length c] 26)).heap.size by simp]; exact heap_alloc_new _ _)
  go_enter Try.func4, Try.ntmps4
  go_wp2_with fail
  rw [← hw1.out]
  refine (awake_any w1).mono ?_
  rintro e w2 ⟨rfl, hb2⟩
  have hs2 := hb2.size
  have H2 := cover (H1.out.trans (hb2.mono (by omega)))
  have G2 := cover ((hb2.block _ (by omega)).trans G1.out)
  have M2 := cover ((hb2.block _ (by omega)).trans M1.out)
  clear hb2
  obtain ⟨p0, p1, p2, p3, p4, p5, p6, p7, p8⟩ := pdu_cells G2.out
  obtain ⟨n0, n1, n2⟩ := cells3 M2.out
  by_cases hL : 2000 < p.info.length
  · have hLi : (2000 : Int) < (p.info.length : Int) := by omega
    go_wp2
    go_ret
    exact ⟨rfl, H2.out⟩
  have hLi : ¬ (2000 : Int) < (p.info.length : Int) := by omega
  have KS : Hid (∀ W' : World, Below w2.heap.size w2 W' → ((World.cell? W' ⟨w.heap.size, 0, none⟩ = some (.int .i64 p.to) ∧ World.cell? W' ⟨w.heap.size, 1, none⟩ = some (.int .i64 p.frm) ∧ World.cell? W' ⟨w.heap.size, 2, none⟩ = some (.bool p.resp) ∧ World.cell? W' ⟨w.heap.size, 3, none⟩ = some (.int .i64 p.form) ∧ World.cell? W' ⟨w.heap.size, 4, none⟩ = some (.int .i64 p.kind) ∧ World.cell? W' ⟨w.heap.size, 5, none⟩ = some (.int .i64 p.ns) ∧ World.cell? W' ⟨w.heap.size, 6, none⟩ = some (.int .i64 p.nr) ∧ World.cell? W' ⟨w.heap.size, 7, none⟩ = some (.bool p.poll) ∧ World.cell? W' ⟨w.heap.size, 8, none⟩ = some (.slice A p.info.length c)) ∧ (W'.cell? ⟨w.heap.size + 1, 0, none⟩ = some (.int .i64 vr) ∧ W'.cell? ⟨w.heap.size + 1, 1, none⟩ = some (.int .i64 va) ∧ W'.cell? ⟨w.heap.size + 1, 2, none⟩ = some (.int .i64 vs)) ∧ Below w2.heap.size w2 W')) := cover (fun W' hb => ⟨pdu_cells ((hb.block _ (by omega)).trans G2.out), cells3 ((hb.block _ (by omega)).trans M2.out), hb⟩)
  have step : ∀ {P : Program} {f : FuncId} {args : Array Value} {v : Value} {W : World}, Below w2.heap.size w2 W → Calls P f args W (fun e w' => e = .returned v ∧ Below W.heap.size W w') → Calls P f args W (fun e w' => e = .returned v ∧ Below w2.heap.size w2 w') :=
    fun hW h => h.mono fun e w' ⟨h1, h2⟩ => ⟨h1, hW.trans (h2.mono hW.size)⟩
  have C1 : Hid (∀ W, Below w2.heap.size w2 W → Calls Try.prog 11 #[.agg #[.int .i64 p.to, .int .i64 p.frm, .bool p.resp, .int .i64 p.form, .int .i64 p.kind, .int .i64 p.ns, .int .i64 p.nr, .bool p.poll, .slice A p.info.length c]] W fun e w' => e = .returned (.int .i64 (typeP p)) ∧ Below w2.heap.size w2 w') := cover (fun W hW => step hW (type_any p A c W))
  have C2 : Hid (∀ W, Below w2.heap.size w2 W → Calls Try.prog 12 #[.agg #[.int .i64 p.to, .int .i64 p.frm, .bool p.resp, .int .i64 p.form, .int .i64 p.kind, .int .i64 p.ns, .int .i64 p.nr, .bool p.poll, .slice A p.info.length c]] W fun e w' => e = .returned (.int .i64 (typeP p)) ∧ Below w2.heap.size w2 w') := cover (fun W hW => step hW (ref_type_any p A c W))
  have C3 : Hid (∀ W, Below w2.heap.size w2 W → Calls Try.prog 13 #[.agg #[.int .i64 p.to, .int .i64 p.frm, .bool p.resp, .int .i64 p.form, .int .i64 p.kind, .int .i64 p.ns, .int .i64 p.nr, .bool p.poll, .slice A p.info.length c]] W fun e w' => e = .returned (.bool (asksP p)) ∧ Below w2.heap.size w2 w') := cover (fun W hW => step hW (asks_any p A c W))
  have C4 : Hid (∀ W, Below w2.heap.size w2 W → Calls Try.prog 14 #[.agg #[.int .i64 p.to, .int .i64 p.frm, .bool p.resp, .int .i64 p.form, .int .i64 p.kind, .int .i64 p.ns, .int .i64 p.nr, .bool p.poll, .slice A p.info.length c]] W fun e w' => e = .returned (.bool (asksP p)) ∧ Below w2.heap.size w2 w') := cover (fun W hW => step hW (ref_asks_any p A c W))
  have C5 : Hid (∀ W, Below w2.heap.size w2 W → Calls Try.prog 15 #[.agg #[.int .i64 p.to, .int .i64 p.frm, .bool p.resp, .int .i64 p.form, .int .i64 p.kind, .int .i64 p.ns, .int .i64 p.nr, .bool p.poll, .slice A p.info.length c], .int .i64 va, .int .i64 vs] W fun e w' => e = .returned (.bool (wrongP p va vs)) ∧ Below w2.heap.size w2 w') := cover (fun W hW => step hW (wrong_any p va vs A c W))
  have C6 : Hid (∀ W, Below w2.heap.size w2 W → Calls Try.prog 16 #[.agg #[.int .i64 p.to, .int .i64 p.frm, .bool p.resp, .int .i64 p.form, .int .i64 p.kind, .int .i64 p.ns, .int .i64 p.nr, .bool p.poll, .slice A p.info.length c], .int .i64 va, .int .i64 vs] W fun e w' => e = .returned (.bool (wrongP p va vs)) ∧ Below w2.heap.size w2 w') := cover (fun W hW => step hW (ref_wrong_any p va vs A c W))
  have C7 : Hid (∀ W, Below w2.heap.size w2 W → Calls Try.prog 10 #[.agg #[.int .i64 p.to, .int .i64 p.frm, .bool p.resp, .int .i64 p.form, .int .i64 p.kind, .int .i64 p.ns, .int .i64 p.nr, .bool p.poll, .slice A p.info.length c], .int .i64 st, .int .i64 vr, .int .i64 va, .int .i64 vs] W fun e w' => e = .returned (.int .i64 (eventP p st vr va vs)) ∧ Below w2.heap.size w2 w') := cover (fun W hW => step hW (event_any p st vr va vs A c W))
  have C8 : Hid (∀ W, Below w2.heap.size w2 W → Calls Try.prog 17 #[.agg #[.int .i64 p.to, .int .i64 p.frm, .bool p.resp, .int .i64 p.form, .int .i64 p.kind, .int .i64 p.ns, .int .i64 p.nr, .bool p.poll, .slice A p.info.length c], .int .i64 st, .int .i64 vr, .int .i64 va, .int .i64 vs] W fun e w' => e = .returned (.int .i64 (eventP p st vr va vs)) ∧ Below w2.heap.size w2 w') := cover (fun W hW => step hW (ref_event_any p st vr va vs A c W))
  clear step
  go_upto_region 5 with fail
  obtain ⟨ty, hty⟩ : ∃ z, Hid (typeP p = z) := ⟨_, cover rfl⟩
  obtain ⟨ak, hak⟩ : ∃ z, Hid (asksP p = z) := ⟨_, cover rfl⟩
  obtain ⟨wr, hwr⟩ : ∃ z, Hid (wrongP p va vs = z) := ⟨_, cover rfl⟩
  obtain ⟨ev, hev⟩ : ∃ z, Hid (eventP p st vr va vs = z) := ⟨_, cover rfl⟩
  simp only [hty.out, hak.out, hwr.out, hev.out] at C1 C2 C3 C4 C5 C6 C7 C8
  have hbX := (Below.refl w2.heap.size w2).drew
  go_region_held3 (fun W' : World => (World.cell? W' ⟨w.heap.size, 0, none⟩ = some (.int .i64 p.to) ∧ World.cell? W' ⟨w.heap.size, 1, none⟩ = some (.int .i64 p.frm) ∧ World.cell? W' ⟨w.heap.size, 2, none⟩ = some (.bool p.resp) ∧ World.cell? W' ⟨w.heap.size, 3, none⟩ = some (.int .i64 p.form) ∧ World.cell? W' ⟨w.heap.size, 4, none⟩ = some (.int .i64 p.kind) ∧ World.cell? W' ⟨w.heap.size, 5, none⟩ = some (.int .i64 p.ns) ∧ World.cell? W' ⟨w.heap.size, 6, none⟩ = some (.int .i64 p.nr) ∧ World.cell? W' ⟨w.heap.size, 7, none⟩ = some (.bool p.poll) ∧ World.cell? W' ⟨w.heap.size, 8, none⟩ = some (.slice A p.info.length c)) ∧ (W'.cell? ⟨w.heap.size + 1, 0, none⟩ = some (.int .i64 vr) ∧ W'.cell? ⟨w.heap.size + 1, 1, none⟩ = some (.int .i64 va) ∧ W'.cell? ⟨w.heap.size + 1, 2, none⟩ = some (.int .i64 vs)) ∧ Below w2.heap.size w2 W')
    (exact KS.out _ hbX)
    (first
      | (go_at_call 11; refine (C1.out _ hbX).mono ?_; clear hbX; rintro e wX ⟨rfl, hbX⟩)
      | (go_at_call 12; refine (C2.out _ hbX).mono ?_; clear hbX; rintro e wX ⟨rfl, hbX⟩)
      | (go_at_call 13; refine (C3.out _ hbX).mono ?_; clear hbX; rintro e wX ⟨rfl, hbX⟩)
      | (go_at_call 14; refine (C4.out _ hbX).mono ?_; clear hbX; rintro e wX ⟨rfl, hbX⟩)
      | (go_at_call 15; refine (C5.out _ hbX).mono ?_; clear hbX; rintro e wX ⟨rfl, hbX⟩)
      | (go_at_call 16; refine (C6.out _ hbX).mono ?_; clear hbX; rintro e wX ⟨rfl, hbX⟩)
      | (go_at_call 10; refine (C7.out _ hbX).mono ?_; clear hbX; rintro e wX ⟨rfl, hbX⟩)
      | (go_at_call 17; refine (C8.out _ hbX).mono ?_; clear hbX; rintro e wX ⟨rfl, hbX⟩))
  have HX := cover (H2.out.trans (hbX.mono (by omega)))
  go_wp2
  go_ret
  exact ⟨rfl, HX.out⟩
end Go.Proofs.Ytihbnphgjpohpaa
