/- The walk of PduKinds. -/
import Derived.Deep.CutBlock
import Derived.Deep.DeepCutAuto
import Derived.Deep.RegionHeld3
import Derived.Test.YtohegiphdgihpaaFHeld
import Derived.Test.YtohegiphdgihpaaWPduCodes
namespace Go.Proofs.Ytohegiphdgihpaa
open Go.RowKit
set_option linter.unusedVariables false
set_option linter.unusedSimpArgs false

/-- may it be a response and none? -/
def bothB (p : PV) : Bool := p.form != 2 || p.kind == 1 || p.kind == 2 || p.kind == 8 || p.kind == 9
theorem both_is {p : PV} (h : MayP p) : mayB { p with resp := !p.resp } = bothB p := by
  refine bool_iff ?_
  rw [mayB_iff, may_resp h]
  simp [bothB]
  omega
theorem next_is {p : PV} (h : MayP p) : mayB { p with ns := p.ns + 1 } = (p.form == 0 && decide (p.ns < 127)) := by
  refine bool_iff ?_
  rw [mayB_iff, may_ns h]
  simp
theorem poll_is {p : PV} (h : MayP p) : mayB { p with poll := !p.poll } = true := mayB_yes (may_poll h _)

set_option maxRecDepth 100000 in
set_option maxHeartbeats 6400000 in
theorem walk_PduKinds (p : PV) (A : Option Addr) (c : Nat) (w : World)
    (hlc : p.info.length ≤ c) (hcm : c ≤ maxLen) (hr : Row w w.heap.size A p.info.length p.info) (hb : Bts p.info) (hn : A = none → c = 0) :
    Calls Try.prog 7 #[.agg #[.int .i64 p.to, .int .i64 p.frm, .bool p.resp, .int .i64 p.form, .int .i64 p.kind, .int .i64 p.ns, .int .i64 p.nr, .bool p.poll, .slice A p.info.length c]] w fun e w' => e = .returned (.bool true) ∧ Below w.heap.size w w' := by
  clear hr hb hn
  obtain ⟨w1, hw1⟩ : ∃ w1, Hid (w1 = w.alloc (.cells #[.int .i64 p.to, .int .i64 p.frm, .bool p.resp, .int .i64 p.form, .int .i64 p.kind, .int .i64 p.ns, .int .i64 p.nr, .bool p.poll, .slice A p.info.length c] 25)) := ⟨_, cover rfl⟩
  have hs1 : w.heap.size < w1.heap.size := by rw [hw1.out]; simp
  have H1 : Hid (Below w.heap.size w w1) := cover (by rw [hw1.out]; exact (Below.refl _ _).alloc (Nat.le_refl _) _)
  have G1 : Hid (w1.heap[w.heap.size]? = some (.cells #[.int .i64 p.to, .int .i64 p.frm, .bool p.resp, .int .i64 p.form, .int .i64 p.kind, .int .i64 p.ns, .int .i64 p.nr, .bool p.poll, .slice A p.info.length c] 25 (0, 0))) := cover (by rw [hw1.out]; exact heap_alloc_new _ _)
  go_enter Try.func7, Try.ntmps7
  go_wp2_with fail
  rw [← hw1.out]
  refine (awake_any w1).mono ?_
  rintro e w2 ⟨rfl, hb2⟩
  have hs2 := hb2.size
  have H2 := cover (H1.out.trans (hb2.mono (by omega)))
  have G2 := cover ((hb2.block _ (by omega)).trans G1.out)
  clear hb2
  obtain ⟨p0, p1, p2, p3, p4, p5, p6, p7, p8⟩ := pdu_cells G2.out
  by_cases g1 : 2000 < (p.info.length : Int)
  · go_wp2
    go_ret
    exact ⟨rfl, H2.out⟩
  go_wp2_with fail
  refine (may_any p A c w2).mono ?_
  rintro e w3 ⟨rfl, hb3⟩
  have hs3 := hb3.size
  have H3 := cover (H2.out.trans (hb3.mono (by omega)))
  have G3 := cover ((hb3.block _ (by omega)).trans G2.out)
  clear hb3 p0 p1 p2 p3 p4 p5 p6 p7 p8
  rcases hm : mayB p with _ | _
  · go_wp2
    go_ret
    exact ⟨rfl, H3.out⟩
  have HP := cover (mayB_iff.1 hm)
  clear hm
  have P := cover (pdu_cells G3.out)
  obtain ⟨p0, p1, p2, p3, p4, p5, p6, p7, p8⟩ := P.out
  obtain ⟨⟨⟨t0, t1⟩, ⟨m0, m1, m2⟩, ⟨n0, n1⟩, ⟨r0, r1⟩, _⟩, _⟩ := HP.out
  have m3 : p.frm.tmod 2 = 0 := by rw [Int.tmod_eq_emod_of_nonneg m0]; exact m2
  have c1 : ¬ 255 < p.to := by omega
  have c2 : ¬ p.to < 0 := by omega
  have c3 : ¬ 127 < p.ns := by omega
  have c4 : ¬ 127 < p.nr := by omega
  go_upto_region 7 with fail
  have hodd : (p.to % 2 = 1 ∧ p.to.tmod 2 = 1) ∨ (p.to % 2 = 0 ∧ p.to.tmod 2 = 0) := by rw [Int.tmod_eq_emod_of_nonneg t0]; omega
  go_cut [65] (fun v wx => Hid (v = .bool false ∧ w3 = wx))
  case first =>
    rcases hodd with ⟨o1, o2⟩ | ⟨o1, o2⟩
    · obtain ⟨f2, hk⟩ := may_odd HP.out o1
      have e1 : (p.to.tmod 2 == 1) = true := by rw [o2]; rfl
      have e2 : (p.to % 2 == 1) = true := by rw [o1]; rfl
      have e3 : (p.form != 2) = false := by rw [f2]; rfl
      rcases hk with hk | hk | hk
      · have e4 : (p.kind != 0) = false := by rw [hk]; rfl
        clear o1 o2 f2 hk
        go_wp2_with fail
        go_meet
        exact cover ⟨rfl, rfl⟩
      · have e4 : (p.kind != 0) = true := by rw [hk]; rfl
        have e5 : (p.kind != 1) = false := by rw [hk]; rfl
        clear o1 o2 f2 hk
        go_wp2_with fail
        go_meet
        exact cover ⟨rfl, rfl⟩
      · have e4 : (p.kind != 0) = true := by rw [hk]; rfl
        have e5 : (p.kind != 1) = true := by rw [hk]; rfl
        have e6 : (p.kind != 2) = false := by rw [hk]; rfl
        clear o1 o2 f2 hk
        go_wp2_with fail
        go_meet
        exact cover ⟨rfl, rfl⟩
    · have e1 : (p.to.tmod 2 == 1) = false := by rw [o2]; rfl
      have e2 : (p.to % 2 == 1) = false := by rw [o1]; rfl
      clear o1 o2
      go_wp2_with fail
      go_meet
      exact cover ⟨rfl, rfl⟩
  case rest =>
    obtain ⟨hv, hwx⟩ := hcut.out
    subst hv
    subst hwx
    clear hcut hodd m3 c1 c2 c3 c4
    have z1 : w.heap.size < w3.heap.size := by omega
    have z2 : ¬ (w.heap.size = w3.heap.size) := by omega
    go_upto_region 11 with fail
    have Hw3 := H3
    have Gw3 := G3
    clear p0 p1 p2 p3 p4 p5 p6 p7 p8 H3 G3 z1 z2 G1 G2 H1 H2
    obtain ⟨pq, hpq⟩ : ∃ y : PV, Hid (y = { p with resp := !p.resp }) := ⟨_, cover rfl⟩
    obtain ⟨w4, hdw4⟩ : ∃ y, y = w3.alloc (.cells #[.int .i64 p.to, .int .i64 p.frm, .bool (!p.resp), .int .i64 p.form, .int .i64 p.kind, .int .i64 p.ns, .int .i64 p.nr, .bool p.poll, .slice A p.info.length c] 25) := ⟨_, rfl⟩
    have hbw4 : Below w3.heap.size w3 w4 := by rw [hdw4]; exact (Below.refl _ _).alloc (Nat.le_refl _) _
    have hzw4 : w3.heap.size < w4.heap.size := by rw [hdw4]; simp
    have Hw4 := cover (Hw3.out.trans (hbw4.mono (by omega)))
    have Gw4 := cover ((hbw4.block _ (by omega)).trans Gw3.out)
    have Qw4 : Hid (w4.heap[w3.heap.size]? = some (.cells #[.int .i64 pq.to, .int .i64 pq.frm, .bool pq.resp, .int .i64 pq.form, .int .i64 pq.kind, .int .i64 pq.ns, .int .i64 pq.nr, .bool pq.poll, .slice A pq.info.length c] 25 (0, 0))) := cover (by rw [hdw4, hpq.out]; exact heap_alloc_new _ _)
    rw [← hdw4]
    clear hdw4 hbw4
    obtain ⟨p0, p1, p2, p3, p4, p5, p6, p7, p8⟩ := pdu_cells Gw4.out
    go_cut [4] (fun v wx => Hid (v = .bool (bothB p) ∧ w4 = wx))
    case first =>
      rcases h1 : (p.form != 2) with _ | _
      · rcases h2 : (p.kind == 1) with _ | _
        · rcases h3 : (p.kind == 2) with _ | _
          · rcases h4 : (p.kind == 8) with _ | _
            · have HR : Hid (bothB p = (p.kind == 9)) := cover (by unfold bothB; rw [h1, h2, h3, h4]; rfl)
              go_wp2_with fail
              go_meet
              exact cover ⟨by rw [HR.out], rfl⟩
            · have HR : Hid (bothB p = true) := cover (by unfold bothB; rw [h1, h2, h3, h4]; rfl)
              go_wp2_with fail
              go_meet
              exact cover ⟨by rw [HR.out], rfl⟩
          · have HR : Hid (bothB p = true) := cover (by unfold bothB; rw [h1, h2, h3]; rfl)
            go_wp2_with fail
            go_meet
            exact cover ⟨by rw [HR.out], rfl⟩
        · have HR : Hid (bothB p = true) := cover (by unfold bothB; rw [h1, h2]; rfl)
          go_wp2_with fail
          go_meet
          exact cover ⟨by rw [HR.out], rfl⟩
      · have HR : Hid (bothB p = true) := cover (by unfold bothB; rw [h1]; rfl)
        go_wp2_with fail
        go_meet
        exact cover ⟨by rw [HR.out], rfl⟩
    case rest =>
    obtain ⟨hv, hwx⟩ := hcut.out
    subst hv
    subst hwx
    clear hcut
    have z1 : w.heap.size < w4.heap.size := by omega
    have z2 : ¬ (w.heap.size = w4.heap.size) := by omega
    go_upto_region 14 with fail
    clear p0 p1 p2 p3 p4 p5 p6 p7 p8 z1 z2
    obtain ⟨pu, hpu⟩ : ∃ y : PV, Hid (y = { p with poll := !p.poll }) := ⟨_, cover rfl⟩
    obtain ⟨w5, hdw5⟩ : ∃ y, y = w4.alloc (.cells #[.int .i64 p.to, .int .i64 p.frm, .bool p.resp, .int .i64 p.form, .int .i64 p.kind, .int .i64 p.ns, .int .i64 p.nr, .bool (!p.poll), .slice A p.info.length c] 25) := ⟨_, rfl⟩
    have hbw5 : Below w4.heap.size w4 w5 := by rw [hdw5]; exact (Below.refl _ _).alloc (Nat.le_refl _) _
    have hzw5 : w4.heap.size < w5.heap.size := by rw [hdw5]; simp
    have Hw5 := cover (Hw4.out.trans (hbw5.mono (by omega)))
    have Gw5 := cover ((hbw5.block _ (by omega)).trans Gw4.out)
    have Qw5 := cover ((hbw5.block _ (by omega)).trans Qw4.out)
    have Uw5 : Hid (w5.heap[w4.heap.size]? = some (.cells #[.int .i64 pu.to, .int .i64 pu.frm, .bool pu.resp, .int .i64 pu.form, .int .i64 pu.kind, .int .i64 pu.ns, .int .i64 pu.nr, .bool pu.poll, .slice A pu.info.length c] 25 (0, 0))) := cover (by rw [hdw5, hpu.out]; exact heap_alloc_new _ _)
    rw [← hdw5]
    clear hdw5 hbw5
    obtain ⟨p0, p1, p2, p3, p4, p5, p6, p7, p8⟩ := pdu_cells Gw5.out
    have z1 : w.heap.size < w5.heap.size := by omega
    have z2 : ¬ (w.heap.size = w5.heap.size) := by omega
    have wn : IntKind.i64.wrap (p.ns + 1) = p.ns + 1 := w64 ⟨by omega, by omega⟩
    go_upto_region 16 with fail
    clear p0 p1 p2 p3 p4 p5 p6 p7 p8 z1 z2 wn
    obtain ⟨pw, hpw⟩ : ∃ y : PV, Hid (y = { p with ns := p.ns + 1 }) := ⟨_, cover rfl⟩
    obtain ⟨w6, hdw6⟩ : ∃ y, y = w5.alloc (.cells #[.int .i64 p.to, .int .i64 p.frm, .bool p.resp, .int .i64 p.form, .int .i64 p.kind, .int .i64 (p.ns + 1), .int .i64 p.nr, .bool p.poll, .slice A p.info.length c] 25) := ⟨_, rfl⟩
    have hbw6 : Below w5.heap.size w5 w6 := by rw [hdw6]; exact (Below.refl _ _).alloc (Nat.le_refl _) _
    have hzw6 : w5.heap.size < w6.heap.size := by rw [hdw6]; simp
    have Hw6 := cover (Hw5.out.trans (hbw6.mono (by omega)))
    have Gw6 := cover ((hbw6.block _ (by omega)).trans Gw5.out)
    have Qw6 := cover ((hbw6.block _ (by omega)).trans Qw5.out)
    have Uw6 := cover ((hbw6.block _ (by omega)).trans Uw5.out)
    have Vw6 : Hid (w6.heap[w5.heap.size]? = some (.cells #[.int .i64 pw.to, .int .i64 pw.frm, .bool pw.resp, .int .i64 pw.form, .int .i64 pw.kind, .int .i64 pw.ns, .int .i64 pw.nr, .bool pw.poll, .slice A pw.info.length c] 25 (0, 0))) := cover (by rw [hdw6, hpw.out]; exact heap_alloc_new _ _)
    rw [← hdw6]
    clear hdw6 hbw6
    have P6 := cover (pdu_cells Gw6.out)
    have Q6 := cover (pdu_cells Qw6.out)
    have U6 := cover (pdu_cells Uw6.out)
    have V6 := cover (pdu_cells Vw6.out)
    have C1 : Hid (∀ W, Below w6.heap.size w6 W → Calls Try.prog 16 #[.agg #[.int .i64 pq.to, .int .i64 pq.frm, .bool pq.resp, .int .i64 pq.form, .int .i64 pq.kind, .int .i64 pq.ns, .int .i64 pq.nr, .bool pq.poll, .slice A pq.info.length c]] W fun e w' => e = .returned (.bool (bothB p)) ∧ Below w6.heap.size w6 w') := by
      have h := from_below_u (fun W => may_any pq A c W) w6
      rw [show mayB pq = bothB p by rw [hpq.out]; exact both_is HP.out] at h
      exact h
    have C2 : Hid (∀ W, Below w6.heap.size w6 W → Calls Try.prog 16 #[.agg #[.int .i64 pu.to, .int .i64 pu.frm, .bool pu.resp, .int .i64 pu.form, .int .i64 pu.kind, .int .i64 pu.ns, .int .i64 pu.nr, .bool pu.poll, .slice A pu.info.length c]] W fun e w' => e = .returned (.bool true) ∧ Below w6.heap.size w6 w') := by
      have h := from_below_u (fun W => may_any pu A c W) w6
      rw [show mayB pu = true by rw [hpu.out]; exact poll_is HP.out] at h
      exact h
    have C3 : Hid (∀ W, Below w6.heap.size w6 W → Calls Try.prog 16 #[.agg #[.int .i64 pw.to, .int .i64 pw.frm, .bool pw.resp, .int .i64 pw.form, .int .i64 pw.kind, .int .i64 pw.ns, .int .i64 pw.nr, .bool pw.poll, .slice A pw.info.length c]] W fun e w' => e = .returned (.bool (p.form == 0 && decide (p.ns < 127))) ∧ Below w6.heap.size w6 w') := by
      have h := from_below_u (fun W => may_any pw A c W) w6
      rw [show mayB pw = (p.form == 0 && decide (p.ns < 127)) by rw [hpw.out]; exact next_is HP.out] at h
      exact h
    obtain ⟨p0, p1, p2, p3, p4, p5, p6, p7, p8⟩ := P6.out
    obtain ⟨q0, q1, q2, q3, q4, q5, q6, q7, q8⟩ := Q6.out
    obtain ⟨u0, u1, u2, u3, u4, u5, u6, u7, u8⟩ := U6.out
    obtain ⟨v0, v1, v2, v3, v4, v5, v6, v7, v8⟩ := V6.out
    have y0 : w.heap.size < w6.heap.size := by omega
    have y1 : w3.heap.size < w6.heap.size := by omega
    have y2 : w4.heap.size < w6.heap.size := by omega
    have y3 : w5.heap.size < w6.heap.size := by omega
    rcases hf0 : (p.form == 0) with _ | _
    · rw [hf0] at C3
      have mixed : Try.prog.follows .mixedOrders = true := by kernel_rfl
      refine (wpIn_wide (n := 0)).1 ?_
      refine held_begin (fun W' : World => (World.cell? W' ⟨w.heap.size, 0, none⟩ = some (.int .i64 p.to) ∧ World.cell? W' ⟨w.heap.size, 1, none⟩ = some (.int .i64 p.frm) ∧ World.cell? W' ⟨w.heap.size, 2, none⟩ = some (.bool p.resp) ∧ World.cell? W' ⟨w.heap.size, 3, none⟩ = some (.int .i64 p.form) ∧ World.cell? W' ⟨w.heap.size, 4, none⟩ = some (.int .i64 p.kind) ∧ World.cell? W' ⟨w.heap.size, 5, none⟩ = some (.int .i64 p.ns) ∧ World.cell? W' ⟨w.heap.size, 6, none⟩ = some (.int .i64 p.nr) ∧ World.cell? W' ⟨w.heap.size, 7, none⟩ = some (.bool p.poll) ∧ World.cell? W' ⟨w.heap.size, 8, none⟩ = some (.slice A p.info.length c)) ∧ (World.cell? W' ⟨w3.heap.size, 0, none⟩ = some (.int .i64 pq.to) ∧ World.cell? W' ⟨w3.heap.size, 1, none⟩ = some (.int .i64 pq.frm) ∧ World.cell? W' ⟨w3.heap.size, 2, none⟩ = some (.bool pq.resp) ∧ World.cell? W' ⟨w3.heap.size, 3, none⟩ = some (.int .i64 pq.form) ∧ World.cell? W' ⟨w3.heap.size, 4, none⟩ = some (.int .i64 pq.kind) ∧ World.cell? W' ⟨w3.heap.size, 5, none⟩ = some (.int .i64 pq.ns) ∧ World.cell? W' ⟨w3.heap.size, 6, none⟩ = some (.int .i64 pq.nr) ∧ World.cell? W' ⟨w3.heap.size, 7, none⟩ = some (.bool pq.poll) ∧ World.cell? W' ⟨w3.heap.size, 8, none⟩ = some (.slice A pq.info.length c)) ∧ (World.cell? W' ⟨w4.heap.size, 0, none⟩ = some (.int .i64 pu.to) ∧ World.cell? W' ⟨w4.heap.size, 1, none⟩ = some (.int .i64 pu.frm) ∧ World.cell? W' ⟨w4.heap.size, 2, none⟩ = some (.bool pu.resp) ∧ World.cell? W' ⟨w4.heap.size, 3, none⟩ = some (.int .i64 pu.form) ∧ World.cell? W' ⟨w4.heap.size, 4, none⟩ = some (.int .i64 pu.kind) ∧ World.cell? W' ⟨w4.heap.size, 5, none⟩ = some (.int .i64 pu.ns) ∧ World.cell? W' ⟨w4.heap.size, 6, none⟩ = some (.int .i64 pu.nr) ∧ World.cell? W' ⟨w4.heap.size, 7, none⟩ = some (.bool pu.poll) ∧ World.cell? W' ⟨w4.heap.size, 8, none⟩ = some (.slice A pu.info.length c)) ∧ (World.cell? W' ⟨w5.heap.size, 0, none⟩ = some (.int .i64 pw.to) ∧ World.cell? W' ⟨w5.heap.size, 1, none⟩ = some (.int .i64 pw.frm) ∧ World.cell? W' ⟨w5.heap.size, 2, none⟩ = some (.bool pw.resp) ∧ World.cell? W' ⟨w5.heap.size, 3, none⟩ = some (.int .i64 pw.form) ∧ World.cell? W' ⟨w5.heap.size, 4, none⟩ = some (.int .i64 pw.kind) ∧ World.cell? W' ⟨w5.heap.size, 5, none⟩ = some (.int .i64 pw.ns) ∧ World.cell? W' ⟨w5.heap.size, 6, none⟩ = some (.int .i64 pw.nr) ∧ World.cell? W' ⟨w5.heap.size, 7, none⟩ = some (.bool pw.poll) ∧ World.cell? W' ⟨w5.heap.size, 8, none⟩ = some (.slice A pw.info.length c)) ∧ Below w6.heap.size w6 W') 21 mixed ?_
      have HS0 : (fun W' : World => (World.cell? W' ⟨w.heap.size, 0, none⟩ = some (.int .i64 p.to) ∧ World.cell? W' ⟨w.heap.size, 1, none⟩ = some (.int .i64 p.frm) ∧ World.cell? W' ⟨w.heap.size, 2, none⟩ = some (.bool p.resp) ∧ World.cell? W' ⟨w.heap.size, 3, none⟩ = some (.int .i64 p.form) ∧ World.cell? W' ⟨w.heap.size, 4, none⟩ = some (.int .i64 p.kind) ∧ World.cell? W' ⟨w.heap.size, 5, none⟩ = some (.int .i64 p.ns) ∧ World.cell? W' ⟨w.heap.size, 6, none⟩ = some (.int .i64 p.nr) ∧ World.cell? W' ⟨w.heap.size, 7, none⟩ = some (.bool p.poll) ∧ World.cell? W' ⟨w.heap.size, 8, none⟩ = some (.slice A p.info.length c)) ∧ (World.cell? W' ⟨w3.heap.size, 0, none⟩ = some (.int .i64 pq.to) ∧ World.cell? W' ⟨w3.heap.size, 1, none⟩ = some (.int .i64 pq.frm) ∧ World.cell? W' ⟨w3.heap.size, 2, none⟩ = some (.bool pq.resp) ∧ World.cell? W' ⟨w3.heap.size, 3, none⟩ = some (.int .i64 pq.form) ∧ World.cell? W' ⟨w3.heap.size, 4, none⟩ = some (.int .i64 pq.kind) ∧ World.cell? W' ⟨w3.heap.size, 5, none⟩ = some (.int .i64 pq.ns) ∧ World.cell? W' ⟨w3.heap.size, 6, none⟩ = some (.int .i64 pq.nr) ∧ World.cell? W' ⟨w3.heap.size, 7, none⟩ = some (.bool pq.poll) ∧ World.cell? W' ⟨w3.heap.size, 8, none⟩ = some (.slice A pq.info.length c)) ∧ (World.cell? W' ⟨w4.heap.size, 0, none⟩ = some (.int .i64 pu.to) ∧ World.cell? W' ⟨w4.heap.size, 1, none⟩ = some (.int .i64 pu.frm) ∧ World.cell? W' ⟨w4.heap.size, 2, none⟩ = some (.bool pu.resp) ∧ World.cell? W' ⟨w4.heap.size, 3, none⟩ = some (.int .i64 pu.form) ∧ World.cell? W' ⟨w4.heap.size, 4, none⟩ = some (.int .i64 pu.kind) ∧ World.cell? W' ⟨w4.heap.size, 5, none⟩ = some (.int .i64 pu.ns) ∧ World.cell? W' ⟨w4.heap.size, 6, none⟩ = some (.int .i64 pu.nr) ∧ World.cell? W' ⟨w4.heap.size, 7, none⟩ = some (.bool pu.poll) ∧ World.cell? W' ⟨w4.heap.size, 8, none⟩ = some (.slice A pu.info.length c)) ∧ (World.cell? W' ⟨w5.heap.size, 0, none⟩ = some (.int .i64 pw.to) ∧ World.cell? W' ⟨w5.heap.size, 1, none⟩ = some (.int .i64 pw.frm) ∧ World.cell? W' ⟨w5.heap.size, 2, none⟩ = some (.bool pw.resp) ∧ World.cell? W' ⟨w5.heap.size, 3, none⟩ = some (.int .i64 pw.form) ∧ World.cell? W' ⟨w5.heap.size, 4, none⟩ = some (.int .i64 pw.kind) ∧ World.cell? W' ⟨w5.heap.size, 5, none⟩ = some (.int .i64 pw.ns) ∧ World.cell? W' ⟨w5.heap.size, 6, none⟩ = some (.int .i64 pw.nr) ∧ World.cell? W' ⟨w5.heap.size, 7, none⟩ = some (.bool pw.poll) ∧ World.cell? W' ⟨w5.heap.size, 8, none⟩ = some (.slice A pw.info.length c)) ∧ Below w6.heap.size w6 W') w6.drew := ⟨P6.out, Q6.out, U6.out, V6.out, (Below.refl _ _).drew⟩
      refine hold_take 0 _ rfl (by kernel_rfl) (by kernel_rfl) (by kernel_rfl) (by kernel_rfl) (by kernel_rfl) (fun _ _ _ h => h) (by rfl) (fun _ => rfl) HS0 (fun w' hS => by obtain ⟨⟨a0, a1, a2, a3, a4, a5, a6, a7, a8⟩, ⟨b0, b1, b2, b3, b4, b5, b6, b7, b8⟩, ⟨d0, d1, d2, d3, d4, d5, d6, d7, d8⟩, ⟨g0, g1, g2, g3, g4, g5, g6, g7, g8⟩, hbel⟩ := hS; go_simp; rfl) ?_
      simp only [Act.put, List.setIfInBounds_toArray, List.set_cons_zero, List.set_cons_succ]
      refine hold_take 2 _ rfl (by kernel_rfl) (by kernel_rfl) (by kernel_rfl) (by kernel_rfl) (by kernel_rfl) (fun _ _ _ h => h) (by rfl) (fun _ => rfl) HS0 (fun w' hS => by obtain ⟨⟨a0, a1, a2, a3, a4, a5, a6, a7, a8⟩, ⟨b0, b1, b2, b3, b4, b5, b6, b7, b8⟩, ⟨d0, d1, d2, d3, d4, d5, d6, d7, d8⟩, ⟨g0, g1, g2, g3, g4, g5, g6, g7, g8⟩, hbel⟩ := hS; go_simp; rfl) ?_
      simp only [Act.put, List.setIfInBounds_toArray, List.set_cons_zero, List.set_cons_succ]
      refine hold_one 1 (by kernel_rfl) rfl (by rfl) fun K1 hK1 => ?_
      go_simp
      refine ⟨trivial, rfl, (callsIn_wide.2 (C1.out _ HS0.2.2.2.2)).mono ?_⟩
      rintro e x1 ⟨rfl, hbx1⟩
      have HSx1 : (fun W' : World => (World.cell? W' ⟨w.heap.size, 0, none⟩ = some (.int .i64 p.to) ∧ World.cell? W' ⟨w.heap.size, 1, none⟩ = some (.int .i64 p.frm) ∧ World.cell? W' ⟨w.heap.size, 2, none⟩ = some (.bool p.resp) ∧ World.cell? W' ⟨w.heap.size, 3, none⟩ = some (.int .i64 p.form) ∧ World.cell? W' ⟨w.heap.size, 4, none⟩ = some (.int .i64 p.kind) ∧ World.cell? W' ⟨w.heap.size, 5, none⟩ = some (.int .i64 p.ns) ∧ World.cell? W' ⟨w.heap.size, 6, none⟩ = some (.int .i64 p.nr) ∧ World.cell? W' ⟨w.heap.size, 7, none⟩ = some (.bool p.poll) ∧ World.cell? W' ⟨w.heap.size, 8, none⟩ = some (.slice A p.info.length c)) ∧ (World.cell? W' ⟨w3.heap.size, 0, none⟩ = some (.int .i64 pq.to) ∧ World.cell? W' ⟨w3.heap.size, 1, none⟩ = some (.int .i64 pq.frm) ∧ World.cell? W' ⟨w3.heap.size, 2, none⟩ = some (.bool pq.resp) ∧ World.cell? W' ⟨w3.heap.size, 3, none⟩ = some (.int .i64 pq.form) ∧ World.cell? W' ⟨w3.heap.size, 4, none⟩ = some (.int .i64 pq.kind) ∧ World.cell? W' ⟨w3.heap.size, 5, none⟩ = some (.int .i64 pq.ns) ∧ World.cell? W' ⟨w3.heap.size, 6, none⟩ = some (.int .i64 pq.nr) ∧ World.cell? W' ⟨w3.heap.size, 7, none⟩ = some (.bool pq.poll) ∧ World.cell? W' ⟨w3.heap.size, 8, none⟩ = some (.slice A pq.info.length c)) ∧ (World.cell? W' ⟨w4.heap.size, 0, none⟩ = some (.int .i64 pu.to) ∧ World.cell? W' ⟨w4.heap.size, 1, none⟩ = some (.int .i64 pu.frm) ∧ World.cell? W' ⟨w4.heap.size, 2, none⟩ = some (.bool pu.resp) ∧ World.cell? W' ⟨w4.heap.size, 3, none⟩ = some (.int .i64 pu.form) ∧ World.cell? W' ⟨w4.heap.size, 4, none⟩ = some (.int .i64 pu.kind) ∧ World.cell? W' ⟨w4.heap.size, 5, none⟩ = some (.int .i64 pu.ns) ∧ World.cell? W' ⟨w4.heap.size, 6, none⟩ = some (.int .i64 pu.nr) ∧ World.cell? W' ⟨w4.heap.size, 7, none⟩ = some (.bool pu.poll) ∧ World.cell? W' ⟨w4.heap.size, 8, none⟩ = some (.slice A pu.info.length c)) ∧ (World.cell? W' ⟨w5.heap.size, 0, none⟩ = some (.int .i64 pw.to) ∧ World.cell? W' ⟨w5.heap.size, 1, none⟩ = some (.int .i64 pw.frm) ∧ World.cell? W' ⟨w5.heap.size, 2, none⟩ = some (.bool pw.resp) ∧ World.cell? W' ⟨w5.heap.size, 3, none⟩ = some (.int .i64 pw.form) ∧ World.cell? W' ⟨w5.heap.size, 4, none⟩ = some (.int .i64 pw.kind) ∧ World.cell? W' ⟨w5.heap.size, 5, none⟩ = some (.int .i64 pw.ns) ∧ World.cell? W' ⟨w5.heap.size, 6, none⟩ = some (.int .i64 pw.nr) ∧ World.cell? W' ⟨w5.heap.size, 7, none⟩ = some (.bool pw.poll) ∧ World.cell? W' ⟨w5.heap.size, 8, none⟩ = some (.slice A pw.info.length c)) ∧ Below w6.heap.size w6 W') x1 := ⟨nine_below P6.out hbx1 y0, nine_below Q6.out hbx1 y1, nine_below U6.out hbx1 y2, nine_below V6.out hbx1 y3, hbx1⟩
      refine hK1 _ _ (.inr HSx1) ?_
      clear hK1 K1
      refine hold_take 3 (.bool true) rfl (by kernel_rfl) (by kernel_rfl) (by kernel_rfl) (by kernel_rfl) (by kernel_rfl) (fun _ _ _ h => h) (by rfl) (fun _ => rfl) HSx1 (fun w' hS => by obtain ⟨⟨a0, a1, a2, a3, a4, a5, a6, a7, a8⟩, ⟨b0, b1, b2, b3, b4, b5, b6, b7, b8⟩, ⟨d0, d1, d2, d3, d4, d5, d6, d7, d8⟩, ⟨g0, g1, g2, g3, g4, g5, g6, g7, g8⟩, hbel⟩ := hS; go_simp; skip) ?_
      simp only [Act.put, List.setIfInBounds_toArray, List.set_cons_zero, List.set_cons_succ]
      refine hold_take 4 _ rfl (by kernel_rfl) (by kernel_rfl) (by kernel_rfl) (by kernel_rfl) (by kernel_rfl) (fun _ _ _ h => h) (by rfl) (fun _ => rfl) HSx1 (fun w' hS => by obtain ⟨⟨a0, a1, a2, a3, a4, a5, a6, a7, a8⟩, ⟨b0, b1, b2, b3, b4, b5, b6, b7, b8⟩, ⟨d0, d1, d2, d3, d4, d5, d6, d7, d8⟩, ⟨g0, g1, g2, g3, g4, g5, g6, g7, g8⟩, hbel⟩ := hS; go_simp; rfl) ?_
      simp only [Act.put, List.setIfInBounds_toArray, List.set_cons_zero, List.set_cons_succ]
      refine hold_take 5 _ rfl (by kernel_rfl) (by kernel_rfl) (by kernel_rfl) (by kernel_rfl) (by kernel_rfl) (fun _ _ _ h => h) (by rfl) (fun _ => rfl) HSx1 (fun w' hS => by obtain ⟨⟨a0, a1, a2, a3, a4, a5, a6, a7, a8⟩, ⟨b0, b1, b2, b3, b4, b5, b6, b7, b8⟩, ⟨d0, d1, d2, d3, d4, d5, d6, d7, d8⟩, ⟨g0, g1, g2, g3, g4, g5, g6, g7, g8⟩, hbel⟩ := hS; go_simp; rfl) ?_
      simp only [Act.put, List.setIfInBounds_toArray, List.set_cons_zero, List.set_cons_succ]
      refine hold_one 6 (by kernel_rfl) rfl (by rfl) fun K6 hK6 => ?_
      go_simp
      refine ⟨trivial, rfl, (callsIn_wide.2 (C2.out _ HSx1.2.2.2.2)).mono ?_⟩
      rintro e x2 ⟨rfl, hbx2⟩
      have HSx2 : (fun W' : World => (World.cell? W' ⟨w.heap.size, 0, none⟩ = some (.int .i64 p.to) ∧ World.cell? W' ⟨w.heap.size, 1, none⟩ = some (.int .i64 p.frm) ∧ World.cell? W' ⟨w.heap.size, 2, none⟩ = some (.bool p.resp) ∧ World.cell? W' ⟨w.heap.size, 3, none⟩ = some (.int .i64 p.form) ∧ World.cell? W' ⟨w.heap.size, 4, none⟩ = some (.int .i64 p.kind) ∧ World.cell? W' ⟨w.heap.size, 5, none⟩ = some (.int .i64 p.ns) ∧ World.cell? W' ⟨w.heap.size, 6, none⟩ = some (.int .i64 p.nr) ∧ World.cell? W' ⟨w.heap.size, 7, none⟩ = some (.bool p.poll) ∧ World.cell? W' ⟨w.heap.size, 8, none⟩ = some (.slice A p.info.length c)) ∧ (World.cell? W' ⟨w3.heap.size, 0, none⟩ = some (.int .i64 pq.to) ∧ World.cell? W' ⟨w3.heap.size, 1, none⟩ = some (.int .i64 pq.frm) ∧ World.cell? W' ⟨w3.heap.size, 2, none⟩ = some (.bool pq.resp) ∧ World.cell? W' ⟨w3.heap.size, 3, none⟩ = some (.int .i64 pq.form) ∧ World.cell? W' ⟨w3.heap.size, 4, none⟩ = some (.int .i64 pq.kind) ∧ World.cell? W' ⟨w3.heap.size, 5, none⟩ = some (.int .i64 pq.ns) ∧ World.cell? W' ⟨w3.heap.size, 6, none⟩ = some (.int .i64 pq.nr) ∧ World.cell? W' ⟨w3.heap.size, 7, none⟩ = some (.bool pq.poll) ∧ World.cell? W' ⟨w3.heap.size, 8, none⟩ = some (.slice A pq.info.length c)) ∧ (World.cell? W' ⟨w4.heap.size, 0, none⟩ = some (.int .i64 pu.to) ∧ World.cell? W' ⟨w4.heap.size, 1, none⟩ = some (.int .i64 pu.frm) ∧ World.cell? W' ⟨w4.heap.size, 2, none⟩ = some (.bool pu.resp) ∧ World.cell? W' ⟨w4.heap.size, 3, none⟩ = some (.int .i64 pu.form) ∧ World.cell? W' ⟨w4.heap.size, 4, none⟩ = some (.int .i64 pu.kind) ∧ World.cell? W' ⟨w4.heap.size, 5, none⟩ = some (.int .i64 pu.ns) ∧ World.cell? W' ⟨w4.heap.size, 6, none⟩ = some (.int .i64 pu.nr) ∧ World.cell? W' ⟨w4.heap.size, 7, none⟩ = some (.bool pu.poll) ∧ World.cell? W' ⟨w4.heap.size, 8, none⟩ = some (.slice A pu.info.length c)) ∧ (World.cell? W' ⟨w5.heap.size, 0, none⟩ = some (.int .i64 pw.to) ∧ World.cell? W' ⟨w5.heap.size, 1, none⟩ = some (.int .i64 pw.frm) ∧ World.cell? W' ⟨w5.heap.size, 2, none⟩ = some (.bool pw.resp) ∧ World.cell? W' ⟨w5.heap.size, 3, none⟩ = some (.int .i64 pw.form) ∧ World.cell? W' ⟨w5.heap.size, 4, none⟩ = some (.int .i64 pw.kind) ∧ World.cell? W' ⟨w5.heap.size, 5, none⟩ = some (.int .i64 pw.ns) ∧ World.cell? W' ⟨w5.heap.size, 6, none⟩ = some (.int .i64 pw.nr) ∧ World.cell? W' ⟨w5.heap.size, 7, none⟩ = some (.bool pw.poll) ∧ World.cell? W' ⟨w5.heap.size, 8, none⟩ = some (.slice A pw.info.length c)) ∧ Below w6.heap.size w6 W') x2 := ⟨nine_below P6.out hbx2 y0, nine_below Q6.out hbx2 y1, nine_below U6.out hbx2 y2, nine_below V6.out hbx2 y3, hbx2⟩
      refine hK6 _ _ (.inr HSx2) ?_
      clear hK6 K6
      refine hold_take 7 _ rfl (by kernel_rfl) (by kernel_rfl) (by kernel_rfl) (by kernel_rfl) (by kernel_rfl) (fun _ _ _ h => h) (by rfl) (fun _ => rfl) HSx2 (fun w' hS => by obtain ⟨⟨a0, a1, a2, a3, a4, a5, a6, a7, a8⟩, ⟨b0, b1, b2, b3, b4, b5, b6, b7, b8⟩, ⟨d0, d1, d2, d3, d4, d5, d6, d7, d8⟩, ⟨g0, g1, g2, g3, g4, g5, g6, g7, g8⟩, hbel⟩ := hS; go_simp; rfl) ?_
      simp only [Act.put, List.setIfInBounds_toArray, List.set_cons_zero, List.set_cons_succ]
      refine hold_take 8 _ rfl (by kernel_rfl) (by kernel_rfl) (by kernel_rfl) (by kernel_rfl) (by kernel_rfl) (fun _ _ _ h => h) (by rfl) (fun _ => rfl) HSx2 (fun w' hS => by obtain ⟨⟨a0, a1, a2, a3, a4, a5, a6, a7, a8⟩, ⟨b0, b1, b2, b3, b4, b5, b6, b7, b8⟩, ⟨d0, d1, d2, d3, d4, d5, d6, d7, d8⟩, ⟨g0, g1, g2, g3, g4, g5, g6, g7, g8⟩, hbel⟩ := hS; go_simp; rfl) ?_
      simp only [Act.put, List.setIfInBounds_toArray, List.set_cons_zero, List.set_cons_succ]
      refine hold_take 9 _ rfl (by kernel_rfl) (by kernel_rfl) (by kernel_rfl) (by kernel_rfl) (by kernel_rfl) (fun _ _ _ h => h) (by rfl) (fun _ => rfl) HSx2 (fun w' hS => by obtain ⟨⟨a0, a1, a2, a3, a4, a5, a6, a7, a8⟩, ⟨b0, b1, b2, b3, b4, b5, b6, b7, b8⟩, ⟨d0, d1, d2, d3, d4, d5, d6, d7, d8⟩, ⟨g0, g1, g2, g3, g4, g5, g6, g7, g8⟩, hbel⟩ := hS; go_simp; rfl) ?_
      simp only [Act.put, List.setIfInBounds_toArray, List.set_cons_zero, List.set_cons_succ]
      refine hold_take 11 _ rfl (by kernel_rfl) (by kernel_rfl) (by kernel_rfl) (by kernel_rfl) (by kernel_rfl) (fun _ _ _ h => h) (by rfl) (fun _ => rfl) HSx2 (fun w' hS => by obtain ⟨⟨a0, a1, a2, a3, a4, a5, a6, a7, a8⟩, ⟨b0, b1, b2, b3, b4, b5, b6, b7, b8⟩, ⟨d0, d1, d2, d3, d4, d5, d6, d7, d8⟩, ⟨g0, g1, g2, g3, g4, g5, g6, g7, g8⟩, hbel⟩ := hS; go_simp; rfl) ?_
      simp only [Act.put, List.setIfInBounds_toArray, List.set_cons_zero, List.set_cons_succ]
      refine hold_take 12 _ rfl (by kernel_rfl) (by kernel_rfl) (by kernel_rfl) (by kernel_rfl) (by kernel_rfl) (fun _ _ _ h => h) (by rfl) (fun _ => rfl) HSx2 (fun w' hS => by obtain ⟨⟨a0, a1, a2, a3, a4, a5, a6, a7, a8⟩, ⟨b0, b1, b2, b3, b4, b5, b6, b7, b8⟩, ⟨d0, d1, d2, d3, d4, d5, d6, d7, d8⟩, ⟨g0, g1, g2, g3, g4, g5, g6, g7, g8⟩, hbel⟩ := hS; go_simp; rfl) ?_
      simp only [Act.put, List.setIfInBounds_toArray, List.set_cons_zero, List.set_cons_succ]
      refine hold_take 13 (.bool false) rfl (by kernel_rfl) (by kernel_rfl) (by kernel_rfl) (by kernel_rfl) (by kernel_rfl) (fun _ _ _ h => h) (by rfl) (fun _ => rfl) HSx2 (fun w' hS => by obtain ⟨⟨a0, a1, a2, a3, a4, a5, a6, a7, a8⟩, ⟨b0, b1, b2, b3, b4, b5, b6, b7, b8⟩, ⟨d0, d1, d2, d3, d4, d5, d6, d7, d8⟩, ⟨g0, g1, g2, g3, g4, g5, g6, g7, g8⟩, hbel⟩ := hS; go_simp; skip) ?_
      simp only [Act.put, List.setIfInBounds_toArray, List.set_cons_zero, List.set_cons_succ]
      refine hold_one 10 (by kernel_rfl) rfl (by rfl) fun K10 hK10 => ?_
      go_simp
      refine ⟨trivial, rfl, (callsIn_wide.2 (C3.out _ HSx2.2.2.2.2)).mono ?_⟩
      rintro e x3 ⟨rfl, hbx3⟩
      have HSx3 : (fun W' : World => (World.cell? W' ⟨w.heap.size, 0, none⟩ = some (.int .i64 p.to) ∧ World.cell? W' ⟨w.heap.size, 1, none⟩ = some (.int .i64 p.frm) ∧ World.cell? W' ⟨w.heap.size, 2, none⟩ = some (.bool p.resp) ∧ World.cell? W' ⟨w.heap.size, 3, none⟩ = some (.int .i64 p.form) ∧ World.cell? W' ⟨w.heap.size, 4, none⟩ = some (.int .i64 p.kind) ∧ World.cell? W' ⟨w.heap.size, 5, none⟩ = some (.int .i64 p.ns) ∧ World.cell? W' ⟨w.heap.size, 6, none⟩ = some (.int .i64 p.nr) ∧ World.cell? W' ⟨w.heap.size, 7, none⟩ = some (.bool p.poll) ∧ World.cell? W' ⟨w.heap.size, 8, none⟩ = some (.slice A p.info.length c)) ∧ (World.cell? W' ⟨w3.heap.size, 0, none⟩ = some (.int .i64 pq.to) ∧ World.cell? W' ⟨w3.heap.size, 1, none⟩ = some (.int .i64 pq.frm) ∧ World.cell? W' ⟨w3.heap.size, 2, none⟩ = some (.bool pq.resp) ∧ World.cell? W' ⟨w3.heap.size, 3, none⟩ = some (.int .i64 pq.form) ∧ World.cell? W' ⟨w3.heap.size, 4, none⟩ = some (.int .i64 pq.kind) ∧ World.cell? W' ⟨w3.heap.size, 5, none⟩ = some (.int .i64 pq.ns) ∧ World.cell? W' ⟨w3.heap.size, 6, none⟩ = some (.int .i64 pq.nr) ∧ World.cell? W' ⟨w3.heap.size, 7, none⟩ = some (.bool pq.poll) ∧ World.cell? W' ⟨w3.heap.size, 8, none⟩ = some (.slice A pq.info.length c)) ∧ (World.cell? W' ⟨w4.heap.size, 0, none⟩ = some (.int .i64 pu.to) ∧ World.cell? W' ⟨w4.heap.size, 1, none⟩ = some (.int .i64 pu.frm) ∧ World.cell? W' ⟨w4.heap.size, 2, none⟩ = some (.bool pu.resp) ∧ World.cell? W' ⟨w4.heap.size, 3, none⟩ = some (.int .i64 pu.form) ∧ World.cell? W' ⟨w4.heap.size, 4, none⟩ = some (.int .i64 pu.kind) ∧ World.cell? W' ⟨w4.heap.size, 5, none⟩ = some (.int .i64 pu.ns) ∧ World.cell? W' ⟨w4.heap.size, 6, none⟩ = some (.int .i64 pu.nr) ∧ World.cell? W' ⟨w4.heap.size, 7, none⟩ = some (.bool pu.poll) ∧ World.cell? W' ⟨w4.heap.size, 8, none⟩ = some (.slice A pu.info.length c)) ∧ (World.cell? W' ⟨w5.heap.size, 0, none⟩ = some (.int .i64 pw.to) ∧ World.cell? W' ⟨w5.heap.size, 1, none⟩ = some (.int .i64 pw.frm) ∧ World.cell? W' ⟨w5.heap.size, 2, none⟩ = some (.bool pw.resp) ∧ World.cell? W' ⟨w5.heap.size, 3, none⟩ = some (.int .i64 pw.form) ∧ World.cell? W' ⟨w5.heap.size, 4, none⟩ = some (.int .i64 pw.kind) ∧ World.cell? W' ⟨w5.heap.size, 5, none⟩ = some (.int .i64 pw.ns) ∧ World.cell? W' ⟨w5.heap.size, 6, none⟩ = some (.int .i64 pw.nr) ∧ World.cell? W' ⟨w5.heap.size, 7, none⟩ = some (.bool pw.poll) ∧ World.cell? W' ⟨w5.heap.size, 8, none⟩ = some (.slice A pw.info.length c)) ∧ Below w6.heap.size w6 W') x3 := ⟨nine_below P6.out hbx3 y0, nine_below Q6.out hbx3 y1, nine_below U6.out hbx3 y2, nine_below V6.out hbx3 y3, hbx3⟩
      refine hK10 _ _ (.inr HSx3) ?_
      clear hK10 K10
      refine hold_take 14 _ rfl (by kernel_rfl) (by kernel_rfl) (by kernel_rfl) (by kernel_rfl) (by kernel_rfl) (fun _ _ _ h => h) (by rfl) (fun _ => rfl) HSx3 (fun w' hS => by obtain ⟨⟨a0, a1, a2, a3, a4, a5, a6, a7, a8⟩, ⟨b0, b1, b2, b3, b4, b5, b6, b7, b8⟩, ⟨d0, d1, d2, d3, d4, d5, d6, d7, d8⟩, ⟨g0, g1, g2, g3, g4, g5, g6, g7, g8⟩, hbel⟩ := hS; go_simp; rfl) ?_
      simp only [Act.put, List.setIfInBounds_toArray, List.set_cons_zero, List.set_cons_succ]
      refine hold_skip 15 rfl (by kernel_rfl) (by kernel_rfl) (by kernel_rfl) (by kernel_rfl) (by kernel_rfl) (fun _ _ _ h => h) (by rfl) (fun _ => rfl) HSx3 ?_
      simp only [Act.put, List.setIfInBounds_toArray, List.set_cons_zero, List.set_cons_succ]
      refine hold_skip 16 rfl (by kernel_rfl) (by kernel_rfl) (by kernel_rfl) (by kernel_rfl) (by kernel_rfl) (fun _ _ _ h => h) (by rfl) (fun _ => rfl) HSx3 ?_
      simp only [Act.put, List.setIfInBounds_toArray, List.set_cons_zero, List.set_cons_succ]
      refine hold_skip 17 rfl (by kernel_rfl) (by kernel_rfl) (by kernel_rfl) (by kernel_rfl) (by kernel_rfl) (fun _ _ _ h => h) (by rfl) (fun _ => rfl) HSx3 ?_
      simp only [Act.put, List.setIfInBounds_toArray, List.set_cons_zero, List.set_cons_succ]
      refine hold_take 18 _ rfl (by kernel_rfl) (by kernel_rfl) (by kernel_rfl) (by kernel_rfl) (by kernel_rfl) (fun _ _ _ h => h) (by rfl) (fun _ => rfl) HSx3 (fun w' hS => by obtain ⟨⟨a0, a1, a2, a3, a4, a5, a6, a7, a8⟩, ⟨b0, b1, b2, b3, b4, b5, b6, b7, b8⟩, ⟨d0, d1, d2, d3, d4, d5, d6, d7, d8⟩, ⟨g0, g1, g2, g3, g4, g5, g6, g7, g8⟩, hbel⟩ := hS; go_simp; rfl) ?_
      simp only [Act.put, List.setIfInBounds_toArray, List.set_cons_zero, List.set_cons_succ]
      refine hold_take 19 (.bool true) rfl (by kernel_rfl) (by kernel_rfl) (by kernel_rfl) (by kernel_rfl) (by kernel_rfl) (fun _ _ _ h => h) (by rfl) (fun _ => rfl) HSx3 (fun w' hS => by obtain ⟨⟨a0, a1, a2, a3, a4, a5, a6, a7, a8⟩, ⟨b0, b1, b2, b3, b4, b5, b6, b7, b8⟩, ⟨d0, d1, d2, d3, d4, d5, d6, d7, d8⟩, ⟨g0, g1, g2, g3, g4, g5, g6, g7, g8⟩, hbel⟩ := hS; go_simp; skip) ?_
      simp only [Act.put, List.setIfInBounds_toArray, List.set_cons_zero, List.set_cons_succ]
      refine hold_take 20 _ rfl (by kernel_rfl) (by kernel_rfl) (by kernel_rfl) (by kernel_rfl) (by kernel_rfl) (fun _ _ _ h => h) (by rfl) (fun _ => rfl) HSx3 (fun w' hS => by obtain ⟨⟨a0, a1, a2, a3, a4, a5, a6, a7, a8⟩, ⟨b0, b1, b2, b3, b4, b5, b6, b7, b8⟩, ⟨d0, d1, d2, d3, d4, d5, d6, d7, d8⟩, ⟨g0, g1, g2, g3, g4, g5, g6, g7, g8⟩, hbel⟩ := hS; go_simp; rfl) ?_
      simp only [Act.put, List.setIfInBounds_toArray, List.set_cons_zero, List.set_cons_succ]
      refine hold_one 21 (by kernel_rfl) rfl (by rfl) fun K hK => ?_
      go_simp
      refine hK _ _ (.inl rfl) (held_done (by kernel_rfl) ?_ _)
      clear hK K
      go_wp2
      go_ret
      exact ⟨rfl, Hw6.out.trans (hbx3.mono Hw6.out.size)⟩
    · rw [hf0] at C3
      go_region_held3 (fun w' => (World.cell? w' ⟨w.heap.size, 0, none⟩ = some (.int .i64 p.to) ∧ World.cell? w' ⟨w.heap.size, 1, none⟩ = some (.int .i64 p.frm) ∧ World.cell? w' ⟨w.heap.size, 2, none⟩ = some (.bool p.resp) ∧ World.cell? w' ⟨w.heap.size, 3, none⟩ = some (.int .i64 p.form) ∧ World.cell? w' ⟨w.heap.size, 4, none⟩ = some (.int .i64 p.kind) ∧ World.cell? w' ⟨w.heap.size, 5, none⟩ = some (.int .i64 p.ns) ∧ World.cell? w' ⟨w.heap.size, 6, none⟩ = some (.int .i64 p.nr) ∧ World.cell? w' ⟨w.heap.size, 7, none⟩ = some (.bool p.poll) ∧ World.cell? w' ⟨w.heap.size, 8, none⟩ = some (.slice A p.info.length c)) ∧ (World.cell? w' ⟨w3.heap.size, 0, none⟩ = some (.int .i64 pq.to) ∧ World.cell? w' ⟨w3.heap.size, 1, none⟩ = some (.int .i64 pq.frm) ∧ World.cell? w' ⟨w3.heap.size, 2, none⟩ = some (.bool pq.resp) ∧ World.cell? w' ⟨w3.heap.size, 3, none⟩ = some (.int .i64 pq.form) ∧ World.cell? w' ⟨w3.heap.size, 4, none⟩ = some (.int .i64 pq.kind) ∧ World.cell? w' ⟨w3.heap.size, 5, none⟩ = some (.int .i64 pq.ns) ∧ World.cell? w' ⟨w3.heap.size, 6, none⟩ = some (.int .i64 pq.nr) ∧ World.cell? w' ⟨w3.heap.size, 7, none⟩ = some (.bool pq.poll) ∧ World.cell? w' ⟨w3.heap.size, 8, none⟩ = some (.slice A pq.info.length c)) ∧ (World.cell? w' ⟨w4.heap.size, 0, none⟩ = some (.int .i64 pu.to) ∧ World.cell? w' ⟨w4.heap.size, 1, none⟩ = some (.int .i64 pu.frm) ∧ World.cell? w' ⟨w4.heap.size, 2, none⟩ = some (.bool pu.resp) ∧ World.cell? w' ⟨w4.heap.size, 3, none⟩ = some (.int .i64 pu.form) ∧ World.cell? w' ⟨w4.heap.size, 4, none⟩ = some (.int .i64 pu.kind) ∧ World.cell? w' ⟨w4.heap.size, 5, none⟩ = some (.int .i64 pu.ns) ∧ World.cell? w' ⟨w4.heap.size, 6, none⟩ = some (.int .i64 pu.nr) ∧ World.cell? w' ⟨w4.heap.size, 7, none⟩ = some (.bool pu.poll) ∧ World.cell? w' ⟨w4.heap.size, 8, none⟩ = some (.slice A pu.info.length c)) ∧ (World.cell? w' ⟨w5.heap.size, 0, none⟩ = some (.int .i64 pw.to) ∧ World.cell? w' ⟨w5.heap.size, 1, none⟩ = some (.int .i64 pw.frm) ∧ World.cell? w' ⟨w5.heap.size, 2, none⟩ = some (.bool pw.resp) ∧ World.cell? w' ⟨w5.heap.size, 3, none⟩ = some (.int .i64 pw.form) ∧ World.cell? w' ⟨w5.heap.size, 4, none⟩ = some (.int .i64 pw.kind) ∧ World.cell? w' ⟨w5.heap.size, 5, none⟩ = some (.int .i64 pw.ns) ∧ World.cell? w' ⟨w5.heap.size, 6, none⟩ = some (.int .i64 pw.nr) ∧ World.cell? w' ⟨w5.heap.size, 7, none⟩ = some (.bool pw.poll) ∧ World.cell? w' ⟨w5.heap.size, 8, none⟩ = some (.slice A pw.info.length c)) ∧ Below w6.heap.size w6 w')
        (first | exact ⟨P6.out, Q6.out, U6.out, V6.out, (Below.refl _ _).drew⟩ | exact ⟨nine_below P6.out hbX y0, nine_below Q6.out hbX y1, nine_below U6.out hbX y2, nine_below V6.out hbX y3, hbX⟩)
        ((go_at_call 16; (first | (with_reducible refine (C1.out _ ?_).mono ?_) | (with_reducible refine (C2.out _ ?_).mono ?_) | (with_reducible refine (C3.out _ ?_).mono ?_)); (go_split_ands; assumption); rintro e w9 ⟨rfl, hbX⟩))
      go_wp2
      go_ret
      exact ⟨by simp, Hw6.out.trans (hbX.mono Hw6.out.size)⟩
end Go.Proofs.Ytohegiphdgihpaa
