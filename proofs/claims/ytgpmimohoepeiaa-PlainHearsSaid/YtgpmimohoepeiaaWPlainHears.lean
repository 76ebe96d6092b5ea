/- The walk of PlainHears. -/
import Derived.Test.YtgpmimohoepeiaaHSame
import Derived.Test.YtgpmimohoepeiaaHRAll
import Derived.Test.YtgpmimohoepeiaaHAwake
namespace Go.Proofs.Ytgpmimohoepeiaa
open Go.RowKit
set_option linter.unusedVariables false
set_option linter.unusedSimpArgs false

theorem told_len {l : List SV} (h : InS l) (pe : A6) (p : PV) : (toldP l pe p).length ≤ 1000 := by
  by_cases h1 : IsOne p
  · by_cases hk : p.kind = 0
    · rw [toldP_ui h1 hk, List.length_map]; have := hear_len16 h p.to; omega
    · cases hr : p.resp with
      | true => rw [toldP_resp h1 hk hr, List.length_map]; have := asker_len l p; omega
      | false => rw [toldP_cmd hk hr]; simp
  · rw [toldP_no h1]; simp
theorem sent_len {l : List SV} (h : InS l) (p : PV) : (sentP l p).length ≤ 1000 := by
  by_cases h1 : IsOne p ∧ p.kind ≠ 0 ∧ p.resp = false
  · rw [sentP_cmd h1.1 h1.2.1 h1.2.2, List.length_map]; have := asked_len h p; omega
  · unfold sentP; rw [if_neg h1]; simp
theorem told_info {l : List SV} {pe : A6} {p : PV} {x : IV} (hx : x ∈ toldP l pe p) : x.b.length ≤ p.info.length := by
  by_cases h1 : IsOne p
  · by_cases hk : p.kind = 0
    · rw [toldP_ui h1 hk] at hx
      obtain ⟨y, _, rfl⟩ := List.mem_map.1 hx
      exact Nat.le_refl _
    · cases hr : p.resp with
      | true =>
        rw [toldP_resp h1 hk hr] at hx
        obtain ⟨y, _, rfl⟩ := List.mem_map.1 hx
        exact Nat.le_refl _
      | false => rw [toldP_cmd hk hr] at hx; cases hx
  · rw [toldP_no h1] at hx; cases hx
theorem sent_info {l : List SV} {p : PV} {x : PV} (hx : x ∈ sentP l p) : x.info.length ≤ p.info.length + 3 := by
  by_cases h1 : IsOne p ∧ p.kind ≠ 0 ∧ p.resp = false
  · rw [sentP_cmd h1.1 h1.2.1 h1.2.2] at hx
    obtain ⟨y, _, rfl⟩ := List.mem_map.1 hx
    unfold ansV
    simp only
    split
    · simp
    · omega
  · unfold sentP at hx; rw [if_neg h1] at hx; cases hx
set_option maxRecDepth 100000 in
set_option maxHeartbeats 6400000 in
theorem walk_PlainHears (A : Option Addr) (len cap : Nat) (ds : List (Int × Int × Int)) (p : PV) (Ap : Option Addr) (cp : Nat) (y0 y1 y2 y3 y4 y5 : Int) (w : World) (hlc : len ≤ cap) (hcm : cap ≤ maxLen) (hd : Deeds w w.heap.size A len ds ∧ ∀ q ∈ ds, (-9223372036854775808 ≤ q.1 ∧ q.1 ≤ 9223372036854775807) ∧ (-9223372036854775808 ≤ q.2.1 ∧ q.2.1 ≤ 9223372036854775807) ∧ (-9223372036854775808 ≤ q.2.2 ∧ q.2.2 ≤ 9223372036854775807))
    (hlc1 : p.info.length ≤ cp) (hcm1 : cp ≤ maxLen) (hr1 : Row w w.heap.size Ap p.info.length p.info) (hb1 : Bts p.info) (hn1 : Ap = none → cp = 0) (hb2 : Bts [y0, y1, y2, y3, y4, y5]) :
    Calls Try.prog 5 #[.slice A len cap, .agg #[.int .i64 p.to, .int .i64 p.frm, .bool p.resp, .int .i64 p.form, .int .i64 p.kind, .int .i64 p.ns, .int .i64 p.nr, .bool p.poll, .slice Ap p.info.length cp], .agg #[.int .u8 y0, .int .u8 y1, .int .u8 y2, .int .u8 y3, .int .u8 y4, .int .u8 y5]] w fun e w' => e = .returned (.bool true) ∧ Below w.heap.size w w' := by
  obtain ⟨pe, hpe⟩ : ∃ pe : A6, pe = ⟨y0, y1, y2, y3, y4, y5⟩ := ⟨_, rfl⟩
  obtain rfl : y0 = pe.a0 := by rw [hpe]
  obtain rfl : y1 = pe.a1 := by rw [hpe]
  obtain rfl : y2 = pe.a2 := by rw [hpe]
  obtain rfl : y3 = pe.a3 := by rw [hpe]
  obtain rfl : y4 = pe.a4 := by rw [hpe]
  obtain rfl : y5 = pe.a5 := by rw [hpe]
  clear hpe hb2 hcm hcm1 hn1 hb1
  obtain ⟨b, hb⟩ : ∃ b, w.heap.size = b := ⟨_, rfl⟩
  have HB := cover hb
  rw [hb] at hd hr1 ⊢
  have HDD := cover hd
  have HR := cover hr1
  obtain ⟨L0, hL0⟩ : ∃ L0, L0 = p.info.length := ⟨_, rfl⟩
  have HL0 := cover hL0
  rw [← hL0] at hlc1 ⊢
  obtain ⟨w1, hw1⟩ : ∃ w1, w1 = (w.alloc (.cells #[.int .i64 p.to, .int .i64 p.frm, .bool p.resp, .int .i64 p.form, .int .i64 p.kind, .int .i64 p.ns, .int .i64 p.nr, .bool p.poll, .slice Ap L0 cp] 29)).alloc (.cells #[.int .u8 pe.a0, .int .u8 pe.a1, .int .u8 pe.a2, .int .u8 pe.a3, .int .u8 pe.a4, .int .u8 pe.a5] 37) := ⟨_, rfl⟩
  have hbw : Below b w w1 := by rw [hw1, ← hb]; exact ((Below.refl _ _).alloc (Nat.le_refl _) _).alloc (by simp) _
  have hs1 : w1.heap.size = b + 2 := by rw [hw1]; simp [hb]
  have g0 : w1.heap[b]? = some (.cells #[.int .i64 p.to, .int .i64 p.frm, .bool p.resp, .int .i64 p.form, .int .i64 p.kind, .int .i64 p.ns, .int .i64 p.nr, .bool p.poll, .slice Ap L0 cp] 29 (0, 0)) := by rw [hw1, ← hb]; exact heap_alloc2_old _ _ _
  have g1 : w1.heap[b + 1]? = some (.cells #[.int .u8 pe.a0, .int .u8 pe.a1, .int .u8 pe.a2, .int .u8 pe.a3, .int .u8 pe.a4, .int .u8 pe.a5] 37 (0, 0)) := by rw [hw1, ← hb]; exact heap_alloc2_new _ _ _
  have HCell : Hid (∀ W, Below (b + 2) w1 W → (W.cell? ⟨b + 1, 0, none⟩ = some (.int .u8 pe.a0) ∧ W.cell? ⟨b + 1, 1, none⟩ = some (.int .u8 pe.a1) ∧ W.cell? ⟨b + 1, 2, none⟩ = some (.int .u8 pe.a2) ∧ W.cell? ⟨b + 1, 3, none⟩ = some (.int .u8 pe.a3) ∧ W.cell? ⟨b + 1, 4, none⟩ = some (.int .u8 pe.a4) ∧ W.cell? ⟨b + 1, 5, none⟩ = some (.int .u8 pe.a5)) ∧
      (W.cell? ⟨b, 0, none⟩ = some (.int .i64 p.to) ∧ W.cell? ⟨b, 1, none⟩ = some (.int .i64 p.frm) ∧ W.cell? ⟨b, 2, none⟩ = some (.bool p.resp) ∧ W.cell? ⟨b, 3, none⟩ = some (.int .i64 p.form) ∧ W.cell? ⟨b, 4, none⟩ = some (.int .i64 p.kind) ∧ W.cell? ⟨b, 5, none⟩ = some (.int .i64 p.ns) ∧ W.cell? ⟨b, 6, none⟩ = some (.int .i64 p.nr) ∧ W.cell? ⟨b, 7, none⟩ = some (.bool p.poll) ∧ W.cell? ⟨b, 8, none⟩ = some (.slice Ap L0 cp))) := cover fun W hW => by
    have e0 := (hW.block b (by omega)).trans g0
    have e1 := (hW.block (b + 1) (by omega)).trans g1
    refine ⟨⟨?_, ?_, ?_, ?_, ?_, ?_⟩, pdu_cells e0⟩
    all_goals (rw [cell_of_row _ _ _ _ _ _ e1]; rfl)
  have HSz : Hid (∀ W, Below (b + 2) w1 W → b + 2 ≤ W.heap.size) := cover fun W hW => by rw [← hs1]; exact hW.size
  have HOut : Hid (∀ W, Below (b + 2) w1 W → Below b w W) := cover fun W hW => hbw.trans (hW.mono (by omega))
  have HRow : Hid (∀ W, Below (b + 2) w1 W → Row W W.heap.size Ap p.info.length p.info) := cover fun W hW => (HR.out.below (hbw.trans (hW.mono (by omega)))).more (by have := HSz.out W hW; omega)
  have HDs : Hid (∀ W, Below (b + 2) w1 W → Deeds W (b + 2) A len ds) := cover fun W hW => ⟨HDD.out.1.len, fun k hk => by
    obtain ⟨ad, e, hlt, h1⟩ := (HDD.out.1.below (hbw.trans (hW.mono (by omega)))).cells k hk
    exact ⟨ad, e, by omega, h1⟩⟩
  have hB0 : Below (b + 2) w1 w1 := Below.refl _ _
  have HS1 := cover hs1
  have HAW := cover (awake_any w1)
  obtain ⟨q0, p0, p1, p2, p3, p4, p5, p6, p7, p8⟩ := HCell.out w1 hB0
  clear hd hr1 g0 g1 hbw hs1 hL0 hb
  go_enter Try.func5, Try.ntmps5
  go_upto_region 1 with fail
  rw [← hw1, HB.out]
  clear hw1
  go_wp2_with fail
  refine HAW.out.mono ?_
  rintro e w2 ⟨rfl, hb2⟩
  rw [HS1.out] at hb2
  clear HAW q0 p0 p1 p2 p3 p4 p5 p6 p7 p8 hB0
  obtain ⟨⟨q0, q1, q2, q3, q4, q5⟩, p0, p1, p2, p3, p4, p5, p6, p7, p8⟩ := HCell.out w2 hb2
  by_cases h100 : 100 < len
  · have hl : (100 : Int) < (len : Int) := by omega
    have HN := cover (HOut.out w2 hb2)
    clear HOut HCell HRow HDs HSz hb2
    go_wp2
    go_ret
    exact ⟨rfl, HN.out⟩
  have hl : ¬ (100 : Int) < (len : Int) := by omega
  by_cases h2000 : 2000 < L0
  · have hl2 : (2000 : Int) < (L0 : Int) := by omega
    have HN := cover (HOut.out w2 hb2)
    clear HOut HCell HRow HDs HSz hb2
    go_wp2
    go_ret
    exact ⟨rfl, HN.out⟩
  have hl2 : ¬ (2000 : Int) < (L0 : Int) := by omega
  have hpl : p.info.length ≤ 140737488355328 := by have := HL0.out; omega
  go_wp2_with fail
  refine (made_any (B := b + 2) hlc (by omega) (HSz.out w2 hb2) (HDs.out w2 hb2) HDD.out.2).mono ?_
  rintro e w3 ⟨s, r, l, rfl, H3⟩
  have hb3 : Below (b + 2) w1 w3 := hb2.trans H3.out.bel
  clear p0 p1 p2 p3 p4 p5 p6 p7 p8 q0 q1 q2 q3 q4 q5
  obtain ⟨⟨q0, q1, q2, q3, q4, q5⟩, p0, p1, p2, p3, p4, p5, p6, p7, p8⟩ := HCell.out w3 hb3
  have s4 := hear_go H3.out.has pe p Ap cp (HRow.out w3 hb3) hpl
  obtain ⟨told, htold⟩ : ∃ x, x = toldP l pe p := ⟨_, rfl⟩
  obtain ⟨sent, hsent⟩ : ∃ x, x = sentP l p := ⟨_, rfl⟩
  have HTL := cover (And.intro htold hsent)
  rw [← htold, ← hsent, ← HL0.out] at s4
  clear htold hsent
  go_wp2_with fail
  refine s4.mono ?_
  rintro e w4 ⟨A4, c4, A4', c4', rfl, H4⟩
  have hb4 : Below (b + 2) w1 w4 := hb3.trans (H4.out.2.2.mono (HSz.out w3 hb3))
  clear s4 p0 p1 p2 p3 p4 p5 p6 p7 p8 q0 q1 q2 q3 q4 q5
  obtain ⟨⟨q0, q1, q2, q3, q4, q5⟩, p0, p1, p2, p3, p4, p5, p6, p7, p8⟩ := HCell.out w4 hb4
  have s5 := rhear_any (H3.out.ref.below H4.out.2.2) pe p Ap cp (HRow.out w4 hb4) hpl
  rw [← HTL.out.1, ← HTL.out.2, ← HL0.out] at s5
  go_wp2_with fail
  refine s5.mono ?_
  rintro e w5 ⟨A5, c5, A5', c5', rfl, H5⟩
  have hb5 : Below (b + 2) w1 w5 := hb4.trans (H5.out.2.2.mono (HSz.out w4 hb4))
  have HIN := H3.out.has.ok
  have hn1 : told.length ≤ 1000 := by rw [HTL.out.1]; exact told_len HIN pe p
  have hn2 : sent.length ≤ 1000 := by rw [HTL.out.2]; exact sent_len HIN p
  have s6 := inds_same rfl (H4.out.1.below H5.out.2.2) H5.out.1 hn1 (fun x hx => by rw [HTL.out.1] at hx; have := told_info hx; have := HL0.out; omega)
  have HS7 : Hid (∀ W, Below w5.heap.size w5 W → Calls Try.prog 24 #[.slice A4' sent.length c4', .slice A5' sent.length c5'] W fun e w' => e = .returned (.bool true) ∧ Below W.heap.size W w') := cover fun W hW =>
    pdus_same rfl ((H4.out.2.1.below H5.out.2.2).below hW) (H5.out.2.1.below hW) hn2 (fun x hx => by rw [HTL.out.2] at hx; have := sent_info hx; have := HL0.out; omega)
  have HB5 := cover (And.intro (HOut.out w5 hb5) (And.intro (HSz.out w5 hb5) hb5))
  obtain ⟨m1, hm1⟩ : ∃ m, m = told.length := ⟨_, rfl⟩
  obtain ⟨m2, hm2⟩ : ∃ m, m = sent.length := ⟨_, rfl⟩
  rw [← hm1] at s6 ⊢
  rw [← hm2] at HS7 ⊢
  have HS6 := cover s6
  clear s5 s6 p0 p1 p2 p3 p4 p5 p6 p7 p8 q0 q1 q2 q3 q4 q5 hb2 hb3 hb4 hb5 H3 H4 H5 HIN hn1 hn2 hm1 hm2 hpl
  go_wp2_with fail
  refine HS6.out.mono ?_
  rintro e w6 ⟨rfl, hb6⟩
  have HS7' := cover (HS7.out w6 hb6)
  have HB6 : Hid (Below b w w6) := cover (HB5.out.1.trans (hb6.mono (by have := HB5.out.2.1; omega)))
  have HB6s : b ≤ w6.heap.size := by have := HB5.out.2.1; have := hb6.size; omega
  clear hb6 HS7 HS6
  go_wp2_with fail
  refine HS7'.out.mono ?_
  rintro e w7 ⟨rfl, hb7⟩
  have HB7 : Hid (Below b w w7) := cover (HB6.out.trans (hb7.mono HB6s))
  clear hb7 HS7'
  go_wp2
  go_ret
  exact ⟨rfl, HB7.out⟩
end Go.Proofs.Ytgpmimohoepeiaa
