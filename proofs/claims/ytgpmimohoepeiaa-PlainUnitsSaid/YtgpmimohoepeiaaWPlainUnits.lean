/- The walk of PlainUnits. -/
import Derived.Deep.CutBlock
import Derived.Deep.DeepCutAuto
import Derived.Test.YtgpmimohoepeiaaFHeld
import Derived.Test.YtgpmimohoepeiaaHUse
import Derived.Test.YtgpmimohoepeiaaHAwake
namespace Go.Proofs.Ytgpmimohoepeiaa
open Go.RowKit
set_option linter.unusedVariables false
set_option linter.unusedSimpArgs false
attribute [local go_sem] run_eq6

theorem ind_size : (Try.prog.info? 60).map (fun x => x.size) = some 11 := by kernel_rfl
theorem ind_cells {w : World} {g : Nat} {v0 v1 v2 v3 v4 v5 v6 v7 v8 v9 v10 : Value} {T : TypeId} {fr : Nat × Nat} (h : w.heap[g]? = some (.cells #[v0, v1, v2, v3, v4, v5, v6, v7, v8, v9, v10] T fr)) :
    w.cell? ⟨g, 0, none⟩ = some v0 ∧ w.cell? ⟨g, 1, none⟩ = some v1 ∧ w.cell? ⟨g, 2, none⟩ = some v2 ∧ w.cell? ⟨g, 3, none⟩ = some v3 ∧ w.cell? ⟨g, 4, none⟩ = some v4 ∧ w.cell? ⟨g, 5, none⟩ = some v5 ∧ w.cell? ⟨g, 6, none⟩ = some v6 ∧ w.cell? ⟨g, 7, none⟩ = some v7 ∧ w.cell? ⟨g, 8, none⟩ = some v8 ∧ w.cell? ⟨g, 9, none⟩ = some v9 ∧ w.cell? ⟨g, 10, none⟩ = some v10 := by
  refine ⟨?_, ?_, ?_, ?_, ?_, ?_, ?_, ?_, ?_, ?_, ?_⟩
  all_goals (rw [cell_of_row w g _ _ _ _ h]; rfl)
set_option maxRecDepth 100000 in
set_option maxHeartbeats 1600000 in
theorem walk_PlainUnits (A : Option Addr) (len cap : Nat) (ds : List (Int × Int × Int)) (f tt : Int) (Ab : Option Addr) (L0 cb : Nat) (bs : List Int) (y0 y1 y2 y3 y4 y5 : Int) (w : World) (hlc : len ≤ cap) (hcm : cap ≤ maxLen) (hd : Deeds w w.heap.size A len ds ∧ ∀ q ∈ ds, (-9223372036854775808 ≤ q.1 ∧ q.1 ≤ 9223372036854775807) ∧ (-9223372036854775808 ≤ q.2.1 ∧ q.2.1 ≤ 9223372036854775807) ∧ (-9223372036854775808 ≤ q.2.2 ∧ q.2.2 ≤ 9223372036854775807))
    (hf : 0 ≤ f ∧ f ≤ 255) (ht : 0 ≤ tt ∧ tt ≤ 255) (hlc1 : L0 ≤ cb) (hcm1 : cb ≤ maxLen) (hr1 : Row w w.heap.size Ab L0 bs) (hb2 : Bts [y0, y1, y2, y3, y4, y5]) :
    Calls Try.prog 7 #[.slice A len cap, .agg #[.int .u8 f, .int .u8 tt, .slice Ab L0 cb], .agg #[.int .u8 y0, .int .u8 y1, .int .u8 y2, .int .u8 y3, .int .u8 y4, .int .u8 y5]] w fun e w' => e = .returned (.bool true) ∧ Below w.heap.size w w' := by
  obtain ⟨pe, hpe⟩ : ∃ pe : A6, pe = ⟨y0, y1, y2, y3, y4, y5⟩ := ⟨_, rfl⟩
  obtain rfl : y0 = pe.a0 := by rw [hpe]
  obtain rfl : y1 = pe.a1 := by rw [hpe]
  obtain rfl : y2 = pe.a2 := by rw [hpe]
  obtain rfl : y3 = pe.a3 := by rw [hpe]
  obtain rfl : y4 = pe.a4 := by rw [hpe]
  obtain rfl : y5 = pe.a5 := by rw [hpe]
  clear hpe hb2 hcm hcm1
  obtain ⟨b, hb⟩ : ∃ b, w.heap.size = b := ⟨_, rfl⟩
  have HB := cover hb
  rw [hb] at hd hr1 ⊢
  have HDD := cover hd
  have HR := cover hr1
  have HL0 := cover hr1.len
  obtain ⟨w1, hw1⟩ : ∃ w1, w1 = (w.alloc (.cells #[.int .u8 f, .int .u8 tt, .slice Ab L0 cb] 54)).alloc (.cells #[.int .u8 pe.a0, .int .u8 pe.a1, .int .u8 pe.a2, .int .u8 pe.a3, .int .u8 pe.a4, .int .u8 pe.a5] 37) := ⟨_, rfl⟩
  have hbw : Below b w w1 := by rw [hw1, ← hb]; exact ((Below.refl _ _).alloc (Nat.le_refl _) _).alloc (by simp) _
  have hs1 : w1.heap.size = b + 2 := by rw [hw1]; simp [hb]
  have g0 : w1.heap[b]? = some (.cells #[.int .u8 f, .int .u8 tt, .slice Ab L0 cb] 54 (0, 0)) := by rw [hw1, ← hb]; exact heap_alloc2_old _ _ _
  have g1 : w1.heap[b + 1]? = some (.cells #[.int .u8 pe.a0, .int .u8 pe.a1, .int .u8 pe.a2, .int .u8 pe.a3, .int .u8 pe.a4, .int .u8 pe.a5] 37 (0, 0)) := by rw [hw1, ← hb]; exact heap_alloc2_new _ _ _
  have HCell : Hid (∀ W, Below (b + 2) w1 W → (W.cell? ⟨b + 1, 0, none⟩ = some (.int .u8 pe.a0) ∧ W.cell? ⟨b + 1, 1, none⟩ = some (.int .u8 pe.a1) ∧ W.cell? ⟨b + 1, 2, none⟩ = some (.int .u8 pe.a2) ∧ W.cell? ⟨b + 1, 3, none⟩ = some (.int .u8 pe.a3) ∧ W.cell? ⟨b + 1, 4, none⟩ = some (.int .u8 pe.a4) ∧ W.cell? ⟨b + 1, 5, none⟩ = some (.int .u8 pe.a5)) ∧ W.cell? ⟨b, 0, none⟩ = some (.int .u8 f) ∧ W.cell? ⟨b, 1, none⟩ = some (.int .u8 tt) ∧ W.cell? ⟨b, 2, none⟩ = some (.slice Ab L0 cb)) := cover fun W hW => by
    have e0 := (hW.block b (by omega)).trans g0
    have e1 := (hW.block (b + 1) (by omega)).trans g1
    refine ⟨⟨?_, ?_, ?_, ?_, ?_, ?_⟩, ?_, ?_, ?_⟩
    all_goals first | (rw [cell_of_row _ _ _ _ _ _ e1]; rfl) | (rw [cell_of_row _ _ _ _ _ _ e0]; rfl)
  have HSz : Hid (∀ W, Below (b + 2) w1 W → b + 2 ≤ W.heap.size) := cover fun W hW => by rw [← hs1]; exact hW.size
  have HOut : Hid (∀ W, Below (b + 2) w1 W → Below b w W) := cover fun W hW => hbw.trans (hW.mono (by omega))
  have HRow : Hid (∀ W, Below (b + 2) w1 W → Row W W.heap.size Ab L0 bs) := cover fun W hW => (HR.out.below (hbw.trans (hW.mono (by omega)))).more (by have := HSz.out W hW; omega)
  have HDs : Hid (∀ W, Below (b + 2) w1 W → Deeds W (b + 2) A len ds) := cover fun W hW => ⟨HDD.out.1.len, fun k hk => by
    obtain ⟨ad, e, hlt, h1⟩ := (HDD.out.1.below (hbw.trans (hW.mono (by omega)))).cells k hk
    exact ⟨ad, e, by omega, h1⟩⟩
  have hB0 : Below (b + 2) w1 w1 := Below.refl _ _
  have HS1 := cover hs1
  have HAW := cover (awake_any w1)
  clear hd hr1 g0 g1 hbw hs1 hb
  go_enter Try.func7, Try.ntmps7
  go_upto_region 1 with fail
  rw [← hw1, HB.out]
  clear hw1
  go_wp2_with fail
  refine HAW.out.mono ?_
  rintro e w2 ⟨rfl, hb2⟩
  rw [HS1.out] at hb2
  clear HAW hB0
  obtain ⟨⟨q0, q1, q2, q3, q4, q5⟩, p0, p1, p2⟩ := HCell.out w2 hb2
  have HN := cover (HOut.out w2 hb2)
  by_cases h100 : 100 < len
  · have hl : (100 : Int) < (len : Int) := by omega
    clear HOut HCell HRow HDs HSz hb2
    go_wp2
    go_ret
    exact ⟨rfl, HN.out⟩
  have hl : ¬ (100 : Int) < (len : Int) := by omega
  by_cases h1024 : 1024 < L0
  · have hl2 : (1024 : Int) < (L0 : Int) := by omega
    clear HOut HCell HRow HDs HSz hb2
    go_wp2
    go_ret
    exact ⟨rfl, HN.out⟩
  have hl2 : ¬ (1024 : Int) < (L0 : Int) := by omega
  by_cases ht0 : tt = 0
  · have htb : (tt == 0) = true := by simpa using ht0
    clear HOut HCell HRow HDs HSz hb2
    go_wp2
    go_ret
    exact ⟨rfl, HN.out⟩
  have htb : (tt == 0) = false := by simpa using ht0
  clear HN
  go_wp2_with fail
  refine (made_any (B := b + 2) hlc (by omega) (HSz.out w2 hb2) (HDs.out w2 hb2) HDD.out.2).mono ?_
  rintro e w3 ⟨s, r, l, rfl, H3⟩
  have hb3 : Below (b + 2) w1 w3 := hb2.trans H3.out.bel
  clear p0 p1 p2 q0 q1 q2 q3 q4 q5
  obtain ⟨⟨q0, q1, q2, q3, q4, q5⟩, p0, p1, p2⟩ := HCell.out w3 hb3
  obtain ⟨fr, hfr⟩ : ∃ fr : Int, 2 + 2 * (f % 127) = fr := ⟨_, rfl⟩
  have HFR : Hid (OkSap fr) := cover (by rw [← hfr]; exact sapF hf)
  have hm0 : IntKind.i64.wrap f = f := by rw [IntKind.wrap_i64]; omega
  have hm0t : IntKind.i64.wrap tt = tt := by rw [IntKind.wrap_i64]; omega
  have hm1 : f.tmod 127 = f % 127 := Int.tmod_eq_emod_of_nonneg (by omega)
  have hm2 : IntKind.i64.wrap (2 * (f % 127)) = 2 * (f % 127) := by rw [IntKind.wrap_i64]; omega
  have hm3 : IntKind.i64.wrap (2 + 2 * (f % 127)) = fr := by rw [IntKind.wrap_i64]; omega
  have hm4 : IntKind.i64.wrap (f % 127) = f % 127 := by rw [IntKind.wrap_i64]; omega
  have s4 := unit_any Ab cb w3.heap.size bs fr tt w3 (by rw [HL0.out]; exact HRow.out w3 hb3) (Nat.le_refl _) (by have := HL0.out; omega)
  rw [show askP (uiQ fr tt) 1 bs = ((⟨tt, fr, false, 2, 0, 0, 0, false, bs⟩ : PV), 0) from askP_yes ⟨HFR.out, by show (1 : Int) ≤ tt; omega, ht.2⟩ (by have := HL0.out; omega), HL0.out] at s4
  obtain ⟨p, hp⟩ : ∃ p : PV, p = ⟨tt, fr, false, 2, 0, 0, 0, false, bs⟩ := ⟨_, rfl⟩
  have HP : Hid (IsOne p ∧ p.kind = 0 ∧ p.to = tt ∧ p.frm = fr ∧ p.info = bs ∧ p.info.length = L0) := cover (by
    rw [hp]
    exact ⟨one_ask (q := uiQ fr tt) rfl (by unfold uiQ; simp) rfl rfl rfl HFR.out ht (by have := HL0.out; omega), rfl, rfl, rfl, rfl, HL0.out⟩)
  rw [← hp] at s4
  have HPE := cover hp
  have HA4 := cover s4
  clear hp s4 ht0
  go_wp2_with fail
  refine HA4.out.mono ?_
  rintro e v4 ⟨A4, c4, rfl, HO⟩
  obtain ⟨w4, hw4, HV4, hbx⟩ := var_new (r := (p, 0)) HO.out.1 HO.out.2
  have hb4 : Below (b + 2) w1 w4 := hb3.trans (hbx.out.mono (HSz.out w3 hb3))
  have H4 := cover (H3.out.below hbx.out)
  obtain ⟨g4, hg4⟩ : ∃ g, g = v4.heap.size := ⟨_, rfl⟩
  have HG4 := cover hg4
  rw [← hg4] at HV4
  clear HO hbx H3 hb3 hb2 HA4 hg4 p0 p1 p2 q0 q1 q2 q3 q4 q5 hm1 hm2 hm3 hm4 hfr
  obtain ⟨⟨q0, q1, q2, q3, q4, q5⟩, p0, p1, p2⟩ := HCell.out w4 hb4
  have s5 := hear_go H4.out.has pe p A4 c4 HV4.out.row (by rw [HP.out.2.2.2.2.2]; omega)
  rw [toldP_ui HP.out.1 HP.out.2.1, sentP_ui HP.out.2.1] at s5
  obtain ⟨L, hL⟩ : ∃ L, L = hearS l p.to := ⟨_, rfl⟩
  have hl16 : L.length ≤ 16 := by rw [hL]; exact hear_len16 H4.out.has.ok _
  have HLE : Hid (L = hearS l tt) := cover (by rw [hL, HP.out.2.2.1])
  obtain ⟨n, hn⟩ : ∃ n, n = L.length := ⟨_, rfl⟩
  have HNL := cover hn
  rw [← hL] at s5
  rw [← hn] at hl16
  have HA5 := cover s5
  clear s5 hL hn
  go_wp2_with (first
    | (refine wpList_store_row rfl _ _ _ rfl v4.heap.size #[.int .i64 p.to, .int .i64 p.frm, .bool p.resp, .int .i64 p.form, .int .i64 p.kind, .int .i64 p.ns, .int .i64 p.nr, .bool p.poll, .slice A4 p.info.length c4] rfl rfl 29 zp (heap_alloc_new _ _) pdu_size rfl (pdu_one _ _ _ _ _ _ _ _ _ _ _) ?_; rw [← hw4.out, ← HG4.out])
    | (refine wpList_load_row rfl _ _ rfl g4 rfl 29 _ (0, 0) _ HV4.out.hd Try.underlying29 rfl pdu_size ?_))
  refine HA5.out.mono ?_
  rintro e w5 ⟨A5, c5, A5', c5', rfl, H5⟩
  have hb5 : Below (b + 2) w1 w5 := hb4.trans (H5.out.2.2.mono (HSz.out w4 hb4))
  have HV5 := cover (HV4.out.below H5.out.2.2)
  have H5r := cover (H4.out.below H5.out.2.2)
  have HI5 := cover H5.out.1
  clear HA5 H5 H4 HV4 hw4 hb4 p0 p1 p2 q0 q1 q2 q3 q4 q5
  obtain ⟨⟨q0, q1, q2, q3, q4, q5⟩, p0, p1, p2⟩ := HCell.out w5 hb5
  have s6 := rhears_has H5r.out.ref tt
  rw [← HLE.out] at s6
  have HA6 := cover s6
  clear s6
  rw [List.length_map, ← HNL.out] at HI5 ⊢
  go_wp2_with fail
  refine HA6.out.mono ?_
  rintro e w6 ⟨A6, c6, rfl, H6⟩
  rw [← HNL.out] at H6 ⊢
  have hb6 : Below (b + 2) w1 w6 := hb5.trans (H6.out.2.mono (HSz.out w5 hb5))
  have HV6 := cover (HV5.out.below H6.out.2)
  have HI6 := cover (HI5.out.below H6.out.2)
  have HR6 := cover H6.out.1
  have HB6 := cover hb6
  have hnn : ((n : Int) != (n : Int)) = false := by simp
  have hz0 : (((([] : List PV).length : Nat) : Int) != 0) = false := by decide
  clear HA6 H6 H5r HI5 HV5 hb5 hb6 p0 p1 p2 q0 q1 q2 q3 q4 q5 hm0t
  go_wp2_with fail
  go_loopw [14] (fun i wr => ∃ j : Nat, j ≤ n ∧ i = .int .i64 j ∧ Hid (Below w6.heap.size w6 wr)) (fun i _ => n - (intOf i).toNat)
  case atStart => exact ⟨0, Nat.zero_le _, rfl, cover (Below.refl _ _)⟩
  case round =>
    obtain ⟨j, hj, rfl, hrel⟩ := hrel
    by_cases hlt : j < n
    · obtain ⟨x, hx⟩ : ∃ x, L[j]? = some x := ⟨_, List.getElem?_eq_getElem (by rw [← HNL.out]; exact hlt)⟩
      obtain ⟨g, hA, hgl, _, hc0⟩ := own_cell (own_blocks HR6.out hrel.out) (j := j) (x := .int .i64 x) (by rw [List.getElem?_map, hx]; rfl)
      obtain ⟨gi, cc, Ai, mi, hv1, hcc, _, hgil, hci, hii, _⟩ := (HI6.out.below hrel.out).at_ (i := j) (x := indV 1 pe p x) (by rw [List.getElem?_map, hx]; rfl)
      have hA5 : A5 = some ⟨gi, 0, none⟩ := by injection hv1
      have hc5 : c5 = cc := by injection hv1
      rw [List.length_map, ← HNL.out] at hcc
      subst hA hA5 hc5
      have hjc : j < c5 := by omega
      have i0 : wr.cell? ⟨gi, j * 11, none⟩ = some (.int .i64 1) := hci 0 (by decide)
      have i1 : wr.cell? ⟨gi, j * 11 + 1, none⟩ = some (.int .i64 x) := hci 1 (by decide)
      have i2 : wr.cell? ⟨gi, j * 11 + 2, none⟩ = some (.int .i64 p.frm) := hci 2 (by decide)
      have i3 : wr.cell? ⟨gi, j * 11 + 3, none⟩ = some (.int .u8 pe.a0) := hci 3 (by decide)
      have i4 : wr.cell? ⟨gi, j * 11 + 4, none⟩ = some (.int .u8 pe.a1) := hci 4 (by decide)
      have i5 : wr.cell? ⟨gi, j * 11 + 5, none⟩ = some (.int .u8 pe.a2) := hci 5 (by decide)
      have i6 : wr.cell? ⟨gi, j * 11 + 6, none⟩ = some (.int .u8 pe.a3) := hci 6 (by decide)
      have i7 : wr.cell? ⟨gi, j * 11 + 7, none⟩ = some (.int .u8 pe.a4) := hci 7 (by decide)
      have i8 : wr.cell? ⟨gi, j * 11 + 8, none⟩ = some (.int .u8 pe.a5) := hci 8 (by decide)
      have i9 : wr.cell? ⟨gi, j * 11 + 9, none⟩ = some (.slice Ai L0 mi) := by rw [← HP.out.2.2.2.2.2]; exact hci 9 (by decide)
      have i10 : wr.cell? ⟨gi, j * 11 + 10, none⟩ = some (.int .i64 0) := hci 10 (by decide)
      obtain ⟨w7, hw7⟩ : ∃ w7, Hid (w7 = (wr.alloc (.cells #[.int .i64 0, .int .i64 0, .int .i64 0, .int .u8 0, .int .u8 0, .int .u8 0, .int .u8 0, .int .u8 0, .int .u8 0, .slice none 0 0, .int .i64 0] 60)).setRow wr.heap.size #[.int .i64 1, .int .i64 x, .int .i64 p.frm, .int .u8 pe.a0, .int .u8 pe.a1, .int .u8 pe.a2, .int .u8 pe.a3, .int .u8 pe.a4, .int .u8 pe.a5, .slice Ai L0 mi, .int .i64 0]) := ⟨_, cover rfl⟩
      have hb7 : Below wr.heap.size wr w7 := by rw [hw7.out]; exact Go.below_setRow ((Below.refl _ _).alloc (Nat.le_refl _) _) (Nat.le_refl _) _
      obtain ⟨g7, hg7⟩ : ∃ g, g = wr.heap.size := ⟨_, rfl⟩
      have G7 : w7.heap[g7]? = some (.cells #[.int .i64 1, .int .i64 x, .int .i64 p.frm, .int .u8 pe.a0, .int .u8 pe.a1, .int .u8 pe.a2, .int .u8 pe.a3, .int .u8 pe.a4, .int .u8 pe.a5, .slice Ai L0 mi, .int .i64 0] 60 (0, 0)) := by rw [hw7.out, hg7]; exact setRow_heap _ _ _ _ _ _ (heap_alloc_new _ _)
      have hx7 : Below w6.heap.size w6 w7 := hrel.out.trans (hb7.mono hrel.out.size)
      have hx1 : Below (b + 2) w1 w7 := HB6.out.trans (hx7.mono (HSz.out _ HB6.out))
      have HS : Hid (∀ W', Below w7.heap.size w7 W' → (fun W' : World => W'.cell? ⟨g7, 0, none⟩ = some (.int .i64 1) ∧ W'.cell? ⟨g7, 1, none⟩ = some (.int .i64 x) ∧ W'.cell? ⟨g7, 2, none⟩ = some (.int .i64 p.frm) ∧ (W'.cell? ⟨g7, 3, none⟩ = some (.int .u8 pe.a0) ∧ W'.cell? ⟨g7, 4, none⟩ = some (.int .u8 pe.a1) ∧ W'.cell? ⟨g7, 5, none⟩ = some (.int .u8 pe.a2) ∧ W'.cell? ⟨g7, 6, none⟩ = some (.int .u8 pe.a3) ∧ W'.cell? ⟨g7, 7, none⟩ = some (.int .u8 pe.a4) ∧ W'.cell? ⟨g7, 8, none⟩ = some (.int .u8 pe.a5)) ∧ W'.cell? ⟨g7, 9, none⟩ = some (.slice Ai L0 mi) ∧ W'.cell? ⟨g7, 10, none⟩ = some (.int .i64 0) ∧ W'.cell? ⟨g, j, none⟩ = some (.int .i64 x) ∧ W'.cell? ⟨g4, 1, none⟩ = some (.int .i64 p.frm) ∧ (W'.cell? ⟨b + 1, 0, none⟩ = some (.int .u8 pe.a0) ∧ W'.cell? ⟨b + 1, 1, none⟩ = some (.int .u8 pe.a1) ∧ W'.cell? ⟨b + 1, 2, none⟩ = some (.int .u8 pe.a2) ∧ W'.cell? ⟨b + 1, 3, none⟩ = some (.int .u8 pe.a3) ∧ W'.cell? ⟨b + 1, 4, none⟩ = some (.int .u8 pe.a4) ∧ W'.cell? ⟨b + 1, 5, none⟩ = some (.int .u8 pe.a5)) ∧ W'.cell? ⟨b, 2, none⟩ = some (.slice Ab L0 cb) ∧ Below w7.heap.size w7 W') W') := cover fun W' hb' => by
        have hW1 : Below (b + 2) w1 W' := hx1.trans (hb'.mono (HSz.out _ hx1))
        obtain ⟨k6, _, _, k2⟩ := HCell.out W' hW1
        have kc : W'.cell? ⟨g, j, none⟩ = some (.int .i64 x) := (hb'.cell (p := ⟨g, j, none⟩) (by have := hb7.size; show g < _; omega)).trans ((hb7.cell (p := ⟨g, j, none⟩) hgl).trans hc0)
        obtain ⟨_, m1, _, _, _, _, _, _, _⟩ := pdu_cells ((HV6.out.below (hx7.trans (hb'.mono hx7.size))).hd)
        obtain ⟨n0, n1, n2, n3, n4, n5, n6, n7, n8, n9, n10⟩ := ind_cells ((hb'.block _ (block_lt G7)).trans G7)
        exact ⟨n0, n1, n2, ⟨n3, n4, n5, n6, n7, n8⟩, n9, n10, kc, m1, k6, k2, hb'⟩
      have hrowi : Row w7 w7.heap.size Ai L0 p.info := by
        have := OwnB.row (ownB_below hii hb7)
        rw [show (indV 1 pe p x).b = p.info from rfl, HP.out.2.2.2.2.2] at this
        exact this
      have hrowb : Row w7 w7.heap.size Ab L0 p.info := by rw [HP.out.2.2.2.2.1]; exact HRow.out w7 hx1
      have HSM : Hid (∀ W', Below w7.heap.size w7 W' → Calls Try.prog 16 #[.slice Ai L0 mi, .slice Ab L0 cb] W' fun e w' => e = .returned (.bool true) ∧ Below W'.heap.size W' w') := cover fun W' hb' => by
        refine (same_any Ai Ab L0 mi cb w7.heap.size w7.heap.size p.info p.info W' (hrowi.below hb') (hrowb.below hb') (by omega)).mono ?_
        rintro e w' ⟨rfl, d, rfl⟩
        exact ⟨by rw [decide_eq_true rfl], below_drewN (Below.refl _ _) d⟩
      have hsix : sameL [pe.a0, pe.a1, pe.a2, pe.a3, pe.a4, pe.a5] [pe.a0, pe.a1, pe.a2, pe.a3, pe.a4, pe.a5] = true := sameL_refl _
      have hb0 : Below w7.heap.size w7 w7.drew := (Below.refl _ _).drew
      have h3 : (fun W' : World => W'.cell? ⟨g7, 0, none⟩ = some (.int .i64 1) ∧ W'.cell? ⟨g7, 1, none⟩ = some (.int .i64 x) ∧ W'.cell? ⟨g7, 2, none⟩ = some (.int .i64 p.frm) ∧ (W'.cell? ⟨g7, 3, none⟩ = some (.int .u8 pe.a0) ∧ W'.cell? ⟨g7, 4, none⟩ = some (.int .u8 pe.a1) ∧ W'.cell? ⟨g7, 5, none⟩ = some (.int .u8 pe.a2) ∧ W'.cell? ⟨g7, 6, none⟩ = some (.int .u8 pe.a3) ∧ W'.cell? ⟨g7, 7, none⟩ = some (.int .u8 pe.a4) ∧ W'.cell? ⟨g7, 8, none⟩ = some (.int .u8 pe.a5)) ∧ W'.cell? ⟨g7, 9, none⟩ = some (.slice Ai L0 mi) ∧ W'.cell? ⟨g7, 10, none⟩ = some (.int .i64 0) ∧ W'.cell? ⟨g, j, none⟩ = some (.int .i64 x) ∧ W'.cell? ⟨g4, 1, none⟩ = some (.int .i64 p.frm) ∧ (W'.cell? ⟨b + 1, 0, none⟩ = some (.int .u8 pe.a0) ∧ W'.cell? ⟨b + 1, 1, none⟩ = some (.int .u8 pe.a1) ∧ W'.cell? ⟨b + 1, 2, none⟩ = some (.int .u8 pe.a2) ∧ W'.cell? ⟨b + 1, 3, none⟩ = some (.int .u8 pe.a3) ∧ W'.cell? ⟨b + 1, 4, none⟩ = some (.int .u8 pe.a4) ∧ W'.cell? ⟨b + 1, 5, none⟩ = some (.int .u8 pe.a5)) ∧ W'.cell? ⟨b, 2, none⟩ = some (.slice Ab L0 cb) ∧ Below w7.heap.size w7 W') w7.drew := HS.out _ hb0
      have HX7 := cover hx7
      have HG7 := cover hg7
      have mixed : Try.prog.follows .mixedOrders = true := by kernel_rfl
      clear hx hc0 hv1 hci hii hg7 hrowi hrowb hx7 hx1 G7
      go_wp2_with (refine wpList_store_row rfl _ _ _ rfl wr.heap.size #[.int .i64 1, .int .i64 x, .int .i64 p.frm, .int .u8 pe.a0, .int .u8 pe.a1, .int .u8 pe.a2, .int .u8 pe.a3, .int .u8 pe.a4, .int .u8 pe.a5, .slice Ai L0 mi, .int .i64 0] rfl rfl 60 #[.int .i64 0, .int .i64 0, .int .i64 0, .int .u8 0, .int .u8 0, .int .u8 0, .int .u8 0, .int .u8 0, .int .u8 0, .slice none 0 0, .int .i64 0] (heap_alloc_new _ _) ind_size rfl (by simp [Value.oneCell']) ?_; rw [← hw7.out, ← HG7.out])
      clear i0 i1 i2 i3 i4 i5 i6 i7 i8 i9 i10
      refine (wpIn_wide (n := 0)).1 ?_
      refine held_begin (fun W' : World => W'.cell? ⟨g7, 0, none⟩ = some (.int .i64 1) ∧ W'.cell? ⟨g7, 1, none⟩ = some (.int .i64 x) ∧ W'.cell? ⟨g7, 2, none⟩ = some (.int .i64 p.frm) ∧ (W'.cell? ⟨g7, 3, none⟩ = some (.int .u8 pe.a0) ∧ W'.cell? ⟨g7, 4, none⟩ = some (.int .u8 pe.a1) ∧ W'.cell? ⟨g7, 5, none⟩ = some (.int .u8 pe.a2) ∧ W'.cell? ⟨g7, 6, none⟩ = some (.int .u8 pe.a3) ∧ W'.cell? ⟨g7, 7, none⟩ = some (.int .u8 pe.a4) ∧ W'.cell? ⟨g7, 8, none⟩ = some (.int .u8 pe.a5)) ∧ W'.cell? ⟨g7, 9, none⟩ = some (.slice Ai L0 mi) ∧ W'.cell? ⟨g7, 10, none⟩ = some (.int .i64 0) ∧ W'.cell? ⟨g, j, none⟩ = some (.int .i64 x) ∧ W'.cell? ⟨g4, 1, none⟩ = some (.int .i64 p.frm) ∧ (W'.cell? ⟨b + 1, 0, none⟩ = some (.int .u8 pe.a0) ∧ W'.cell? ⟨b + 1, 1, none⟩ = some (.int .u8 pe.a1) ∧ W'.cell? ⟨b + 1, 2, none⟩ = some (.int .u8 pe.a2) ∧ W'.cell? ⟨b + 1, 3, none⟩ = some (.int .u8 pe.a3) ∧ W'.cell? ⟨b + 1, 4, none⟩ = some (.int .u8 pe.a4) ∧ W'.cell? ⟨b + 1, 5, none⟩ = some (.int .u8 pe.a5)) ∧ W'.cell? ⟨b, 2, none⟩ = some (.slice Ab L0 cb) ∧ Below w7.heap.size w7 W') 99 mixed ?_
      refine hold_take 0 _ rfl (by kernel_rfl) (by kernel_rfl) (by kernel_rfl) (by kernel_rfl) (by kernel_rfl) (fun _ _ _ h => h) (by rfl) (fun _ => rfl) h3 (fun w' hS => by obtain ⟨q0, q1, q2, ⟨q3, q4, q5, q6, q7, q8⟩, q9, q10, q11, q12, ⟨r0, r1, r2, r3, r4, r5⟩, r6, r7⟩ := hS; go_simp; rfl) ?_
      simp only [Act.put, List.setIfInBounds_toArray, List.set_cons_zero, List.set_cons_succ]
      refine hold_take 1 _ rfl (by kernel_rfl) (by kernel_rfl) (by kernel_rfl) (by kernel_rfl) (by kernel_rfl) (fun _ _ _ h => h) (by rfl) (fun _ => rfl) h3 (fun w' hS => by obtain ⟨q0, q1, q2, ⟨q3, q4, q5, q6, q7, q8⟩, q9, q10, q11, q12, ⟨r0, r1, r2, r3, r4, r5⟩, r6, r7⟩ := hS; go_simp; rfl) ?_
      simp only [Act.put, List.setIfInBounds_toArray, List.set_cons_zero, List.set_cons_succ]
      refine hold_take 2 (.bool false) rfl (by kernel_rfl) (by kernel_rfl) (by kernel_rfl) (by kernel_rfl) (by kernel_rfl) (fun _ _ _ h => h) (by rfl) (fun _ => rfl) h3 (fun w' hS => by obtain ⟨q0, q1, q2, ⟨q3, q4, q5, q6, q7, q8⟩, q9, q10, q11, q12, ⟨r0, r1, r2, r3, r4, r5⟩, r6, r7⟩ := hS; go_simp; (first | done | rfl | simp)) ?_
      simp only [Act.put, List.setIfInBounds_toArray, List.set_cons_zero, List.set_cons_succ]
      refine hold_take 3 (.bool false) rfl (by kernel_rfl) (by kernel_rfl) (by kernel_rfl) (by kernel_rfl) (by kernel_rfl) (fun _ _ _ h => h) (by rfl) (fun _ => rfl) h3 (fun w' hS => by obtain ⟨q0, q1, q2, ⟨q3, q4, q5, q6, q7, q8⟩, q9, q10, q11, q12, ⟨r0, r1, r2, r3, r4, r5⟩, r6, r7⟩ := hS; go_simp; (first | done | rfl | simp)) ?_
      simp only [Act.put, List.setIfInBounds_toArray, List.set_cons_zero, List.set_cons_succ]
      refine hold_take 4 _ rfl (by kernel_rfl) (by kernel_rfl) (by kernel_rfl) (by kernel_rfl) (by kernel_rfl) (fun _ _ _ h => h) (by rfl) (fun _ => rfl) h3 (fun w' hS => by obtain ⟨q0, q1, q2, ⟨q3, q4, q5, q6, q7, q8⟩, q9, q10, q11, q12, ⟨r0, r1, r2, r3, r4, r5⟩, r6, r7⟩ := hS; go_simp; rfl) ?_
      simp only [Act.put, List.setIfInBounds_toArray, List.set_cons_zero, List.set_cons_succ]
      refine hold_take 5 _ rfl (by kernel_rfl) (by kernel_rfl) (by kernel_rfl) (by kernel_rfl) (by kernel_rfl) (fun _ _ _ h => h) (by rfl) (fun _ => rfl) h3 (fun w' hS => by obtain ⟨q0, q1, q2, ⟨q3, q4, q5, q6, q7, q8⟩, q9, q10, q11, q12, ⟨r0, r1, r2, r3, r4, r5⟩, r6, r7⟩ := hS; go_simp; rfl) ?_
      simp only [Act.put, List.setIfInBounds_toArray, List.set_cons_zero, List.set_cons_succ]
      refine hold_take 6 _ rfl (by kernel_rfl) (by kernel_rfl) (by kernel_rfl) (by kernel_rfl) (by kernel_rfl) (fun _ _ _ h => h) (by rfl) (fun _ => rfl) h3 (fun w' hS => by obtain ⟨q0, q1, q2, ⟨q3, q4, q5, q6, q7, q8⟩, q9, q10, q11, q12, ⟨r0, r1, r2, r3, r4, r5⟩, r6, r7⟩ := hS; go_simp; rfl) ?_
      simp only [Act.put, List.setIfInBounds_toArray, List.set_cons_zero, List.set_cons_succ]
      refine hold_take 7 _ rfl (by kernel_rfl) (by kernel_rfl) (by kernel_rfl) (by kernel_rfl) (by kernel_rfl) (fun _ _ _ h => h) (by rfl) (fun _ => rfl) h3 (fun w' hS => by obtain ⟨q0, q1, q2, ⟨q3, q4, q5, q6, q7, q8⟩, q9, q10, q11, q12, ⟨r0, r1, r2, r3, r4, r5⟩, r6, r7⟩ := hS; go_simp; rfl) ?_
      simp only [Act.put, List.setIfInBounds_toArray, List.set_cons_zero, List.set_cons_succ]
      refine hold_take 8 _ rfl (by kernel_rfl) (by kernel_rfl) (by kernel_rfl) (by kernel_rfl) (by kernel_rfl) (fun _ _ _ h => h) (by rfl) (fun _ => rfl) h3 (fun w' hS => by obtain ⟨q0, q1, q2, ⟨q3, q4, q5, q6, q7, q8⟩, q9, q10, q11, q12, ⟨r0, r1, r2, r3, r4, r5⟩, r6, r7⟩ := hS; go_simp; rfl) ?_
      simp only [Act.put, List.setIfInBounds_toArray, List.set_cons_zero, List.set_cons_succ]
      refine hold_take 9 _ rfl (by kernel_rfl) (by kernel_rfl) (by kernel_rfl) (by kernel_rfl) (by kernel_rfl) (fun _ _ _ h => h) (by rfl) (fun _ => rfl) h3 (fun w' hS => by obtain ⟨q0, q1, q2, ⟨q3, q4, q5, q6, q7, q8⟩, q9, q10, q11, q12, ⟨r0, r1, r2, r3, r4, r5⟩, r6, r7⟩ := hS; go_simp; rfl) ?_
      simp only [Act.put, List.setIfInBounds_toArray, List.set_cons_zero, List.set_cons_succ]
      refine hold_take 10 (.bool false) rfl (by kernel_rfl) (by kernel_rfl) (by kernel_rfl) (by kernel_rfl) (by kernel_rfl) (fun _ _ _ h => h) (by rfl) (fun _ => rfl) h3 (fun w' hS => by obtain ⟨q0, q1, q2, ⟨q3, q4, q5, q6, q7, q8⟩, q9, q10, q11, q12, ⟨r0, r1, r2, r3, r4, r5⟩, r6, r7⟩ := hS; go_simp; (first | done | rfl | simp)) ?_
      simp only [Act.put, List.setIfInBounds_toArray, List.set_cons_zero, List.set_cons_succ]
      refine hold_take 11 (.bool false) rfl (by kernel_rfl) (by kernel_rfl) (by kernel_rfl) (by kernel_rfl) (by kernel_rfl) (fun _ _ _ h => h) (by rfl) (fun _ => rfl) h3 (fun w' hS => by obtain ⟨q0, q1, q2, ⟨q3, q4, q5, q6, q7, q8⟩, q9, q10, q11, q12, ⟨r0, r1, r2, r3, r4, r5⟩, r6, r7⟩ := hS; go_simp; (first | done | rfl | simp)) ?_
      simp only [Act.put, List.setIfInBounds_toArray, List.set_cons_zero, List.set_cons_succ]
      refine hold_take 12 (.bool false) rfl (by kernel_rfl) (by kernel_rfl) (by kernel_rfl) (by kernel_rfl) (by kernel_rfl) (fun _ _ _ h => h) (by rfl) (fun _ => rfl) h3 (fun w' hS => by obtain ⟨q0, q1, q2, ⟨q3, q4, q5, q6, q7, q8⟩, q9, q10, q11, q12, ⟨r0, r1, r2, r3, r4, r5⟩, r6, r7⟩ := hS; go_simp; (first | done | rfl | simp)) ?_
      simp only [Act.put, List.setIfInBounds_toArray, List.set_cons_zero, List.set_cons_succ]
      refine hold_take 13 _ rfl (by kernel_rfl) (by kernel_rfl) (by kernel_rfl) (by kernel_rfl) (by kernel_rfl) (fun _ _ _ h => h) (by rfl) (fun _ => rfl) h3 (fun w' hS => by obtain ⟨q0, q1, q2, ⟨q3, q4, q5, q6, q7, q8⟩, q9, q10, q11, q12, ⟨r0, r1, r2, r3, r4, r5⟩, r6, r7⟩ := hS; go_simp; rfl) ?_
      simp only [Act.put, List.setIfInBounds_toArray, List.set_cons_zero, List.set_cons_succ]
      refine hold_take 14 _ rfl (by kernel_rfl) (by kernel_rfl) (by kernel_rfl) (by kernel_rfl) (by kernel_rfl) (fun _ _ _ h => h) (by rfl) (fun _ => rfl) h3 (fun w' hS => by obtain ⟨q0, q1, q2, ⟨q3, q4, q5, q6, q7, q8⟩, q9, q10, q11, q12, ⟨r0, r1, r2, r3, r4, r5⟩, r6, r7⟩ := hS; go_simp; rfl) ?_
      simp only [Act.put, List.setIfInBounds_toArray, List.set_cons_zero, List.set_cons_succ]
      refine hold_take 15 _ rfl (by kernel_rfl) (by kernel_rfl) (by kernel_rfl) (by kernel_rfl) (by kernel_rfl) (fun _ _ _ h => h) (by rfl) (fun _ => rfl) h3 (fun w' hS => by obtain ⟨q0, q1, q2, ⟨q3, q4, q5, q6, q7, q8⟩, q9, q10, q11, q12, ⟨r0, r1, r2, r3, r4, r5⟩, r6, r7⟩ := hS; go_simp; rfl) ?_
      simp only [Act.put, List.setIfInBounds_toArray, List.set_cons_zero, List.set_cons_succ]
      refine hold_take 16 _ rfl (by kernel_rfl) (by kernel_rfl) (by kernel_rfl) (by kernel_rfl) (by kernel_rfl) (fun _ _ _ h => h) (by rfl) (fun _ => rfl) h3 (fun w' hS => by obtain ⟨q0, q1, q2, ⟨q3, q4, q5, q6, q7, q8⟩, q9, q10, q11, q12, ⟨r0, r1, r2, r3, r4, r5⟩, r6, r7⟩ := hS; go_simp; rfl) ?_
      simp only [Act.put, List.setIfInBounds_toArray, List.set_cons_zero, List.set_cons_succ]
      refine hold_take 17 (.bool false) rfl (by kernel_rfl) (by kernel_rfl) (by kernel_rfl) (by kernel_rfl) (by kernel_rfl) (fun _ _ _ h => h) (by rfl) (fun _ => rfl) h3 (fun w' hS => by obtain ⟨q0, q1, q2, ⟨q3, q4, q5, q6, q7, q8⟩, q9, q10, q11, q12, ⟨r0, r1, r2, r3, r4, r5⟩, r6, r7⟩ := hS; go_simp; (first | done | rfl | simp)) ?_
      simp only [Act.put, List.setIfInBounds_toArray, List.set_cons_zero, List.set_cons_succ]
      refine hold_take 18 (.bool false) rfl (by kernel_rfl) (by kernel_rfl) (by kernel_rfl) (by kernel_rfl) (by kernel_rfl) (fun _ _ _ h => h) (by rfl) (fun _ => rfl) h3 (fun w' hS => by obtain ⟨q0, q1, q2, ⟨q3, q4, q5, q6, q7, q8⟩, q9, q10, q11, q12, ⟨r0, r1, r2, r3, r4, r5⟩, r6, r7⟩ := hS; go_simp; (first | done | rfl | simp)) ?_
      simp only [Act.put, List.setIfInBounds_toArray, List.set_cons_zero, List.set_cons_succ]
      refine hold_take 19 (.bool false) rfl (by kernel_rfl) (by kernel_rfl) (by kernel_rfl) (by kernel_rfl) (by kernel_rfl) (fun _ _ _ h => h) (by rfl) (fun _ => rfl) h3 (fun w' hS => by obtain ⟨q0, q1, q2, ⟨q3, q4, q5, q6, q7, q8⟩, q9, q10, q11, q12, ⟨r0, r1, r2, r3, r4, r5⟩, r6, r7⟩ := hS; go_simp; (first | done | rfl | simp)) ?_
      simp only [Act.put, List.setIfInBounds_toArray, List.set_cons_zero, List.set_cons_succ]
      refine hold_take 20 _ rfl (by kernel_rfl) (by kernel_rfl) (by kernel_rfl) (by kernel_rfl) (by kernel_rfl) (fun _ _ _ h => h) (by rfl) (fun _ => rfl) h3 (fun w' hS => by obtain ⟨q0, q1, q2, ⟨q3, q4, q5, q6, q7, q8⟩, q9, q10, q11, q12, ⟨r0, r1, r2, r3, r4, r5⟩, r6, r7⟩ := hS; go_simp; rfl) ?_
      simp only [Act.put, List.setIfInBounds_toArray, List.set_cons_zero, List.set_cons_succ]
      refine hold_take 21 _ rfl (by kernel_rfl) (by kernel_rfl) (by kernel_rfl) (by kernel_rfl) (by kernel_rfl) (fun _ _ _ h => h) (by rfl) (fun _ => rfl) h3 (fun w' hS => by obtain ⟨q0, q1, q2, ⟨q3, q4, q5, q6, q7, q8⟩, q9, q10, q11, q12, ⟨r0, r1, r2, r3, r4, r5⟩, r6, r7⟩ := hS; go_simp; rfl) ?_
      simp only [Act.put, List.setIfInBounds_toArray, List.set_cons_zero, List.set_cons_succ]
      refine hold_take 22 _ rfl (by kernel_rfl) (by kernel_rfl) (by kernel_rfl) (by kernel_rfl) (by kernel_rfl) (fun _ _ _ h => h) (by rfl) (fun _ => rfl) h3 (fun w' hS => by obtain ⟨q0, q1, q2, ⟨q3, q4, q5, q6, q7, q8⟩, q9, q10, q11, q12, ⟨r0, r1, r2, r3, r4, r5⟩, r6, r7⟩ := hS; go_simp; rfl) ?_
      simp only [Act.put, List.setIfInBounds_toArray, List.set_cons_zero, List.set_cons_succ]
      refine hold_take 23 (.bool false) rfl (by kernel_rfl) (by kernel_rfl) (by kernel_rfl) (by kernel_rfl) (by kernel_rfl) (fun _ _ _ h => h) (by rfl) (fun _ => rfl) h3 (fun w' hS => by obtain ⟨q0, q1, q2, ⟨q3, q4, q5, q6, q7, q8⟩, q9, q10, q11, q12, ⟨r0, r1, r2, r3, r4, r5⟩, r6, r7⟩ := hS; go_simp; (first | done | rfl | simp)) ?_
      simp only [Act.put, List.setIfInBounds_toArray, List.set_cons_zero, List.set_cons_succ]
      refine hold_take 24 (.bool false) rfl (by kernel_rfl) (by kernel_rfl) (by kernel_rfl) (by kernel_rfl) (by kernel_rfl) (fun _ _ _ h => h) (by rfl) (fun _ => rfl) h3 (fun w' hS => by obtain ⟨q0, q1, q2, ⟨q3, q4, q5, q6, q7, q8⟩, q9, q10, q11, q12, ⟨r0, r1, r2, r3, r4, r5⟩, r6, r7⟩ := hS; go_simp; (first | done | rfl | simp)) ?_
      simp only [Act.put, List.setIfInBounds_toArray, List.set_cons_zero, List.set_cons_succ]
      refine hold_take 25 (.bool false) rfl (by kernel_rfl) (by kernel_rfl) (by kernel_rfl) (by kernel_rfl) (by kernel_rfl) (fun _ _ _ h => h) (by rfl) (fun _ => rfl) h3 (fun w' hS => by obtain ⟨q0, q1, q2, ⟨q3, q4, q5, q6, q7, q8⟩, q9, q10, q11, q12, ⟨r0, r1, r2, r3, r4, r5⟩, r6, r7⟩ := hS; go_simp; (first | done | rfl | simp)) ?_
      simp only [Act.put, List.setIfInBounds_toArray, List.set_cons_zero, List.set_cons_succ]
      refine hold_take 26 _ rfl (by kernel_rfl) (by kernel_rfl) (by kernel_rfl) (by kernel_rfl) (by kernel_rfl) (fun _ _ _ h => h) (by rfl) (fun _ => rfl) h3 (fun w' hS => by obtain ⟨q0, q1, q2, ⟨q3, q4, q5, q6, q7, q8⟩, q9, q10, q11, q12, ⟨r0, r1, r2, r3, r4, r5⟩, r6, r7⟩ := hS; go_simp; rfl) ?_
      simp only [Act.put, List.setIfInBounds_toArray, List.set_cons_zero, List.set_cons_succ]
      refine hold_take 27 _ rfl (by kernel_rfl) (by kernel_rfl) (by kernel_rfl) (by kernel_rfl) (by kernel_rfl) (fun _ _ _ h => h) (by rfl) (fun _ => rfl) h3 (fun w' hS => by obtain ⟨q0, q1, q2, ⟨q3, q4, q5, q6, q7, q8⟩, q9, q10, q11, q12, ⟨r0, r1, r2, r3, r4, r5⟩, r6, r7⟩ := hS; go_simp; rfl) ?_
      simp only [Act.put, List.setIfInBounds_toArray, List.set_cons_zero, List.set_cons_succ]
      refine hold_take 28 (.bool false) rfl (by kernel_rfl) (by kernel_rfl) (by kernel_rfl) (by kernel_rfl) (by kernel_rfl) (fun _ _ _ h => h) (by rfl) (fun _ => rfl) h3 (fun w' hS => by obtain ⟨q0, q1, q2, ⟨q3, q4, q5, q6, q7, q8⟩, q9, q10, q11, q12, ⟨r0, r1, r2, r3, r4, r5⟩, r6, r7⟩ := hS; go_simp; (first | done | rfl | simp)) ?_
      simp only [Act.put, List.setIfInBounds_toArray, List.set_cons_zero, List.set_cons_succ]
      refine hold_take 29 (.bool false) rfl (by kernel_rfl) (by kernel_rfl) (by kernel_rfl) (by kernel_rfl) (by kernel_rfl) (fun _ _ _ h => h) (by rfl) (fun _ => rfl) h3 (fun w' hS => by obtain ⟨q0, q1, q2, ⟨q3, q4, q5, q6, q7, q8⟩, q9, q10, q11, q12, ⟨r0, r1, r2, r3, r4, r5⟩, r6, r7⟩ := hS; go_simp; (first | done | rfl | simp)) ?_
      simp only [Act.put, List.setIfInBounds_toArray, List.set_cons_zero, List.set_cons_succ]
      refine hold_take 30 (.bool false) rfl (by kernel_rfl) (by kernel_rfl) (by kernel_rfl) (by kernel_rfl) (by kernel_rfl) (fun _ _ _ h => h) (by rfl) (fun _ => rfl) h3 (fun w' hS => by obtain ⟨q0, q1, q2, ⟨q3, q4, q5, q6, q7, q8⟩, q9, q10, q11, q12, ⟨r0, r1, r2, r3, r4, r5⟩, r6, r7⟩ := hS; go_simp; (first | done | rfl | simp)) ?_
      simp only [Act.put, List.setIfInBounds_toArray, List.set_cons_zero, List.set_cons_succ]
      refine hold_take 31 _ rfl (by kernel_rfl) (by kernel_rfl) (by kernel_rfl) (by kernel_rfl) (by kernel_rfl) (fun _ _ _ h => h) (by rfl) (fun _ => rfl) h3 (fun w' hS => by obtain ⟨q0, q1, q2, ⟨q3, q4, q5, q6, q7, q8⟩, q9, q10, q11, q12, ⟨r0, r1, r2, r3, r4, r5⟩, r6, r7⟩ := hS; go_simp; rfl) ?_
      simp only [Act.put, List.setIfInBounds_toArray, List.set_cons_zero, List.set_cons_succ]
      refine hold_take 32 _ rfl (by kernel_rfl) (by kernel_rfl) (by kernel_rfl) (by kernel_rfl) (by kernel_rfl) (fun _ _ _ h => h) (by rfl) (fun _ => rfl) h3 (fun w' hS => by obtain ⟨q0, q1, q2, ⟨q3, q4, q5, q6, q7, q8⟩, q9, q10, q11, q12, ⟨r0, r1, r2, r3, r4, r5⟩, r6, r7⟩ := hS; go_simp; rfl) ?_
      simp only [Act.put, List.setIfInBounds_toArray, List.set_cons_zero, List.set_cons_succ]
      refine hold_take 33 _ rfl (by kernel_rfl) (by kernel_rfl) (by kernel_rfl) (by kernel_rfl) (by kernel_rfl) (fun _ _ _ h => h) (by rfl) (fun _ => rfl) h3 (fun w' hS => by obtain ⟨q0, q1, q2, ⟨q3, q4, q5, q6, q7, q8⟩, q9, q10, q11, q12, ⟨r0, r1, r2, r3, r4, r5⟩, r6, r7⟩ := hS; go_simp; rfl) ?_
      simp only [Act.put, List.setIfInBounds_toArray, List.set_cons_zero, List.set_cons_succ]
      refine hold_take 34 _ rfl (by kernel_rfl) (by kernel_rfl) (by kernel_rfl) (by kernel_rfl) (by kernel_rfl) (fun _ _ _ h => h) (by rfl) (fun _ => rfl) h3 (fun w' hS => by obtain ⟨q0, q1, q2, ⟨q3, q4, q5, q6, q7, q8⟩, q9, q10, q11, q12, ⟨r0, r1, r2, r3, r4, r5⟩, r6, r7⟩ := hS; go_simp; rfl) ?_
      simp only [Act.put, List.setIfInBounds_toArray, List.set_cons_zero, List.set_cons_succ]
      refine hold_one 35 (by kernel_rfl) rfl (by rfl) fun K hK => ?_
      go_simp
      refine ⟨trivial, rfl, (callsIn_wide.2 (HSM.out _ hb0)).mono ?_⟩
      rintro e w8 ⟨rfl, hb8⟩
      have hB8 : Below w7.heap.size w7 w8 := hb0.trans (hb8.mono hb0.size)
      have hS8 := HS.out _ hB8
      refine hK _ _ (.inr hS8) ?_
      clear hK K
      refine hold_take 36 (.bool false) rfl (by kernel_rfl) (by kernel_rfl) (by kernel_rfl) (by kernel_rfl) (by kernel_rfl) (fun _ _ _ h => h) (by rfl) (fun _ => rfl) hS8 (fun w' hS => by obtain ⟨q0, q1, q2, ⟨q3, q4, q5, q6, q7, q8⟩, q9, q10, q11, q12, ⟨r0, r1, r2, r3, r4, r5⟩, r6, r7⟩ := hS; go_simp; (first | done | rfl | simp)) ?_
      simp only [Act.put, List.setIfInBounds_toArray, List.set_cons_zero, List.set_cons_succ]
      refine hold_take 37 (.bool false) rfl (by kernel_rfl) (by kernel_rfl) (by kernel_rfl) (by kernel_rfl) (by kernel_rfl) (fun _ _ _ h => h) (by rfl) (fun _ => rfl) hS8 (fun w' hS => by obtain ⟨q0, q1, q2, ⟨q3, q4, q5, q6, q7, q8⟩, q9, q10, q11, q12, ⟨r0, r1, r2, r3, r4, r5⟩, r6, r7⟩ := hS; go_simp; (first | done | rfl | simp)) ?_
      simp only [Act.put, List.setIfInBounds_toArray, List.set_cons_zero, List.set_cons_succ]
      refine held_done (by kernel_rfl) ?_ _
      have HN8 := cover (HX7.out.trans (hB8.mono HX7.out.size))
      clear h3 hS8 hB8 hb8 hb0 HS HSM hrel hb7
      go_wp2
      go_roundw
      case rel => exact ⟨j + 1, by omega, by go_num, HN8⟩
      case measure => simp [intOf]; omega
    · obtain rfl : j = n := by omega
      have HN := cover (HOut.out _ (HB6.out.trans (hrel.out.mono (HSz.out _ HB6.out))))
      clear HOut HCell HRow HDs HSz hrel
      go_wp2
      go_ret
      exact ⟨rfl, HN.out⟩
end Go.Proofs.Ytgpmimohoepeiaa
