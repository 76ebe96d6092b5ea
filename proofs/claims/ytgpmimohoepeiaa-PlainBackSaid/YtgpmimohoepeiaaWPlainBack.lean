/- The walk of PlainBack. -/
import Derived.Deep.CutBlock
import Derived.Deep.DeepCutAuto
import Derived.Test.YtgpmimohoepeiaaFHeld
import Derived.Test.YtgpmimohoepeiaaMAdr
import Derived.Test.YtgpmimohoepeiaaHUse
import Derived.Test.YtgpmimohoepeiaaHAwake
namespace Go.Proofs.Ytgpmimohoepeiaa
open Go.RowKit
set_option linter.unusedVariables false
set_option linter.unusedSimpArgs false
attribute [local go_sem] run_eq6

theorem RHas.ok {B : Nat} {w : World} {r : Nat} {l : List SV} (h : RHas B w r l) : InS l := by
  obtain ⟨V, us, rfl, h1, _⟩ := h; exact h1.ok
/-- one table opens a SAP; the other one, that was made behind it, stays -/
theorem open_apart {b : Nat} {w3 w4 : World} {s t m : Nat} {l1 l2 : List SV} {wx : World} (h1 : SHas b w3 s l1) (hb : Below w3.heap.size w3 w4) (h2 : Both w3.heap.size wx t m l2 l2 w4) {n : Int} (hn : I64 n) (c : Int) :
    Calls Try.prog 11 #[ptr s, .int .i64 n, .int .i64 c] w4 fun e w5 => e = .returned (.int .i64 (openE l1 n c)) ∧ Hid (SHas b w5 s (openS l1 n c) ∧ SHas w3.heap.size w5 t l2 ∧ RHas w3.heap.size w5 m l2 ∧ Below b w4 w5) := by
  have hB := h1.size
  obtain ⟨a, b', h1i, hf⟩ := h1
  have h4 := h1i.below hb
  refine (open_any h4 hn).mono ?_
  rintro e w5 ⟨rfl, hh⟩
  obtain ⟨q1, q2⟩ := hh.out.has hf (Nat.le_trans hB hb.size)
  have hk : ∀ k, w3.heap.size ≤ k → k < w4.heap.size → w5.heap[k]? = w4.heap[k]? := fun k g1 g2 => hh.out.2.block k g2 (fun hfk => by have := h1i.lt hfk; omega)
  obtain ⟨a2, b2, ti, tf⟩ := h2.has
  exact ⟨rfl, cover ⟨q1, ⟨a2, b2, ti.keep (fun i hi => hk i (tf i hi) (ti.lt hi)), tf⟩, h2.ref.map_kept (hh.out.kept h4), q2⟩⟩
theorem pdus_base {B B' : Nat} {w : World} {v : Value} {xs : List PV} (h : PdusIn B w v xs) (hb : B' ≤ B) : PdusIn B' w v xs := by
  obtain ⟨us, h0, h1, h2⟩ := h.ex; exact ⟨us, h0, own_base h1 hb, h2⟩
/-- one is told, nothing is sent back -/
theorem hear_only {y : IV} {w : World} {e : Ending} {w' : World} (h : HearOut [y] [] w e w') : ∃ g c A' c' Ai mi, e = .returned (.tuple #[.slice (some ⟨g, 0, none⟩) 1 c, .slice A' 0 c']) ∧ 1 ≤ c ∧ Hid ((∀ j, j < 11 → w'.cell? ⟨g, j, none⟩ = (cellsI (y, Ai, mi))[j]?) ∧ InfI w' (y, Ai, mi) ∧ g < w'.heap.size ∧ Below w.heap.size w w') := by
  obtain ⟨A, c, A', c', rfl, H⟩ := h
  obtain ⟨g, rfl, _, hc, _, hg, _, hat⟩ := H.out.1.ats (by simp)
  obtain ⟨Ai, mi, h1, h2⟩ := hat 0 y rfl
  refine ⟨g, c, A', c', Ai, mi, rfl, hc, cover ⟨fun j hj => ?_, h2, hg, H.out.2.2⟩⟩
  have := h1 j hj
  rw [Nat.zero_mul, Nat.zero_add] at this
  exact this
theorem test_sent {l : List SV} {p : PV} (h : IsOne p) (hk : p.kind = 2) (hr : p.resp = false) (hf : p.frm ≠ 0) (hp : p.poll = true) : sentP l p = (askedS l p).map (fun x => (⟨p.frm, x, true, 2, 2, 0, 0, true, p.info⟩ : PV)) ∧ askedS l p = (if p.to = 0 ∨ p.to = 255 then [0] else []) ++ hearS l p.to := by
  refine ⟨?_, by unfold askedS; rw [if_neg (fun h => hf h.1)]⟩
  rw [sentP_cmd h (by omega) hr]
  refine List.map_congr_left fun x _ => ?_
  unfold ansV
  rw [if_neg (by omega), hk, hp]
theorem resp_one {fr x : Int} {bs : List Int} (h1 : OkSap fr) (h2 : x = 0 ∨ OkSap x) (hb : bs.length ≤ 1040) : IsOne ⟨fr, x, true, 2, 2, 0, 0, true, bs⟩ := by
  unfold OkSap at h1 h2
  exact ⟨⟨⟨by show 0 ≤ fr ∧ fr ≤ 255; omega, ⟨by show 0 ≤ x; omega, by show x ≤ 254; omega, by show x % 2 = 0; omega⟩, by simp, by simp, hb⟩, .inr (.inr ⟨rfl, rfl, rfl, by unfold MayU; simp⟩)⟩, rfl, by simp⟩
set_option maxRecDepth 100000 in
set_option maxHeartbeats 3200000 in
theorem walk_PlainBack (A1 : Option Addr) (len1 cap1 : Nat) (ds1 : List (Int × Int × Int)) (A2 : Option Addr) (len2 cap2 : Nat) (ds2 : List (Int × Int × Int)) (f tt : Int) (Ab : Option Addr) (L0 cb : Nat) (bs : List Int) (w : World)
    (hlc1 : len1 ≤ cap1) (hcm1 : cap1 ≤ maxLen) (hd1 : Deeds w w.heap.size A1 len1 ds1 ∧ ∀ q ∈ ds1, (-9223372036854775808 ≤ q.1 ∧ q.1 ≤ 9223372036854775807) ∧ (-9223372036854775808 ≤ q.2.1 ∧ q.2.1 ≤ 9223372036854775807) ∧ (-9223372036854775808 ≤ q.2.2 ∧ q.2.2 ≤ 9223372036854775807))
    (hlc2 : len2 ≤ cap2) (hcm2 : cap2 ≤ maxLen) (hd2 : Deeds w w.heap.size A2 len2 ds2 ∧ ∀ q ∈ ds2, (-9223372036854775808 ≤ q.1 ∧ q.1 ≤ 9223372036854775807) ∧ (-9223372036854775808 ≤ q.2.1 ∧ q.2.1 ≤ 9223372036854775807) ∧ (-9223372036854775808 ≤ q.2.2 ∧ q.2.2 ≤ 9223372036854775807))
    (hf : 0 ≤ f ∧ f ≤ 255) (ht : 0 ≤ tt ∧ tt ≤ 255) (hlcb : L0 ≤ cb) (hcmb : cb ≤ maxLen) (hrb : Row w w.heap.size Ab L0 bs) :
    Calls Try.prog 6 #[.slice A1 len1 cap1, .slice A2 len2 cap2, .agg #[.int .u8 f, .int .u8 tt, .slice Ab L0 cb]] w fun e w' => e = .returned (.bool true) ∧ Below w.heap.size w w' := by
  clear hcm1 hcm2 hcmb
  obtain ⟨b, hb⟩ : ∃ b, w.heap.size = b := ⟨_, rfl⟩
  have HB := cover hb
  rw [hb] at hd1 hd2 hrb ⊢
  have HD1 := cover hd1
  have HD2 := cover hd2
  have HR := cover hrb
  have HL0 := cover hrb.len
  obtain ⟨w1, hw1⟩ : ∃ w1, w1 = w.alloc (.cells #[.int .u8 f, .int .u8 tt, .slice Ab L0 cb] 54) := ⟨_, rfl⟩
  have hbw : Below b w w1 := by rw [hw1, ← hb]; exact (Below.refl _ _).alloc (Nat.le_refl _) _
  have hs1 : w1.heap.size = b + 1 := by rw [hw1]; simp [hb]
  have g0 : w1.heap[b]? = some (.cells #[.int .u8 f, .int .u8 tt, .slice Ab L0 cb] 54 (0, 0)) := by rw [hw1, ← hb]; exact heap_alloc_new _ _
  have HCell : Hid (∀ W, Below (b + 1) w1 W → W.cell? ⟨b, 0, none⟩ = some (.int .u8 f) ∧ W.cell? ⟨b, 1, none⟩ = some (.int .u8 tt) ∧ W.cell? ⟨b, 2, none⟩ = some (.slice Ab L0 cb)) := cover fun W hW => by
    have e0 := (hW.block b (by omega)).trans g0
    refine ⟨?_, ?_, ?_⟩
    all_goals (rw [cell_of_row _ _ _ _ _ _ e0]; rfl)
  have HSz : Hid (∀ W, Below (b + 1) w1 W → b + 1 ≤ W.heap.size) := cover fun W hW => by rw [← hs1]; exact hW.size
  have HOut : Hid (∀ W, Below (b + 1) w1 W → Below b w W) := cover fun W hW => hbw.trans (hW.mono (by omega))
  have HRow : Hid (∀ W, Below (b + 1) w1 W → Row W W.heap.size Ab L0 bs) := cover fun W hW => (HR.out.below (hbw.trans (hW.mono (by omega)))).more (by have := HSz.out W hW; omega)
  have HDs : Hid (∀ W B, Below (b + 1) w1 W → b ≤ B → Deeds W B A1 len1 ds1 ∧ Deeds W B A2 len2 ds2) := cover fun W B hW hB => by
    have hbb := hbw.trans (hW.mono (by omega))
    refine ⟨⟨HD1.out.1.len, fun k hk => ?_⟩, ⟨HD2.out.1.len, fun k hk => ?_⟩⟩
    · obtain ⟨ad, e, hlt, h1⟩ := (HD1.out.1.below hbb).cells k hk
      exact ⟨ad, e, by omega, h1⟩
    · obtain ⟨ad, e, hlt, h1⟩ := (HD2.out.1.below hbb).cells k hk
      exact ⟨ad, e, by omega, h1⟩
  have hB0 : Below (b + 1) w1 w1 := Below.refl _ _
  have HS1 := cover hs1
  have HAW := cover (awake_any w1)
  clear hd1 hd2 hrb g0 hbw hs1 hb
  go_enter Try.func6, Try.ntmps6
  go_upto_region 1 with fail
  rw [← hw1, HB.out]
  clear hw1
  go_wp2_with fail
  refine HAW.out.mono ?_
  rintro e w2 ⟨rfl, hb2⟩
  rw [HS1.out] at hb2
  clear HAW hB0
  obtain ⟨p0, p1, p2⟩ := HCell.out w2 hb2
  have HN := cover (HOut.out w2 hb2)
  by_cases h60 : 60 < len1
  · have hl : (60 : Int) < (len1 : Int) := by omega
    clear HOut HCell HRow HDs HSz hb2
    go_wp2
    go_ret
    exact ⟨rfl, HN.out⟩
  have hl : ¬ (60 : Int) < (len1 : Int) := by omega
  by_cases h60b : 60 < len2
  · have hl2 : (60 : Int) < (len2 : Int) := by omega
    clear HOut HCell HRow HDs HSz hb2
    go_wp2
    go_ret
    exact ⟨rfl, HN.out⟩
  have hl2 : ¬ (60 : Int) < (len2 : Int) := by omega
  by_cases h1000 : 1000 < L0
  · have hl3 : (1000 : Int) < (L0 : Int) := by omega
    clear HOut HCell HRow HDs HSz hb2
    go_wp2
    go_ret
    exact ⟨rfl, HN.out⟩
  have hl3 : ¬ (1000 : Int) < (L0 : Int) := by omega
  clear HN
  go_wp2_with fail
  refine (made_any (B := b + 1) hlc1 (by omega) (HSz.out w2 hb2) (HDs.out w2 _ hb2 (by omega)).1 HD1.out.2).mono ?_
  rintro e w3 ⟨s, r1, l1, rfl, H3⟩
  have hb3 : Below (b + 1) w1 w3 := hb2.trans H3.out.bel
  have HS3 := cover H3.out.has
  clear p0 p1 p2 hb2 H3
  go_wp2_with fail
  refine (made_any (B := w3.heap.size) hlc2 (by omega) (Nat.le_refl _) (HDs.out w3 _ hb3 (by have := HSz.out w3 hb3; omega)).2 HD2.out.2).mono ?_
  rintro e w4 ⟨tn, mn, l2, rfl, H4⟩
  have hb4 : Below (b + 1) w1 w4 := hb3.trans (H4.out.bel.mono (HSz.out w3 hb3))
  obtain ⟨p0, p1, p2⟩ := HCell.out w4 hb4
  obtain ⟨fr, hfr⟩ : ∃ fr : Int, 2 + 2 * (f % 127) = fr := ⟨_, rfl⟩
  have HFR : Hid (OkSap fr) := cover (by rw [← hfr]; exact sapF hf)
  have hm0 : IntKind.i64.wrap f = f := by rw [IntKind.wrap_i64]; omega
  have hm0t : IntKind.i64.wrap tt = tt := by rw [IntKind.wrap_i64]; omega
  have hm1 : f.tmod 127 = f % 127 := Int.tmod_eq_emod_of_nonneg (by omega)
  have hm2 : IntKind.i64.wrap (2 * (f % 127)) = 2 * (f % 127) := by rw [IntKind.wrap_i64]; omega
  have hm3 : IntKind.i64.wrap (2 + 2 * (f % 127)) = fr := by rw [IntKind.wrap_i64]; omega
  have hm4 : IntKind.i64.wrap (f % 127) = f % 127 := by rw [IntKind.wrap_i64]; omega
  have hfr64 : I64 fr := i64_of (by have := HFR.out; unfold OkSap at this; omega)
  have HOP := cover (open_apart HS3.out H4.out.bel H4.out hfr64 1)
  obtain ⟨bb, hbb⟩ : ∃ bb, bb = w3.heap.size := ⟨_, rfl⟩
  have hbbl : b + 1 ≤ bb := by rw [hbb]; exact HSz.out w3 hb3
  rw [← hbb] at HOP
  obtain ⟨l, hl9⟩ : ∃ l, l = openS l1 fr 1 := ⟨_, rfl⟩
  rw [← hl9] at HOP
  clear hb3 HS3 H4 hbb hl9
  go_wp2_with fail
  refine HOP.out.mono ?_
  rintro e w5 ⟨rfl, H5⟩
  have hb5 : Below (b + 1) w1 w5 := hb4.trans H5.out.2.2.2
  have HCL := cover (class_has H5.out.1 hfr64)
  obtain ⟨cl, hcl⟩ : ∃ cl, cl = clsS l fr := ⟨_, rfl⟩
  rw [← hcl] at HCL
  have HCE := cover hcl
  clear HOP hb4 p0 p1 p2 hm1 hm2 hm3 hm4 hfr hcl
  obtain ⟨p0, p1, p2⟩ := HCell.out w5 hb5
  go_wp2_with fail
  refine HCL.out.mono ?_
  rintro e w6 ⟨rfl, rfl⟩
  by_cases hc0 : cl = 0
  · have hcz : (cl == 0) = true := by simpa using hc0
    have HN := cover (HOut.out w5 hb5)
    clear HOut HCell HRow HDs HSz hb5 H5 HCL hc0
    go_wp2
    go_ret
    exact ⟨rfl, HN.out⟩
  have hcz : (cl == 0) = false := by simpa using hc0
  have HCN : Hid (clsS l fr ≠ 0) := cover (by rw [← HCE.out]; exact hc0)
  have s6 := askTest_any Ab cb w5.heap.size bs fr tt w5 (by rw [HL0.out]; exact HRow.out w5 hb5) (Nat.le_refl _) (by have := HL0.out; omega)
  rw [show askP (testQ fr tt) 0 bs = ((⟨tt, fr, false, 2, 2, 0, 0, true, bs⟩ : PV), 0) from askP_yes ⟨HFR.out, ht⟩ (by have := HL0.out; omega), HL0.out] at s6
  obtain ⟨p, hp⟩ : ∃ p : PV, p = ⟨tt, fr, false, 2, 2, 0, 0, true, bs⟩ := ⟨_, rfl⟩
  have HP : Hid (IsOne p ∧ p.kind = 2 ∧ p.to = tt ∧ p.frm = fr ∧ p.info = bs ∧ p.info.length = L0 ∧ p.resp = false ∧ p.poll = true) := cover (by
    rw [hp]
    exact ⟨one_ask (q := testQ fr tt) rfl (by unfold testQ; simp) rfl rfl rfl HFR.out ht (by have := HL0.out; omega), rfl, rfl, rfl, rfl, HL0.out, rfl, rfl⟩)
  rw [← hp] at s6
  have HA6 := cover s6
  clear hp s6 hc0 HCL
  go_wp2_with fail
  refine HA6.out.mono ?_
  rintro e v7 ⟨A7, c7, rfl, HO⟩
  obtain ⟨w7, hw7, HV7, hbx⟩ := var_new (r := (p, 0)) HO.out.1 HO.out.2
  have hb7 : Below (b + 1) w1 w7 := hb5.trans (hbx.out.mono (HSz.out w5 hb5))
  have H7 : Hid (SHas (b + 1) w7 s l ∧ SHas bb w7 tn l2 ∧ RHas bb w7 mn l2) := cover ⟨H5.out.1.below hbx.out, H5.out.2.1.below hbx.out, H5.out.2.2.1.below hbx.out⟩
  obtain ⟨g7, hg7⟩ : ∃ g, g = v7.heap.size := ⟨_, rfl⟩
  have HG7 := cover hg7
  rw [← hg7] at HV7
  clear HO hbx H5 hb5 HA6 hg7 p0 p1 p2 hm0
  obtain ⟨L, hL⟩ : ∃ L, L = askedS l2 p := ⟨_, rfl⟩
  have hl17 : L.length ≤ 17 := by rw [hL]; exact asked_len H7.out.2.1.ok _
  obtain ⟨hsx, hax⟩ := test_sent (l := l2) HP.out.1 HP.out.2.1 HP.out.2.2.2.2.2.2.1 (by rw [HP.out.2.2.2.1]; have := HFR.out; unfold OkSap at this; omega) HP.out.2.2.2.2.2.2.2
  have HLE : Hid (L = (if tt = 0 ∨ tt = 255 then [0] else []) ++ hearS l2 tt) := cover (by rw [hL, hax, HP.out.2.2.1])
  have HLM : Hid (∀ x ∈ L, x = 0 ∨ OkSap x) := cover fun x hx => by
    rw [HLE.out] at hx
    rcases List.mem_append.1 hx with hx | hx
    · split at hx
      · exact .inl (by simpa using hx)
      · cases hx
    · exact .inr (ok_has H7.out.2.1.ok (hear_active hx))
  rw [← hL, HP.out.2.2.2.1, HP.out.2.2.2.2.1] at hsx
  obtain ⟨n, hn⟩ : ∃ n, n = L.length := ⟨_, rfl⟩
  have HNL := cover hn
  rw [← hn] at hl17
  have HHE : Hid (∀ W, Below w7.heap.size w7 W → Calls Try.prog 13 #[ptr tn, .agg #[.int .u8 2, .int .u8 0, .int .u8 0, .int .u8 0, .int .u8 0, .int .u8 1], .agg #[.int .i64 p.to, .int .i64 p.frm, .bool p.resp, .int .i64 p.form, .int .i64 p.kind, .int .i64 p.ns, .int .i64 p.nr, .bool p.poll, .slice A7 p.info.length c7]] W (HearOut [] (L.map (fun x => (⟨fr, x, true, 2, 2, 0, 0, true, bs⟩ : PV))) W)) := cover fun W hW => by
    have s5 := hear_go (H7.out.2.1.below hW) ⟨2, 0, 0, 0, 0, 1⟩ p A7 c7 (HV7.out.below hW).row (by rw [HP.out.2.2.2.2.2.1]; omega)
    rw [toldP_cmd (by rw [HP.out.2.1]; decide) HP.out.2.2.2.2.2.2.1, hsx] at s5
    exact s5
  have HST : Hid (∀ (k : Int) (W : World), 0 ≤ k → k < 256 → Calls Try.prog 26 #[.int .i64 k] W fun e w' => e = .returned (.agg #[.int .u8 2, .int .u8 0, .int .u8 0, .int .u8 0, .int .u8 0, .int .u8 k]) ∧ Below W.heap.size W w') := cover fun k W h h' => ref_station_in k h h' W
  clear hL hn hax hsx
  have HS : Hid (∀ W', Below w7.heap.size w7 W' → (fun W' : World => (W'.cell? ⟨g7, 0, none⟩ = some (.int .i64 p.to) ∧ W'.cell? ⟨g7, 1, none⟩ = some (.int .i64 p.frm) ∧ W'.cell? ⟨g7, 2, none⟩ = some (.bool p.resp) ∧ W'.cell? ⟨g7, 3, none⟩ = some (.int .i64 p.form) ∧ W'.cell? ⟨g7, 4, none⟩ = some (.int .i64 p.kind) ∧ W'.cell? ⟨g7, 5, none⟩ = some (.int .i64 p.ns) ∧ W'.cell? ⟨g7, 6, none⟩ = some (.int .i64 p.nr) ∧ W'.cell? ⟨g7, 7, none⟩ = some (.bool p.poll) ∧ W'.cell? ⟨g7, 8, none⟩ = some (.slice A7 p.info.length c7)) ∧ Below w7.heap.size w7 W') W') := cover fun W' hb' => ⟨pdu_cells (HV7.out.below hb').hd, hb'⟩
  have mixed : Try.prog.follows .mixedOrders = true := by kernel_rfl
  have hb0 : Below w7.heap.size w7 w7.drew := (Below.refl _ _).drew
  have h3 : (fun W' : World => (W'.cell? ⟨g7, 0, none⟩ = some (.int .i64 p.to) ∧ W'.cell? ⟨g7, 1, none⟩ = some (.int .i64 p.frm) ∧ W'.cell? ⟨g7, 2, none⟩ = some (.bool p.resp) ∧ W'.cell? ⟨g7, 3, none⟩ = some (.int .i64 p.form) ∧ W'.cell? ⟨g7, 4, none⟩ = some (.int .i64 p.kind) ∧ W'.cell? ⟨g7, 5, none⟩ = some (.int .i64 p.ns) ∧ W'.cell? ⟨g7, 6, none⟩ = some (.int .i64 p.nr) ∧ W'.cell? ⟨g7, 7, none⟩ = some (.bool p.poll) ∧ W'.cell? ⟨g7, 8, none⟩ = some (.slice A7 p.info.length c7)) ∧ Below w7.heap.size w7 W') w7.drew := HS.out _ hb0
  go_wp2_with (refine wpList_store_row rfl _ _ _ rfl v7.heap.size #[.int .i64 p.to, .int .i64 p.frm, .bool p.resp, .int .i64 p.form, .int .i64 p.kind, .int .i64 p.ns, .int .i64 p.nr, .bool p.poll, .slice A7 p.info.length c7] rfl rfl 29 zp (heap_alloc_new _ _) pdu_size rfl (pdu_one _ _ _ _ _ _ _ _ _ _ _) ?_; rw [← hw7.out, ← HG7.out])
  refine (wpIn_wide (n := 0)).1 ?_
  refine held_begin (fun W' : World => (W'.cell? ⟨g7, 0, none⟩ = some (.int .i64 p.to) ∧ W'.cell? ⟨g7, 1, none⟩ = some (.int .i64 p.frm) ∧ W'.cell? ⟨g7, 2, none⟩ = some (.bool p.resp) ∧ W'.cell? ⟨g7, 3, none⟩ = some (.int .i64 p.form) ∧ W'.cell? ⟨g7, 4, none⟩ = some (.int .i64 p.kind) ∧ W'.cell? ⟨g7, 5, none⟩ = some (.int .i64 p.ns) ∧ W'.cell? ⟨g7, 6, none⟩ = some (.int .i64 p.nr) ∧ W'.cell? ⟨g7, 7, none⟩ = some (.bool p.poll) ∧ W'.cell? ⟨g7, 8, none⟩ = some (.slice A7 p.info.length c7)) ∧ Below w7.heap.size w7 W') 99 mixed ?_
  refine hold_take 0 _ rfl (by kernel_rfl) (by kernel_rfl) (by kernel_rfl) (by kernel_rfl) (by kernel_rfl) (fun _ _ _ h => h) (by rfl) (fun _ => rfl) h3 (fun w' hS => by obtain ⟨⟨q0, q1, q2, q3, q4, q5, q6, q7, q8⟩, qq⟩ := hS; go_simp; rfl) ?_
  simp only [Act.put, List.setIfInBounds_toArray, List.set_cons_zero, List.set_cons_succ]
  refine hold_take 2 _ rfl (by kernel_rfl) (by kernel_rfl) (by kernel_rfl) (by kernel_rfl) (by kernel_rfl) (fun _ _ _ h => h) (by rfl) (fun _ => rfl) h3 (fun w' hS => by obtain ⟨⟨q0, q1, q2, q3, q4, q5, q6, q7, q8⟩, qq⟩ := hS; go_simp; rfl) ?_
  simp only [Act.put, List.setIfInBounds_toArray, List.set_cons_zero, List.set_cons_succ]
  refine hold_one 1 (by kernel_rfl) rfl (by rfl) fun K hK => ?_
  go_simp
  refine ⟨trivial, rfl, (callsIn_wide.2 (HST.out 1 _ (by omega) (by omega))).mono ?_⟩
  rintro e w8 ⟨rfl, hb8'⟩
  have hb8 : Below w7.heap.size w7 w8 := hb0.trans (hb8'.mono hb0.size)
  refine hK _ _ (.inr (HS.out _ hb8)) ?_
  clear hK K
  refine hold_one 3 (by kernel_rfl) rfl (by rfl) fun K hK => ?_
  go_simp
  refine ⟨trivial, rfl, (callsIn_wide.2 (HHE.out _ hb8)).mono ?_⟩
  rintro e w9 ⟨A9', c9', A9, c9, rfl, H9⟩
  have hb9 : Below w7.heap.size w7 w9 := hb8.trans (H9.out.2.2.mono hb8.size)
  have h9 := HS.out _ hb9
  rw [List.length_map, ← HNL.out] at H9 ⊢
  refine hK _ _ (.inr h9) ?_
  clear hK K
  refine hold_take 4 _ rfl (by kernel_rfl) (by kernel_rfl) (by kernel_rfl) (by kernel_rfl) (by kernel_rfl) (fun _ _ _ h => h) (by rfl) (fun _ => rfl) h9 (fun w' hS => by obtain ⟨⟨q0, q1, q2, q3, q4, q5, q6, q7, q8⟩, qq⟩ := hS; go_simp; rfl) ?_
  simp only [Act.put, List.setIfInBounds_toArray, List.set_cons_zero, List.set_cons_succ]
  refine hold_take 5 _ rfl (by kernel_rfl) (by kernel_rfl) (by kernel_rfl) (by kernel_rfl) (by kernel_rfl) (fun _ _ _ h => h) (by rfl) (fun _ => rfl) h9 (fun w' hS => by obtain ⟨⟨q0, q1, q2, q3, q4, q5, q6, q7, q8⟩, qq⟩ := hS; go_simp; rfl) ?_
  simp only [Act.put, List.setIfInBounds_toArray, List.set_cons_zero, List.set_cons_succ]
  refine hold_take 6 _ rfl (by kernel_rfl) (by kernel_rfl) (by kernel_rfl) (by kernel_rfl) (by kernel_rfl) (fun _ _ _ h => h) (by rfl) (fun _ => rfl) h9 (fun w' hS => by obtain ⟨⟨q0, q1, q2, q3, q4, q5, q6, q7, q8⟩, qq⟩ := hS; go_simp; rfl) ?_
  simp only [Act.put, List.setIfInBounds_toArray, List.set_cons_zero, List.set_cons_succ]
  refine hold_take 7 _ rfl (by kernel_rfl) (by kernel_rfl) (by kernel_rfl) (by kernel_rfl) (by kernel_rfl) (fun _ _ _ h => h) (by rfl) (fun _ => rfl) h9 (fun w' hS => by obtain ⟨⟨q0, q1, q2, q3, q4, q5, q6, q7, q8⟩, qq⟩ := hS; go_simp; rfl) ?_
  simp only [Act.put, List.setIfInBounds_toArray, List.set_cons_zero, List.set_cons_succ]
  refine hold_take 8 _ rfl (by kernel_rfl) (by kernel_rfl) (by kernel_rfl) (by kernel_rfl) (by kernel_rfl) (fun _ _ _ h => h) (by rfl) (fun _ => rfl) h9 (fun w' hS => by obtain ⟨⟨q0, q1, q2, q3, q4, q5, q6, q7, q8⟩, qq⟩ := hS; go_simp; rfl) ?_
  simp only [Act.put, List.setIfInBounds_toArray, List.set_cons_zero, List.set_cons_succ]
  refine held_done (by kernel_rfl) ?_ _
  have hbw9 : Below (b + 1) w1 w9 := hb7.trans (hb9.mono (HSz.out w7 hb7))
  have HP9 := cover (pdus_base (B' := b) H9.out.2.1 (by have := HSz.out w7 hb7; have := hb8.size; omega))
  have H9b : Hid (SHas (b + 1) w9 s l ∧ RHas bb w9 mn l2) := cover ⟨H7.out.1.below hb9, H7.out.2.2.below hb9⟩
  have HH9 := cover (rhears_has H9b.out.2 tt)
  obtain ⟨m, hm⟩ : ∃ m, m = (hearS l2 tt).length := ⟨_, rfl⟩
  have hm16 : m ≤ 16 := by rw [hm]; exact hear_len16 H9b.out.2.ok _
  have HM := cover hm
  clear h3 h9 hb0 hb8 hb8' hb9 H9 HS HHE HV7 H7 hw7 hb7 hm
  obtain ⟨p0, p1, p2⟩ := HCell.out w9 hbw9
  go_wp2_with fail
  refine HH9.out.mono ?_
  rintro e wa ⟨Aa, ca, rfl, Ha⟩
  have hbwa : Below (b + 1) w1 wa := hbw9.trans (Ha.out.2.mono (HSz.out w9 hbw9))
  have HPa := cover (HP9.out.below Ha.out.2)
  have HSa := cover (H9b.out.1.below Ha.out.2)
  clear HH9 Ha H9b HP9 hbw9 p0 p1 p2
  obtain ⟨p0, p1, p2⟩ := HCell.out wa hbwa
  rw [← HM.out]
  have hbo : ∃ bo : Bool, bo = (tt == 0) := ⟨_, rfl⟩
  have hnn : ((n : Int) != (n : Int)) = false := by simp
  have HBA := cover hbwa
  clear hbwa
  have htc : (tt = 0 ∨ tt = 255) ∨ ¬ (tt = 0 ∨ tt = 255) := Decidable.em _
  have HTT := cover htc
  clear htc hbo
  by_cases hz : tt = 0
  · have htz : (tt == 0) = true := by simpa using hz
    have HLZ : Hid (n = m + 1) := cover (by rw [HNL.out, HLE.out, if_pos (.inl hz), HM.out]; simp [Nat.add_comm])
    have hwm : IntKind.i64.wrap ((m : Int) + 1) = (n : Int) := by rw [IntKind.wrap_i64, HLZ.out]; omega
    clear hz HM hm16
    go_wp2_with fail
    go_loopw [17] (fun i wr => ∃ j : Nat, j ≤ n ∧ i = .int .i64 j ∧ Hid (Below wa.heap.size wa wr)) (fun i _ => n - (intOf i).toNat)
    case atStart => exact ⟨0, Nat.zero_le _, rfl, cover (Below.refl _ _)⟩
    case round =>
      obtain ⟨j, hj, rfl, hrel⟩ := hrel
      by_cases hlt : j < n
      · obtain ⟨x, hx⟩ : ∃ x, L[j]? = some x := ⟨_, List.getElem?_eq_getElem (by rw [← HNL.out]; exact hlt)⟩
        have hbr : Below (b + 1) w1 wr := HBA.out.trans (hrel.out.mono (HSz.out _ HBA.out))
        obtain ⟨gp, cc, Ai, mi, hv1, hcc, _, hgil, hci, hii, _⟩ := (HPa.out.below hrel.out).at_ (i := j) (p := ⟨fr, x, true, 2, 2, 0, 0, true, bs⟩) (by rw [List.getElem?_map, hx]; rfl)
        have hA9 : A9 = some ⟨gp, 0, none⟩ := by injection hv1
        have hc9 : c9 = cc := by injection hv1
        rw [List.length_map, ← HNL.out] at hcc
        subst hA9 hc9
        have hjc : j < c9 := by omega
        have hxm := HLM.out x (List.mem_of_getElem? hx)
        have hio : Row wr wr.heap.size Ai bs.length bs := OwnB.row hii
        obtain ⟨q, hq⟩ : ∃ q : PV, q = ⟨fr, x, true, 2, 2, 0, 0, true, bs⟩ := ⟨_, rfl⟩
        have HQ : Hid (IsOne q ∧ q.kind = 2 ∧ q.to = fr ∧ q.frm = x ∧ q.info = bs ∧ q.resp = true) := cover (by
          rw [hq]; exact ⟨resp_one HFR.out hxm (by have := HL0.out; omega), rfl, rfl, rfl, rfl, rfl⟩)
        have HHE : Hid (∀ W, Below wr.heap.size wr W → Calls Try.prog 13 #[ptr s, .agg #[.int .u8 2, .int .u8 0, .int .u8 0, .int .u8 0, .int .u8 0, .int .u8 2], .agg #[.int .i64 fr, .int .i64 x, .bool true, .int .i64 2, .int .i64 2, .int .i64 0, .int .i64 0, .bool true, .slice Ai L0 mi]] W (HearOut [⟨3, fr, x, ⟨2, 0, 0, 0, 0, 2⟩, bs, 0⟩] [] W)) := cover fun W hW => by
          have s5 := hear_go ((HSa.out.below hrel.out).below hW) ⟨2, 0, 0, 0, 0, 2⟩ ⟨fr, x, true, 2, 2, 0, 0, true, bs⟩ Ai mi ((hio.below hW).more hW.size) (by show bs.length ≤ _; have := HL0.out; omega)
          have e1 : toldP l ⟨2, 0, 0, 0, 0, 2⟩ (⟨fr, x, true, 2, 2, 0, 0, true, bs⟩ : PV) = [⟨3, fr, x, ⟨2, 0, 0, 0, 0, 2⟩, bs, 0⟩] := by
            rw [toldP_resp (resp_one HFR.out hxm (by have := HL0.out; omega)) (by show (2 : Int) ≠ 0; decide) rfl]
            unfold askerS
            rw [if_neg HCN.out]
            rfl
          rw [e1, sentP_resp rfl] at s5
          have s6 : Calls Try.prog 13 #[ptr s, .agg #[.int .u8 2, .int .u8 0, .int .u8 0, .int .u8 0, .int .u8 0, .int .u8 2], .agg #[.int .i64 fr, .int .i64 x, .bool true, .int .i64 2, .int .i64 2, .int .i64 0, .int .i64 0, .bool true, .slice Ai bs.length mi]] W (HearOut [⟨3, fr, x, ⟨2, 0, 0, 0, 0, 2⟩, bs, 0⟩] [] W) := s5
          rw [HL0.out] at s6
          exact s6
        have HS : Hid (∀ W', Below wr.heap.size wr W' → (fun W' : World => W'.cell? ⟨gp, j * 9, none⟩ = some (.int .i64 fr) ∧ W'.cell? ⟨gp, j * 9 + 1, none⟩ = some (.int .i64 x) ∧ W'.cell? ⟨gp, j * 9 + 2, none⟩ = some (.bool true) ∧ W'.cell? ⟨gp, j * 9 + 3, none⟩ = some (.int .i64 2) ∧ W'.cell? ⟨gp, j * 9 + 4, none⟩ = some (.int .i64 2) ∧ W'.cell? ⟨gp, j * 9 + 5, none⟩ = some (.int .i64 0) ∧ W'.cell? ⟨gp, j * 9 + 6, none⟩ = some (.int .i64 0) ∧ W'.cell? ⟨gp, j * 9 + 7, none⟩ = some (.bool true) ∧ W'.cell? ⟨gp, j * 9 + 8, none⟩ = some (.slice Ai L0 mi) ∧ Below wr.heap.size wr W') W') := cover fun W' hb' => by
          have e : ∀ {a : Addr} {v : Value}, a.block < wr.heap.size → wr.cell? a = some v → W'.cell? a = some v := fun hq hv => (hb'.cell hq).trans hv
          exact ⟨e hgil (hci 0 (by decide)), e hgil (hci 1 (by decide)), e hgil (hci 2 (by decide)), e hgil (hci 3 (by decide)), e hgil (hci 4 (by decide)), e hgil (hci 5 (by decide)), e hgil (hci 6 (by decide)), e hgil (hci 7 (by decide)), e hgil (by rw [← HL0.out]; exact hci 8 (by decide)), hb'⟩
        have mixed : Try.prog.follows .mixedOrders = true := by kernel_rfl
        have hb0 : Below wr.heap.size wr wr.drew := (Below.refl _ _).drew
        have h3 : (fun W' : World => W'.cell? ⟨gp, j * 9, none⟩ = some (.int .i64 fr) ∧ W'.cell? ⟨gp, j * 9 + 1, none⟩ = some (.int .i64 x) ∧ W'.cell? ⟨gp, j * 9 + 2, none⟩ = some (.bool true) ∧ W'.cell? ⟨gp, j * 9 + 3, none⟩ = some (.int .i64 2) ∧ W'.cell? ⟨gp, j * 9 + 4, none⟩ = some (.int .i64 2) ∧ W'.cell? ⟨gp, j * 9 + 5, none⟩ = some (.int .i64 0) ∧ W'.cell? ⟨gp, j * 9 + 6, none⟩ = some (.int .i64 0) ∧ W'.cell? ⟨gp, j * 9 + 7, none⟩ = some (.bool true) ∧ W'.cell? ⟨gp, j * 9 + 8, none⟩ = some (.slice Ai L0 mi) ∧ Below wr.heap.size wr W') wr.drew := HS.out _ hb0
        have HBR := cover hbr
        clear hx hv1 hci hii hio hq hxm hbr
        go_wp2_with fail
        refine (wpIn_wide (n := 0)).1 ?_
        refine held_begin (fun W' : World => W'.cell? ⟨gp, j * 9, none⟩ = some (.int .i64 fr) ∧ W'.cell? ⟨gp, j * 9 + 1, none⟩ = some (.int .i64 x) ∧ W'.cell? ⟨gp, j * 9 + 2, none⟩ = some (.bool true) ∧ W'.cell? ⟨gp, j * 9 + 3, none⟩ = some (.int .i64 2) ∧ W'.cell? ⟨gp, j * 9 + 4, none⟩ = some (.int .i64 2) ∧ W'.cell? ⟨gp, j * 9 + 5, none⟩ = some (.int .i64 0) ∧ W'.cell? ⟨gp, j * 9 + 6, none⟩ = some (.int .i64 0) ∧ W'.cell? ⟨gp, j * 9 + 7, none⟩ = some (.bool true) ∧ W'.cell? ⟨gp, j * 9 + 8, none⟩ = some (.slice Ai L0 mi) ∧ Below wr.heap.size wr W') 99 mixed ?_
        refine hold_take 0 _ rfl (by kernel_rfl) (by kernel_rfl) (by kernel_rfl) (by kernel_rfl) (by kernel_rfl) (fun _ _ _ h => h) (by rfl) (fun _ => rfl) h3 (fun w' hS => by obtain ⟨q0, q1, q2, q3, q4, q5, q6, q7, q8, q9⟩ := hS; go_simp; rfl) ?_
        simp only [Act.put, List.setIfInBounds_toArray, List.set_cons_zero, List.set_cons_succ]
        refine hold_take 2 _ rfl (by kernel_rfl) (by kernel_rfl) (by kernel_rfl) (by kernel_rfl) (by kernel_rfl) (fun _ _ _ h => h) (by rfl) (fun _ => rfl) h3 (fun w' hS => by obtain ⟨q0, q1, q2, q3, q4, q5, q6, q7, q8, q9⟩ := hS; go_simp; rfl) ?_
        simp only [Act.put, List.setIfInBounds_toArray, List.set_cons_zero, List.set_cons_succ]
        refine hold_take 3 _ rfl (by kernel_rfl) (by kernel_rfl) (by kernel_rfl) (by kernel_rfl) (by kernel_rfl) (fun _ _ _ h => h) (by rfl) (fun _ => rfl) h3 (fun w' hS => by obtain ⟨q0, q1, q2, q3, q4, q5, q6, q7, q8, q9⟩ := hS; go_simp; rfl) ?_
        simp only [Act.put, List.setIfInBounds_toArray, List.set_cons_zero, List.set_cons_succ]
        refine hold_take 4 _ rfl (by kernel_rfl) (by kernel_rfl) (by kernel_rfl) (by kernel_rfl) (by kernel_rfl) (fun _ _ _ h => h) (by rfl) (fun _ => rfl) h3 (fun w' hS => by obtain ⟨q0, q1, q2, q3, q4, q5, q6, q7, q8, q9⟩ := hS; go_simp; rfl) ?_
        simp only [Act.put, List.setIfInBounds_toArray, List.set_cons_zero, List.set_cons_succ]
        refine hold_take 5 _ rfl (by kernel_rfl) (by kernel_rfl) (by kernel_rfl) (by kernel_rfl) (by kernel_rfl) (fun _ _ _ h => h) (by rfl) (fun _ => rfl) h3 (fun w' hS => by obtain ⟨q0, q1, q2, q3, q4, q5, q6, q7, q8, q9⟩ := hS; go_simp; rfl) ?_
        simp only [Act.put, List.setIfInBounds_toArray, List.set_cons_zero, List.set_cons_succ]
        refine hold_one 1 (by kernel_rfl) rfl (by rfl) fun K hK => ?_
        go_simp
        refine ⟨trivial, rfl, (callsIn_wide.2 (HST.out 2 _ (by omega) (by omega))).mono ?_⟩
        rintro e wb ⟨rfl, hbb'⟩
        have hbb : Below wr.heap.size wr wb := hb0.trans (hbb'.mono hb0.size)
        refine hK _ _ (.inr (HS.out _ hbb)) ?_
        clear hK K
        refine hold_one 6 (by kernel_rfl) rfl (by rfl) fun K hK => ?_
        go_simp
        refine ⟨trivial, rfl, (callsIn_wide.2 (HHE.out _ hbb)).mono ?_⟩
        rintro e wc hone
        obtain ⟨gi, ci, Ak, ck, Al, ml, rfl, hci1, Hc⟩ := hear_only hone
        have hbc : Below wr.heap.size wr wc := hbb.trans (Hc.out.2.2.2.mono hbb.size)
        have hSc := HS.out _ hbc
        refine hK _ _ (.inr hSc) ?_
        clear hK K hone
        refine hold_take 7 _ rfl (by kernel_rfl) (by kernel_rfl) (by kernel_rfl) (by kernel_rfl) (by kernel_rfl) (fun _ _ _ h => h) (by rfl) (fun _ => rfl) hSc (fun w' hS => by obtain ⟨q0, q1, q2, q3, q4, q5, q6, q7, q8, q9⟩ := hS; go_simp; rfl) ?_
        simp only [Act.put, List.setIfInBounds_toArray, List.set_cons_zero, List.set_cons_succ]
        refine hold_take 8 _ rfl (by kernel_rfl) (by kernel_rfl) (by kernel_rfl) (by kernel_rfl) (by kernel_rfl) (fun _ _ _ h => h) (by rfl) (fun _ => rfl) hSc (fun w' hS => by obtain ⟨q0, q1, q2, q3, q4, q5, q6, q7, q8, q9⟩ := hS; go_simp; rfl) ?_
        simp only [Act.put, List.setIfInBounds_toArray, List.set_cons_zero, List.set_cons_succ]
        refine hold_take 9 _ rfl (by kernel_rfl) (by kernel_rfl) (by kernel_rfl) (by kernel_rfl) (by kernel_rfl) (fun _ _ _ h => h) (by rfl) (fun _ => rfl) hSc (fun w' hS => by obtain ⟨q0, q1, q2, q3, q4, q5, q6, q7, q8, q9⟩ := hS; go_simp; rfl) ?_
        simp only [Act.put, List.setIfInBounds_toArray, List.set_cons_zero, List.set_cons_succ]
        refine hold_take 10 _ rfl (by kernel_rfl) (by kernel_rfl) (by kernel_rfl) (by kernel_rfl) (by kernel_rfl) (fun _ _ _ h => h) (by rfl) (fun _ => rfl) hSc (fun w' hS => by obtain ⟨q0, q1, q2, q3, q4, q5, q6, q7, q8, q9⟩ := hS; go_simp; rfl) ?_
        simp only [Act.put, List.setIfInBounds_toArray, List.set_cons_zero, List.set_cons_succ]
        refine hold_take 11 _ rfl (by kernel_rfl) (by kernel_rfl) (by kernel_rfl) (by kernel_rfl) (by kernel_rfl) (fun _ _ _ h => h) (by rfl) (fun _ => rfl) hSc (fun w' hS => by obtain ⟨q0, q1, q2, q3, q4, q5, q6, q7, q8, q9⟩ := hS; go_simp; rfl) ?_
        simp only [Act.put, List.setIfInBounds_toArray, List.set_cons_zero, List.set_cons_succ]
        refine held_done (by kernel_rfl) ?_ _
        have hbw : Below (b + 1) w1 wc := HBR.out.trans (hbc.mono (HSz.out _ HBR.out))
        have HS3 : Hid (∀ W', Below wc.heap.size wc W' → (fun W' : World => W'.cell? ⟨gi, 0, none⟩ = some (.int .i64 3) ∧ W'.cell? ⟨gi, 1, none⟩ = some (.int .i64 fr) ∧ W'.cell? ⟨gi, 2, none⟩ = some (.int .i64 x) ∧ (W'.cell? ⟨gi, 3, none⟩ = some (.int .u8 2) ∧ W'.cell? ⟨gi, 4, none⟩ = some (.int .u8 0) ∧ W'.cell? ⟨gi, 5, none⟩ = some (.int .u8 0) ∧ W'.cell? ⟨gi, 6, none⟩ = some (.int .u8 0) ∧ W'.cell? ⟨gi, 7, none⟩ = some (.int .u8 0) ∧ W'.cell? ⟨gi, 8, none⟩ = some (.int .u8 2)) ∧ W'.cell? ⟨gi, 9, none⟩ = some (.slice Al L0 ml) ∧ W'.cell? ⟨gp, j * 9 + 1, none⟩ = some (.int .i64 x) ∧ W'.cell? ⟨b, 2, none⟩ = some (.slice Ab L0 cb) ∧ Below wc.heap.size wc W') W') := cover fun W' hb' => by
          have e : ∀ {a : Addr} {v : Value}, a.block < wc.heap.size → wc.cell? a = some v → W'.cell? a = some v := fun hq hv => (hb'.cell hq).trans hv
          have hgi := Hc.out.2.2.1
          have hcell := Hc.out.1
          obtain ⟨_, _, k2⟩ := HCell.out W' (hbw.trans (hb'.mono (HSz.out _ hbw)))
          exact ⟨e hgi (hcell 0 (by decide)), e hgi (hcell 1 (by decide)), e hgi (hcell 2 (by decide)), ⟨e hgi (hcell 3 (by decide)), e hgi (hcell 4 (by decide)), e hgi (hcell 5 (by decide)), e hgi (hcell 6 (by decide)), e hgi (hcell 7 (by decide)), e hgi (hcell 8 (by decide))⟩, e hgi (by rw [← HL0.out]; exact hcell 9 (by decide)), (HS.out W' (hbc.trans (hb'.mono hbc.size))).2.1, k2, hb'⟩
        have HSM : Hid (∀ W', Below wc.heap.size wc W' → Calls Try.prog 16 #[.slice Al L0 ml, .slice Ab L0 cb] W' fun e w' => e = .returned (.bool true) ∧ Below W'.heap.size W' w') := cover fun W' hb' => by
          have hra : Row wc wc.heap.size Al L0 bs := by
            have h : Row wc wc.heap.size Al bs.length bs := OwnB.row Hc.out.2.1
            rw [HL0.out] at h; exact h
          refine (same_any Al Ab L0 ml cb wc.heap.size wc.heap.size bs bs W' (hra.below hb') ((HRow.out wc hbw).below hb') (by omega)).mono ?_
          rintro e w' ⟨rfl, d, rfl⟩
          exact ⟨by rw [decide_eq_true rfl], below_drewN (Below.refl _ _) d⟩
        have hsix : sameL [2, 0, 0, 0, 0, 2] [2, 0, 0, 0, 0, 2] = true := sameL_refl _
        have hbx : Below wc.heap.size wc wc.drew := (Below.refl _ _).drew
        have hx3 : (fun W' : World => W'.cell? ⟨gi, 0, none⟩ = some (.int .i64 3) ∧ W'.cell? ⟨gi, 1, none⟩ = some (.int .i64 fr) ∧ W'.cell? ⟨gi, 2, none⟩ = some (.int .i64 x) ∧ (W'.cell? ⟨gi, 3, none⟩ = some (.int .u8 2) ∧ W'.cell? ⟨gi, 4, none⟩ = some (.int .u8 0) ∧ W'.cell? ⟨gi, 5, none⟩ = some (.int .u8 0) ∧ W'.cell? ⟨gi, 6, none⟩ = some (.int .u8 0) ∧ W'.cell? ⟨gi, 7, none⟩ = some (.int .u8 0) ∧ W'.cell? ⟨gi, 8, none⟩ = some (.int .u8 2)) ∧ W'.cell? ⟨gi, 9, none⟩ = some (.slice Al L0 ml) ∧ W'.cell? ⟨gp, j * 9 + 1, none⟩ = some (.int .i64 x) ∧ W'.cell? ⟨b, 2, none⟩ = some (.slice Ab L0 cb) ∧ Below wc.heap.size wc W') wc.drew := HS3.out _ hbx
        have HBC := cover hbc
        clear h3 hSc hbb hbb' hbc hb0 HS Hc HHE hbw
        go_wp2_with fail
        refine (wpIn_wide (n := 0)).1 ?_
        refine held_begin (fun W' : World => W'.cell? ⟨gi, 0, none⟩ = some (.int .i64 3) ∧ W'.cell? ⟨gi, 1, none⟩ = some (.int .i64 fr) ∧ W'.cell? ⟨gi, 2, none⟩ = some (.int .i64 x) ∧ (W'.cell? ⟨gi, 3, none⟩ = some (.int .u8 2) ∧ W'.cell? ⟨gi, 4, none⟩ = some (.int .u8 0) ∧ W'.cell? ⟨gi, 5, none⟩ = some (.int .u8 0) ∧ W'.cell? ⟨gi, 6, none⟩ = some (.int .u8 0) ∧ W'.cell? ⟨gi, 7, none⟩ = some (.int .u8 0) ∧ W'.cell? ⟨gi, 8, none⟩ = some (.int .u8 2)) ∧ W'.cell? ⟨gi, 9, none⟩ = some (.slice Al L0 ml) ∧ W'.cell? ⟨gp, j * 9 + 1, none⟩ = some (.int .i64 x) ∧ W'.cell? ⟨b, 2, none⟩ = some (.slice Ab L0 cb) ∧ Below wc.heap.size wc W') 99 mixed ?_
        refine hold_take 0 _ rfl (by kernel_rfl) (by kernel_rfl) (by kernel_rfl) (by kernel_rfl) (by kernel_rfl) (fun _ _ _ h => h) (by rfl) (fun _ => rfl) hx3 (fun w' hS => by obtain ⟨q0, q1, q2, ⟨q3, q4, q5, q6, q7, q8⟩, q9, q10, q11, q12⟩ := hS; go_simp; rfl) ?_
        simp only [Act.put, List.setIfInBounds_toArray, List.set_cons_zero, List.set_cons_succ]
        refine hold_take 1 (.int .i64 1) rfl (by kernel_rfl) (by kernel_rfl) (by kernel_rfl) (by kernel_rfl) (by kernel_rfl) (fun _ _ _ h => h) (by rfl) (fun _ => rfl) hx3 (fun w' hS => by obtain ⟨q0, q1, q2, ⟨q3, q4, q5, q6, q7, q8⟩, q9, q10, q11, q12⟩ := hS; go_simp; (first | done | rfl | simp)) ?_
        simp only [Act.put, List.setIfInBounds_toArray, List.set_cons_zero, List.set_cons_succ]
        refine hold_take 2 (.bool false) rfl (by kernel_rfl) (by kernel_rfl) (by kernel_rfl) (by kernel_rfl) (by kernel_rfl) (fun _ _ _ h => h) (by rfl) (fun _ => rfl) hx3 (fun w' hS => by obtain ⟨q0, q1, q2, ⟨q3, q4, q5, q6, q7, q8⟩, q9, q10, q11, q12⟩ := hS; go_simp; (first | done | rfl | simp)) ?_
        simp only [Act.put, List.setIfInBounds_toArray, List.set_cons_zero, List.set_cons_succ]
        refine hold_take 3 (.bool false) rfl (by kernel_rfl) (by kernel_rfl) (by kernel_rfl) (by kernel_rfl) (by kernel_rfl) (fun _ _ _ h => h) (by rfl) (fun _ => rfl) hx3 (fun w' hS => by obtain ⟨q0, q1, q2, ⟨q3, q4, q5, q6, q7, q8⟩, q9, q10, q11, q12⟩ := hS; go_simp; (first | done | rfl | simp)) ?_
        simp only [Act.put, List.setIfInBounds_toArray, List.set_cons_zero, List.set_cons_succ]
        refine hold_take 4 _ rfl (by kernel_rfl) (by kernel_rfl) (by kernel_rfl) (by kernel_rfl) (by kernel_rfl) (fun _ _ _ h => h) (by rfl) (fun _ => rfl) hx3 (fun w' hS => by obtain ⟨q0, q1, q2, ⟨q3, q4, q5, q6, q7, q8⟩, q9, q10, q11, q12⟩ := hS; go_simp; rfl) ?_
        simp only [Act.put, List.setIfInBounds_toArray, List.set_cons_zero, List.set_cons_succ]
        refine hold_take 5 (.int .i64 0) rfl (by kernel_rfl) (by kernel_rfl) (by kernel_rfl) (by kernel_rfl) (by kernel_rfl) (fun _ _ _ h => h) (by rfl) (fun _ => rfl) hx3 (fun w' hS => by obtain ⟨q0, q1, q2, ⟨q3, q4, q5, q6, q7, q8⟩, q9, q10, q11, q12⟩ := hS; go_simp; (first | done | rfl | simp)) ?_
        simp only [Act.put, List.setIfInBounds_toArray, List.set_cons_zero, List.set_cons_succ]
        refine hold_take 6 (.bool false) rfl (by kernel_rfl) (by kernel_rfl) (by kernel_rfl) (by kernel_rfl) (by kernel_rfl) (fun _ _ _ h => h) (by rfl) (fun _ => rfl) hx3 (fun w' hS => by obtain ⟨q0, q1, q2, ⟨q3, q4, q5, q6, q7, q8⟩, q9, q10, q11, q12⟩ := hS; go_simp; (first | done | rfl | simp)) ?_
        simp only [Act.put, List.setIfInBounds_toArray, List.set_cons_zero, List.set_cons_succ]
        refine hold_take 7 (.bool false) rfl (by kernel_rfl) (by kernel_rfl) (by kernel_rfl) (by kernel_rfl) (by kernel_rfl) (fun _ _ _ h => h) (by rfl) (fun _ => rfl) hx3 (fun w' hS => by obtain ⟨q0, q1, q2, ⟨q3, q4, q5, q6, q7, q8⟩, q9, q10, q11, q12⟩ := hS; go_simp; (first | done | rfl | simp)) ?_
        simp only [Act.put, List.setIfInBounds_toArray, List.set_cons_zero, List.set_cons_succ]
        refine hold_take 8 (.bool false) rfl (by kernel_rfl) (by kernel_rfl) (by kernel_rfl) (by kernel_rfl) (by kernel_rfl) (fun _ _ _ h => h) (by rfl) (fun _ => rfl) hx3 (fun w' hS => by obtain ⟨q0, q1, q2, ⟨q3, q4, q5, q6, q7, q8⟩, q9, q10, q11, q12⟩ := hS; go_simp; (first | done | rfl | simp)) ?_
        simp only [Act.put, List.setIfInBounds_toArray, List.set_cons_zero, List.set_cons_succ]
        refine hold_take 9 _ rfl (by kernel_rfl) (by kernel_rfl) (by kernel_rfl) (by kernel_rfl) (by kernel_rfl) (fun _ _ _ h => h) (by rfl) (fun _ => rfl) hx3 (fun w' hS => by obtain ⟨q0, q1, q2, ⟨q3, q4, q5, q6, q7, q8⟩, q9, q10, q11, q12⟩ := hS; go_simp; rfl) ?_
        simp only [Act.put, List.setIfInBounds_toArray, List.set_cons_zero, List.set_cons_succ]
        refine hold_take 10 _ rfl (by kernel_rfl) (by kernel_rfl) (by kernel_rfl) (by kernel_rfl) (by kernel_rfl) (fun _ _ _ h => h) (by rfl) (fun _ => rfl) hx3 (fun w' hS => by obtain ⟨q0, q1, q2, ⟨q3, q4, q5, q6, q7, q8⟩, q9, q10, q11, q12⟩ := hS; go_simp; rfl) ?_
        simp only [Act.put, List.setIfInBounds_toArray, List.set_cons_zero, List.set_cons_succ]
        refine hold_take 11 _ rfl (by kernel_rfl) (by kernel_rfl) (by kernel_rfl) (by kernel_rfl) (by kernel_rfl) (fun _ _ _ h => h) (by rfl) (fun _ => rfl) hx3 (fun w' hS => by obtain ⟨q0, q1, q2, ⟨q3, q4, q5, q6, q7, q8⟩, q9, q10, q11, q12⟩ := hS; go_simp; rfl) ?_
        simp only [Act.put, List.setIfInBounds_toArray, List.set_cons_zero, List.set_cons_succ]
        refine hold_take 12 _ rfl (by kernel_rfl) (by kernel_rfl) (by kernel_rfl) (by kernel_rfl) (by kernel_rfl) (fun _ _ _ h => h) (by rfl) (fun _ => rfl) hx3 (fun w' hS => by obtain ⟨q0, q1, q2, ⟨q3, q4, q5, q6, q7, q8⟩, q9, q10, q11, q12⟩ := hS; go_simp; rfl) ?_
        simp only [Act.put, List.setIfInBounds_toArray, List.set_cons_zero, List.set_cons_succ]
        refine hold_take 13 (.bool false) rfl (by kernel_rfl) (by kernel_rfl) (by kernel_rfl) (by kernel_rfl) (by kernel_rfl) (fun _ _ _ h => h) (by rfl) (fun _ => rfl) hx3 (fun w' hS => by obtain ⟨q0, q1, q2, ⟨q3, q4, q5, q6, q7, q8⟩, q9, q10, q11, q12⟩ := hS; go_simp; (first | done | rfl | simp)) ?_
        simp only [Act.put, List.setIfInBounds_toArray, List.set_cons_zero, List.set_cons_succ]
        refine hold_take 14 (.bool false) rfl (by kernel_rfl) (by kernel_rfl) (by kernel_rfl) (by kernel_rfl) (by kernel_rfl) (fun _ _ _ h => h) (by rfl) (fun _ => rfl) hx3 (fun w' hS => by obtain ⟨q0, q1, q2, ⟨q3, q4, q5, q6, q7, q8⟩, q9, q10, q11, q12⟩ := hS; go_simp; (first | done | rfl | simp)) ?_
        simp only [Act.put, List.setIfInBounds_toArray, List.set_cons_zero, List.set_cons_succ]
        refine hold_take 15 (.bool false) rfl (by kernel_rfl) (by kernel_rfl) (by kernel_rfl) (by kernel_rfl) (by kernel_rfl) (fun _ _ _ h => h) (by rfl) (fun _ => rfl) hx3 (fun w' hS => by obtain ⟨q0, q1, q2, ⟨q3, q4, q5, q6, q7, q8⟩, q9, q10, q11, q12⟩ := hS; go_simp; (first | done | rfl | simp)) ?_
        simp only [Act.put, List.setIfInBounds_toArray, List.set_cons_zero, List.set_cons_succ]
        refine hold_take 16 _ rfl (by kernel_rfl) (by kernel_rfl) (by kernel_rfl) (by kernel_rfl) (by kernel_rfl) (fun _ _ _ h => h) (by rfl) (fun _ => rfl) hx3 (fun w' hS => by obtain ⟨q0, q1, q2, ⟨q3, q4, q5, q6, q7, q8⟩, q9, q10, q11, q12⟩ := hS; go_simp; rfl) ?_
        simp only [Act.put, List.setIfInBounds_toArray, List.set_cons_zero, List.set_cons_succ]
        refine hold_take 17 _ rfl (by kernel_rfl) (by kernel_rfl) (by kernel_rfl) (by kernel_rfl) (by kernel_rfl) (fun _ _ _ h => h) (by rfl) (fun _ => rfl) hx3 (fun w' hS => by obtain ⟨q0, q1, q2, ⟨q3, q4, q5, q6, q7, q8⟩, q9, q10, q11, q12⟩ := hS; go_simp; rfl) ?_
        simp only [Act.put, List.setIfInBounds_toArray, List.set_cons_zero, List.set_cons_succ]
        refine hold_take 18 _ rfl (by kernel_rfl) (by kernel_rfl) (by kernel_rfl) (by kernel_rfl) (by kernel_rfl) (fun _ _ _ h => h) (by rfl) (fun _ => rfl) hx3 (fun w' hS => by obtain ⟨q0, q1, q2, ⟨q3, q4, q5, q6, q7, q8⟩, q9, q10, q11, q12⟩ := hS; go_simp; rfl) ?_
        simp only [Act.put, List.setIfInBounds_toArray, List.set_cons_zero, List.set_cons_succ]
        refine hold_take 19 _ rfl (by kernel_rfl) (by kernel_rfl) (by kernel_rfl) (by kernel_rfl) (by kernel_rfl) (fun _ _ _ h => h) (by rfl) (fun _ => rfl) hx3 (fun w' hS => by obtain ⟨q0, q1, q2, ⟨q3, q4, q5, q6, q7, q8⟩, q9, q10, q11, q12⟩ := hS; go_simp; rfl) ?_
        simp only [Act.put, List.setIfInBounds_toArray, List.set_cons_zero, List.set_cons_succ]
        refine hold_take 20 _ rfl (by kernel_rfl) (by kernel_rfl) (by kernel_rfl) (by kernel_rfl) (by kernel_rfl) (fun _ _ _ h => h) (by rfl) (fun _ => rfl) hx3 (fun w' hS => by obtain ⟨q0, q1, q2, ⟨q3, q4, q5, q6, q7, q8⟩, q9, q10, q11, q12⟩ := hS; go_simp; rfl) ?_
        simp only [Act.put, List.setIfInBounds_toArray, List.set_cons_zero, List.set_cons_succ]
        refine hold_take 21 (.bool false) rfl (by kernel_rfl) (by kernel_rfl) (by kernel_rfl) (by kernel_rfl) (by kernel_rfl) (fun _ _ _ h => h) (by rfl) (fun _ => rfl) hx3 (fun w' hS => by obtain ⟨q0, q1, q2, ⟨q3, q4, q5, q6, q7, q8⟩, q9, q10, q11, q12⟩ := hS; go_simp; (first | done | rfl | simp)) ?_
        simp only [Act.put, List.setIfInBounds_toArray, List.set_cons_zero, List.set_cons_succ]
        refine hold_take 22 (.bool false) rfl (by kernel_rfl) (by kernel_rfl) (by kernel_rfl) (by kernel_rfl) (by kernel_rfl) (fun _ _ _ h => h) (by rfl) (fun _ => rfl) hx3 (fun w' hS => by obtain ⟨q0, q1, q2, ⟨q3, q4, q5, q6, q7, q8⟩, q9, q10, q11, q12⟩ := hS; go_simp; (first | done | rfl | simp)) ?_
        simp only [Act.put, List.setIfInBounds_toArray, List.set_cons_zero, List.set_cons_succ]
        refine hold_take 23 (.bool false) rfl (by kernel_rfl) (by kernel_rfl) (by kernel_rfl) (by kernel_rfl) (by kernel_rfl) (fun _ _ _ h => h) (by rfl) (fun _ => rfl) hx3 (fun w' hS => by obtain ⟨q0, q1, q2, ⟨q3, q4, q5, q6, q7, q8⟩, q9, q10, q11, q12⟩ := hS; go_simp; (first | done | rfl | simp)) ?_
        simp only [Act.put, List.setIfInBounds_toArray, List.set_cons_zero, List.set_cons_succ]
        refine hold_take 24 _ rfl (by kernel_rfl) (by kernel_rfl) (by kernel_rfl) (by kernel_rfl) (by kernel_rfl) (fun _ _ _ h => h) (by rfl) (fun _ => rfl) hx3 (fun w' hS => by obtain ⟨q0, q1, q2, ⟨q3, q4, q5, q6, q7, q8⟩, q9, q10, q11, q12⟩ := hS; go_simp; rfl) ?_
        simp only [Act.put, List.setIfInBounds_toArray, List.set_cons_zero, List.set_cons_succ]
        refine hold_take 25 _ rfl (by kernel_rfl) (by kernel_rfl) (by kernel_rfl) (by kernel_rfl) (by kernel_rfl) (fun _ _ _ h => h) (by rfl) (fun _ => rfl) hx3 (fun w' hS => by obtain ⟨q0, q1, q2, ⟨q3, q4, q5, q6, q7, q8⟩, q9, q10, q11, q12⟩ := hS; go_simp; rfl) ?_
        simp only [Act.put, List.setIfInBounds_toArray, List.set_cons_zero, List.set_cons_succ]
        refine hold_take 26 _ rfl (by kernel_rfl) (by kernel_rfl) (by kernel_rfl) (by kernel_rfl) (by kernel_rfl) (fun _ _ _ h => h) (by rfl) (fun _ => rfl) hx3 (fun w' hS => by obtain ⟨q0, q1, q2, ⟨q3, q4, q5, q6, q7, q8⟩, q9, q10, q11, q12⟩ := hS; go_simp; rfl) ?_
        simp only [Act.put, List.setIfInBounds_toArray, List.set_cons_zero, List.set_cons_succ]
        refine hold_take 27 _ rfl (by kernel_rfl) (by kernel_rfl) (by kernel_rfl) (by kernel_rfl) (by kernel_rfl) (fun _ _ _ h => h) (by rfl) (fun _ => rfl) hx3 (fun w' hS => by obtain ⟨q0, q1, q2, ⟨q3, q4, q5, q6, q7, q8⟩, q9, q10, q11, q12⟩ := hS; go_simp; rfl) ?_
        simp only [Act.put, List.setIfInBounds_toArray, List.set_cons_zero, List.set_cons_succ]
        refine hold_take 28 _ rfl (by kernel_rfl) (by kernel_rfl) (by kernel_rfl) (by kernel_rfl) (by kernel_rfl) (fun _ _ _ h => h) (by rfl) (fun _ => rfl) hx3 (fun w' hS => by obtain ⟨q0, q1, q2, ⟨q3, q4, q5, q6, q7, q8⟩, q9, q10, q11, q12⟩ := hS; go_simp; rfl) ?_
        simp only [Act.put, List.setIfInBounds_toArray, List.set_cons_zero, List.set_cons_succ]
        refine hold_take 29 _ rfl (by kernel_rfl) (by kernel_rfl) (by kernel_rfl) (by kernel_rfl) (by kernel_rfl) (fun _ _ _ h => h) (by rfl) (fun _ => rfl) hx3 (fun w' hS => by obtain ⟨q0, q1, q2, ⟨q3, q4, q5, q6, q7, q8⟩, q9, q10, q11, q12⟩ := hS; go_simp; rfl) ?_
        simp only [Act.put, List.setIfInBounds_toArray, List.set_cons_zero, List.set_cons_succ]
        refine hold_take 30 _ rfl (by kernel_rfl) (by kernel_rfl) (by kernel_rfl) (by kernel_rfl) (by kernel_rfl) (fun _ _ _ h => h) (by rfl) (fun _ => rfl) hx3 (fun w' hS => by obtain ⟨q0, q1, q2, ⟨q3, q4, q5, q6, q7, q8⟩, q9, q10, q11, q12⟩ := hS; go_simp; rfl) ?_
        simp only [Act.put, List.setIfInBounds_toArray, List.set_cons_zero, List.set_cons_succ]
        refine hold_take 31 _ rfl (by kernel_rfl) (by kernel_rfl) (by kernel_rfl) (by kernel_rfl) (by kernel_rfl) (fun _ _ _ h => h) (by rfl) (fun _ => rfl) hx3 (fun w' hS => by obtain ⟨q0, q1, q2, ⟨q3, q4, q5, q6, q7, q8⟩, q9, q10, q11, q12⟩ := hS; go_simp; rfl) ?_
        simp only [Act.put, List.setIfInBounds_toArray, List.set_cons_zero, List.set_cons_succ]
        refine hold_take 32 _ rfl (by kernel_rfl) (by kernel_rfl) (by kernel_rfl) (by kernel_rfl) (by kernel_rfl) (fun _ _ _ h => h) (by rfl) (fun _ => rfl) hx3 (fun w' hS => by obtain ⟨q0, q1, q2, ⟨q3, q4, q5, q6, q7, q8⟩, q9, q10, q11, q12⟩ := hS; go_simp; rfl) ?_
        simp only [Act.put, List.setIfInBounds_toArray, List.set_cons_zero, List.set_cons_succ]
        refine hold_take 33 (.bool false) rfl (by kernel_rfl) (by kernel_rfl) (by kernel_rfl) (by kernel_rfl) (by kernel_rfl) (fun _ _ _ h => h) (by rfl) (fun _ => rfl) hx3 (fun w' hS => by obtain ⟨q0, q1, q2, ⟨q3, q4, q5, q6, q7, q8⟩, q9, q10, q11, q12⟩ := hS; go_simp; (first | done | rfl | simp)) ?_
        simp only [Act.put, List.setIfInBounds_toArray, List.set_cons_zero, List.set_cons_succ]
        refine hold_take 34 (.bool false) rfl (by kernel_rfl) (by kernel_rfl) (by kernel_rfl) (by kernel_rfl) (by kernel_rfl) (fun _ _ _ h => h) (by rfl) (fun _ => rfl) hx3 (fun w' hS => by obtain ⟨q0, q1, q2, ⟨q3, q4, q5, q6, q7, q8⟩, q9, q10, q11, q12⟩ := hS; go_simp; (first | done | rfl | simp)) ?_
        simp only [Act.put, List.setIfInBounds_toArray, List.set_cons_zero, List.set_cons_succ]
        refine hold_take 35 (.bool false) rfl (by kernel_rfl) (by kernel_rfl) (by kernel_rfl) (by kernel_rfl) (by kernel_rfl) (fun _ _ _ h => h) (by rfl) (fun _ => rfl) hx3 (fun w' hS => by obtain ⟨q0, q1, q2, ⟨q3, q4, q5, q6, q7, q8⟩, q9, q10, q11, q12⟩ := hS; go_simp; (first | done | rfl | simp)) ?_
        simp only [Act.put, List.setIfInBounds_toArray, List.set_cons_zero, List.set_cons_succ]
        refine hold_take 36 _ rfl (by kernel_rfl) (by kernel_rfl) (by kernel_rfl) (by kernel_rfl) (by kernel_rfl) (fun _ _ _ h => h) (by rfl) (fun _ => rfl) hx3 (fun w' hS => by obtain ⟨q0, q1, q2, ⟨q3, q4, q5, q6, q7, q8⟩, q9, q10, q11, q12⟩ := hS; go_simp; rfl) ?_
        simp only [Act.put, List.setIfInBounds_toArray, List.set_cons_zero, List.set_cons_succ]
        refine hold_take 37 _ rfl (by kernel_rfl) (by kernel_rfl) (by kernel_rfl) (by kernel_rfl) (by kernel_rfl) (fun _ _ _ h => h) (by rfl) (fun _ => rfl) hx3 (fun w' hS => by obtain ⟨q0, q1, q2, ⟨q3, q4, q5, q6, q7, q8⟩, q9, q10, q11, q12⟩ := hS; go_simp; rfl) ?_
        simp only [Act.put, List.setIfInBounds_toArray, List.set_cons_zero, List.set_cons_succ]
        refine hold_take 38 _ rfl (by kernel_rfl) (by kernel_rfl) (by kernel_rfl) (by kernel_rfl) (by kernel_rfl) (fun _ _ _ h => h) (by rfl) (fun _ => rfl) hx3 (fun w' hS => by obtain ⟨q0, q1, q2, ⟨q3, q4, q5, q6, q7, q8⟩, q9, q10, q11, q12⟩ := hS; go_simp; rfl) ?_
        simp only [Act.put, List.setIfInBounds_toArray, List.set_cons_zero, List.set_cons_succ]
        refine hold_take 39 _ rfl (by kernel_rfl) (by kernel_rfl) (by kernel_rfl) (by kernel_rfl) (by kernel_rfl) (fun _ _ _ h => h) (by rfl) (fun _ => rfl) hx3 (fun w' hS => by obtain ⟨q0, q1, q2, ⟨q3, q4, q5, q6, q7, q8⟩, q9, q10, q11, q12⟩ := hS; go_simp; rfl) ?_
        simp only [Act.put, List.setIfInBounds_toArray, List.set_cons_zero, List.set_cons_succ]
        refine hold_one 40 (by kernel_rfl) rfl (by rfl) fun K hK => ?_
        go_simp
        refine ⟨trivial, rfl, (callsIn_wide.2 (HST.out 2 _ (by omega) (by omega))).mono ?_⟩
        rintro e wd ⟨rfl, hbd'⟩
        have hbd : Below wc.heap.size wc wd := hbx.trans (hbd'.mono hbx.size)
        have hSd := HS3.out _ hbd
        refine hK _ _ (.inr hSd) ?_
        clear hK K
        refine hold_take 41 (.bool false) rfl (by kernel_rfl) (by kernel_rfl) (by kernel_rfl) (by kernel_rfl) (by kernel_rfl) (fun _ _ _ h => h) (by rfl) (fun _ => rfl) hSd (fun w' hS => by obtain ⟨q0, q1, q2, ⟨q3, q4, q5, q6, q7, q8⟩, q9, q10, q11, q12⟩ := hS; go_simp; (first | done | rfl | simp)) ?_
        simp only [Act.put, List.setIfInBounds_toArray, List.set_cons_zero, List.set_cons_succ]
        refine hold_take 42 (.bool false) rfl (by kernel_rfl) (by kernel_rfl) (by kernel_rfl) (by kernel_rfl) (by kernel_rfl) (fun _ _ _ h => h) (by rfl) (fun _ => rfl) hSd (fun w' hS => by obtain ⟨q0, q1, q2, ⟨q3, q4, q5, q6, q7, q8⟩, q9, q10, q11, q12⟩ := hS; go_simp; (first | done | rfl | simp)) ?_
        simp only [Act.put, List.setIfInBounds_toArray, List.set_cons_zero, List.set_cons_succ]
        refine hold_take 43 (.bool false) rfl (by kernel_rfl) (by kernel_rfl) (by kernel_rfl) (by kernel_rfl) (by kernel_rfl) (fun _ _ _ h => h) (by rfl) (fun _ => rfl) hSd (fun w' hS => by obtain ⟨q0, q1, q2, ⟨q3, q4, q5, q6, q7, q8⟩, q9, q10, q11, q12⟩ := hS; go_simp; (first | done | rfl | simp)) ?_
        simp only [Act.put, List.setIfInBounds_toArray, List.set_cons_zero, List.set_cons_succ]
        refine hold_take 44 _ rfl (by kernel_rfl) (by kernel_rfl) (by kernel_rfl) (by kernel_rfl) (by kernel_rfl) (fun _ _ _ h => h) (by rfl) (fun _ => rfl) hSd (fun w' hS => by obtain ⟨q0, q1, q2, ⟨q3, q4, q5, q6, q7, q8⟩, q9, q10, q11, q12⟩ := hS; go_simp; rfl) ?_
        simp only [Act.put, List.setIfInBounds_toArray, List.set_cons_zero, List.set_cons_succ]
        refine hold_take 45 _ rfl (by kernel_rfl) (by kernel_rfl) (by kernel_rfl) (by kernel_rfl) (by kernel_rfl) (fun _ _ _ h => h) (by rfl) (fun _ => rfl) hSd (fun w' hS => by obtain ⟨q0, q1, q2, ⟨q3, q4, q5, q6, q7, q8⟩, q9, q10, q11, q12⟩ := hS; go_simp; rfl) ?_
        simp only [Act.put, List.setIfInBounds_toArray, List.set_cons_zero, List.set_cons_succ]
        refine hold_take 46 _ rfl (by kernel_rfl) (by kernel_rfl) (by kernel_rfl) (by kernel_rfl) (by kernel_rfl) (fun _ _ _ h => h) (by rfl) (fun _ => rfl) hSd (fun w' hS => by obtain ⟨q0, q1, q2, ⟨q3, q4, q5, q6, q7, q8⟩, q9, q10, q11, q12⟩ := hS; go_simp; rfl) ?_
        simp only [Act.put, List.setIfInBounds_toArray, List.set_cons_zero, List.set_cons_succ]
        refine hold_take 47 _ rfl (by kernel_rfl) (by kernel_rfl) (by kernel_rfl) (by kernel_rfl) (by kernel_rfl) (fun _ _ _ h => h) (by rfl) (fun _ => rfl) hSd (fun w' hS => by obtain ⟨q0, q1, q2, ⟨q3, q4, q5, q6, q7, q8⟩, q9, q10, q11, q12⟩ := hS; go_simp; rfl) ?_
        simp only [Act.put, List.setIfInBounds_toArray, List.set_cons_zero, List.set_cons_succ]
        refine hold_take 48 _ rfl (by kernel_rfl) (by kernel_rfl) (by kernel_rfl) (by kernel_rfl) (by kernel_rfl) (fun _ _ _ h => h) (by rfl) (fun _ => rfl) hSd (fun w' hS => by obtain ⟨q0, q1, q2, ⟨q3, q4, q5, q6, q7, q8⟩, q9, q10, q11, q12⟩ := hS; go_simp; rfl) ?_
        simp only [Act.put, List.setIfInBounds_toArray, List.set_cons_zero, List.set_cons_succ]
        refine hold_take 49 _ rfl (by kernel_rfl) (by kernel_rfl) (by kernel_rfl) (by kernel_rfl) (by kernel_rfl) (fun _ _ _ h => h) (by rfl) (fun _ => rfl) hSd (fun w' hS => by obtain ⟨q0, q1, q2, ⟨q3, q4, q5, q6, q7, q8⟩, q9, q10, q11, q12⟩ := hS; go_simp; rfl) ?_
        simp only [Act.put, List.setIfInBounds_toArray, List.set_cons_zero, List.set_cons_succ]
        refine hold_one 50 (by kernel_rfl) rfl (by rfl) fun K hK => ?_
        go_simp
        refine ⟨trivial, rfl, (callsIn_wide.2 (HSM.out _ hbd)).mono ?_⟩
        rintro e we ⟨rfl, hbe'⟩
        have hbe : Below wc.heap.size wc we := hbd.trans (hbe'.mono hbd.size)
        have hSe := HS3.out _ hbe
        refine hK _ _ (.inr hSe) ?_
        clear hK K
        refine hold_take 51 (.bool false) rfl (by kernel_rfl) (by kernel_rfl) (by kernel_rfl) (by kernel_rfl) (by kernel_rfl) (fun _ _ _ h => h) (by rfl) (fun _ => rfl) hSe (fun w' hS => by obtain ⟨q0, q1, q2, ⟨q3, q4, q5, q6, q7, q8⟩, q9, q10, q11, q12⟩ := hS; go_simp; (first | done | rfl | simp)) ?_
        simp only [Act.put, List.setIfInBounds_toArray, List.set_cons_zero, List.set_cons_succ]
        refine hold_take 52 (.bool false) rfl (by kernel_rfl) (by kernel_rfl) (by kernel_rfl) (by kernel_rfl) (by kernel_rfl) (fun _ _ _ h => h) (by rfl) (fun _ => rfl) hSe (fun w' hS => by obtain ⟨q0, q1, q2, ⟨q3, q4, q5, q6, q7, q8⟩, q9, q10, q11, q12⟩ := hS; go_simp; (first | done | rfl | simp)) ?_
        simp only [Act.put, List.setIfInBounds_toArray, List.set_cons_zero, List.set_cons_succ]
        refine held_done (by kernel_rfl) ?_ _
        have HN8 := cover (hrel.out.trans ((HBC.out.trans (hbe.mono HBC.out.size)).mono hrel.out.size))
        clear hx3 hSd hSe hbd hbd' hbe hbe' hbx HS3 HSM hrel
        go_wp2
        go_roundw
        case rel => exact ⟨j + 1, by omega, by go_num, HN8⟩
        case measure => simp [intOf]; omega
      · obtain rfl : j = n := by omega
        have HN := cover (HOut.out _ (HBA.out.trans (hrel.out.mono (HSz.out _ HBA.out))))
        clear HOut HCell HRow HDs HSz hrel
        go_wp2
        go_ret
        exact ⟨rfl, HN.out⟩
  have htz : (tt == 0) = false := by simpa using hz
  by_cases hz2 : tt = 255
  · have htz2 : (tt == 255) = true := by simpa using hz2
    have HLZ : Hid (n = m + 1) := cover (by rw [HNL.out, HLE.out, if_pos (.inr hz2), HM.out]; simp [Nat.add_comm])
    have hwm : IntKind.i64.wrap ((m : Int) + 1) = (n : Int) := by rw [IntKind.wrap_i64, HLZ.out]; omega
    clear hz hz2 HM hm16
    go_wp2_with fail
    go_loopw [17] (fun i wr => ∃ j : Nat, j ≤ n ∧ i = .int .i64 j ∧ Hid (Below wa.heap.size wa wr)) (fun i _ => n - (intOf i).toNat)
    case atStart => exact ⟨0, Nat.zero_le _, rfl, cover (Below.refl _ _)⟩
    case round =>
      obtain ⟨j, hj, rfl, hrel⟩ := hrel
      by_cases hlt : j < n
      · obtain ⟨x, hx⟩ : ∃ x, L[j]? = some x := ⟨_, List.getElem?_eq_getElem (by rw [← HNL.out]; exact hlt)⟩
        have hbr : Below (b + 1) w1 wr := HBA.out.trans (hrel.out.mono (HSz.out _ HBA.out))
        obtain ⟨gp, cc, Ai, mi, hv1, hcc, _, hgil, hci, hii, _⟩ := (HPa.out.below hrel.out).at_ (i := j) (p := ⟨fr, x, true, 2, 2, 0, 0, true, bs⟩) (by rw [List.getElem?_map, hx]; rfl)
        have hA9 : A9 = some ⟨gp, 0, none⟩ := by injection hv1
        have hc9 : c9 = cc := by injection hv1
        rw [List.length_map, ← HNL.out] at hcc
        subst hA9 hc9
        have hjc : j < c9 := by omega
        have hxm := HLM.out x (List.mem_of_getElem? hx)
        have hio : Row wr wr.heap.size Ai bs.length bs := OwnB.row hii
        obtain ⟨q, hq⟩ : ∃ q : PV, q = ⟨fr, x, true, 2, 2, 0, 0, true, bs⟩ := ⟨_, rfl⟩
        have HQ : Hid (IsOne q ∧ q.kind = 2 ∧ q.to = fr ∧ q.frm = x ∧ q.info = bs ∧ q.resp = true) := cover (by
          rw [hq]; exact ⟨resp_one HFR.out hxm (by have := HL0.out; omega), rfl, rfl, rfl, rfl, rfl⟩)
        have HHE : Hid (∀ W, Below wr.heap.size wr W → Calls Try.prog 13 #[ptr s, .agg #[.int .u8 2, .int .u8 0, .int .u8 0, .int .u8 0, .int .u8 0, .int .u8 2], .agg #[.int .i64 fr, .int .i64 x, .bool true, .int .i64 2, .int .i64 2, .int .i64 0, .int .i64 0, .bool true, .slice Ai L0 mi]] W (HearOut [⟨3, fr, x, ⟨2, 0, 0, 0, 0, 2⟩, bs, 0⟩] [] W)) := cover fun W hW => by
          have s5 := hear_go ((HSa.out.below hrel.out).below hW) ⟨2, 0, 0, 0, 0, 2⟩ ⟨fr, x, true, 2, 2, 0, 0, true, bs⟩ Ai mi ((hio.below hW).more hW.size) (by show bs.length ≤ _; have := HL0.out; omega)
          have e1 : toldP l ⟨2, 0, 0, 0, 0, 2⟩ (⟨fr, x, true, 2, 2, 0, 0, true, bs⟩ : PV) = [⟨3, fr, x, ⟨2, 0, 0, 0, 0, 2⟩, bs, 0⟩] := by
            rw [toldP_resp (resp_one HFR.out hxm (by have := HL0.out; omega)) (by show (2 : Int) ≠ 0; decide) rfl]
            unfold askerS
            rw [if_neg HCN.out]
            rfl
          rw [e1, sentP_resp rfl] at s5
          have s6 : Calls Try.prog 13 #[ptr s, .agg #[.int .u8 2, .int .u8 0, .int .u8 0, .int .u8 0, .int .u8 0, .int .u8 2], .agg #[.int .i64 fr, .int .i64 x, .bool true, .int .i64 2, .int .i64 2, .int .i64 0, .int .i64 0, .bool true, .slice Ai bs.length mi]] W (HearOut [⟨3, fr, x, ⟨2, 0, 0, 0, 0, 2⟩, bs, 0⟩] [] W) := s5
          rw [HL0.out] at s6
          exact s6
        have HS : Hid (∀ W', Below wr.heap.size wr W' → (fun W' : World => W'.cell? ⟨gp, j * 9, none⟩ = some (.int .i64 fr) ∧ W'.cell? ⟨gp, j * 9 + 1, none⟩ = some (.int .i64 x) ∧ W'.cell? ⟨gp, j * 9 + 2, none⟩ = some (.bool true) ∧ W'.cell? ⟨gp, j * 9 + 3, none⟩ = some (.int .i64 2) ∧ W'.cell? ⟨gp, j * 9 + 4, none⟩ = some (.int .i64 2) ∧ W'.cell? ⟨gp, j * 9 + 5, none⟩ = some (.int .i64 0) ∧ W'.cell? ⟨gp, j * 9 + 6, none⟩ = some (.int .i64 0) ∧ W'.cell? ⟨gp, j * 9 + 7, none⟩ = some (.bool true) ∧ W'.cell? ⟨gp, j * 9 + 8, none⟩ = some (.slice Ai L0 mi) ∧ Below wr.heap.size wr W') W') := cover fun W' hb' => by
          have e : ∀ {a : Addr} {v : Value}, a.block < wr.heap.size → wr.cell? a = some v → W'.cell? a = some v := fun hq hv => (hb'.cell hq).trans hv
          exact ⟨e hgil (hci 0 (by decide)), e hgil (hci 1 (by decide)), e hgil (hci 2 (by decide)), e hgil (hci 3 (by decide)), e hgil (hci 4 (by decide)), e hgil (hci 5 (by decide)), e hgil (hci 6 (by decide)), e hgil (hci 7 (by decide)), e hgil (by rw [← HL0.out]; exact hci 8 (by decide)), hb'⟩
        have mixed : Try.prog.follows .mixedOrders = true := by kernel_rfl
        have hb0 : Below wr.heap.size wr wr.drew := (Below.refl _ _).drew
        have h3 : (fun W' : World => W'.cell? ⟨gp, j * 9, none⟩ = some (.int .i64 fr) ∧ W'.cell? ⟨gp, j * 9 + 1, none⟩ = some (.int .i64 x) ∧ W'.cell? ⟨gp, j * 9 + 2, none⟩ = some (.bool true) ∧ W'.cell? ⟨gp, j * 9 + 3, none⟩ = some (.int .i64 2) ∧ W'.cell? ⟨gp, j * 9 + 4, none⟩ = some (.int .i64 2) ∧ W'.cell? ⟨gp, j * 9 + 5, none⟩ = some (.int .i64 0) ∧ W'.cell? ⟨gp, j * 9 + 6, none⟩ = some (.int .i64 0) ∧ W'.cell? ⟨gp, j * 9 + 7, none⟩ = some (.bool true) ∧ W'.cell? ⟨gp, j * 9 + 8, none⟩ = some (.slice Ai L0 mi) ∧ Below wr.heap.size wr W') wr.drew := HS.out _ hb0
        have HBR := cover hbr
        clear hx hv1 hci hii hio hq hxm hbr
        go_wp2_with fail
        refine (wpIn_wide (n := 0)).1 ?_
        refine held_begin (fun W' : World => W'.cell? ⟨gp, j * 9, none⟩ = some (.int .i64 fr) ∧ W'.cell? ⟨gp, j * 9 + 1, none⟩ = some (.int .i64 x) ∧ W'.cell? ⟨gp, j * 9 + 2, none⟩ = some (.bool true) ∧ W'.cell? ⟨gp, j * 9 + 3, none⟩ = some (.int .i64 2) ∧ W'.cell? ⟨gp, j * 9 + 4, none⟩ = some (.int .i64 2) ∧ W'.cell? ⟨gp, j * 9 + 5, none⟩ = some (.int .i64 0) ∧ W'.cell? ⟨gp, j * 9 + 6, none⟩ = some (.int .i64 0) ∧ W'.cell? ⟨gp, j * 9 + 7, none⟩ = some (.bool true) ∧ W'.cell? ⟨gp, j * 9 + 8, none⟩ = some (.slice Ai L0 mi) ∧ Below wr.heap.size wr W') 99 mixed ?_
        refine hold_take 0 _ rfl (by kernel_rfl) (by kernel_rfl) (by kernel_rfl) (by kernel_rfl) (by kernel_rfl) (fun _ _ _ h => h) (by rfl) (fun _ => rfl) h3 (fun w' hS => by obtain ⟨q0, q1, q2, q3, q4, q5, q6, q7, q8, q9⟩ := hS; go_simp; rfl) ?_
        simp only [Act.put, List.setIfInBounds_toArray, List.set_cons_zero, List.set_cons_succ]
        refine hold_take 2 _ rfl (by kernel_rfl) (by kernel_rfl) (by kernel_rfl) (by kernel_rfl) (by kernel_rfl) (fun _ _ _ h => h) (by rfl) (fun _ => rfl) h3 (fun w' hS => by obtain ⟨q0, q1, q2, q3, q4, q5, q6, q7, q8, q9⟩ := hS; go_simp; rfl) ?_
        simp only [Act.put, List.setIfInBounds_toArray, List.set_cons_zero, List.set_cons_succ]
        refine hold_take 3 _ rfl (by kernel_rfl) (by kernel_rfl) (by kernel_rfl) (by kernel_rfl) (by kernel_rfl) (fun _ _ _ h => h) (by rfl) (fun _ => rfl) h3 (fun w' hS => by obtain ⟨q0, q1, q2, q3, q4, q5, q6, q7, q8, q9⟩ := hS; go_simp; rfl) ?_
        simp only [Act.put, List.setIfInBounds_toArray, List.set_cons_zero, List.set_cons_succ]
        refine hold_take 4 _ rfl (by kernel_rfl) (by kernel_rfl) (by kernel_rfl) (by kernel_rfl) (by kernel_rfl) (fun _ _ _ h => h) (by rfl) (fun _ => rfl) h3 (fun w' hS => by obtain ⟨q0, q1, q2, q3, q4, q5, q6, q7, q8, q9⟩ := hS; go_simp; rfl) ?_
        simp only [Act.put, List.setIfInBounds_toArray, List.set_cons_zero, List.set_cons_succ]
        refine hold_take 5 _ rfl (by kernel_rfl) (by kernel_rfl) (by kernel_rfl) (by kernel_rfl) (by kernel_rfl) (fun _ _ _ h => h) (by rfl) (fun _ => rfl) h3 (fun w' hS => by obtain ⟨q0, q1, q2, q3, q4, q5, q6, q7, q8, q9⟩ := hS; go_simp; rfl) ?_
        simp only [Act.put, List.setIfInBounds_toArray, List.set_cons_zero, List.set_cons_succ]
        refine hold_one 1 (by kernel_rfl) rfl (by rfl) fun K hK => ?_
        go_simp
        refine ⟨trivial, rfl, (callsIn_wide.2 (HST.out 2 _ (by omega) (by omega))).mono ?_⟩
        rintro e wb ⟨rfl, hbb'⟩
        have hbb : Below wr.heap.size wr wb := hb0.trans (hbb'.mono hb0.size)
        refine hK _ _ (.inr (HS.out _ hbb)) ?_
        clear hK K
        refine hold_one 6 (by kernel_rfl) rfl (by rfl) fun K hK => ?_
        go_simp
        refine ⟨trivial, rfl, (callsIn_wide.2 (HHE.out _ hbb)).mono ?_⟩
        rintro e wc hone
        obtain ⟨gi, ci, Ak, ck, Al, ml, rfl, hci1, Hc⟩ := hear_only hone
        have hbc : Below wr.heap.size wr wc := hbb.trans (Hc.out.2.2.2.mono hbb.size)
        have hSc := HS.out _ hbc
        refine hK _ _ (.inr hSc) ?_
        clear hK K hone
        refine hold_take 7 _ rfl (by kernel_rfl) (by kernel_rfl) (by kernel_rfl) (by kernel_rfl) (by kernel_rfl) (fun _ _ _ h => h) (by rfl) (fun _ => rfl) hSc (fun w' hS => by obtain ⟨q0, q1, q2, q3, q4, q5, q6, q7, q8, q9⟩ := hS; go_simp; rfl) ?_
        simp only [Act.put, List.setIfInBounds_toArray, List.set_cons_zero, List.set_cons_succ]
        refine hold_take 8 _ rfl (by kernel_rfl) (by kernel_rfl) (by kernel_rfl) (by kernel_rfl) (by kernel_rfl) (fun _ _ _ h => h) (by rfl) (fun _ => rfl) hSc (fun w' hS => by obtain ⟨q0, q1, q2, q3, q4, q5, q6, q7, q8, q9⟩ := hS; go_simp; rfl) ?_
        simp only [Act.put, List.setIfInBounds_toArray, List.set_cons_zero, List.set_cons_succ]
        refine hold_take 9 _ rfl (by kernel_rfl) (by kernel_rfl) (by kernel_rfl) (by kernel_rfl) (by kernel_rfl) (fun _ _ _ h => h) (by rfl) (fun _ => rfl) hSc (fun w' hS => by obtain ⟨q0, q1, q2, q3, q4, q5, q6, q7, q8, q9⟩ := hS; go_simp; rfl) ?_
        simp only [Act.put, List.setIfInBounds_toArray, List.set_cons_zero, List.set_cons_succ]
        refine hold_take 10 _ rfl (by kernel_rfl) (by kernel_rfl) (by kernel_rfl) (by kernel_rfl) (by kernel_rfl) (fun _ _ _ h => h) (by rfl) (fun _ => rfl) hSc (fun w' hS => by obtain ⟨q0, q1, q2, q3, q4, q5, q6, q7, q8, q9⟩ := hS; go_simp; rfl) ?_
        simp only [Act.put, List.setIfInBounds_toArray, List.set_cons_zero, List.set_cons_succ]
        refine hold_take 11 _ rfl (by kernel_rfl) (by kernel_rfl) (by kernel_rfl) (by kernel_rfl) (by kernel_rfl) (fun _ _ _ h => h) (by rfl) (fun _ => rfl) hSc (fun w' hS => by obtain ⟨q0, q1, q2, q3, q4, q5, q6, q7, q8, q9⟩ := hS; go_simp; rfl) ?_
        simp only [Act.put, List.setIfInBounds_toArray, List.set_cons_zero, List.set_cons_succ]
        refine held_done (by kernel_rfl) ?_ _
        have hbw : Below (b + 1) w1 wc := HBR.out.trans (hbc.mono (HSz.out _ HBR.out))
        have HS3 : Hid (∀ W', Below wc.heap.size wc W' → (fun W' : World => W'.cell? ⟨gi, 0, none⟩ = some (.int .i64 3) ∧ W'.cell? ⟨gi, 1, none⟩ = some (.int .i64 fr) ∧ W'.cell? ⟨gi, 2, none⟩ = some (.int .i64 x) ∧ (W'.cell? ⟨gi, 3, none⟩ = some (.int .u8 2) ∧ W'.cell? ⟨gi, 4, none⟩ = some (.int .u8 0) ∧ W'.cell? ⟨gi, 5, none⟩ = some (.int .u8 0) ∧ W'.cell? ⟨gi, 6, none⟩ = some (.int .u8 0) ∧ W'.cell? ⟨gi, 7, none⟩ = some (.int .u8 0) ∧ W'.cell? ⟨gi, 8, none⟩ = some (.int .u8 2)) ∧ W'.cell? ⟨gi, 9, none⟩ = some (.slice Al L0 ml) ∧ W'.cell? ⟨gp, j * 9 + 1, none⟩ = some (.int .i64 x) ∧ W'.cell? ⟨b, 2, none⟩ = some (.slice Ab L0 cb) ∧ Below wc.heap.size wc W') W') := cover fun W' hb' => by
          have e : ∀ {a : Addr} {v : Value}, a.block < wc.heap.size → wc.cell? a = some v → W'.cell? a = some v := fun hq hv => (hb'.cell hq).trans hv
          have hgi := Hc.out.2.2.1
          have hcell := Hc.out.1
          obtain ⟨_, _, k2⟩ := HCell.out W' (hbw.trans (hb'.mono (HSz.out _ hbw)))
          exact ⟨e hgi (hcell 0 (by decide)), e hgi (hcell 1 (by decide)), e hgi (hcell 2 (by decide)), ⟨e hgi (hcell 3 (by decide)), e hgi (hcell 4 (by decide)), e hgi (hcell 5 (by decide)), e hgi (hcell 6 (by decide)), e hgi (hcell 7 (by decide)), e hgi (hcell 8 (by decide))⟩, e hgi (by rw [← HL0.out]; exact hcell 9 (by decide)), (HS.out W' (hbc.trans (hb'.mono hbc.size))).2.1, k2, hb'⟩
        have HSM : Hid (∀ W', Below wc.heap.size wc W' → Calls Try.prog 16 #[.slice Al L0 ml, .slice Ab L0 cb] W' fun e w' => e = .returned (.bool true) ∧ Below W'.heap.size W' w') := cover fun W' hb' => by
          have hra : Row wc wc.heap.size Al L0 bs := by
            have h : Row wc wc.heap.size Al bs.length bs := OwnB.row Hc.out.2.1
            rw [HL0.out] at h; exact h
          refine (same_any Al Ab L0 ml cb wc.heap.size wc.heap.size bs bs W' (hra.below hb') ((HRow.out wc hbw).below hb') (by omega)).mono ?_
          rintro e w' ⟨rfl, d, rfl⟩
          exact ⟨by rw [decide_eq_true rfl], below_drewN (Below.refl _ _) d⟩
        have hsix : sameL [2, 0, 0, 0, 0, 2] [2, 0, 0, 0, 0, 2] = true := sameL_refl _
        have hbx : Below wc.heap.size wc wc.drew := (Below.refl _ _).drew
        have hx3 : (fun W' : World => W'.cell? ⟨gi, 0, none⟩ = some (.int .i64 3) ∧ W'.cell? ⟨gi, 1, none⟩ = some (.int .i64 fr) ∧ W'.cell? ⟨gi, 2, none⟩ = some (.int .i64 x) ∧ (W'.cell? ⟨gi, 3, none⟩ = some (.int .u8 2) ∧ W'.cell? ⟨gi, 4, none⟩ = some (.int .u8 0) ∧ W'.cell? ⟨gi, 5, none⟩ = some (.int .u8 0) ∧ W'.cell? ⟨gi, 6, none⟩ = some (.int .u8 0) ∧ W'.cell? ⟨gi, 7, none⟩ = some (.int .u8 0) ∧ W'.cell? ⟨gi, 8, none⟩ = some (.int .u8 2)) ∧ W'.cell? ⟨gi, 9, none⟩ = some (.slice Al L0 ml) ∧ W'.cell? ⟨gp, j * 9 + 1, none⟩ = some (.int .i64 x) ∧ W'.cell? ⟨b, 2, none⟩ = some (.slice Ab L0 cb) ∧ Below wc.heap.size wc W') wc.drew := HS3.out _ hbx
        have HBC := cover hbc
        clear h3 hSc hbb hbb' hbc hb0 HS Hc HHE hbw
        go_wp2_with fail
        refine (wpIn_wide (n := 0)).1 ?_
        refine held_begin (fun W' : World => W'.cell? ⟨gi, 0, none⟩ = some (.int .i64 3) ∧ W'.cell? ⟨gi, 1, none⟩ = some (.int .i64 fr) ∧ W'.cell? ⟨gi, 2, none⟩ = some (.int .i64 x) ∧ (W'.cell? ⟨gi, 3, none⟩ = some (.int .u8 2) ∧ W'.cell? ⟨gi, 4, none⟩ = some (.int .u8 0) ∧ W'.cell? ⟨gi, 5, none⟩ = some (.int .u8 0) ∧ W'.cell? ⟨gi, 6, none⟩ = some (.int .u8 0) ∧ W'.cell? ⟨gi, 7, none⟩ = some (.int .u8 0) ∧ W'.cell? ⟨gi, 8, none⟩ = some (.int .u8 2)) ∧ W'.cell? ⟨gi, 9, none⟩ = some (.slice Al L0 ml) ∧ W'.cell? ⟨gp, j * 9 + 1, none⟩ = some (.int .i64 x) ∧ W'.cell? ⟨b, 2, none⟩ = some (.slice Ab L0 cb) ∧ Below wc.heap.size wc W') 99 mixed ?_
        refine hold_take 0 _ rfl (by kernel_rfl) (by kernel_rfl) (by kernel_rfl) (by kernel_rfl) (by kernel_rfl) (fun _ _ _ h => h) (by rfl) (fun _ => rfl) hx3 (fun w' hS => by obtain ⟨q0, q1, q2, ⟨q3, q4, q5, q6, q7, q8⟩, q9, q10, q11, q12⟩ := hS; go_simp; rfl) ?_
        simp only [Act.put, List.setIfInBounds_toArray, List.set_cons_zero, List.set_cons_succ]
        refine hold_take 1 (.int .i64 1) rfl (by kernel_rfl) (by kernel_rfl) (by kernel_rfl) (by kernel_rfl) (by kernel_rfl) (fun _ _ _ h => h) (by rfl) (fun _ => rfl) hx3 (fun w' hS => by obtain ⟨q0, q1, q2, ⟨q3, q4, q5, q6, q7, q8⟩, q9, q10, q11, q12⟩ := hS; go_simp; (first | done | rfl | simp)) ?_
        simp only [Act.put, List.setIfInBounds_toArray, List.set_cons_zero, List.set_cons_succ]
        refine hold_take 2 (.bool false) rfl (by kernel_rfl) (by kernel_rfl) (by kernel_rfl) (by kernel_rfl) (by kernel_rfl) (fun _ _ _ h => h) (by rfl) (fun _ => rfl) hx3 (fun w' hS => by obtain ⟨q0, q1, q2, ⟨q3, q4, q5, q6, q7, q8⟩, q9, q10, q11, q12⟩ := hS; go_simp; (first | done | rfl | simp)) ?_
        simp only [Act.put, List.setIfInBounds_toArray, List.set_cons_zero, List.set_cons_succ]
        refine hold_take 3 (.bool false) rfl (by kernel_rfl) (by kernel_rfl) (by kernel_rfl) (by kernel_rfl) (by kernel_rfl) (fun _ _ _ h => h) (by rfl) (fun _ => rfl) hx3 (fun w' hS => by obtain ⟨q0, q1, q2, ⟨q3, q4, q5, q6, q7, q8⟩, q9, q10, q11, q12⟩ := hS; go_simp; (first | done | rfl | simp)) ?_
        simp only [Act.put, List.setIfInBounds_toArray, List.set_cons_zero, List.set_cons_succ]
        refine hold_take 4 _ rfl (by kernel_rfl) (by kernel_rfl) (by kernel_rfl) (by kernel_rfl) (by kernel_rfl) (fun _ _ _ h => h) (by rfl) (fun _ => rfl) hx3 (fun w' hS => by obtain ⟨q0, q1, q2, ⟨q3, q4, q5, q6, q7, q8⟩, q9, q10, q11, q12⟩ := hS; go_simp; rfl) ?_
        simp only [Act.put, List.setIfInBounds_toArray, List.set_cons_zero, List.set_cons_succ]
        refine hold_take 5 (.int .i64 0) rfl (by kernel_rfl) (by kernel_rfl) (by kernel_rfl) (by kernel_rfl) (by kernel_rfl) (fun _ _ _ h => h) (by rfl) (fun _ => rfl) hx3 (fun w' hS => by obtain ⟨q0, q1, q2, ⟨q3, q4, q5, q6, q7, q8⟩, q9, q10, q11, q12⟩ := hS; go_simp; (first | done | rfl | simp)) ?_
        simp only [Act.put, List.setIfInBounds_toArray, List.set_cons_zero, List.set_cons_succ]
        refine hold_take 6 (.bool false) rfl (by kernel_rfl) (by kernel_rfl) (by kernel_rfl) (by kernel_rfl) (by kernel_rfl) (fun _ _ _ h => h) (by rfl) (fun _ => rfl) hx3 (fun w' hS => by obtain ⟨q0, q1, q2, ⟨q3, q4, q5, q6, q7, q8⟩, q9, q10, q11, q12⟩ := hS; go_simp; (first | done | rfl | simp)) ?_
        simp only [Act.put, List.setIfInBounds_toArray, List.set_cons_zero, List.set_cons_succ]
        refine hold_take 7 (.bool false) rfl (by kernel_rfl) (by kernel_rfl) (by kernel_rfl) (by kernel_rfl) (by kernel_rfl) (fun _ _ _ h => h) (by rfl) (fun _ => rfl) hx3 (fun w' hS => by obtain ⟨q0, q1, q2, ⟨q3, q4, q5, q6, q7, q8⟩, q9, q10, q11, q12⟩ := hS; go_simp; (first | done | rfl | simp)) ?_
        simp only [Act.put, List.setIfInBounds_toArray, List.set_cons_zero, List.set_cons_succ]
        refine hold_take 8 (.bool false) rfl (by kernel_rfl) (by kernel_rfl) (by kernel_rfl) (by kernel_rfl) (by kernel_rfl) (fun _ _ _ h => h) (by rfl) (fun _ => rfl) hx3 (fun w' hS => by obtain ⟨q0, q1, q2, ⟨q3, q4, q5, q6, q7, q8⟩, q9, q10, q11, q12⟩ := hS; go_simp; (first | done | rfl | simp)) ?_
        simp only [Act.put, List.setIfInBounds_toArray, List.set_cons_zero, List.set_cons_succ]
        refine hold_take 9 _ rfl (by kernel_rfl) (by kernel_rfl) (by kernel_rfl) (by kernel_rfl) (by kernel_rfl) (fun _ _ _ h => h) (by rfl) (fun _ => rfl) hx3 (fun w' hS => by obtain ⟨q0, q1, q2, ⟨q3, q4, q5, q6, q7, q8⟩, q9, q10, q11, q12⟩ := hS; go_simp; rfl) ?_
        simp only [Act.put, List.setIfInBounds_toArray, List.set_cons_zero, List.set_cons_succ]
        refine hold_take 10 _ rfl (by kernel_rfl) (by kernel_rfl) (by kernel_rfl) (by kernel_rfl) (by kernel_rfl) (fun _ _ _ h => h) (by rfl) (fun _ => rfl) hx3 (fun w' hS => by obtain ⟨q0, q1, q2, ⟨q3, q4, q5, q6, q7, q8⟩, q9, q10, q11, q12⟩ := hS; go_simp; rfl) ?_
        simp only [Act.put, List.setIfInBounds_toArray, List.set_cons_zero, List.set_cons_succ]
        refine hold_take 11 _ rfl (by kernel_rfl) (by kernel_rfl) (by kernel_rfl) (by kernel_rfl) (by kernel_rfl) (fun _ _ _ h => h) (by rfl) (fun _ => rfl) hx3 (fun w' hS => by obtain ⟨q0, q1, q2, ⟨q3, q4, q5, q6, q7, q8⟩, q9, q10, q11, q12⟩ := hS; go_simp; rfl) ?_
        simp only [Act.put, List.setIfInBounds_toArray, List.set_cons_zero, List.set_cons_succ]
        refine hold_take 12 _ rfl (by kernel_rfl) (by kernel_rfl) (by kernel_rfl) (by kernel_rfl) (by kernel_rfl) (fun _ _ _ h => h) (by rfl) (fun _ => rfl) hx3 (fun w' hS => by obtain ⟨q0, q1, q2, ⟨q3, q4, q5, q6, q7, q8⟩, q9, q10, q11, q12⟩ := hS; go_simp; rfl) ?_
        simp only [Act.put, List.setIfInBounds_toArray, List.set_cons_zero, List.set_cons_succ]
        refine hold_take 13 (.bool false) rfl (by kernel_rfl) (by kernel_rfl) (by kernel_rfl) (by kernel_rfl) (by kernel_rfl) (fun _ _ _ h => h) (by rfl) (fun _ => rfl) hx3 (fun w' hS => by obtain ⟨q0, q1, q2, ⟨q3, q4, q5, q6, q7, q8⟩, q9, q10, q11, q12⟩ := hS; go_simp; (first | done | rfl | simp)) ?_
        simp only [Act.put, List.setIfInBounds_toArray, List.set_cons_zero, List.set_cons_succ]
        refine hold_take 14 (.bool false) rfl (by kernel_rfl) (by kernel_rfl) (by kernel_rfl) (by kernel_rfl) (by kernel_rfl) (fun _ _ _ h => h) (by rfl) (fun _ => rfl) hx3 (fun w' hS => by obtain ⟨q0, q1, q2, ⟨q3, q4, q5, q6, q7, q8⟩, q9, q10, q11, q12⟩ := hS; go_simp; (first | done | rfl | simp)) ?_
        simp only [Act.put, List.setIfInBounds_toArray, List.set_cons_zero, List.set_cons_succ]
        refine hold_take 15 (.bool false) rfl (by kernel_rfl) (by kernel_rfl) (by kernel_rfl) (by kernel_rfl) (by kernel_rfl) (fun _ _ _ h => h) (by rfl) (fun _ => rfl) hx3 (fun w' hS => by obtain ⟨q0, q1, q2, ⟨q3, q4, q5, q6, q7, q8⟩, q9, q10, q11, q12⟩ := hS; go_simp; (first | done | rfl | simp)) ?_
        simp only [Act.put, List.setIfInBounds_toArray, List.set_cons_zero, List.set_cons_succ]
        refine hold_take 16 _ rfl (by kernel_rfl) (by kernel_rfl) (by kernel_rfl) (by kernel_rfl) (by kernel_rfl) (fun _ _ _ h => h) (by rfl) (fun _ => rfl) hx3 (fun w' hS => by obtain ⟨q0, q1, q2, ⟨q3, q4, q5, q6, q7, q8⟩, q9, q10, q11, q12⟩ := hS; go_simp; rfl) ?_
        simp only [Act.put, List.setIfInBounds_toArray, List.set_cons_zero, List.set_cons_succ]
        refine hold_take 17 _ rfl (by kernel_rfl) (by kernel_rfl) (by kernel_rfl) (by kernel_rfl) (by kernel_rfl) (fun _ _ _ h => h) (by rfl) (fun _ => rfl) hx3 (fun w' hS => by obtain ⟨q0, q1, q2, ⟨q3, q4, q5, q6, q7, q8⟩, q9, q10, q11, q12⟩ := hS; go_simp; rfl) ?_
        simp only [Act.put, List.setIfInBounds_toArray, List.set_cons_zero, List.set_cons_succ]
        refine hold_take 18 _ rfl (by kernel_rfl) (by kernel_rfl) (by kernel_rfl) (by kernel_rfl) (by kernel_rfl) (fun _ _ _ h => h) (by rfl) (fun _ => rfl) hx3 (fun w' hS => by obtain ⟨q0, q1, q2, ⟨q3, q4, q5, q6, q7, q8⟩, q9, q10, q11, q12⟩ := hS; go_simp; rfl) ?_
        simp only [Act.put, List.setIfInBounds_toArray, List.set_cons_zero, List.set_cons_succ]
        refine hold_take 19 _ rfl (by kernel_rfl) (by kernel_rfl) (by kernel_rfl) (by kernel_rfl) (by kernel_rfl) (fun _ _ _ h => h) (by rfl) (fun _ => rfl) hx3 (fun w' hS => by obtain ⟨q0, q1, q2, ⟨q3, q4, q5, q6, q7, q8⟩, q9, q10, q11, q12⟩ := hS; go_simp; rfl) ?_
        simp only [Act.put, List.setIfInBounds_toArray, List.set_cons_zero, List.set_cons_succ]
        refine hold_take 20 _ rfl (by kernel_rfl) (by kernel_rfl) (by kernel_rfl) (by kernel_rfl) (by kernel_rfl) (fun _ _ _ h => h) (by rfl) (fun _ => rfl) hx3 (fun w' hS => by obtain ⟨q0, q1, q2, ⟨q3, q4, q5, q6, q7, q8⟩, q9, q10, q11, q12⟩ := hS; go_simp; rfl) ?_
        simp only [Act.put, List.setIfInBounds_toArray, List.set_cons_zero, List.set_cons_succ]
        refine hold_take 21 (.bool false) rfl (by kernel_rfl) (by kernel_rfl) (by kernel_rfl) (by kernel_rfl) (by kernel_rfl) (fun _ _ _ h => h) (by rfl) (fun _ => rfl) hx3 (fun w' hS => by obtain ⟨q0, q1, q2, ⟨q3, q4, q5, q6, q7, q8⟩, q9, q10, q11, q12⟩ := hS; go_simp; (first | done | rfl | simp)) ?_
        simp only [Act.put, List.setIfInBounds_toArray, List.set_cons_zero, List.set_cons_succ]
        refine hold_take 22 (.bool false) rfl (by kernel_rfl) (by kernel_rfl) (by kernel_rfl) (by kernel_rfl) (by kernel_rfl) (fun _ _ _ h => h) (by rfl) (fun _ => rfl) hx3 (fun w' hS => by obtain ⟨q0, q1, q2, ⟨q3, q4, q5, q6, q7, q8⟩, q9, q10, q11, q12⟩ := hS; go_simp; (first | done | rfl | simp)) ?_
        simp only [Act.put, List.setIfInBounds_toArray, List.set_cons_zero, List.set_cons_succ]
        refine hold_take 23 (.bool false) rfl (by kernel_rfl) (by kernel_rfl) (by kernel_rfl) (by kernel_rfl) (by kernel_rfl) (fun _ _ _ h => h) (by rfl) (fun _ => rfl) hx3 (fun w' hS => by obtain ⟨q0, q1, q2, ⟨q3, q4, q5, q6, q7, q8⟩, q9, q10, q11, q12⟩ := hS; go_simp; (first | done | rfl | simp)) ?_
        simp only [Act.put, List.setIfInBounds_toArray, List.set_cons_zero, List.set_cons_succ]
        refine hold_take 24 _ rfl (by kernel_rfl) (by kernel_rfl) (by kernel_rfl) (by kernel_rfl) (by kernel_rfl) (fun _ _ _ h => h) (by rfl) (fun _ => rfl) hx3 (fun w' hS => by obtain ⟨q0, q1, q2, ⟨q3, q4, q5, q6, q7, q8⟩, q9, q10, q11, q12⟩ := hS; go_simp; rfl) ?_
        simp only [Act.put, List.setIfInBounds_toArray, List.set_cons_zero, List.set_cons_succ]
        refine hold_take 25 _ rfl (by kernel_rfl) (by kernel_rfl) (by kernel_rfl) (by kernel_rfl) (by kernel_rfl) (fun _ _ _ h => h) (by rfl) (fun _ => rfl) hx3 (fun w' hS => by obtain ⟨q0, q1, q2, ⟨q3, q4, q5, q6, q7, q8⟩, q9, q10, q11, q12⟩ := hS; go_simp; rfl) ?_
        simp only [Act.put, List.setIfInBounds_toArray, List.set_cons_zero, List.set_cons_succ]
        refine hold_take 26 _ rfl (by kernel_rfl) (by kernel_rfl) (by kernel_rfl) (by kernel_rfl) (by kernel_rfl) (fun _ _ _ h => h) (by rfl) (fun _ => rfl) hx3 (fun w' hS => by obtain ⟨q0, q1, q2, ⟨q3, q4, q5, q6, q7, q8⟩, q9, q10, q11, q12⟩ := hS; go_simp; rfl) ?_
        simp only [Act.put, List.setIfInBounds_toArray, List.set_cons_zero, List.set_cons_succ]
        refine hold_take 27 _ rfl (by kernel_rfl) (by kernel_rfl) (by kernel_rfl) (by kernel_rfl) (by kernel_rfl) (fun _ _ _ h => h) (by rfl) (fun _ => rfl) hx3 (fun w' hS => by obtain ⟨q0, q1, q2, ⟨q3, q4, q5, q6, q7, q8⟩, q9, q10, q11, q12⟩ := hS; go_simp; rfl) ?_
        simp only [Act.put, List.setIfInBounds_toArray, List.set_cons_zero, List.set_cons_succ]
        refine hold_take 28 _ rfl (by kernel_rfl) (by kernel_rfl) (by kernel_rfl) (by kernel_rfl) (by kernel_rfl) (fun _ _ _ h => h) (by rfl) (fun _ => rfl) hx3 (fun w' hS => by obtain ⟨q0, q1, q2, ⟨q3, q4, q5, q6, q7, q8⟩, q9, q10, q11, q12⟩ := hS; go_simp; rfl) ?_
        simp only [Act.put, List.setIfInBounds_toArray, List.set_cons_zero, List.set_cons_succ]
        refine hold_take 29 _ rfl (by kernel_rfl) (by kernel_rfl) (by kernel_rfl) (by kernel_rfl) (by kernel_rfl) (fun _ _ _ h => h) (by rfl) (fun _ => rfl) hx3 (fun w' hS => by obtain ⟨q0, q1, q2, ⟨q3, q4, q5, q6, q7, q8⟩, q9, q10, q11, q12⟩ := hS; go_simp; rfl) ?_
        simp only [Act.put, List.setIfInBounds_toArray, List.set_cons_zero, List.set_cons_succ]
        refine hold_take 30 _ rfl (by kernel_rfl) (by kernel_rfl) (by kernel_rfl) (by kernel_rfl) (by kernel_rfl) (fun _ _ _ h => h) (by rfl) (fun _ => rfl) hx3 (fun w' hS => by obtain ⟨q0, q1, q2, ⟨q3, q4, q5, q6, q7, q8⟩, q9, q10, q11, q12⟩ := hS; go_simp; rfl) ?_
        simp only [Act.put, List.setIfInBounds_toArray, List.set_cons_zero, List.set_cons_succ]
        refine hold_take 31 _ rfl (by kernel_rfl) (by kernel_rfl) (by kernel_rfl) (by kernel_rfl) (by kernel_rfl) (fun _ _ _ h => h) (by rfl) (fun _ => rfl) hx3 (fun w' hS => by obtain ⟨q0, q1, q2, ⟨q3, q4, q5, q6, q7, q8⟩, q9, q10, q11, q12⟩ := hS; go_simp; rfl) ?_
        simp only [Act.put, List.setIfInBounds_toArray, List.set_cons_zero, List.set_cons_succ]
        refine hold_take 32 _ rfl (by kernel_rfl) (by kernel_rfl) (by kernel_rfl) (by kernel_rfl) (by kernel_rfl) (fun _ _ _ h => h) (by rfl) (fun _ => rfl) hx3 (fun w' hS => by obtain ⟨q0, q1, q2, ⟨q3, q4, q5, q6, q7, q8⟩, q9, q10, q11, q12⟩ := hS; go_simp; rfl) ?_
        simp only [Act.put, List.setIfInBounds_toArray, List.set_cons_zero, List.set_cons_succ]
        refine hold_take 33 (.bool false) rfl (by kernel_rfl) (by kernel_rfl) (by kernel_rfl) (by kernel_rfl) (by kernel_rfl) (fun _ _ _ h => h) (by rfl) (fun _ => rfl) hx3 (fun w' hS => by obtain ⟨q0, q1, q2, ⟨q3, q4, q5, q6, q7, q8⟩, q9, q10, q11, q12⟩ := hS; go_simp; (first | done | rfl | simp)) ?_
        simp only [Act.put, List.setIfInBounds_toArray, List.set_cons_zero, List.set_cons_succ]
        refine hold_take 34 (.bool false) rfl (by kernel_rfl) (by kernel_rfl) (by kernel_rfl) (by kernel_rfl) (by kernel_rfl) (fun _ _ _ h => h) (by rfl) (fun _ => rfl) hx3 (fun w' hS => by obtain ⟨q0, q1, q2, ⟨q3, q4, q5, q6, q7, q8⟩, q9, q10, q11, q12⟩ := hS; go_simp; (first | done | rfl | simp)) ?_
        simp only [Act.put, List.setIfInBounds_toArray, List.set_cons_zero, List.set_cons_succ]
        refine hold_take 35 (.bool false) rfl (by kernel_rfl) (by kernel_rfl) (by kernel_rfl) (by kernel_rfl) (by kernel_rfl) (fun _ _ _ h => h) (by rfl) (fun _ => rfl) hx3 (fun w' hS => by obtain ⟨q0, q1, q2, ⟨q3, q4, q5, q6, q7, q8⟩, q9, q10, q11, q12⟩ := hS; go_simp; (first | done | rfl | simp)) ?_
        simp only [Act.put, List.setIfInBounds_toArray, List.set_cons_zero, List.set_cons_succ]
        refine hold_take 36 _ rfl (by kernel_rfl) (by kernel_rfl) (by kernel_rfl) (by kernel_rfl) (by kernel_rfl) (fun _ _ _ h => h) (by rfl) (fun _ => rfl) hx3 (fun w' hS => by obtain ⟨q0, q1, q2, ⟨q3, q4, q5, q6, q7, q8⟩, q9, q10, q11, q12⟩ := hS; go_simp; rfl) ?_
        simp only [Act.put, List.setIfInBounds_toArray, List.set_cons_zero, List.set_cons_succ]
        refine hold_take 37 _ rfl (by kernel_rfl) (by kernel_rfl) (by kernel_rfl) (by kernel_rfl) (by kernel_rfl) (fun _ _ _ h => h) (by rfl) (fun _ => rfl) hx3 (fun w' hS => by obtain ⟨q0, q1, q2, ⟨q3, q4, q5, q6, q7, q8⟩, q9, q10, q11, q12⟩ := hS; go_simp; rfl) ?_
        simp only [Act.put, List.setIfInBounds_toArray, List.set_cons_zero, List.set_cons_succ]
        refine hold_take 38 _ rfl (by kernel_rfl) (by kernel_rfl) (by kernel_rfl) (by kernel_rfl) (by kernel_rfl) (fun _ _ _ h => h) (by rfl) (fun _ => rfl) hx3 (fun w' hS => by obtain ⟨q0, q1, q2, ⟨q3, q4, q5, q6, q7, q8⟩, q9, q10, q11, q12⟩ := hS; go_simp; rfl) ?_
        simp only [Act.put, List.setIfInBounds_toArray, List.set_cons_zero, List.set_cons_succ]
        refine hold_take 39 _ rfl (by kernel_rfl) (by kernel_rfl) (by kernel_rfl) (by kernel_rfl) (by kernel_rfl) (fun _ _ _ h => h) (by rfl) (fun _ => rfl) hx3 (fun w' hS => by obtain ⟨q0, q1, q2, ⟨q3, q4, q5, q6, q7, q8⟩, q9, q10, q11, q12⟩ := hS; go_simp; rfl) ?_
        simp only [Act.put, List.setIfInBounds_toArray, List.set_cons_zero, List.set_cons_succ]
        refine hold_one 40 (by kernel_rfl) rfl (by rfl) fun K hK => ?_
        go_simp
        refine ⟨trivial, rfl, (callsIn_wide.2 (HST.out 2 _ (by omega) (by omega))).mono ?_⟩
        rintro e wd ⟨rfl, hbd'⟩
        have hbd : Below wc.heap.size wc wd := hbx.trans (hbd'.mono hbx.size)
        have hSd := HS3.out _ hbd
        refine hK _ _ (.inr hSd) ?_
        clear hK K
        refine hold_take 41 (.bool false) rfl (by kernel_rfl) (by kernel_rfl) (by kernel_rfl) (by kernel_rfl) (by kernel_rfl) (fun _ _ _ h => h) (by rfl) (fun _ => rfl) hSd (fun w' hS => by obtain ⟨q0, q1, q2, ⟨q3, q4, q5, q6, q7, q8⟩, q9, q10, q11, q12⟩ := hS; go_simp; (first | done | rfl | simp)) ?_
        simp only [Act.put, List.setIfInBounds_toArray, List.set_cons_zero, List.set_cons_succ]
        refine hold_take 42 (.bool false) rfl (by kernel_rfl) (by kernel_rfl) (by kernel_rfl) (by kernel_rfl) (by kernel_rfl) (fun _ _ _ h => h) (by rfl) (fun _ => rfl) hSd (fun w' hS => by obtain ⟨q0, q1, q2, ⟨q3, q4, q5, q6, q7, q8⟩, q9, q10, q11, q12⟩ := hS; go_simp; (first | done | rfl | simp)) ?_
        simp only [Act.put, List.setIfInBounds_toArray, List.set_cons_zero, List.set_cons_succ]
        refine hold_take 43 (.bool false) rfl (by kernel_rfl) (by kernel_rfl) (by kernel_rfl) (by kernel_rfl) (by kernel_rfl) (fun _ _ _ h => h) (by rfl) (fun _ => rfl) hSd (fun w' hS => by obtain ⟨q0, q1, q2, ⟨q3, q4, q5, q6, q7, q8⟩, q9, q10, q11, q12⟩ := hS; go_simp; (first | done | rfl | simp)) ?_
        simp only [Act.put, List.setIfInBounds_toArray, List.set_cons_zero, List.set_cons_succ]
        refine hold_take 44 _ rfl (by kernel_rfl) (by kernel_rfl) (by kernel_rfl) (by kernel_rfl) (by kernel_rfl) (fun _ _ _ h => h) (by rfl) (fun _ => rfl) hSd (fun w' hS => by obtain ⟨q0, q1, q2, ⟨q3, q4, q5, q6, q7, q8⟩, q9, q10, q11, q12⟩ := hS; go_simp; rfl) ?_
        simp only [Act.put, List.setIfInBounds_toArray, List.set_cons_zero, List.set_cons_succ]
        refine hold_take 45 _ rfl (by kernel_rfl) (by kernel_rfl) (by kernel_rfl) (by kernel_rfl) (by kernel_rfl) (fun _ _ _ h => h) (by rfl) (fun _ => rfl) hSd (fun w' hS => by obtain ⟨q0, q1, q2, ⟨q3, q4, q5, q6, q7, q8⟩, q9, q10, q11, q12⟩ := hS; go_simp; rfl) ?_
        simp only [Act.put, List.setIfInBounds_toArray, List.set_cons_zero, List.set_cons_succ]
        refine hold_take 46 _ rfl (by kernel_rfl) (by kernel_rfl) (by kernel_rfl) (by kernel_rfl) (by kernel_rfl) (fun _ _ _ h => h) (by rfl) (fun _ => rfl) hSd (fun w' hS => by obtain ⟨q0, q1, q2, ⟨q3, q4, q5, q6, q7, q8⟩, q9, q10, q11, q12⟩ := hS; go_simp; rfl) ?_
        simp only [Act.put, List.setIfInBounds_toArray, List.set_cons_zero, List.set_cons_succ]
        refine hold_take 47 _ rfl (by kernel_rfl) (by kernel_rfl) (by kernel_rfl) (by kernel_rfl) (by kernel_rfl) (fun _ _ _ h => h) (by rfl) (fun _ => rfl) hSd (fun w' hS => by obtain ⟨q0, q1, q2, ⟨q3, q4, q5, q6, q7, q8⟩, q9, q10, q11, q12⟩ := hS; go_simp; rfl) ?_
        simp only [Act.put, List.setIfInBounds_toArray, List.set_cons_zero, List.set_cons_succ]
        refine hold_take 48 _ rfl (by kernel_rfl) (by kernel_rfl) (by kernel_rfl) (by kernel_rfl) (by kernel_rfl) (fun _ _ _ h => h) (by rfl) (fun _ => rfl) hSd (fun w' hS => by obtain ⟨q0, q1, q2, ⟨q3, q4, q5, q6, q7, q8⟩, q9, q10, q11, q12⟩ := hS; go_simp; rfl) ?_
        simp only [Act.put, List.setIfInBounds_toArray, List.set_cons_zero, List.set_cons_succ]
        refine hold_take 49 _ rfl (by kernel_rfl) (by kernel_rfl) (by kernel_rfl) (by kernel_rfl) (by kernel_rfl) (fun _ _ _ h => h) (by rfl) (fun _ => rfl) hSd (fun w' hS => by obtain ⟨q0, q1, q2, ⟨q3, q4, q5, q6, q7, q8⟩, q9, q10, q11, q12⟩ := hS; go_simp; rfl) ?_
        simp only [Act.put, List.setIfInBounds_toArray, List.set_cons_zero, List.set_cons_succ]
        refine hold_one 50 (by kernel_rfl) rfl (by rfl) fun K hK => ?_
        go_simp
        refine ⟨trivial, rfl, (callsIn_wide.2 (HSM.out _ hbd)).mono ?_⟩
        rintro e we ⟨rfl, hbe'⟩
        have hbe : Below wc.heap.size wc we := hbd.trans (hbe'.mono hbd.size)
        have hSe := HS3.out _ hbe
        refine hK _ _ (.inr hSe) ?_
        clear hK K
        refine hold_take 51 (.bool false) rfl (by kernel_rfl) (by kernel_rfl) (by kernel_rfl) (by kernel_rfl) (by kernel_rfl) (fun _ _ _ h => h) (by rfl) (fun _ => rfl) hSe (fun w' hS => by obtain ⟨q0, q1, q2, ⟨q3, q4, q5, q6, q7, q8⟩, q9, q10, q11, q12⟩ := hS; go_simp; (first | done | rfl | simp)) ?_
        simp only [Act.put, List.setIfInBounds_toArray, List.set_cons_zero, List.set_cons_succ]
        refine hold_take 52 (.bool false) rfl (by kernel_rfl) (by kernel_rfl) (by kernel_rfl) (by kernel_rfl) (by kernel_rfl) (fun _ _ _ h => h) (by rfl) (fun _ => rfl) hSe (fun w' hS => by obtain ⟨q0, q1, q2, ⟨q3, q4, q5, q6, q7, q8⟩, q9, q10, q11, q12⟩ := hS; go_simp; (first | done | rfl | simp)) ?_
        simp only [Act.put, List.setIfInBounds_toArray, List.set_cons_zero, List.set_cons_succ]
        refine held_done (by kernel_rfl) ?_ _
        have HN8 := cover (hrel.out.trans ((HBC.out.trans (hbe.mono HBC.out.size)).mono hrel.out.size))
        clear hx3 hSd hSe hbd hbd' hbe hbe' hbx HS3 HSM hrel
        go_wp2
        go_roundw
        case rel => exact ⟨j + 1, by omega, by go_num, HN8⟩
        case measure => simp [intOf]; omega
      · obtain rfl : j = n := by omega
        have HN := cover (HOut.out _ (HBA.out.trans (hrel.out.mono (HSz.out _ HBA.out))))
        clear HOut HCell HRow HDs HSz hrel
        go_wp2
        go_ret
        exact ⟨rfl, HN.out⟩
  have htz2 : (tt == 255) = false := by simpa using hz2
  have HLZ : Hid (m = n) := cover (by rw [HNL.out, HLE.out, if_neg (by omega), HM.out]; rfl)
  have hmn : m = n := HLZ.out
  subst hmn
  clear hz hz2 HM hm16 HLZ
  go_wp2_with fail
  go_loopw [17] (fun i wr => ∃ j : Nat, j ≤ m ∧ i = .int .i64 j ∧ Hid (Below wa.heap.size wa wr)) (fun i _ => m - (intOf i).toNat)
  case atStart => exact ⟨0, Nat.zero_le _, rfl, cover (Below.refl _ _)⟩
  case round =>
    obtain ⟨j, hj, rfl, hrel⟩ := hrel
    by_cases hlt : j < m
    · obtain ⟨x, hx⟩ : ∃ x, L[j]? = some x := ⟨_, List.getElem?_eq_getElem (by rw [← HNL.out]; exact hlt)⟩
      have hbr : Below (b + 1) w1 wr := HBA.out.trans (hrel.out.mono (HSz.out _ HBA.out))
      obtain ⟨gp, cc, Ai, mi, hv1, hcc, _, hgil, hci, hii, _⟩ := (HPa.out.below hrel.out).at_ (i := j) (p := ⟨fr, x, true, 2, 2, 0, 0, true, bs⟩) (by rw [List.getElem?_map, hx]; rfl)
      have hA9 : A9 = some ⟨gp, 0, none⟩ := by injection hv1
      have hc9 : c9 = cc := by injection hv1
      rw [List.length_map, ← HNL.out] at hcc
      subst hA9 hc9
      have hjc : j < c9 := by omega
      have hxm := HLM.out x (List.mem_of_getElem? hx)
      have hio : Row wr wr.heap.size Ai bs.length bs := OwnB.row hii
      obtain ⟨q, hq⟩ : ∃ q : PV, q = ⟨fr, x, true, 2, 2, 0, 0, true, bs⟩ := ⟨_, rfl⟩
      have HQ : Hid (IsOne q ∧ q.kind = 2 ∧ q.to = fr ∧ q.frm = x ∧ q.info = bs ∧ q.resp = true) := cover (by
        rw [hq]; exact ⟨resp_one HFR.out hxm (by have := HL0.out; omega), rfl, rfl, rfl, rfl, rfl⟩)
      have HHE : Hid (∀ W, Below wr.heap.size wr W → Calls Try.prog 13 #[ptr s, .agg #[.int .u8 2, .int .u8 0, .int .u8 0, .int .u8 0, .int .u8 0, .int .u8 2], .agg #[.int .i64 fr, .int .i64 x, .bool true, .int .i64 2, .int .i64 2, .int .i64 0, .int .i64 0, .bool true, .slice Ai L0 mi]] W (HearOut [⟨3, fr, x, ⟨2, 0, 0, 0, 0, 2⟩, bs, 0⟩] [] W)) := cover fun W hW => by
        have s5 := hear_go ((HSa.out.below hrel.out).below hW) ⟨2, 0, 0, 0, 0, 2⟩ ⟨fr, x, true, 2, 2, 0, 0, true, bs⟩ Ai mi ((hio.below hW).more hW.size) (by show bs.length ≤ _; have := HL0.out; omega)
        have e1 : toldP l ⟨2, 0, 0, 0, 0, 2⟩ (⟨fr, x, true, 2, 2, 0, 0, true, bs⟩ : PV) = [⟨3, fr, x, ⟨2, 0, 0, 0, 0, 2⟩, bs, 0⟩] := by
          rw [toldP_resp (resp_one HFR.out hxm (by have := HL0.out; omega)) (by show (2 : Int) ≠ 0; decide) rfl]
          unfold askerS
          rw [if_neg HCN.out]
          rfl
        rw [e1, sentP_resp rfl] at s5
        have s6 : Calls Try.prog 13 #[ptr s, .agg #[.int .u8 2, .int .u8 0, .int .u8 0, .int .u8 0, .int .u8 0, .int .u8 2], .agg #[.int .i64 fr, .int .i64 x, .bool true, .int .i64 2, .int .i64 2, .int .i64 0, .int .i64 0, .bool true, .slice Ai bs.length mi]] W (HearOut [⟨3, fr, x, ⟨2, 0, 0, 0, 0, 2⟩, bs, 0⟩] [] W) := s5
        rw [HL0.out] at s6
        exact s6
      have HS : Hid (∀ W', Below wr.heap.size wr W' → (fun W' : World => W'.cell? ⟨gp, j * 9, none⟩ = some (.int .i64 fr) ∧ W'.cell? ⟨gp, j * 9 + 1, none⟩ = some (.int .i64 x) ∧ W'.cell? ⟨gp, j * 9 + 2, none⟩ = some (.bool true) ∧ W'.cell? ⟨gp, j * 9 + 3, none⟩ = some (.int .i64 2) ∧ W'.cell? ⟨gp, j * 9 + 4, none⟩ = some (.int .i64 2) ∧ W'.cell? ⟨gp, j * 9 + 5, none⟩ = some (.int .i64 0) ∧ W'.cell? ⟨gp, j * 9 + 6, none⟩ = some (.int .i64 0) ∧ W'.cell? ⟨gp, j * 9 + 7, none⟩ = some (.bool true) ∧ W'.cell? ⟨gp, j * 9 + 8, none⟩ = some (.slice Ai L0 mi) ∧ Below wr.heap.size wr W') W') := cover fun W' hb' => by
        have e : ∀ {a : Addr} {v : Value}, a.block < wr.heap.size → wr.cell? a = some v → W'.cell? a = some v := fun hq hv => (hb'.cell hq).trans hv
        exact ⟨e hgil (hci 0 (by decide)), e hgil (hci 1 (by decide)), e hgil (hci 2 (by decide)), e hgil (hci 3 (by decide)), e hgil (hci 4 (by decide)), e hgil (hci 5 (by decide)), e hgil (hci 6 (by decide)), e hgil (hci 7 (by decide)), e hgil (by rw [← HL0.out]; exact hci 8 (by decide)), hb'⟩
      have mixed : Try.prog.follows .mixedOrders = true := by kernel_rfl
      have hb0 : Below wr.heap.size wr wr.drew := (Below.refl _ _).drew
      have h3 : (fun W' : World => W'.cell? ⟨gp, j * 9, none⟩ = some (.int .i64 fr) ∧ W'.cell? ⟨gp, j * 9 + 1, none⟩ = some (.int .i64 x) ∧ W'.cell? ⟨gp, j * 9 + 2, none⟩ = some (.bool true) ∧ W'.cell? ⟨gp, j * 9 + 3, none⟩ = some (.int .i64 2) ∧ W'.cell? ⟨gp, j * 9 + 4, none⟩ = some (.int .i64 2) ∧ W'.cell? ⟨gp, j * 9 + 5, none⟩ = some (.int .i64 0) ∧ W'.cell? ⟨gp, j * 9 + 6, none⟩ = some (.int .i64 0) ∧ W'.cell? ⟨gp, j * 9 + 7, none⟩ = some (.bool true) ∧ W'.cell? ⟨gp, j * 9 + 8, none⟩ = some (.slice Ai L0 mi) ∧ Below wr.heap.size wr W') wr.drew := HS.out _ hb0
      have HBR := cover hbr
      clear hx hv1 hci hii hio hq hxm hbr
      go_wp2_with fail
      refine (wpIn_wide (n := 0)).1 ?_
      refine held_begin (fun W' : World => W'.cell? ⟨gp, j * 9, none⟩ = some (.int .i64 fr) ∧ W'.cell? ⟨gp, j * 9 + 1, none⟩ = some (.int .i64 x) ∧ W'.cell? ⟨gp, j * 9 + 2, none⟩ = some (.bool true) ∧ W'.cell? ⟨gp, j * 9 + 3, none⟩ = some (.int .i64 2) ∧ W'.cell? ⟨gp, j * 9 + 4, none⟩ = some (.int .i64 2) ∧ W'.cell? ⟨gp, j * 9 + 5, none⟩ = some (.int .i64 0) ∧ W'.cell? ⟨gp, j * 9 + 6, none⟩ = some (.int .i64 0) ∧ W'.cell? ⟨gp, j * 9 + 7, none⟩ = some (.bool true) ∧ W'.cell? ⟨gp, j * 9 + 8, none⟩ = some (.slice Ai L0 mi) ∧ Below wr.heap.size wr W') 99 mixed ?_
      refine hold_take 0 _ rfl (by kernel_rfl) (by kernel_rfl) (by kernel_rfl) (by kernel_rfl) (by kernel_rfl) (fun _ _ _ h => h) (by rfl) (fun _ => rfl) h3 (fun w' hS => by obtain ⟨q0, q1, q2, q3, q4, q5, q6, q7, q8, q9⟩ := hS; go_simp; rfl) ?_
      simp only [Act.put, List.setIfInBounds_toArray, List.set_cons_zero, List.set_cons_succ]
      refine hold_take 2 _ rfl (by kernel_rfl) (by kernel_rfl) (by kernel_rfl) (by kernel_rfl) (by kernel_rfl) (fun _ _ _ h => h) (by rfl) (fun _ => rfl) h3 (fun w' hS => by obtain ⟨q0, q1, q2, q3, q4, q5, q6, q7, q8, q9⟩ := hS; go_simp; rfl) ?_
      simp only [Act.put, List.setIfInBounds_toArray, List.set_cons_zero, List.set_cons_succ]
      refine hold_take 3 _ rfl (by kernel_rfl) (by kernel_rfl) (by kernel_rfl) (by kernel_rfl) (by kernel_rfl) (fun _ _ _ h => h) (by rfl) (fun _ => rfl) h3 (fun w' hS => by obtain ⟨q0, q1, q2, q3, q4, q5, q6, q7, q8, q9⟩ := hS; go_simp; rfl) ?_
      simp only [Act.put, List.setIfInBounds_toArray, List.set_cons_zero, List.set_cons_succ]
      refine hold_take 4 _ rfl (by kernel_rfl) (by kernel_rfl) (by kernel_rfl) (by kernel_rfl) (by kernel_rfl) (fun _ _ _ h => h) (by rfl) (fun _ => rfl) h3 (fun w' hS => by obtain ⟨q0, q1, q2, q3, q4, q5, q6, q7, q8, q9⟩ := hS; go_simp; rfl) ?_
      simp only [Act.put, List.setIfInBounds_toArray, List.set_cons_zero, List.set_cons_succ]
      refine hold_take 5 _ rfl (by kernel_rfl) (by kernel_rfl) (by kernel_rfl) (by kernel_rfl) (by kernel_rfl) (fun _ _ _ h => h) (by rfl) (fun _ => rfl) h3 (fun w' hS => by obtain ⟨q0, q1, q2, q3, q4, q5, q6, q7, q8, q9⟩ := hS; go_simp; rfl) ?_
      simp only [Act.put, List.setIfInBounds_toArray, List.set_cons_zero, List.set_cons_succ]
      refine hold_one 1 (by kernel_rfl) rfl (by rfl) fun K hK => ?_
      go_simp
      refine ⟨trivial, rfl, (callsIn_wide.2 (HST.out 2 _ (by omega) (by omega))).mono ?_⟩
      rintro e wb ⟨rfl, hbb'⟩
      have hbb : Below wr.heap.size wr wb := hb0.trans (hbb'.mono hb0.size)
      refine hK _ _ (.inr (HS.out _ hbb)) ?_
      clear hK K
      refine hold_one 6 (by kernel_rfl) rfl (by rfl) fun K hK => ?_
      go_simp
      refine ⟨trivial, rfl, (callsIn_wide.2 (HHE.out _ hbb)).mono ?_⟩
      rintro e wc hone
      obtain ⟨gi, ci, Ak, ck, Al, ml, rfl, hci1, Hc⟩ := hear_only hone
      have hbc : Below wr.heap.size wr wc := hbb.trans (Hc.out.2.2.2.mono hbb.size)
      have hSc := HS.out _ hbc
      refine hK _ _ (.inr hSc) ?_
      clear hK K hone
      refine hold_take 7 _ rfl (by kernel_rfl) (by kernel_rfl) (by kernel_rfl) (by kernel_rfl) (by kernel_rfl) (fun _ _ _ h => h) (by rfl) (fun _ => rfl) hSc (fun w' hS => by obtain ⟨q0, q1, q2, q3, q4, q5, q6, q7, q8, q9⟩ := hS; go_simp; rfl) ?_
      simp only [Act.put, List.setIfInBounds_toArray, List.set_cons_zero, List.set_cons_succ]
      refine hold_take 8 _ rfl (by kernel_rfl) (by kernel_rfl) (by kernel_rfl) (by kernel_rfl) (by kernel_rfl) (fun _ _ _ h => h) (by rfl) (fun _ => rfl) hSc (fun w' hS => by obtain ⟨q0, q1, q2, q3, q4, q5, q6, q7, q8, q9⟩ := hS; go_simp; rfl) ?_
      simp only [Act.put, List.setIfInBounds_toArray, List.set_cons_zero, List.set_cons_succ]
      refine hold_take 9 _ rfl (by kernel_rfl) (by kernel_rfl) (by kernel_rfl) (by kernel_rfl) (by kernel_rfl) (fun _ _ _ h => h) (by rfl) (fun _ => rfl) hSc (fun w' hS => by obtain ⟨q0, q1, q2, q3, q4, q5, q6, q7, q8, q9⟩ := hS; go_simp; rfl) ?_
      simp only [Act.put, List.setIfInBounds_toArray, List.set_cons_zero, List.set_cons_succ]
      refine hold_take 10 _ rfl (by kernel_rfl) (by kernel_rfl) (by kernel_rfl) (by kernel_rfl) (by kernel_rfl) (fun _ _ _ h => h) (by rfl) (fun _ => rfl) hSc (fun w' hS => by obtain ⟨q0, q1, q2, q3, q4, q5, q6, q7, q8, q9⟩ := hS; go_simp; rfl) ?_
      simp only [Act.put, List.setIfInBounds_toArray, List.set_cons_zero, List.set_cons_succ]
      refine hold_take 11 _ rfl (by kernel_rfl) (by kernel_rfl) (by kernel_rfl) (by kernel_rfl) (by kernel_rfl) (fun _ _ _ h => h) (by rfl) (fun _ => rfl) hSc (fun w' hS => by obtain ⟨q0, q1, q2, q3, q4, q5, q6, q7, q8, q9⟩ := hS; go_simp; rfl) ?_
      simp only [Act.put, List.setIfInBounds_toArray, List.set_cons_zero, List.set_cons_succ]
      refine held_done (by kernel_rfl) ?_ _
      have hbw : Below (b + 1) w1 wc := HBR.out.trans (hbc.mono (HSz.out _ HBR.out))
      have HS3 : Hid (∀ W', Below wc.heap.size wc W' → (fun W' : World => W'.cell? ⟨gi, 0, none⟩ = some (.int .i64 3) ∧ W'.cell? ⟨gi, 1, none⟩ = some (.int .i64 fr) ∧ W'.cell? ⟨gi, 2, none⟩ = some (.int .i64 x) ∧ (W'.cell? ⟨gi, 3, none⟩ = some (.int .u8 2) ∧ W'.cell? ⟨gi, 4, none⟩ = some (.int .u8 0) ∧ W'.cell? ⟨gi, 5, none⟩ = some (.int .u8 0) ∧ W'.cell? ⟨gi, 6, none⟩ = some (.int .u8 0) ∧ W'.cell? ⟨gi, 7, none⟩ = some (.int .u8 0) ∧ W'.cell? ⟨gi, 8, none⟩ = some (.int .u8 2)) ∧ W'.cell? ⟨gi, 9, none⟩ = some (.slice Al L0 ml) ∧ W'.cell? ⟨gp, j * 9 + 1, none⟩ = some (.int .i64 x) ∧ W'.cell? ⟨b, 2, none⟩ = some (.slice Ab L0 cb) ∧ Below wc.heap.size wc W') W') := cover fun W' hb' => by
        have e : ∀ {a : Addr} {v : Value}, a.block < wc.heap.size → wc.cell? a = some v → W'.cell? a = some v := fun hq hv => (hb'.cell hq).trans hv
        have hgi := Hc.out.2.2.1
        have hcell := Hc.out.1
        obtain ⟨_, _, k2⟩ := HCell.out W' (hbw.trans (hb'.mono (HSz.out _ hbw)))
        exact ⟨e hgi (hcell 0 (by decide)), e hgi (hcell 1 (by decide)), e hgi (hcell 2 (by decide)), ⟨e hgi (hcell 3 (by decide)), e hgi (hcell 4 (by decide)), e hgi (hcell 5 (by decide)), e hgi (hcell 6 (by decide)), e hgi (hcell 7 (by decide)), e hgi (hcell 8 (by decide))⟩, e hgi (by rw [← HL0.out]; exact hcell 9 (by decide)), (HS.out W' (hbc.trans (hb'.mono hbc.size))).2.1, k2, hb'⟩
      have HSM : Hid (∀ W', Below wc.heap.size wc W' → Calls Try.prog 16 #[.slice Al L0 ml, .slice Ab L0 cb] W' fun e w' => e = .returned (.bool true) ∧ Below W'.heap.size W' w') := cover fun W' hb' => by
        have hra : Row wc wc.heap.size Al L0 bs := by
          have h : Row wc wc.heap.size Al bs.length bs := OwnB.row Hc.out.2.1
          rw [HL0.out] at h; exact h
        refine (same_any Al Ab L0 ml cb wc.heap.size wc.heap.size bs bs W' (hra.below hb') ((HRow.out wc hbw).below hb') (by omega)).mono ?_
        rintro e w' ⟨rfl, d, rfl⟩
        exact ⟨by rw [decide_eq_true rfl], below_drewN (Below.refl _ _) d⟩
      have hsix : sameL [2, 0, 0, 0, 0, 2] [2, 0, 0, 0, 0, 2] = true := sameL_refl _
      have hbx : Below wc.heap.size wc wc.drew := (Below.refl _ _).drew
      have hx3 : (fun W' : World => W'.cell? ⟨gi, 0, none⟩ = some (.int .i64 3) ∧ W'.cell? ⟨gi, 1, none⟩ = some (.int .i64 fr) ∧ W'.cell? ⟨gi, 2, none⟩ = some (.int .i64 x) ∧ (W'.cell? ⟨gi, 3, none⟩ = some (.int .u8 2) ∧ W'.cell? ⟨gi, 4, none⟩ = some (.int .u8 0) ∧ W'.cell? ⟨gi, 5, none⟩ = some (.int .u8 0) ∧ W'.cell? ⟨gi, 6, none⟩ = some (.int .u8 0) ∧ W'.cell? ⟨gi, 7, none⟩ = some (.int .u8 0) ∧ W'.cell? ⟨gi, 8, none⟩ = some (.int .u8 2)) ∧ W'.cell? ⟨gi, 9, none⟩ = some (.slice Al L0 ml) ∧ W'.cell? ⟨gp, j * 9 + 1, none⟩ = some (.int .i64 x) ∧ W'.cell? ⟨b, 2, none⟩ = some (.slice Ab L0 cb) ∧ Below wc.heap.size wc W') wc.drew := HS3.out _ hbx
      have HBC := cover hbc
      clear h3 hSc hbb hbb' hbc hb0 HS Hc HHE hbw
      go_wp2_with fail
      refine (wpIn_wide (n := 0)).1 ?_
      refine held_begin (fun W' : World => W'.cell? ⟨gi, 0, none⟩ = some (.int .i64 3) ∧ W'.cell? ⟨gi, 1, none⟩ = some (.int .i64 fr) ∧ W'.cell? ⟨gi, 2, none⟩ = some (.int .i64 x) ∧ (W'.cell? ⟨gi, 3, none⟩ = some (.int .u8 2) ∧ W'.cell? ⟨gi, 4, none⟩ = some (.int .u8 0) ∧ W'.cell? ⟨gi, 5, none⟩ = some (.int .u8 0) ∧ W'.cell? ⟨gi, 6, none⟩ = some (.int .u8 0) ∧ W'.cell? ⟨gi, 7, none⟩ = some (.int .u8 0) ∧ W'.cell? ⟨gi, 8, none⟩ = some (.int .u8 2)) ∧ W'.cell? ⟨gi, 9, none⟩ = some (.slice Al L0 ml) ∧ W'.cell? ⟨gp, j * 9 + 1, none⟩ = some (.int .i64 x) ∧ W'.cell? ⟨b, 2, none⟩ = some (.slice Ab L0 cb) ∧ Below wc.heap.size wc W') 99 mixed ?_
      refine hold_take 0 _ rfl (by kernel_rfl) (by kernel_rfl) (by kernel_rfl) (by kernel_rfl) (by kernel_rfl) (fun _ _ _ h => h) (by rfl) (fun _ => rfl) hx3 (fun w' hS => by obtain ⟨q0, q1, q2, ⟨q3, q4, q5, q6, q7, q8⟩, q9, q10, q11, q12⟩ := hS; go_simp; rfl) ?_
      simp only [Act.put, List.setIfInBounds_toArray, List.set_cons_zero, List.set_cons_succ]
      refine hold_take 1 (.int .i64 1) rfl (by kernel_rfl) (by kernel_rfl) (by kernel_rfl) (by kernel_rfl) (by kernel_rfl) (fun _ _ _ h => h) (by rfl) (fun _ => rfl) hx3 (fun w' hS => by obtain ⟨q0, q1, q2, ⟨q3, q4, q5, q6, q7, q8⟩, q9, q10, q11, q12⟩ := hS; go_simp; (first | done | rfl | simp)) ?_
      simp only [Act.put, List.setIfInBounds_toArray, List.set_cons_zero, List.set_cons_succ]
      refine hold_take 2 (.bool false) rfl (by kernel_rfl) (by kernel_rfl) (by kernel_rfl) (by kernel_rfl) (by kernel_rfl) (fun _ _ _ h => h) (by rfl) (fun _ => rfl) hx3 (fun w' hS => by obtain ⟨q0, q1, q2, ⟨q3, q4, q5, q6, q7, q8⟩, q9, q10, q11, q12⟩ := hS; go_simp; (first | done | rfl | simp)) ?_
      simp only [Act.put, List.setIfInBounds_toArray, List.set_cons_zero, List.set_cons_succ]
      refine hold_take 3 (.bool false) rfl (by kernel_rfl) (by kernel_rfl) (by kernel_rfl) (by kernel_rfl) (by kernel_rfl) (fun _ _ _ h => h) (by rfl) (fun _ => rfl) hx3 (fun w' hS => by obtain ⟨q0, q1, q2, ⟨q3, q4, q5, q6, q7, q8⟩, q9, q10, q11, q12⟩ := hS; go_simp; (first | done | rfl | simp)) ?_
      simp only [Act.put, List.setIfInBounds_toArray, List.set_cons_zero, List.set_cons_succ]
      refine hold_take 4 _ rfl (by kernel_rfl) (by kernel_rfl) (by kernel_rfl) (by kernel_rfl) (by kernel_rfl) (fun _ _ _ h => h) (by rfl) (fun _ => rfl) hx3 (fun w' hS => by obtain ⟨q0, q1, q2, ⟨q3, q4, q5, q6, q7, q8⟩, q9, q10, q11, q12⟩ := hS; go_simp; rfl) ?_
      simp only [Act.put, List.setIfInBounds_toArray, List.set_cons_zero, List.set_cons_succ]
      refine hold_take 5 (.int .i64 0) rfl (by kernel_rfl) (by kernel_rfl) (by kernel_rfl) (by kernel_rfl) (by kernel_rfl) (fun _ _ _ h => h) (by rfl) (fun _ => rfl) hx3 (fun w' hS => by obtain ⟨q0, q1, q2, ⟨q3, q4, q5, q6, q7, q8⟩, q9, q10, q11, q12⟩ := hS; go_simp; (first | done | rfl | simp)) ?_
      simp only [Act.put, List.setIfInBounds_toArray, List.set_cons_zero, List.set_cons_succ]
      refine hold_take 6 (.bool false) rfl (by kernel_rfl) (by kernel_rfl) (by kernel_rfl) (by kernel_rfl) (by kernel_rfl) (fun _ _ _ h => h) (by rfl) (fun _ => rfl) hx3 (fun w' hS => by obtain ⟨q0, q1, q2, ⟨q3, q4, q5, q6, q7, q8⟩, q9, q10, q11, q12⟩ := hS; go_simp; (first | done | rfl | simp)) ?_
      simp only [Act.put, List.setIfInBounds_toArray, List.set_cons_zero, List.set_cons_succ]
      refine hold_take 7 (.bool false) rfl (by kernel_rfl) (by kernel_rfl) (by kernel_rfl) (by kernel_rfl) (by kernel_rfl) (fun _ _ _ h => h) (by rfl) (fun _ => rfl) hx3 (fun w' hS => by obtain ⟨q0, q1, q2, ⟨q3, q4, q5, q6, q7, q8⟩, q9, q10, q11, q12⟩ := hS; go_simp; (first | done | rfl | simp)) ?_
      simp only [Act.put, List.setIfInBounds_toArray, List.set_cons_zero, List.set_cons_succ]
      refine hold_take 8 (.bool false) rfl (by kernel_rfl) (by kernel_rfl) (by kernel_rfl) (by kernel_rfl) (by kernel_rfl) (fun _ _ _ h => h) (by rfl) (fun _ => rfl) hx3 (fun w' hS => by obtain ⟨q0, q1, q2, ⟨q3, q4, q5, q6, q7, q8⟩, q9, q10, q11, q12⟩ := hS; go_simp; (first | done | rfl | simp)) ?_
      simp only [Act.put, List.setIfInBounds_toArray, List.set_cons_zero, List.set_cons_succ]
      refine hold_take 9 _ rfl (by kernel_rfl) (by kernel_rfl) (by kernel_rfl) (by kernel_rfl) (by kernel_rfl) (fun _ _ _ h => h) (by rfl) (fun _ => rfl) hx3 (fun w' hS => by obtain ⟨q0, q1, q2, ⟨q3, q4, q5, q6, q7, q8⟩, q9, q10, q11, q12⟩ := hS; go_simp; rfl) ?_
      simp only [Act.put, List.setIfInBounds_toArray, List.set_cons_zero, List.set_cons_succ]
      refine hold_take 10 _ rfl (by kernel_rfl) (by kernel_rfl) (by kernel_rfl) (by kernel_rfl) (by kernel_rfl) (fun _ _ _ h => h) (by rfl) (fun _ => rfl) hx3 (fun w' hS => by obtain ⟨q0, q1, q2, ⟨q3, q4, q5, q6, q7, q8⟩, q9, q10, q11, q12⟩ := hS; go_simp; rfl) ?_
      simp only [Act.put, List.setIfInBounds_toArray, List.set_cons_zero, List.set_cons_succ]
      refine hold_take 11 _ rfl (by kernel_rfl) (by kernel_rfl) (by kernel_rfl) (by kernel_rfl) (by kernel_rfl) (fun _ _ _ h => h) (by rfl) (fun _ => rfl) hx3 (fun w' hS => by obtain ⟨q0, q1, q2, ⟨q3, q4, q5, q6, q7, q8⟩, q9, q10, q11, q12⟩ := hS; go_simp; rfl) ?_
      simp only [Act.put, List.setIfInBounds_toArray, List.set_cons_zero, List.set_cons_succ]
      refine hold_take 12 _ rfl (by kernel_rfl) (by kernel_rfl) (by kernel_rfl) (by kernel_rfl) (by kernel_rfl) (fun _ _ _ h => h) (by rfl) (fun _ => rfl) hx3 (fun w' hS => by obtain ⟨q0, q1, q2, ⟨q3, q4, q5, q6, q7, q8⟩, q9, q10, q11, q12⟩ := hS; go_simp; rfl) ?_
      simp only [Act.put, List.setIfInBounds_toArray, List.set_cons_zero, List.set_cons_succ]
      refine hold_take 13 (.bool false) rfl (by kernel_rfl) (by kernel_rfl) (by kernel_rfl) (by kernel_rfl) (by kernel_rfl) (fun _ _ _ h => h) (by rfl) (fun _ => rfl) hx3 (fun w' hS => by obtain ⟨q0, q1, q2, ⟨q3, q4, q5, q6, q7, q8⟩, q9, q10, q11, q12⟩ := hS; go_simp; (first | done | rfl | simp)) ?_
      simp only [Act.put, List.setIfInBounds_toArray, List.set_cons_zero, List.set_cons_succ]
      refine hold_take 14 (.bool false) rfl (by kernel_rfl) (by kernel_rfl) (by kernel_rfl) (by kernel_rfl) (by kernel_rfl) (fun _ _ _ h => h) (by rfl) (fun _ => rfl) hx3 (fun w' hS => by obtain ⟨q0, q1, q2, ⟨q3, q4, q5, q6, q7, q8⟩, q9, q10, q11, q12⟩ := hS; go_simp; (first | done | rfl | simp)) ?_
      simp only [Act.put, List.setIfInBounds_toArray, List.set_cons_zero, List.set_cons_succ]
      refine hold_take 15 (.bool false) rfl (by kernel_rfl) (by kernel_rfl) (by kernel_rfl) (by kernel_rfl) (by kernel_rfl) (fun _ _ _ h => h) (by rfl) (fun _ => rfl) hx3 (fun w' hS => by obtain ⟨q0, q1, q2, ⟨q3, q4, q5, q6, q7, q8⟩, q9, q10, q11, q12⟩ := hS; go_simp; (first | done | rfl | simp)) ?_
      simp only [Act.put, List.setIfInBounds_toArray, List.set_cons_zero, List.set_cons_succ]
      refine hold_take 16 _ rfl (by kernel_rfl) (by kernel_rfl) (by kernel_rfl) (by kernel_rfl) (by kernel_rfl) (fun _ _ _ h => h) (by rfl) (fun _ => rfl) hx3 (fun w' hS => by obtain ⟨q0, q1, q2, ⟨q3, q4, q5, q6, q7, q8⟩, q9, q10, q11, q12⟩ := hS; go_simp; rfl) ?_
      simp only [Act.put, List.setIfInBounds_toArray, List.set_cons_zero, List.set_cons_succ]
      refine hold_take 17 _ rfl (by kernel_rfl) (by kernel_rfl) (by kernel_rfl) (by kernel_rfl) (by kernel_rfl) (fun _ _ _ h => h) (by rfl) (fun _ => rfl) hx3 (fun w' hS => by obtain ⟨q0, q1, q2, ⟨q3, q4, q5, q6, q7, q8⟩, q9, q10, q11, q12⟩ := hS; go_simp; rfl) ?_
      simp only [Act.put, List.setIfInBounds_toArray, List.set_cons_zero, List.set_cons_succ]
      refine hold_take 18 _ rfl (by kernel_rfl) (by kernel_rfl) (by kernel_rfl) (by kernel_rfl) (by kernel_rfl) (fun _ _ _ h => h) (by rfl) (fun _ => rfl) hx3 (fun w' hS => by obtain ⟨q0, q1, q2, ⟨q3, q4, q5, q6, q7, q8⟩, q9, q10, q11, q12⟩ := hS; go_simp; rfl) ?_
      simp only [Act.put, List.setIfInBounds_toArray, List.set_cons_zero, List.set_cons_succ]
      refine hold_take 19 _ rfl (by kernel_rfl) (by kernel_rfl) (by kernel_rfl) (by kernel_rfl) (by kernel_rfl) (fun _ _ _ h => h) (by rfl) (fun _ => rfl) hx3 (fun w' hS => by obtain ⟨q0, q1, q2, ⟨q3, q4, q5, q6, q7, q8⟩, q9, q10, q11, q12⟩ := hS; go_simp; rfl) ?_
      simp only [Act.put, List.setIfInBounds_toArray, List.set_cons_zero, List.set_cons_succ]
      refine hold_take 20 _ rfl (by kernel_rfl) (by kernel_rfl) (by kernel_rfl) (by kernel_rfl) (by kernel_rfl) (fun _ _ _ h => h) (by rfl) (fun _ => rfl) hx3 (fun w' hS => by obtain ⟨q0, q1, q2, ⟨q3, q4, q5, q6, q7, q8⟩, q9, q10, q11, q12⟩ := hS; go_simp; rfl) ?_
      simp only [Act.put, List.setIfInBounds_toArray, List.set_cons_zero, List.set_cons_succ]
      refine hold_take 21 (.bool false) rfl (by kernel_rfl) (by kernel_rfl) (by kernel_rfl) (by kernel_rfl) (by kernel_rfl) (fun _ _ _ h => h) (by rfl) (fun _ => rfl) hx3 (fun w' hS => by obtain ⟨q0, q1, q2, ⟨q3, q4, q5, q6, q7, q8⟩, q9, q10, q11, q12⟩ := hS; go_simp; (first | done | rfl | simp)) ?_
      simp only [Act.put, List.setIfInBounds_toArray, List.set_cons_zero, List.set_cons_succ]
      refine hold_take 22 (.bool false) rfl (by kernel_rfl) (by kernel_rfl) (by kernel_rfl) (by kernel_rfl) (by kernel_rfl) (fun _ _ _ h => h) (by rfl) (fun _ => rfl) hx3 (fun w' hS => by obtain ⟨q0, q1, q2, ⟨q3, q4, q5, q6, q7, q8⟩, q9, q10, q11, q12⟩ := hS; go_simp; (first | done | rfl | simp)) ?_
      simp only [Act.put, List.setIfInBounds_toArray, List.set_cons_zero, List.set_cons_succ]
      refine hold_take 23 (.bool false) rfl (by kernel_rfl) (by kernel_rfl) (by kernel_rfl) (by kernel_rfl) (by kernel_rfl) (fun _ _ _ h => h) (by rfl) (fun _ => rfl) hx3 (fun w' hS => by obtain ⟨q0, q1, q2, ⟨q3, q4, q5, q6, q7, q8⟩, q9, q10, q11, q12⟩ := hS; go_simp; (first | done | rfl | simp)) ?_
      simp only [Act.put, List.setIfInBounds_toArray, List.set_cons_zero, List.set_cons_succ]
      refine hold_take 24 _ rfl (by kernel_rfl) (by kernel_rfl) (by kernel_rfl) (by kernel_rfl) (by kernel_rfl) (fun _ _ _ h => h) (by rfl) (fun _ => rfl) hx3 (fun w' hS => by obtain ⟨q0, q1, q2, ⟨q3, q4, q5, q6, q7, q8⟩, q9, q10, q11, q12⟩ := hS; go_simp; rfl) ?_
      simp only [Act.put, List.setIfInBounds_toArray, List.set_cons_zero, List.set_cons_succ]
      refine hold_take 25 _ rfl (by kernel_rfl) (by kernel_rfl) (by kernel_rfl) (by kernel_rfl) (by kernel_rfl) (fun _ _ _ h => h) (by rfl) (fun _ => rfl) hx3 (fun w' hS => by obtain ⟨q0, q1, q2, ⟨q3, q4, q5, q6, q7, q8⟩, q9, q10, q11, q12⟩ := hS; go_simp; rfl) ?_
      simp only [Act.put, List.setIfInBounds_toArray, List.set_cons_zero, List.set_cons_succ]
      refine hold_take 26 _ rfl (by kernel_rfl) (by kernel_rfl) (by kernel_rfl) (by kernel_rfl) (by kernel_rfl) (fun _ _ _ h => h) (by rfl) (fun _ => rfl) hx3 (fun w' hS => by obtain ⟨q0, q1, q2, ⟨q3, q4, q5, q6, q7, q8⟩, q9, q10, q11, q12⟩ := hS; go_simp; rfl) ?_
      simp only [Act.put, List.setIfInBounds_toArray, List.set_cons_zero, List.set_cons_succ]
      refine hold_take 27 _ rfl (by kernel_rfl) (by kernel_rfl) (by kernel_rfl) (by kernel_rfl) (by kernel_rfl) (fun _ _ _ h => h) (by rfl) (fun _ => rfl) hx3 (fun w' hS => by obtain ⟨q0, q1, q2, ⟨q3, q4, q5, q6, q7, q8⟩, q9, q10, q11, q12⟩ := hS; go_simp; rfl) ?_
      simp only [Act.put, List.setIfInBounds_toArray, List.set_cons_zero, List.set_cons_succ]
      refine hold_take 28 _ rfl (by kernel_rfl) (by kernel_rfl) (by kernel_rfl) (by kernel_rfl) (by kernel_rfl) (fun _ _ _ h => h) (by rfl) (fun _ => rfl) hx3 (fun w' hS => by obtain ⟨q0, q1, q2, ⟨q3, q4, q5, q6, q7, q8⟩, q9, q10, q11, q12⟩ := hS; go_simp; rfl) ?_
      simp only [Act.put, List.setIfInBounds_toArray, List.set_cons_zero, List.set_cons_succ]
      refine hold_take 29 _ rfl (by kernel_rfl) (by kernel_rfl) (by kernel_rfl) (by kernel_rfl) (by kernel_rfl) (fun _ _ _ h => h) (by rfl) (fun _ => rfl) hx3 (fun w' hS => by obtain ⟨q0, q1, q2, ⟨q3, q4, q5, q6, q7, q8⟩, q9, q10, q11, q12⟩ := hS; go_simp; rfl) ?_
      simp only [Act.put, List.setIfInBounds_toArray, List.set_cons_zero, List.set_cons_succ]
      refine hold_take 30 _ rfl (by kernel_rfl) (by kernel_rfl) (by kernel_rfl) (by kernel_rfl) (by kernel_rfl) (fun _ _ _ h => h) (by rfl) (fun _ => rfl) hx3 (fun w' hS => by obtain ⟨q0, q1, q2, ⟨q3, q4, q5, q6, q7, q8⟩, q9, q10, q11, q12⟩ := hS; go_simp; rfl) ?_
      simp only [Act.put, List.setIfInBounds_toArray, List.set_cons_zero, List.set_cons_succ]
      refine hold_take 31 _ rfl (by kernel_rfl) (by kernel_rfl) (by kernel_rfl) (by kernel_rfl) (by kernel_rfl) (fun _ _ _ h => h) (by rfl) (fun _ => rfl) hx3 (fun w' hS => by obtain ⟨q0, q1, q2, ⟨q3, q4, q5, q6, q7, q8⟩, q9, q10, q11, q12⟩ := hS; go_simp; rfl) ?_
      simp only [Act.put, List.setIfInBounds_toArray, List.set_cons_zero, List.set_cons_succ]
      refine hold_take 32 _ rfl (by kernel_rfl) (by kernel_rfl) (by kernel_rfl) (by kernel_rfl) (by kernel_rfl) (fun _ _ _ h => h) (by rfl) (fun _ => rfl) hx3 (fun w' hS => by obtain ⟨q0, q1, q2, ⟨q3, q4, q5, q6, q7, q8⟩, q9, q10, q11, q12⟩ := hS; go_simp; rfl) ?_
      simp only [Act.put, List.setIfInBounds_toArray, List.set_cons_zero, List.set_cons_succ]
      refine hold_take 33 (.bool false) rfl (by kernel_rfl) (by kernel_rfl) (by kernel_rfl) (by kernel_rfl) (by kernel_rfl) (fun _ _ _ h => h) (by rfl) (fun _ => rfl) hx3 (fun w' hS => by obtain ⟨q0, q1, q2, ⟨q3, q4, q5, q6, q7, q8⟩, q9, q10, q11, q12⟩ := hS; go_simp; (first | done | rfl | simp)) ?_
      simp only [Act.put, List.setIfInBounds_toArray, List.set_cons_zero, List.set_cons_succ]
      refine hold_take 34 (.bool false) rfl (by kernel_rfl) (by kernel_rfl) (by kernel_rfl) (by kernel_rfl) (by kernel_rfl) (fun _ _ _ h => h) (by rfl) (fun _ => rfl) hx3 (fun w' hS => by obtain ⟨q0, q1, q2, ⟨q3, q4, q5, q6, q7, q8⟩, q9, q10, q11, q12⟩ := hS; go_simp; (first | done | rfl | simp)) ?_
      simp only [Act.put, List.setIfInBounds_toArray, List.set_cons_zero, List.set_cons_succ]
      refine hold_take 35 (.bool false) rfl (by kernel_rfl) (by kernel_rfl) (by kernel_rfl) (by kernel_rfl) (by kernel_rfl) (fun _ _ _ h => h) (by rfl) (fun _ => rfl) hx3 (fun w' hS => by obtain ⟨q0, q1, q2, ⟨q3, q4, q5, q6, q7, q8⟩, q9, q10, q11, q12⟩ := hS; go_simp; (first | done | rfl | simp)) ?_
      simp only [Act.put, List.setIfInBounds_toArray, List.set_cons_zero, List.set_cons_succ]
      refine hold_take 36 _ rfl (by kernel_rfl) (by kernel_rfl) (by kernel_rfl) (by kernel_rfl) (by kernel_rfl) (fun _ _ _ h => h) (by rfl) (fun _ => rfl) hx3 (fun w' hS => by obtain ⟨q0, q1, q2, ⟨q3, q4, q5, q6, q7, q8⟩, q9, q10, q11, q12⟩ := hS; go_simp; rfl) ?_
      simp only [Act.put, List.setIfInBounds_toArray, List.set_cons_zero, List.set_cons_succ]
      refine hold_take 37 _ rfl (by kernel_rfl) (by kernel_rfl) (by kernel_rfl) (by kernel_rfl) (by kernel_rfl) (fun _ _ _ h => h) (by rfl) (fun _ => rfl) hx3 (fun w' hS => by obtain ⟨q0, q1, q2, ⟨q3, q4, q5, q6, q7, q8⟩, q9, q10, q11, q12⟩ := hS; go_simp; rfl) ?_
      simp only [Act.put, List.setIfInBounds_toArray, List.set_cons_zero, List.set_cons_succ]
      refine hold_take 38 _ rfl (by kernel_rfl) (by kernel_rfl) (by kernel_rfl) (by kernel_rfl) (by kernel_rfl) (fun _ _ _ h => h) (by rfl) (fun _ => rfl) hx3 (fun w' hS => by obtain ⟨q0, q1, q2, ⟨q3, q4, q5, q6, q7, q8⟩, q9, q10, q11, q12⟩ := hS; go_simp; rfl) ?_
      simp only [Act.put, List.setIfInBounds_toArray, List.set_cons_zero, List.set_cons_succ]
      refine hold_take 39 _ rfl (by kernel_rfl) (by kernel_rfl) (by kernel_rfl) (by kernel_rfl) (by kernel_rfl) (fun _ _ _ h => h) (by rfl) (fun _ => rfl) hx3 (fun w' hS => by obtain ⟨q0, q1, q2, ⟨q3, q4, q5, q6, q7, q8⟩, q9, q10, q11, q12⟩ := hS; go_simp; rfl) ?_
      simp only [Act.put, List.setIfInBounds_toArray, List.set_cons_zero, List.set_cons_succ]
      refine hold_one 40 (by kernel_rfl) rfl (by rfl) fun K hK => ?_
      go_simp
      refine ⟨trivial, rfl, (callsIn_wide.2 (HST.out 2 _ (by omega) (by omega))).mono ?_⟩
      rintro e wd ⟨rfl, hbd'⟩
      have hbd : Below wc.heap.size wc wd := hbx.trans (hbd'.mono hbx.size)
      have hSd := HS3.out _ hbd
      refine hK _ _ (.inr hSd) ?_
      clear hK K
      refine hold_take 41 (.bool false) rfl (by kernel_rfl) (by kernel_rfl) (by kernel_rfl) (by kernel_rfl) (by kernel_rfl) (fun _ _ _ h => h) (by rfl) (fun _ => rfl) hSd (fun w' hS => by obtain ⟨q0, q1, q2, ⟨q3, q4, q5, q6, q7, q8⟩, q9, q10, q11, q12⟩ := hS; go_simp; (first | done | rfl | simp)) ?_
      simp only [Act.put, List.setIfInBounds_toArray, List.set_cons_zero, List.set_cons_succ]
      refine hold_take 42 (.bool false) rfl (by kernel_rfl) (by kernel_rfl) (by kernel_rfl) (by kernel_rfl) (by kernel_rfl) (fun _ _ _ h => h) (by rfl) (fun _ => rfl) hSd (fun w' hS => by obtain ⟨q0, q1, q2, ⟨q3, q4, q5, q6, q7, q8⟩, q9, q10, q11, q12⟩ := hS; go_simp; (first | done | rfl | simp)) ?_
      simp only [Act.put, List.setIfInBounds_toArray, List.set_cons_zero, List.set_cons_succ]
      refine hold_take 43 (.bool false) rfl (by kernel_rfl) (by kernel_rfl) (by kernel_rfl) (by kernel_rfl) (by kernel_rfl) (fun _ _ _ h => h) (by rfl) (fun _ => rfl) hSd (fun w' hS => by obtain ⟨q0, q1, q2, ⟨q3, q4, q5, q6, q7, q8⟩, q9, q10, q11, q12⟩ := hS; go_simp; (first | done | rfl | simp)) ?_
      simp only [Act.put, List.setIfInBounds_toArray, List.set_cons_zero, List.set_cons_succ]
      refine hold_take 44 _ rfl (by kernel_rfl) (by kernel_rfl) (by kernel_rfl) (by kernel_rfl) (by kernel_rfl) (fun _ _ _ h => h) (by rfl) (fun _ => rfl) hSd (fun w' hS => by obtain ⟨q0, q1, q2, ⟨q3, q4, q5, q6, q7, q8⟩, q9, q10, q11, q12⟩ := hS; go_simp; rfl) ?_
      simp only [Act.put, List.setIfInBounds_toArray, List.set_cons_zero, List.set_cons_succ]
      refine hold_take 45 _ rfl (by kernel_rfl) (by kernel_rfl) (by kernel_rfl) (by kernel_rfl) (by kernel_rfl) (fun _ _ _ h => h) (by rfl) (fun _ => rfl) hSd (fun w' hS => by obtain ⟨q0, q1, q2, ⟨q3, q4, q5, q6, q7, q8⟩, q9, q10, q11, q12⟩ := hS; go_simp; rfl) ?_
      simp only [Act.put, List.setIfInBounds_toArray, List.set_cons_zero, List.set_cons_succ]
      refine hold_take 46 _ rfl (by kernel_rfl) (by kernel_rfl) (by kernel_rfl) (by kernel_rfl) (by kernel_rfl) (fun _ _ _ h => h) (by rfl) (fun _ => rfl) hSd (fun w' hS => by obtain ⟨q0, q1, q2, ⟨q3, q4, q5, q6, q7, q8⟩, q9, q10, q11, q12⟩ := hS; go_simp; rfl) ?_
      simp only [Act.put, List.setIfInBounds_toArray, List.set_cons_zero, List.set_cons_succ]
      refine hold_take 47 _ rfl (by kernel_rfl) (by kernel_rfl) (by kernel_rfl) (by kernel_rfl) (by kernel_rfl) (fun _ _ _ h => h) (by rfl) (fun _ => rfl) hSd (fun w' hS => by obtain ⟨q0, q1, q2, ⟨q3, q4, q5, q6, q7, q8⟩, q9, q10, q11, q12⟩ := hS; go_simp; rfl) ?_
      simp only [Act.put, List.setIfInBounds_toArray, List.set_cons_zero, List.set_cons_succ]
      refine hold_take 48 _ rfl (by kernel_rfl) (by kernel_rfl) (by kernel_rfl) (by kernel_rfl) (by kernel_rfl) (fun _ _ _ h => h) (by rfl) (fun _ => rfl) hSd (fun w' hS => by obtain ⟨q0, q1, q2, ⟨q3, q4, q5, q6, q7, q8⟩, q9, q10, q11, q12⟩ := hS; go_simp; rfl) ?_
      simp only [Act.put, List.setIfInBounds_toArray, List.set_cons_zero, List.set_cons_succ]
      refine hold_take 49 _ rfl (by kernel_rfl) (by kernel_rfl) (by kernel_rfl) (by kernel_rfl) (by kernel_rfl) (fun _ _ _ h => h) (by rfl) (fun _ => rfl) hSd (fun w' hS => by obtain ⟨q0, q1, q2, ⟨q3, q4, q5, q6, q7, q8⟩, q9, q10, q11, q12⟩ := hS; go_simp; rfl) ?_
      simp only [Act.put, List.setIfInBounds_toArray, List.set_cons_zero, List.set_cons_succ]
      refine hold_one 50 (by kernel_rfl) rfl (by rfl) fun K hK => ?_
      go_simp
      refine ⟨trivial, rfl, (callsIn_wide.2 (HSM.out _ hbd)).mono ?_⟩
      rintro e we ⟨rfl, hbe'⟩
      have hbe : Below wc.heap.size wc we := hbd.trans (hbe'.mono hbd.size)
      have hSe := HS3.out _ hbe
      refine hK _ _ (.inr hSe) ?_
      clear hK K
      refine hold_take 51 (.bool false) rfl (by kernel_rfl) (by kernel_rfl) (by kernel_rfl) (by kernel_rfl) (by kernel_rfl) (fun _ _ _ h => h) (by rfl) (fun _ => rfl) hSe (fun w' hS => by obtain ⟨q0, q1, q2, ⟨q3, q4, q5, q6, q7, q8⟩, q9, q10, q11, q12⟩ := hS; go_simp; (first | done | rfl | simp)) ?_
      simp only [Act.put, List.setIfInBounds_toArray, List.set_cons_zero, List.set_cons_succ]
      refine hold_take 52 (.bool false) rfl (by kernel_rfl) (by kernel_rfl) (by kernel_rfl) (by kernel_rfl) (by kernel_rfl) (fun _ _ _ h => h) (by rfl) (fun _ => rfl) hSe (fun w' hS => by obtain ⟨q0, q1, q2, ⟨q3, q4, q5, q6, q7, q8⟩, q9, q10, q11, q12⟩ := hS; go_simp; (first | done | rfl | simp)) ?_
      simp only [Act.put, List.setIfInBounds_toArray, List.set_cons_zero, List.set_cons_succ]
      refine held_done (by kernel_rfl) ?_ _
      have HN8 := cover (hrel.out.trans ((HBC.out.trans (hbe.mono HBC.out.size)).mono hrel.out.size))
      clear hx3 hSd hSe hbd hbd' hbe hbe' hbx HS3 HSM hrel
      go_wp2
      go_roundw
      case rel => exact ⟨j + 1, by omega, by go_num, HN8⟩
      case measure => simp [intOf]; omega
    · obtain rfl : j = m := by omega
      have HN := cover (HOut.out _ (HBA.out.trans (hrel.out.mono (HSz.out _ HBA.out))))
      clear HOut HCell HRow HDs HSz hrel
      go_wp2
      go_ret
      exact ⟨rfl, HN.out⟩
end Go.Proofs.Ytgpmimohoepeiaa
