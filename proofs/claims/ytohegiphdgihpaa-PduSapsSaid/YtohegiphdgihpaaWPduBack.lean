/- The walk of PduBack. -/
import Derived.Deep.CutBlock
import Derived.Deep.DeepCutAuto
import Derived.Deep.RegionHeld3
import Derived.Test.YtohegiphdgihpaaWPduCodes
namespace Go.Proofs.Ytohegiphdgihpaa
open Go.RowKit
set_option linter.unusedVariables false
set_option linter.unusedSimpArgs false

theorem encOu_yes {q : PV} (h : mayB q = true) : encOu q = encP q ∧ errE q = 0 := by unfold encOu errE; rw [h]; exact ⟨rfl, rfl⟩
theorem encOu_no {q : PV} (h : mayB q = false) : encOu q = [] ∧ errE q = 1 := by unfold encOu errE; rw [h]; exact ⟨rfl, rfl⟩
theorem enc_bts {q : PV} (h : MayP q) (hb : Bts q.info) : Bts (encP q) := by
  obtain ⟨⟨h1, h2, h3, h4, _⟩, hf⟩ := h
  have hr := fl_le q.resp
  have hp := fl_le q.poll
  have hc : Bts (ctl q) := by
    unfold ctl
    rcases hf with ⟨f0, k0, _⟩ | ⟨f0, k0, _⟩ | ⟨f0, n0, r0, hu⟩
    · rw [if_pos f0]; intro x hx; simp at hx; omega
    · rw [if_neg (by omega), if_pos f0]; intro x hx; simp at hx; omega
    · rw [if_neg (by omega), if_neg (by omega)]
      have := codeI_U hu.range.1 hu.range.2
      intro x hx; simp at hx; omega
  intro x hx
  unfold encP at hx
  simp only [List.mem_cons, List.mem_append] at hx
  rcases hx with rfl | rfl | hx | hx
  · exact ⟨by omega, by omega⟩
  · exact ⟨by omega, by omega⟩
  · exact hc x hx
  · exact hb x hx
theorem enc_le {q : PV} (h : MayP q) : (encP q).length ≤ 1044 := by
  have h1 := enc_len h.fits
  have h2 : headN q ≤ 4 := by unfold headN; split <;> omega
  have h3 := h.1.2.2.2.2
  omega
/-- unlike units have unlike bytes, as Booleans -/
theorem enc_eq {p q : PV} (hp : MayP p) (hq : MayP q) : decide (encP p = encP q) = eqB p q := by
  rcases h : eqB p q with _ | _
  · refine decide_eq_false fun e => ?_
    rw [eqB_iff.2 (enc_inj hp hq e)] at h; cases h
  · rw [eqB_iff.1 h]; exact decide_eq_true rfl
/-- bytes that are one and are written have no bytes but bytes -/
theorem dec_bts {l : List Int} {d : PV} (hb : Bts l) (h : decR l = (d, 0)) : Bts d.info := by
  obtain ⟨_, h2⟩ := enc_dec hb h
  intro x hx
  refine hb x ?_
  rw [← h2]
  unfold encP
  simp only [List.mem_cons, List.mem_append]
  exact .inr (.inr (.inr hx))

set_option maxHeartbeats 6400000 in
theorem walk_PduBack (p : PV) (A : Option Addr) (c : Nat) (q : PV) (A' : Option Addr) (c' : Nat) (A1 : Option Addr) (n1 c1 : Nat) (l : List Int) (w : World)
    (hlc : p.info.length ≤ c) (hcm : c ≤ maxLen) (hr : Row w w.heap.size A p.info.length p.info) (hb : Bts p.info) (hn : A = none → c = 0)
    (hlc' : q.info.length ≤ c') (hcm' : c' ≤ maxLen) (hr' : Row w w.heap.size A' q.info.length q.info) (hb' : Bts q.info) (hn' : A' = none → c' = 0)
    (hlc1 : n1 ≤ c1) (hcm1 : c1 ≤ maxLen) (hr1 : Row w w.heap.size A1 n1 l) (hb1 : ∀ x ∈ l, (Lit.int .u8 x).wf = true) :
    Calls Try.prog 5 #[.agg #[.int .i64 p.to, .int .i64 p.frm, .bool p.resp, .int .i64 p.form, .int .i64 p.kind, .int .i64 p.ns, .int .i64 p.nr, .bool p.poll, .slice A p.info.length c], .agg #[.int .i64 q.to, .int .i64 q.frm, .bool q.resp, .int .i64 q.form, .int .i64 q.kind, .int .i64 q.ns, .int .i64 q.nr, .bool q.poll, .slice A' q.info.length c'], .slice A1 n1 c1] w fun e w' => e = .returned (.bool true) ∧ Below w.heap.size w w' := by
  obtain rfl : l.length = n1 := hr1.len
  have HB1 := cover (bts_of_wf hb1)
  obtain ⟨w1, hw1, G1, K1, H1, hs1⟩ := two_laid w #[.int .i64 p.to, .int .i64 p.frm, .bool p.resp, .int .i64 p.form, .int .i64 p.kind, .int .i64 p.ns, .int .i64 p.nr, .bool p.poll, .slice A p.info.length c] #[.int .i64 q.to, .int .i64 q.frm, .bool q.resp, .int .i64 q.form, .int .i64 q.kind, .int .i64 q.ns, .int .i64 q.nr, .bool q.poll, .slice A' q.info.length c'] 25 25
  have hs1 := hs1.out
  have HR := cover hr
  have HR' := cover hr'
  have HR1 := cover hr1
  have HN := cover hn
  have HN' := cover hn'
  have HB := cover hb
  have HB' := cover hb'
  clear hr hr1 hb1 hn hb hr' hn' hb'
  go_enter Try.func5, Try.ntmps5
  go_wp2_with fail
  rw [← hw1.out]
  refine (awake_any w1).mono ?_
  rintro e w2 ⟨rfl, hb2⟩
  have hs2 := hb2.size
  have H2 := cover (H1.out.trans (hb2.mono (by omega)))
  have G2 := cover ((hb2.block _ (by omega)).trans G1.out)
  have K2 := cover ((hb2.block _ (by omega)).trans K1.out)
  clear hb2
  by_cases g2 : 1500 < (l.length : Int)
  · go_wp2
    go_ret
    exact ⟨rfl, H2.out⟩
  obtain ⟨p0, p1, p2, p3, p4, p5, p6, p7, p8⟩ := pdu_cells G2.out
  go_wp2_with fail
  clear p0 p1 p2 p3 p4 p5 p6 p7 p8
  refine (enc_any p A c w.heap.size w2 (HR.out.below H2.out) (by omega) hlc HN.out HB.out).mono ?_
  rintro e w3 ⟨A3, c3, rfl, ho3, hb3⟩
  have hs3 := hb3.size
  have H3 := cover (H2.out.trans (hb3.mono (by omega)))
  have G3 := cover ((hb3.block _ (by omega)).trans G2.out)
  have K3 := cover ((hb3.block _ (by omega)).trans K2.out)
  have HO3 := cover ho3
  clear hb3 ho3
  obtain ⟨p0, p1, p2, p3, p4, p5, p6, p7, p8⟩ := pdu_cells K3.out
  go_wp2_with fail
  clear p0 p1 p2 p3 p4 p5 p6 p7 p8
  refine (enc_any q A' c' w.heap.size w3 (HR'.out.below H3.out) (by omega) hlc' HN'.out HB'.out).mono ?_
  rintro e w4 ⟨A4, c4, rfl, ho4, hb4⟩
  have hs4 := hb4.size
  have H4 := cover (H3.out.trans (hb4.mono (by omega)))
  have G4 := cover ((hb4.block _ (by omega)).trans G3.out)
  have K4 := cover ((hb4.block _ (by omega)).trans K3.out)
  have HO34 := cover (ownB_below HO3.out hb4)
  have HO4 := cover ho4
  clear hb4 ho4
  rcases hmp : mayB p with _ | _
  case false =>
    obtain ⟨he1, he2⟩ := encOu_no hmp
    rw [he2]
    have HMP := cover hmp
    clear he1 he2 hmp
    go_upto_region 11 with fail
    go_quiet (fail)
    have H5 := cover (below_drewN H4.out nq)
    generalize w4.drewN nq = w5 at H5 ⊢
    go_wp2_with fail
    refine (dec_any_u A1 l.length c1 w.heap.size l w5 (HR1.out.below H5.out) H5.out.size HB1.out (by omega)).mono ?_
    rintro e t1 ⟨B1, d1, rfl, ho5, hb5⟩
    obtain ⟨⟨d, er⟩, hd⟩ : ∃ d, Hid (decR l = d) := ⟨_, cover rfl⟩
    rw [hd.out] at ho5 ⊢
    have hz0 := H5.out.size
    have hz5 := hb5.size
    have T1 := cover (H5.out.trans (hb5.mono (by omega)))
    have TO1 := cover ho5
    clear hb5 ho5
    obtain ⟨t2, ht2⟩ : ∃ y, y = t1.alloc (.cells #[.int .i64 d.to, .int .i64 d.frm, .bool d.resp, .int .i64 d.form, .int .i64 d.kind, .int .i64 d.ns, .int .i64 d.nr, .bool d.poll, .slice B1 d.info.length d1] 25) := ⟨_, rfl⟩
    have hb6 : Below t1.heap.size t1 t2 := by rw [ht2]; exact (Below.refl _ _).alloc (Nat.le_refl _) _
    have hz6 : t1.heap.size < t2.heap.size := by rw [ht2]; simp
    have T2 := cover (T1.out.trans (hb6.mono (by omega)))
    have TD2 : Hid (t2.heap[t1.heap.size]? = some (.cells #[.int .i64 d.to, .int .i64 d.frm, .bool d.resp, .int .i64 d.form, .int .i64 d.kind, .int .i64 d.ns, .int .i64 d.nr, .bool d.poll, .slice B1 d.info.length d1] 25 (0, 0))) := cover (by rw [ht2]; exact heap_alloc_new _ _)
    have TO2 := cover (ownB_below TO1.out hb6)
    go_upto_region 14 with fail
    rw [← ht2]
    clear ht2 hb6
    by_cases her : er = 0
    · subst her
      have HED := cover (enc_dec HB1.out hd.out)
      have HBD := cover (dec_bts HB1.out hd.out)
      have HMD := encOu_yes (mayB_yes HED.out.1)
      obtain ⟨p0, p1, p2, p3, p4, p5, p6, p7, p8⟩ := pdu_cells TD2.out
      go_wp2_with fail
      clear p0 p1 p2 p3 p4 p5 p6 p7 p8
      refine (enc_any d B1 d1 t2.heap.size t2 TO2.out.row (Nat.le_refl _) (own_cap TO2.out) (own_nil_cap TO2.out) HBD.out).mono ?_
      rintro e t3 ⟨B3, d3, rfl, ho7, hb7⟩
      rw [HMD.1, HED.out.2] at ho7 ⊢
      rw [HMD.2]
      have T3 := cover (T2.out.trans (hb7.mono (by omega)))
      have TR3 := cover ho7.row
      have hz7 := hb7.size
      clear hb7 ho7 HMD
      go_wp2_with fail
      refine (same_any B3 A1 l.length d3 c1 t3.heap.size w.heap.size l l t3 TR3.out (HR1.out.below T3.out) (by omega)).mono ?_
      rintro e t4 ⟨rfl, dd, rfl⟩
      rw [decide_eq_true rfl]
      go_wp2
      go_ret
      exact ⟨rfl, below_drewN T3.out dd⟩
    · go_wp2
      go_ret
      exact ⟨rfl, T2.out⟩
  case true =>
    obtain ⟨he1, he2⟩ := encOu_yes hmp
    rw [he1] at HO34 ⊢
    rw [he2]
    have HMP := cover (mayB_iff.1 hmp)
    clear he1 he2 hmp HO3
    go_wp2_with fail
    refine (dec_any_u A3 (encP p).length c3 w4.heap.size (encP p) w4 HO34.out.row (Nat.le_refl _) (enc_bts HMP.out HB.out) (by have := enc_le HMP.out; omega)).mono ?_
    rintro e w5 ⟨A5, c5, rfl, ho5, hb5⟩
    rw [dec_enc HMP.out] at ho5 ⊢
    have hs5 := hb5.size
    have H5 := cover (H4.out.trans (hb5.mono (by omega)))
    have G5 := cover ((hb5.block _ (by omega)).trans G4.out)
    have K5 := cover ((hb5.block _ (by omega)).trans K4.out)
    have HO35 := cover (ownB_below HO34.out hb5)
    have HO45 := cover (ownB_below HO4.out hb5)
    have HO5 := cover ho5
    clear hb5 ho5
    obtain ⟨w6, hw6⟩ : ∃ y, y = w5.alloc (.cells #[.int .i64 p.to, .int .i64 p.frm, .bool p.resp, .int .i64 p.form, .int .i64 p.kind, .int .i64 p.ns, .int .i64 p.nr, .bool p.poll, .slice A5 p.info.length c5] 25) := ⟨_, rfl⟩
    have hb6 : Below w5.heap.size w5 w6 := by rw [hw6]; exact (Below.refl _ _).alloc (Nat.le_refl _) _
    have hs6 : w5.heap.size < w6.heap.size := by rw [hw6]; simp
    have H6 := cover (H5.out.trans (hb6.mono (by omega)))
    have G6 := cover ((hb6.block _ (by omega)).trans G5.out)
    have K6 := cover ((hb6.block _ (by omega)).trans K5.out)
    have D6 : Hid (w6.heap[w5.heap.size]? = some (.cells #[.int .i64 p.to, .int .i64 p.frm, .bool p.resp, .int .i64 p.form, .int .i64 p.kind, .int .i64 p.ns, .int .i64 p.nr, .bool p.poll, .slice A5 p.info.length c5] 25 (0, 0))) := cover (by rw [hw6]; exact heap_alloc_new _ _)
    have HO36 := cover (ownB_below HO35.out hb6)
    have HO46 := cover (ownB_below HO45.out hb6)
    have HO56 := cover (ownB_below HO5.out hb6)
    go_upto_region 9 with fail
    rw [← hw6]
    clear hw6 hb6
    obtain ⟨p0, p1, p2, p3, p4, p5, p6, p7, p8⟩ := pdu_cells G6.out
    obtain ⟨r0, r1, r2, r3, r4, r5, r6, r7, r8⟩ := pdu_cells D6.out
    go_wp2_with fail
    clear p0 p1 p2 p3 p4 p5 p6 p7 p8 r0 r1 r2 r3 r4 r5 r6 r7 r8
    refine (pduSame_any p p A A5 c c5 w.heap.size w6.heap.size w6 (HR.out.below H6.out) HO56.out.row H6.out.size (Nat.le_refl _) HB.out HB.out).mono ?_
    rintro e w7 ⟨rfl, hb7⟩
    rw [eqB_refl]
    have hs7 := hb7.size
    have H7 := cover (H6.out.trans (hb7.mono (by omega)))
    have G7 := cover ((hb7.block _ (by omega)).trans G6.out)
    have K7 := cover ((hb7.block _ (by omega)).trans K6.out)
    have D7 := cover ((hb7.block _ (by omega)).trans D6.out)
    have HO37 := cover (ownB_below HO36.out hb7)
    have HO47 := cover (ownB_below HO46.out hb7)
    have HO57 := cover (ownB_below HO56.out hb7)
    clear hb7
    obtain ⟨p0, p1, p2, p3, p4, p5, p6, p7, p8⟩ := pdu_cells G7.out
    obtain ⟨r0, r1, r2, r3, r4, r5, r6, r7, r8⟩ := pdu_cells D7.out
    go_wp2_with fail
    clear p0 p1 p2 p3 p4 p5 p6 p7 p8 r0 r1 r2 r3 r4 r5 r6 r7 r8
    refine (ref_pduSame_any p p A A5 c c5 w.heap.size w7.heap.size w7 (HR.out.below H7.out) HO57.out.row H7.out.size (Nat.le_refl _) (by have := HMP.out.1.2.2.2.2; omega)).mono ?_
    rintro e w8 ⟨rfl, hb8⟩
    rw [eqB_refl]
    have hs8 := hb8.size
    have H8 := cover (H7.out.trans (hb8.mono (by omega)))
    have G8 := cover ((hb8.block _ (by omega)).trans G7.out)
    have K8 := cover ((hb8.block _ (by omega)).trans K7.out)
    have HO38 := cover (ownB_below HO37.out hb8)
    have HO48 := cover (ownB_below HO47.out hb8)
    clear hb8 G1 G2 G3 G4 G5 G6 G7 K1 K2 K3 K4 K5 K6 K7 D6 D7 H1 H2 H3 H4 H5 H6 H7 HO34 HO35 HO36 HO37 HO4 HO45 HO46 HO47 HO5 HO56 HO57
    rcases hmq : mayB q with _ | _
    case false =>
      obtain ⟨he1, he2⟩ := encOu_no hmq
      rw [he2]
      have HMQ := cover hmq
      clear he1 he2 hmq
      go_upto_region 11 with fail
      go_quiet (fail)
      have H9 := cover (below_drewN H8.out nq)
      generalize w8.drewN nq = w9 at H9 ⊢
      go_wp2_with fail
      refine (dec_any_u A1 l.length c1 w.heap.size l w9 (HR1.out.below H9.out) H9.out.size HB1.out (by omega)).mono ?_
      rintro e t1 ⟨B1, d1, rfl, ho5, hb5⟩
      obtain ⟨⟨d, er⟩, hd⟩ : ∃ d, Hid (decR l = d) := ⟨_, cover rfl⟩
      rw [hd.out] at ho5 ⊢
      have hz0 := H9.out.size
      have hz5 := hb5.size
      have T1 := cover (H9.out.trans (hb5.mono (by omega)))
      have TO1 := cover ho5
      clear hb5 ho5
      obtain ⟨t2, ht2⟩ : ∃ y, y = t1.alloc (.cells #[.int .i64 d.to, .int .i64 d.frm, .bool d.resp, .int .i64 d.form, .int .i64 d.kind, .int .i64 d.ns, .int .i64 d.nr, .bool d.poll, .slice B1 d.info.length d1] 25) := ⟨_, rfl⟩
      have hb6 : Below t1.heap.size t1 t2 := by rw [ht2]; exact (Below.refl _ _).alloc (Nat.le_refl _) _
      have hz6 : t1.heap.size < t2.heap.size := by rw [ht2]; simp
      have T2 := cover (T1.out.trans (hb6.mono (by omega)))
      have TD2 : Hid (t2.heap[t1.heap.size]? = some (.cells #[.int .i64 d.to, .int .i64 d.frm, .bool d.resp, .int .i64 d.form, .int .i64 d.kind, .int .i64 d.ns, .int .i64 d.nr, .bool d.poll, .slice B1 d.info.length d1] 25 (0, 0))) := cover (by rw [ht2]; exact heap_alloc_new _ _)
      have TO2 := cover (ownB_below TO1.out hb6)
      go_upto_region 14 with fail
      rw [← ht2]
      clear ht2 hb6
      by_cases her : er = 0
      · subst her
        have HED := cover (enc_dec HB1.out hd.out)
        have HBD := cover (dec_bts HB1.out hd.out)
        have HMD := encOu_yes (mayB_yes HED.out.1)
        obtain ⟨p0, p1, p2, p3, p4, p5, p6, p7, p8⟩ := pdu_cells TD2.out
        go_wp2_with fail
        clear p0 p1 p2 p3 p4 p5 p6 p7 p8
        refine (enc_any d B1 d1 t2.heap.size t2 TO2.out.row (Nat.le_refl _) (own_cap TO2.out) (own_nil_cap TO2.out) HBD.out).mono ?_
        rintro e t3 ⟨B3, d3, rfl, ho7, hb7⟩
        rw [HMD.1, HED.out.2] at ho7 ⊢
        rw [HMD.2]
        have T3 := cover (T2.out.trans (hb7.mono (by omega)))
        have TR3 := cover ho7.row
        have hz7 := hb7.size
        clear hb7 ho7 HMD
        go_wp2_with fail
        refine (same_any B3 A1 l.length d3 c1 t3.heap.size w.heap.size l l t3 TR3.out (HR1.out.below T3.out) (by omega)).mono ?_
        rintro e t4 ⟨rfl, dd, rfl⟩
        rw [decide_eq_true rfl]
        go_wp2
        go_ret
        exact ⟨rfl, below_drewN T3.out dd⟩
      · go_wp2
        go_ret
        exact ⟨rfl, T2.out⟩
    case true =>
      obtain ⟨he1, he2⟩ := encOu_yes hmq
      rw [he1] at HO48 ⊢
      rw [he2]
      have HMQ := cover (mayB_iff.1 hmq)
      clear he1 he2 hmq
      obtain ⟨bq, hbq⟩ : ∃ y, Hid (eqB p q = y) := ⟨_, cover rfl⟩
      have lenp : Hid ((encP p).length ≤ 1044 ∧ (encP q).length ≤ 1044) := cover (by
        have h1 := enc_len HMP.out.fits
        have h2 : headN p ≤ 4 := by unfold headN; split <;> omega
        have h3 := HMP.out.1.2.2.2.2
        have h4 := enc_len HMQ.out.fits
        have h5 : headN q ≤ 4 := by unfold headN; split <;> omega
        have h6 := HMQ.out.1.2.2.2.2
        exact ⟨by omega, by omega⟩)
      have HS1 : Hid (∀ W, Below w8.heap.size w8 W → Calls Try.prog 18 #[.slice A3 (encP p).length c3, .slice A4 (encP q).length c4] W fun e w' => e = .returned (.bool bq) ∧ Below w8.heap.size w8 w') :=
        cover (fun W hb => by
          have hx := HO38.out.row.below hb
          have hy := HO48.out.row.below hb
          rw [← hbq.out, ← enc_eq HMP.out HMQ.out]
          by_cases hl : (encP p).length = (encP q).length
          · rw [hl] at hx ⊢
            exact (same_any A3 A4 (encP q).length c3 c4 _ _ (encP p) (encP q) W hx hy (by have := lenp.out; omega)).mono (by
              rintro e w' ⟨he, dd, rfl⟩
              exact ⟨he, below_drewN hb dd⟩)
          · exact (same_len A3 A4 (encP p).length c3 (encP q).length c4 W hl).mono (by
              rintro e w' ⟨he, dd, rfl⟩
              exact ⟨by rw [he, decide_eq_false (fun e => hl (congrArg List.length e))], below_drewN hb dd⟩))
      have HS2 : Hid (∀ W, Below w8.heap.size w8 W → Calls Try.prog 19 #[.agg #[.int .i64 p.to, .int .i64 p.frm, .bool p.resp, .int .i64 p.form, .int .i64 p.kind, .int .i64 p.ns, .int .i64 p.nr, .bool p.poll, .slice A p.info.length c], .agg #[.int .i64 q.to, .int .i64 q.frm, .bool q.resp, .int .i64 q.form, .int .i64 q.kind, .int .i64 q.ns, .int .i64 q.nr, .bool q.poll, .slice A' q.info.length c']] W fun e w' => e = .returned (.bool bq) ∧ Below w8.heap.size w8 w') :=
        cover (fun W hb => (ref_pduSame_any p q A A' c c' w.heap.size w.heap.size W (HR.out.below (H8.out.trans (hb.mono H8.out.size))) (HR'.out.below (H8.out.trans (hb.mono H8.out.size))) (Nat.le_trans H8.out.size hb.size) (Nat.le_trans H8.out.size hb.size) (by have := HMP.out.1.2.2.2.2; omega)).mono (by
          rintro e w' ⟨he, hb'⟩
          exact ⟨by rw [he, hbq.out], hb.trans (hb'.mono hb.size)⟩))
      have HS3 : Hid (∀ W, Below w8.heap.size w8 W → Calls Try.prog 21 #[.agg #[.int .i64 p.to, .int .i64 p.frm, .bool p.resp, .int .i64 p.form, .int .i64 p.kind, .int .i64 p.ns, .int .i64 p.nr, .bool p.poll, .slice A p.info.length c], .agg #[.int .i64 q.to, .int .i64 q.frm, .bool q.resp, .int .i64 q.form, .int .i64 q.kind, .int .i64 q.ns, .int .i64 q.nr, .bool q.poll, .slice A' q.info.length c']] W fun e w' => e = .returned (.bool bq) ∧ Below w8.heap.size w8 w') :=
        cover (fun W hb => (pduSame_any p q A A' c c' w.heap.size w.heap.size W (HR.out.below (H8.out.trans (hb.mono H8.out.size))) (HR'.out.below (H8.out.trans (hb.mono H8.out.size))) (Nat.le_trans H8.out.size hb.size) (Nat.le_trans H8.out.size hb.size) HB.out HB'.out).mono (by
          rintro e w' ⟨he, hb'⟩
          exact ⟨by rw [he, hbq.out], hb.trans (hb'.mono hb.size)⟩))
      have P := cover (pdu_cells G8.out)
      have Q := cover (pdu_cells K8.out)
      obtain ⟨p0, p1, p2, p3, p4, p5, p6, p7, p8⟩ := P.out
      obtain ⟨q0, q1, q2, q3, q4, q5, q6, q7, q8⟩ := Q.out
      have z1 : w.heap.size < w8.heap.size := by omega
      have z2 : w.heap.size + 1 < w8.heap.size := by omega
      go_upto_region 11 with fail
      go_region_held3 (fun w' => (World.cell? w' ⟨w.heap.size, 0, none⟩ = some (.int .i64 p.to) ∧ World.cell? w' ⟨w.heap.size, 1, none⟩ = some (.int .i64 p.frm) ∧ World.cell? w' ⟨w.heap.size, 2, none⟩ = some (.bool p.resp) ∧ World.cell? w' ⟨w.heap.size, 3, none⟩ = some (.int .i64 p.form) ∧ World.cell? w' ⟨w.heap.size, 4, none⟩ = some (.int .i64 p.kind) ∧ World.cell? w' ⟨w.heap.size, 5, none⟩ = some (.int .i64 p.ns) ∧ World.cell? w' ⟨w.heap.size, 6, none⟩ = some (.int .i64 p.nr) ∧ World.cell? w' ⟨w.heap.size, 7, none⟩ = some (.bool p.poll) ∧ World.cell? w' ⟨w.heap.size, 8, none⟩ = some (.slice A p.info.length c)) ∧ (World.cell? w' ⟨w.heap.size + 1, 0, none⟩ = some (.int .i64 q.to) ∧ World.cell? w' ⟨w.heap.size + 1, 1, none⟩ = some (.int .i64 q.frm) ∧ World.cell? w' ⟨w.heap.size + 1, 2, none⟩ = some (.bool q.resp) ∧ World.cell? w' ⟨w.heap.size + 1, 3, none⟩ = some (.int .i64 q.form) ∧ World.cell? w' ⟨w.heap.size + 1, 4, none⟩ = some (.int .i64 q.kind) ∧ World.cell? w' ⟨w.heap.size + 1, 5, none⟩ = some (.int .i64 q.ns) ∧ World.cell? w' ⟨w.heap.size + 1, 6, none⟩ = some (.int .i64 q.nr) ∧ World.cell? w' ⟨w.heap.size + 1, 7, none⟩ = some (.bool q.poll) ∧ World.cell? w' ⟨w.heap.size + 1, 8, none⟩ = some (.slice A' q.info.length c')) ∧ Below w8.heap.size w8 w')
        (first | exact ⟨P.out, Q.out, (Below.refl _ _).drew⟩ | exact ⟨nine_below P.out hbX z1, nine_below Q.out hbX z2, hbX⟩)
        (first
          | (go_at_call 18; refine (HS1.out _ ?_).mono ?_; (go_split_ands; assumption); rintro e w9 ⟨rfl, hbX⟩)
          | (go_at_call 19; refine (HS2.out _ ?_).mono ?_; (go_split_ands; assumption); rintro e w9 ⟨rfl, hbX⟩)
          | (go_at_call 21; refine (HS3.out _ ?_).mono ?_; (go_split_ands; assumption); rintro e w9 ⟨rfl, hbX⟩))
      have H9 := cover (H8.out.trans (hbX.mono H8.out.size))
      clear hbX p0 p1 p2 p3 p4 p5 p6 p7 p8 q0 q1 q2 q3 q4 q5 q6 q7 q8
      go_wp2_with fail
      refine (dec_any_u A1 l.length c1 w.heap.size l w9 (HR1.out.below H9.out) H9.out.size HB1.out (by omega)).mono ?_
      rintro e t1 ⟨B1, d1, rfl, ho5, hb5⟩
      obtain ⟨⟨d, er⟩, hd⟩ : ∃ d, Hid (decR l = d) := ⟨_, cover rfl⟩
      rw [hd.out] at ho5 ⊢
      have hz0 := H9.out.size
      have hz5 := hb5.size
      have T1 := cover (H9.out.trans (hb5.mono (by omega)))
      have TO1 := cover ho5
      clear hb5 ho5
      obtain ⟨t2, ht2⟩ : ∃ y, y = t1.alloc (.cells #[.int .i64 d.to, .int .i64 d.frm, .bool d.resp, .int .i64 d.form, .int .i64 d.kind, .int .i64 d.ns, .int .i64 d.nr, .bool d.poll, .slice B1 d.info.length d1] 25) := ⟨_, rfl⟩
      have hb6 : Below t1.heap.size t1 t2 := by rw [ht2]; exact (Below.refl _ _).alloc (Nat.le_refl _) _
      have hz6 : t1.heap.size < t2.heap.size := by rw [ht2]; simp
      have T2 := cover (T1.out.trans (hb6.mono (by omega)))
      have TD2 : Hid (t2.heap[t1.heap.size]? = some (.cells #[.int .i64 d.to, .int .i64 d.frm, .bool d.resp, .int .i64 d.form, .int .i64 d.kind, .int .i64 d.ns, .int .i64 d.nr, .bool d.poll, .slice B1 d.info.length d1] 25 (0, 0))) := cover (by rw [ht2]; exact heap_alloc_new _ _)
      have TO2 := cover (ownB_below TO1.out hb6)
      go_upto_region 14 with fail
      rw [← ht2]
      clear ht2 hb6
      by_cases her : er = 0
      · subst her
        have HED := cover (enc_dec HB1.out hd.out)
        have HBD := cover (dec_bts HB1.out hd.out)
        have HMD := encOu_yes (mayB_yes HED.out.1)
        obtain ⟨p0, p1, p2, p3, p4, p5, p6, p7, p8⟩ := pdu_cells TD2.out
        go_wp2_with fail
        clear p0 p1 p2 p3 p4 p5 p6 p7 p8
        refine (enc_any d B1 d1 t2.heap.size t2 TO2.out.row (Nat.le_refl _) (own_cap TO2.out) (own_nil_cap TO2.out) HBD.out).mono ?_
        rintro e t3 ⟨B3, d3, rfl, ho7, hb7⟩
        rw [HMD.1, HED.out.2] at ho7 ⊢
        rw [HMD.2]
        have T3 := cover (T2.out.trans (hb7.mono (by omega)))
        have TR3 := cover ho7.row
        have hz7 := hb7.size
        clear hb7 ho7 HMD
        go_wp2_with fail
        refine (same_any B3 A1 l.length d3 c1 t3.heap.size w.heap.size l l t3 TR3.out (HR1.out.below T3.out) (by omega)).mono ?_
        rintro e t4 ⟨rfl, dd, rfl⟩
        rw [decide_eq_true rfl]
        go_wp2
        go_ret
        exact ⟨rfl, below_drewN T3.out dd⟩
      · go_wp2
        go_ret
        exact ⟨rfl, T2.out⟩
end Go.Proofs.Ytohegiphdgihpaa
