/- What isNumbered, May and Code answer. -/
import Derived.Test.YtbhdncbnjlgigaaUAllow
import Derived.Test.YtbhdncbnjlgigaaURMay
namespace Go.Proofs.Ytbhdncbnjlgigaa
open Go.RowKit
set_option linter.unusedVariables false
set_option linter.unusedSimpArgs false

/-- are its numbers those of its format? -/
def numU (p : PV) : Bool := inB p.ns 0 (if p.form = 2 ∨ p.form = 1 then 0 else 127) && inB p.nr 0 (if p.form = 2 then 0 else 127)

set_option maxHeartbeats 800000 in
theorem isNumbered_any (p : PV) (A : Option Addr) (c : Nat) (w : World) :
    Calls Try.prog 35 #[.agg #[.int .i64 p.to, .int .i64 p.frm, .bool p.resp, .int .i64 p.form, .int .i64 p.kind, .int .i64 p.ns, .int .i64 p.nr, .bool p.poll, .slice A p.info.length c]] w fun e w' => e = .returned (.bool (numU p)) ∧ Below w.heap.size w w' := by
  have H1 : Hid (Below w.heap.size w (w.alloc (.cells #[.int .i64 p.to, .int .i64 p.frm, .bool p.resp, .int .i64 p.form, .int .i64 p.kind, .int .i64 p.ns, .int .i64 p.nr, .bool p.poll, .slice A p.info.length c] 30))) := cover ((Below.refl _ _).alloc (Nat.le_refl _) _)
  by_cases f2 : p.form = 2
  · have HN : Hid (numU p = (inB p.ns 0 0 && inB p.nr 0 0)) := cover (by unfold numU; rw [f2]; rfl)
    rw [f2] at H1
    go_enter Try.func35, Try.ntmps35
    go_wp2_with fail
    refine (isWithin_any _ _ _ _).mono ?_
    rintro e w' ⟨rfl, rfl⟩
    rcases hb : inB p.ns 0 0 with _ | _
    · have HB := cover hb
      clear hb
      go_wp2
      go_ret
      exact ⟨ret_bool (by rw [HN.out, HB.out]; rfl), H1.out⟩
    · have HB := cover hb
      clear hb
      go_wp2_with fail
      refine (isWithin_any _ _ _ _).mono ?_
      rintro e w' ⟨rfl, rfl⟩
      go_wp2
      go_ret
      exact ⟨ret_bool (by rw [HN.out, HB.out]; rfl), H1.out⟩
  · by_cases f1 : p.form = 1
    · have HN : Hid (numU p = (inB p.ns 0 0 && inB p.nr 0 127)) := cover (by unfold numU; rw [f1]; rfl)
      rw [f1] at H1
      go_enter Try.func35, Try.ntmps35
      go_wp2_with fail
      refine (isWithin_any _ _ _ _).mono ?_
      rintro e w' ⟨rfl, rfl⟩
      rcases hb : inB p.ns 0 0 with _ | _
      · have HB := cover hb
        clear hb
        go_wp2
        go_ret
        exact ⟨ret_bool (by rw [HN.out, HB.out]; rfl), H1.out⟩
      · have HB := cover hb
        clear hb
        go_wp2_with fail
        refine (isWithin_any _ _ _ _).mono ?_
        rintro e w' ⟨rfl, rfl⟩
        go_wp2
        go_ret
        exact ⟨ret_bool (by rw [HN.out, HB.out]; rfl), H1.out⟩
    · have HN : Hid (numU p = (inB p.ns 0 127 && inB p.nr 0 127)) := cover (by unfold numU; rw [if_neg (by omega), if_neg f2])
      go_enter Try.func35, Try.ntmps35
      go_wp2_with fail
      refine (isWithin_any _ _ _ _).mono ?_
      rintro e w' ⟨rfl, rfl⟩
      rcases hb : inB p.ns 0 127 with _ | _
      · have HB := cover hb
        clear hb
        go_wp2
        go_ret
        exact ⟨ret_bool (by rw [HN.out, HB.out]; rfl), H1.out⟩
      · have HB := cover hb
        clear hb
        go_wp2_with fail
        refine (isWithin_any _ _ _ _).mono ?_
        rintro e w' ⟨rfl, rfl⟩
        go_wp2
        go_ret
        exact ⟨ret_bool (by rw [HN.out, HB.out]; rfl), H1.out⟩

theorem rowOf_far {f k : Int} (h : k < 0 ∨ 10 ≤ k) : (rowOf f k).2 = false := by
  unfold rowOf
  by_cases h0 : k < 0
  · rw [if_pos h0]
  · rw [if_neg h0]
    have := rowsF_le f
    rw [List.getElem?_eq_none (by omega)]
theorem rowOf_none {f k : Int} (h0 : f ≠ 0) (h1 : f ≠ 1) (h2 : f ≠ 2) : (rowOf f k).2 = false := by
  unfold rowOf rowsF
  rw [if_neg h0, if_neg h1, if_neg h2]
  split <;> rfl
theorem bool_iff {a b : Bool} (h : a = true ↔ b = true) : a = b := by cases a <;> cases b <;> simp_all
theorem may_row {p : PV} {r : RV} (hr : rowOf p.form p.kind = (r, true)) (h : (allowB r p && numU p) = true ↔ MayP p) : ((rowOf p.form p.kind).2 && allowB (rowOf p.form p.kind).1 p && numU p) = mayB p := by
  rw [hr]; exact bool_iff (by rw [mayB_iff, ← h]; simp)
theorem may_is (p : PV) : ((rowOf p.form p.kind).2 && allowB (rowOf p.form p.kind).1 p && numU p) = mayB p := by
  have bad : (rowOf p.form p.kind).2 = false → ¬ MayP p → ((rowOf p.form p.kind).2 && allowB (rowOf p.form p.kind).1 p && numU p) = mayB p := fun h1 h2 => by
    rw [h1, mayB_no h2]; rfl
  by_cases hk : p.kind < 0 ∨ 10 ≤ p.kind
  · refine bad (rowOf_far hk) fun h => ?_
    have := h.fits.2
    omega
  · obtain ⟨k, hk'⟩ : ∃ k : Nat, p.kind = (k : Int) := ⟨p.kind.toNat, by omega⟩
    have hk10 : k < 10 := by omega
    have allow : ∀ r : RV, ((allowB r p && numU p) = true ↔ ((if p.resp then r.rsp else r.cmd) = true ∧ (0 ≤ p.to ∧ p.to ≤ 255) ∧ (r.grp = true ∨ p.to % 2 = 0) ∧ (0 ≤ p.frm ∧ p.frm ≤ 255) ∧ p.frm % 2 = 0 ∧ (r.least ≤ p.info.length ∧ (p.info.length : Int) ≤ r.most) ∧ (0 ≤ p.ns ∧ p.ns ≤ (if p.form = 2 ∨ p.form = 1 then 0 else 127)) ∧ (0 ≤ p.nr ∧ p.nr ≤ (if p.form = 2 then 0 else 127)))) := fun r => by
      simp only [allowB, numU, roleB, toB, fromB, Bool.and_eq_true, Bool.or_eq_true, inB_iff, decide_eq_true_eq]
      constructor
      · rintro ⟨⟨⟨⟨a, b, c⟩, d, e⟩, f⟩, g, h⟩; exact ⟨a, b, c, d, e, f, g, h⟩
      · rintro ⟨a, b, c, d, e, f, g, h⟩; exact ⟨⟨⟨⟨a, b, c⟩, d, e⟩, f⟩, g, h⟩
    by_cases f0 : p.form = 0
    · by_cases k0 : k = 0
      · subst k0
        refine may_row (r := ⟨0, true, true, false, 0, 1040⟩) (by rw [f0, hk']; rfl) ((allow _).trans ?_)
        rw [show (if p.form = 2 ∨ p.form = 1 then (0 : Int) else 127) = 127 by rw [if_neg (by omega)], show (if p.form = 2 then (0 : Int) else 127) = 127 by rw [if_neg (by omega)]]
        simp only [MayP, MayN, MayF, f0, hk', ite_self]
        simp
        omega
      · refine bad (by unfold rowOf rowsF; rw [if_neg (by omega), if_pos f0, hk', Int.toNat_natCast, List.getElem?_eq_none (by simp [rowsI]; omega)]) fun h => ?_
        have := h.fits.2
        omega
    · by_cases f1 : p.form = 1
      · by_cases k0 : k < 3
        · obtain ⟨r, hr, hrr⟩ : ∃ r : RV, rowOf p.form p.kind = (r, true) ∧ r = ⟨r.code, true, true, false, 0, 0⟩ := by
            rw [f1, hk']
            match k, k0 with
            | 0, _ | 1, _ | 2, _ => exact ⟨_, rfl, rfl⟩
          refine may_row hr ((allow _).trans ?_)
          rw [show (if p.form = 2 ∨ p.form = 1 then (0 : Int) else 127) = 0 by rw [if_pos (.inr f1)], show (if p.form = 2 then (0 : Int) else 127) = 127 by rw [if_neg (by omega)], hrr]
          simp only [MayP, MayN, MayF, f1, hk', ite_self]
          generalize p.info.length = n
          simp
          omega
        · refine bad (by unfold rowOf rowsF; rw [if_neg (by omega), if_neg f0, if_pos f1, hk', Int.toNat_natCast, List.getElem?_eq_none (by simp [rowsS]; omega)]) fun h => ?_
          have := h.fits.2
          omega
      · by_cases f2 : p.form = 2
        · have main : ∀ r : RV, rowOf p.form p.kind = (r, true) → (((if p.resp then r.rsp else r.cmd) = true ∧ (r.grp = true ∨ p.to % 2 = 0) ∧ (r.least ≤ p.info.length ∧ (p.info.length : Int) ≤ r.most)) ↔ (MayU p ∧ p.info.length ≤ 1040)) → ((rowOf p.form p.kind).2 && allowB (rowOf p.form p.kind).1 p && numU p) = mayB p := by
            intro r hr hu
            refine may_row hr ((allow _).trans ?_)
            rw [show (if p.form = 2 ∨ p.form = 1 then (0 : Int) else 127) = 0 by rw [if_pos (.inl f2)], show (if p.form = 2 then (0 : Int) else 127) = 0 by rw [if_pos f2]]
            simp only [MayP, MayN, MayF]
            constructor
            · rintro ⟨a, b, c, d, e, f, g, h⟩
              obtain ⟨u1, u2⟩ := hu.1 ⟨a, c, f⟩
              exact ⟨⟨b, ⟨by omega, by omega, e⟩, by omega, by omega, u2⟩, .inr (.inr ⟨f2, by omega, by omega, u1⟩)⟩
            · rintro ⟨⟨b, ⟨d1, d2, e⟩, g, h, u2⟩, hf⟩
              rcases hf with hf | hf | ⟨_, n1, n2, u1⟩
              · exact absurd hf.1 f0
              · exact absurd hf.1 f1
              · obtain ⟨a, c, f⟩ := hu.2 ⟨u1, u2⟩
                exact ⟨a, b, c, ⟨by omega, by omega⟩, e, f, by omega, by omega⟩
          match k, hk10 with
          | 0, _ => exact main ⟨3, true, false, true, 0, 1040⟩ (by rw [f2, hk']; rfl) (by simp only [MayU, hk']; cases p.resp <;> simp <;> omega)
          | 1, _ => exact main ⟨175, true, true, true, 0, 1040⟩ (by rw [f2, hk']; rfl) (by simp only [MayU, hk']; cases p.resp <;> simp <;> omega)
          | 2, _ => exact main ⟨227, true, true, true, 0, 1040⟩ (by rw [f2, hk']; rfl) (by simp only [MayU, hk']; cases p.resp <;> simp <;> omega)
          | 3, _ => exact main ⟨111, true, false, false, 4, 4⟩ (by rw [f2, hk']; rfl) (by simp only [MayU, hk']; cases p.resp <;> simp <;> omega)
          | 4, _ => exact main ⟨67, true, false, false, 4, 4⟩ (by rw [f2, hk']; rfl) (by simp only [MayU, hk']; cases p.resp <;> simp <;> omega)
          | 5, _ => exact main ⟨99, false, true, false, 4, 4⟩ (by rw [f2, hk']; rfl) (by simp only [MayU, hk']; cases p.resp <;> simp <;> omega)
          | 6, _ => exact main ⟨15, false, true, false, 4, 4⟩ (by rw [f2, hk']; rfl) (by simp only [MayU, hk']; cases p.resp <;> simp <;> omega)
          | 7, _ => exact main ⟨135, false, true, false, 5, 5⟩ (by rw [f2, hk']; rfl) (by simp only [MayU, hk']; cases p.resp <;> simp <;> omega)
          | 8, _ => exact main ⟨103, true, true, false, 0, 1040⟩ (by rw [f2, hk']; rfl) (by simp only [MayU, hk']; cases p.resp <;> simp <;> omega)
          | 9, _ => exact main ⟨231, true, true, false, 0, 1040⟩ (by rw [f2, hk']; rfl) (by simp only [MayU, hk']; cases p.resp <;> simp <;> omega)
        · refine bad (rowOf_none f0 f1 f2) fun h => ?_
          have := h.fits.2
          omega
theorem code_is (k : Int) : (rowOf 2 k).1.code = codeI k := by
  by_cases hk : k < 0 ∨ 10 ≤ k
  · have e : rowOf 2 k = (zRV, false) := by
      unfold rowOf
      by_cases h0 : k < 0
      · rw [if_pos h0]
      · rw [if_neg h0, List.getElem?_eq_none (by have := rowsF_le 2; omega)]
    rw [e]
    unfold codeI
    rw [if_neg (by omega), if_neg (by omega), if_neg (by omega), if_neg (by omega), if_neg (by omega), if_neg (by omega), if_neg (by omega), if_neg (by omega), if_neg (by omega), if_neg (by omega)]
    rfl
  · obtain ⟨n, rfl⟩ : ∃ n : Nat, k = (n : Int) := ⟨k.toNat, by omega⟩
    have hn : n < 10 := by omega
    match n, hn with
    | 0, _ | 1, _ | 2, _ | 3, _ | 4, _ | 5, _ | 6, _ | 7, _ | 8, _ | 9, _ => rfl

set_option maxHeartbeats 800000 in
theorem may_any (p : PV) (A : Option Addr) (c : Nat) (w : World) :
    Calls Try.prog 29 #[.agg #[.int .i64 p.to, .int .i64 p.frm, .bool p.resp, .int .i64 p.form, .int .i64 p.kind, .int .i64 p.ns, .int .i64 p.nr, .bool p.poll, .slice A p.info.length c]] w fun e w' => e = .returned (.bool (mayB p)) ∧ Below w.heap.size w w' := by
  obtain ⟨w1, hw1⟩ : ∃ w1, Hid (w1 = w.alloc (.cells #[.int .i64 p.to, .int .i64 p.frm, .bool p.resp, .int .i64 p.form, .int .i64 p.kind, .int .i64 p.ns, .int .i64 p.nr, .bool p.poll, .slice A p.info.length c] 30)) := ⟨_, cover rfl⟩
  have H1 : Hid (Below w.heap.size w w1) := cover (by rw [hw1.out]; exact (Below.refl _ _).alloc (Nat.le_refl _) _)
  have hs1 : w.heap.size < w1.heap.size := by rw [hw1.out]; simp
  have G1 : Hid (w1.heap[w.heap.size]? = some (.cells #[.int .i64 p.to, .int .i64 p.frm, .bool p.resp, .int .i64 p.form, .int .i64 p.kind, .int .i64 p.ns, .int .i64 p.nr, .bool p.poll, .slice A p.info.length c] 30 (0, 0))) := cover (by rw [hw1.out]; exact heap_alloc_new _ _)
  have HM := cover (may_is p)
  obtain ⟨R, hR⟩ : ∃ R, Hid (rowOf p.form p.kind = R) := ⟨_, cover rfl⟩
  obtain ⟨r, b⟩ := R
  rw [hR.out] at HM
  go_enter Try.func29, Try.ntmps29
  go_wp2_with fail
  rw [← hw1.out]
  refine (ruleOf_any p.form p.kind w1).mono ?_
  rw [hR.out]
  rintro e w2 ⟨rfl, hb2⟩
  have hs2 := hb2.size
  have G2 := cover ((hb2.block w.heap.size (by omega)).trans G1.out)
  have H2 := cover (H1.out.trans (hb2.mono (by omega)))
  clear hb2
  obtain ⟨w3, hw3⟩ : ∃ w3, Hid (w3 = (w2.alloc (.cells zr 57)).setRow w2.heap.size #[.int .i64 r.code, .bool r.cmd, .bool r.rsp, .bool r.grp, .int .i64 r.least, .int .i64 r.most]) := ⟨_, cover rfl⟩
  have G3 : Hid (w3.heap[w2.heap.size]? = some (.cells #[.int .i64 r.code, .bool r.cmd, .bool r.rsp, .bool r.grp, .int .i64 r.least, .int .i64 r.most] 57 (0, 0))) := cover (by rw [hw3.out]; exact setRow_heap _ _ _ _ _ _ (heap_alloc_new _ _))
  have hb3 : Below w2.heap.size w2 w3 := by rw [hw3.out]; exact Go.below_setRow ((Below.refl _ _).alloc (Nat.le_refl _) _) (Nat.le_refl _) _
  have hs3 := hb3.size
  have G3p := cover ((hb3.block w.heap.size (by omega)).trans G2.out)
  have H3 := cover (H2.out.trans (hb3.mono (by omega)))
  clear hb3
  rcases b with _ | _
  · go_wp2_with (first
      | (refine wpList_store_row rfl _ _ _ rfl w2.heap.size #[.int .i64 r.code, .bool r.cmd, .bool r.rsp, .bool r.grp, .int .i64 r.least, .int .i64 r.most] rfl rfl 57 zr (heap_alloc_new _ _) rule_size rfl (rule_one _ _ _ _ _ _) ?_; rw [← hw3.out]))
    go_ret
    exact ⟨ret_bool (by rw [← HM.out]; rfl), H3.out⟩
  · obtain ⟨c0, c1, c2, c3, c4, c5⟩ := rule_cells G3.out
    obtain ⟨p0, p1, p2, p3, p4, p5, p6, p7, p8⟩ := pdu_cells G3p.out
    go_wp2_with (first
      | (refine wpList_store_row rfl _ _ _ rfl w2.heap.size #[.int .i64 r.code, .bool r.cmd, .bool r.rsp, .bool r.grp, .int .i64 r.least, .int .i64 r.most] rfl rfl 57 zr (heap_alloc_new _ _) rule_size rfl (rule_one _ _ _ _ _ _) ?_; rw [← hw3.out]))
    refine (allows_any r p A c w3).mono ?_
    rintro e w4 ⟨rfl, hb4⟩
    have hs4 := hb4.size
    have G4p := cover ((hb4.block w.heap.size (by omega)).trans G3p.out)
    have H4 := cover (H3.out.trans (hb4.mono (by omega)))
    clear hb4 c0 c1 c2 c3 c4 c5 p0 p1 p2 p3 p4 p5 p6 p7 p8
    obtain ⟨p0, p1, p2, p3, p4, p5, p6, p7, p8⟩ := pdu_cells G4p.out
    rcases hal : allowB r p with _ | _
    · rw [hal] at HM
      clear hal
      go_wp2
      go_ret
      exact ⟨ret_bool (by rw [← HM.out]; rfl), H4.out⟩
    · rw [hal] at HM
      clear hal
      go_wp2_with fail
      refine (isNumbered_any p A c w4).mono ?_
      rintro e w5 ⟨rfl, hb5⟩
      have H5 := cover (H4.out.trans (hb5.mono (by omega)))
      clear hb5
      go_wp2
      go_ret
      exact ⟨ret_bool (by rw [← HM.out]; rfl), H5.out⟩
end Go.Proofs.Ytbhdncbnjlgigaa
