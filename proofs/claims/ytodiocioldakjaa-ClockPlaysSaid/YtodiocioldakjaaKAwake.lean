/- The law's own first question: a timer ends. -/
import Derived.Test.YtodiocioldakjaaKIHas
namespace Go.Proofs.Ytodiocioldakjaa
open Go.RowKit
set_option linter.unusedVariables false

theorem u8_wf {x : Int} (h : (Lit.int .u8 x).wf = true) : 0 ≤ x ∧ x ≤ 255 := by
  simp only [Lit.wf, Bool.and_eq_true, decide_eq_true_eq] at h
  exact h
theorem u16_wf {x : Int} (h : (Lit.int .u16 x).wf = true) : 0 ≤ x ∧ x ≤ 65535 := by
  simp only [Lit.wf, Bool.and_eq_true, decide_eq_true_eq] at h
  exact h
/-- the cells of an own row whose items are of one cell -/
theorem own_cell {w : World} {base e n : Nat} {A : Option Addr} {cp : Nat} {xs : List Value} (h : w.ownsRow base e 1 (.slice A n cp) n xs) {j : Nat} {x : Value} (hx : xs[j]? = some x) : ∃ g, A = some ⟨g, 0, none⟩ ∧ g < w.heap.size ∧ base ≤ g ∧ w.cell? ⟨g, j, none⟩ = some x := by
  have hl := (List.getElem?_eq_some_iff.1 hx).1
  rw [h.1] at hl
  rcases h.2 with ⟨_, h0⟩ | ⟨g, c, cur, hv, hb, hh, _⟩
  · omega
  · injection hv with hv
    subst hv
    exact ⟨g, rfl, block_lt hh, hb, by rw [World.ownsRow.cellAt h j (by omega)]; exact hx⟩
set_option maxRecDepth 100000 in
set_option maxHeartbeats 1600000 in
theorem awake_any (w : World) : Calls Try.prog 9 #[] w fun e w' => e = .returned (.bool true) ∧ Below w.heap.size w w' := by
  obtain ⟨B, hB⟩ : ∃ B, B = w.heap.size := ⟨_, rfl⟩
  rw [← hB]
  have hBw : B ≤ w.heap.size := by omega
  clear hB
  go_enter Try.func9, Try.ntmps9
  go_wp2_with fail
  refine (newI_has 2 (by decide) hBw).mono ?_
  rintro e w1 ⟨c, rfl, H1⟩
  go_wp2_with fail
  refine (startI_has H1.out.1 7 2).mono ?_
  rintro e w2 ⟨rfl, H2⟩
  have e2 : startB (2 : Int).toNat ([] : List (Int × Int)) 7 2 10000 = true := by decide
  rw [e2] at H2 ⊢
  have H3 : Hid (CIHas B w2 c 2 0 [(7, 2)] ∧ Below B w1 w2) := H2
  clear H2
  go_wp2_with fail
  refine (tickI_has H3.out.1 (by decide)).mono ?_
  rintro e w3 ⟨A3, c3, rfl, H4⟩
  have H5 : Hid (CIHas B w3 c 2 1 [(7, 1)] ∧ Below B w2 w3) := cover H4.out.2
  clear H4
  go_wp2_with fail
  refine (tickI_has H5.out.1 (by decide)).mono ?_
  rintro e w4 ⟨A4, c4, rfl, H6⟩
  have H7 : Hid (CIHas B w4 c 2 2 [] ∧ Below B w3 w4) := cover H6.out.2
  obtain ⟨g, rfl, _, _, hc⟩ := own_cell (j := 0) (x := .int .i64 7) H6.out.1 rfl
  have e3 : (toldK [((7 : Int), (2 : Int))]).length = 0 := by decide
  have e4 : (toldK [((7 : Int), (1 : Int))]).length = 1 := by decide
  rw [e3, e4]
  have HB := cover (H1.out.2.trans (H3.out.2.trans (H5.out.2.trans H7.out.2)))
  have HN := cover (nowI_has H7.out.1)
  clear H1 H3 H5 H6 e2 e3 e4
  go_wp2_with (go_at_call 24; refine HN.out.mono ?_; rintro e w' ⟨rfl, rfl⟩)
  go_ret
  exact ⟨rfl, HB.out⟩
end Go.Proofs.Ytodiocioldakjaa
