/- MacLength, of all arguments. -/
import Derived.Test.YtbpmhfekjihhhaaWMacLen
import Derived.Test.YtbpmhfekjihhhaaMIn
namespace Go.Proofs.Ytbpmhfekjihhhaa
open Go.RowKit
set_option linter.unusedVariables false

set_option maxRecDepth 100000 in
theorem len_skip (t0 t1 t2 t3 t4 t5 f0 f1 f2 f3 f4 f5 : Int) (A : Option Addr) (n c : Nat) (N q x : Int) (w : World) (h : 1500 < n ∨ grp f0 = true) :
    Calls Try.prog 33 #[.agg #[.int .u8 t0, .int .u8 t1, .int .u8 t2, .int .u8 t3, .int .u8 t4, .int .u8 t5, .int .u8 f0, .int .u8 f1, .int .u8 f2, .int .u8 f3, .int .u8 f4, .int .u8 f5, .slice A n c], .int .u16 N, .int .u16 q, .int .u8 x] w fun e w' => e = .returned (.bool true) ∧ Below w.heap.size w w' := by
  obtain ⟨w2, hw2⟩ : ∃ w2, Hid (w2 = w.alloc (.cells #[.int .u8 t0, .int .u8 t1, .int .u8 t2, .int .u8 t3, .int .u8 t4, .int .u8 t5, .int .u8 f0, .int .u8 f1, .int .u8 f2, .int .u8 f3, .int .u8 f4, .int .u8 f5, .slice A n c] 36)) := ⟨_, cover rfl⟩
  have H2 : Hid (Below w.heap.size w w2) := cover (by rw [hw2.out]; exact (Below.refl _ _).alloc (Nat.le_refl _) _)
  have G2 : Hid (w2.heap[w.heap.size]? = some (.cells #[.int .u8 t0, .int .u8 t1, .int .u8 t2, .int .u8 t3, .int .u8 t4, .int .u8 t5, .int .u8 f0, .int .u8 f1, .int .u8 f2, .int .u8 f3, .int .u8 f4, .int .u8 f5, .slice A n c] 36 (0, 0))) := cover (by rw [hw2.out]; exact heap_alloc_new _ _)
  have hs2 : w.heap.size < w2.heap.size := block_lt G2.out
  by_cases h1 : 1500 < n
  · have i1 : (1500 : Int) < (n : Int) := by omega
    clear h
    go_enter Try.func33, Try.ntmps33
    go_wp2_with fail
    rw [← hw2.out]
    refine (awake_any w2).mono ?_
    rintro e w9 ⟨rfl, hb9⟩
    have H9 := cover (H2.out.trans (hb9.mono (by omega)))
    clear hb9
    go_wp2
    go_ret
    exact ⟨rfl, H9.out⟩
  · have i1 : ¬ ((1500 : Int) < (n : Int)) := by omega
    have hg : Hid (grp f0 = true) := cover (h.resolve_left h1)
    clear h
    go_enter Try.func33, Try.ntmps33
    go_wp2_with fail
    rw [← hw2.out]
    refine (group_any f0 f1 f2 f3 f4 f5 w2).mono ?_
    rintro e w4 ⟨he, hb4⟩
    rw [hg.out] at he
    subst he
    have hs4 := hb4.size
    have H4 := cover (H2.out.trans (hb4.mono (by omega)))
    clear hb4
    go_wp2_with fail
    refine (awake_any w4).mono ?_
    rintro e w9 ⟨rfl, hb9⟩
    have H9 := cover (H4.out.trans (hb9.mono (by omega)))
    clear hb9
    go_wp2
    go_ret
    exact ⟨rfl, H9.out⟩

theorem lengths_any (t0 t1 t2 t3 t4 t5 f0 f1 f2 f3 f4 f5 : Int) (A : Option Addr) (n c : Nat) (d : List Int) (N q x : Int) (w : World) (h1 : Bts [t0, t1, t2, t3, t4, t5]) (h2 : Bts [f0, f1, f2, f3, f4, f5]) (hc : n ≤ c) (hcm : c ≤ maxLen) (hr : Row w w.heap.size A n d) (hd : Bts d) (hnil : A = none → c = 0) (hN : 0 ≤ N ∧ N ≤ 65535) (hq : 0 ≤ q ∧ q ≤ 65535) (hx : 0 ≤ x ∧ x ≤ 255) :
    Calls Try.prog 33 #[.agg #[.int .u8 t0, .int .u8 t1, .int .u8 t2, .int .u8 t3, .int .u8 t4, .int .u8 t5, .int .u8 f0, .int .u8 f1, .int .u8 f2, .int .u8 f3, .int .u8 f4, .int .u8 f5, .slice A n c], .int .u16 N, .int .u16 q, .int .u8 x] w fun e w' => e = .returned (.bool true) ∧ Below w.heap.size w w' := by
  by_cases h : 1500 < n ∨ grp f0 = true
  · exact len_skip t0 t1 t2 t3 t4 t5 f0 f1 f2 f3 f4 f5 A n c N q x w h
  · have hn : n ≤ 1500 := by omega
    have hg : grp f0 = false := by
      cases hq : grp f0
      · rfl
      · exact absurd (.inr hq) h
    obtain ⟨N, rfl⟩ : ∃ k : Nat, (k : Int) = N := ⟨N.toNat, by omega⟩
    obtain ⟨q, rfl⟩ : ∃ k : Nat, (k : Int) = q := ⟨q.toNat, by omega⟩
    exact len_in t0 t1 t2 t3 t4 t5 f0 f1 f2 f3 f4 f5 A n c d _ N q x w _ h1 h2 hc hcm (hr.alloc (Nat.le_refl _) _) hd hnil hn (cover hg) (cover (sealOf h1 h2 hd)) (by omega) (by omega) hx (cover rfl)

set_option maxRecDepth 100000 in
theorem walk_MacLength (t0 t1 t2 t3 t4 t5 f0 f1 f2 f3 f4 f5 : Int) (A : Option Addr) (n c : Nat) (d : List Int) (N y0 y1 : Int) (w : World) (h1 : Bts [t0, t1, t2, t3, t4, t5]) (h2 : Bts [f0, f1, f2, f3, f4, f5]) (hc : n ≤ c) (hcm : c ≤ maxLen) (hr : Row w w.heap.size A n d) (hd : Bts d) (hnil : A = none → c = 0) (wN : (Lit.int .u16 N).wf = true) (hy : Bts [y0, y1]) :
    Calls Try.prog 11 #[.agg #[.int .u8 t0, .int .u8 t1, .int .u8 t2, .int .u8 t3, .int .u8 t4, .int .u8 t5, .int .u8 f0, .int .u8 f1, .int .u8 f2, .int .u8 f3, .int .u8 f4, .int .u8 f5, .slice A n c], .int .u16 N, .agg #[.int .u8 y0, .int .u8 y1]] w fun e w' => e = .returned (.bool true) ∧ Below w.heap.size w w' := by
  have hN : 0 ≤ N ∧ N ≤ 65535 := by
    simp only [Lit.wf, Bool.and_eq_true, decide_eq_true_eq] at wN
    have e1 : IntKind.u16.min = 0 := by decide
    have e2 : IntKind.u16.max = 65535 := by decide
    omega
  obtain ⟨a0, a1⟩ := hy y0 (by simp)
  obtain ⟨b0, b1⟩ := hy y1 (by simp)
  have HH := cover (And.intro h1 (And.intro h2 (And.intro hd (And.intro hnil hN))))
  have HR := cover hr
  obtain ⟨w2, hw2⟩ : ∃ w2, Hid (w2 = (w.alloc (.cells #[.int .u8 t0, .int .u8 t1, .int .u8 t2, .int .u8 t3, .int .u8 t4, .int .u8 t5, .int .u8 f0, .int .u8 f1, .int .u8 f2, .int .u8 f3, .int .u8 f4, .int .u8 f5, .slice A n c] 36)).alloc (.cells #[.int .u8 y0, .int .u8 y1] 61)) := ⟨_, cover rfl⟩
  have H2 : Hid (Below w.heap.size w w2) := cover (by rw [hw2.out]; exact ((Below.refl _ _).alloc (Nat.le_refl _) _).alloc (by simp) _)
  have G2 : Hid (w2.heap[w.heap.size]? = some (.cells #[.int .u8 t0, .int .u8 t1, .int .u8 t2, .int .u8 t3, .int .u8 t4, .int .u8 t5, .int .u8 f0, .int .u8 f1, .int .u8 f2, .int .u8 f3, .int .u8 f4, .int .u8 f5, .slice A n c] 36 (0, 0))) := cover (by
    rw [hw2.out]
    have hb : Below (w.heap.size + 1) (w.alloc (.cells #[.int .u8 t0, .int .u8 t1, .int .u8 t2, .int .u8 t3, .int .u8 t4, .int .u8 t5, .int .u8 f0, .int .u8 f1, .int .u8 f2, .int .u8 f3, .int .u8 f4, .int .u8 f5, .slice A n c] 36)) ((w.alloc (.cells #[.int .u8 t0, .int .u8 t1, .int .u8 t2, .int .u8 t3, .int .u8 t4, .int .u8 t5, .int .u8 f0, .int .u8 f1, .int .u8 f2, .int .u8 f3, .int .u8 f4, .int .u8 f5, .slice A n c] 36)).alloc (.cells #[.int .u8 y0, .int .u8 y1] 61)) := (Below.refl _ _).alloc (by simp) _
    exact (hb.block w.heap.size (by omega)).trans (heap_alloc_new _ _))
  have E2 : Hid (w2.heap[w.heap.size + 1]? = some (.cells #[.int .u8 y0, .int .u8 y1] 61 (0, 0))) := cover (by
    rw [hw2.out]
    have h := heap_alloc_new (w.alloc (.cells #[.int .u8 t0, .int .u8 t1, .int .u8 t2, .int .u8 t3, .int .u8 t4, .int .u8 t5, .int .u8 f0, .int .u8 f1, .int .u8 f2, .int .u8 f3, .int .u8 f4, .int .u8 f5, .slice A n c] 36)) (.cells #[.int .u8 y0, .int .u8 y1] 61 (0, 0))
    simpa using h)
  have hs2 : w.heap.size + 1 < w2.heap.size := block_lt E2.out
  clear hr h1 h2 hd hnil hy wN hN
  go_enter Try.func11, Try.ntmps11
  go_wp2_with fail
  rw [← hw2.out]
  refine (awake_any w2).mono ?_
  rintro e w3 ⟨rfl, hb3⟩
  have hs3 := hb3.size
  have H3 := cover (H2.out.trans (hb3.mono (by omega)))
  have G3 := cover ((hb3.block w.heap.size (by omega)).trans G2.out)
  have E3 := cover ((hb3.block (w.heap.size + 1) hs2).trans E2.out)
  have k0 : w3.cell? ⟨w.heap.size + 1, 0, none⟩ = some (.int .u8 y0) := by rw [cell_of_row _ _ 0 _ _ (0, 0) E3.out]; rfl
  have k1 : w3.cell? ⟨w.heap.size + 1, 1, none⟩ = some (.int .u8 y1) := by rw [cell_of_row _ _ 1 _ _ (0, 0) E3.out]; rfl
  have R3 := cover (HR.out.below (H3.out))
  clear hb3
  go_wp2_with (refine wpList_load_row rfl _ _ rfl w.heap.size rfl 36 #[.int .u8 t0, .int .u8 t1, .int .u8 t2, .int .u8 t3, .int .u8 t4, .int .u8 t5, .int .u8 f0, .int .u8 f1, .int .u8 f2, .int .u8 f3, .int .u8 f4, .int .u8 f5, .slice A n c] (0, 0) _ G3.out Try.underlying36 rfl frm_size ?_)
  refine (lengths_any t0 t1 t2 t3 t4 t5 f0 f1 f2 f3 f4 f5 A n c d N y0 y1 w3 HH.out.1 HH.out.2.1 hc hcm (R3.out.more (by omega)) HH.out.2.2.1 HH.out.2.2.2.1 HH.out.2.2.2.2 (by omega) (by omega)).mono ?_
  rintro e w4 ⟨rfl, hb4⟩
  have H4 := cover (H3.out.trans (hb4.mono (by omega)))
  clear hb4
  go_wp2
  go_ret
  exact ⟨rfl, H4.out⟩

section
variable {H : Type} {enc : TypeId × Value → H} {P : Program} {w : World} {base : Nat} {spare : Nat → Bool} {held : Bool}
theorem trod_array2 {t e : TypeId} {fuel : Nat} {c0 c1 : Value} {x : DataW H × List MemPlace} (ht : P.underlying t = some (.array 2 e)) (hce : P.cellsOf e = 1)
    (h : DataW.trod enc P w base spare held fuel t [c0, c1] = some x) :
    ∃ y0 y1 n, DataW.trod enc P w base spare held n e [c0] = some y0 ∧ DataW.trod enc P w base spare held n e [c1] = some y1 := by
  cases fuel with
  | zero => simp [DataW.trod] at h
  | succ n =>
    unfold DataW.trod at h
    rw [ht] at h
    have r2 : List.range 2 = [0, 1] := rfl
    simp [r2, hce] at h
    obtain ⟨_, h⟩ := h
    cases h0 : DataW.trod enc P w base spare held n e [c0] with
    | none => simp [h0] at h
    | some y0 =>
      cases h1 : DataW.trod enc P w base spare held n e [c1] with
      | none => simp [h0, h1] at h
      | some y1 => exact ⟨y0, y1, n, h0, h1⟩
end
section
variable {H : Type} {enc : TypeId × Value → H} {W : World} {r : Reach} {base : Nat} {v : Value} {d : DataW H} {p : List MemPlace}
open Go.ChangeShapes Go.WideShapes Go.ChangeAt in
theorem pair_in (hv : Value.okWide Try.prog W r base 61 v) (h : DataW.Trod enc Try.prog W 0 (fun _ => true) true 61 v d p) :
    ∃ y0 y1 : Int, v = .agg #[.int .u8 y0, .int .u8 y1] ∧ Bts [y0, y1] := by
  obtain ⟨cs, rfl, hsz⟩ := okWide_array Try.underlying61 hv
  obtain ⟨fuel, hf⟩ := h
  have h2 : Try.prog.cellsOf 61 = 2 := by kernel_rfl
  obtain ⟨l⟩ := cs
  have hl : l.length = 2 := hsz.trans h2
  match l, hl with
  | [c0, c1], _ =>
    obtain ⟨x0, x1, n, g0, g1⟩ := trod_array2 Try.underlying61 (by kernel_rfl) hf
    obtain ⟨a0, e0, _, w0⟩ := DataW.trod_int Try.underlying5 g0
    obtain ⟨a1, e1, _, w1⟩ := DataW.trod_int Try.underlying5 g1
    injection e0 with e0; injection e1 with e1
    subst e0 e1
    refine ⟨a0, a1, rfl, ?_⟩
    intro y hy
    simp at hy
    rcases hy with rfl | rfl
    · exact byte_wf w0
    · exact byte_wf w1
end
end Go.Proofs.Ytbpmhfekjihhhaa
