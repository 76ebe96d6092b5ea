/- How addresses and frames come in. -/
import Derived.Deep.Slices
import Derived.Test.YtbpmhfekjihhhaaORowsIn
import Derived.Test.YtbpmhfekjihhhaaMTake
import Derived.Test.YtbpmhfekjihhhaaMFrm
namespace Go.Proofs.Ytbpmhfekjihhhaa
open Go.RowKit
set_option linter.unusedVariables false

section
variable {H : Type} {enc : TypeId × Value → H} {P : Program} {w : World} {base : Nat} {spare : Nat → Bool} {held : Bool}
theorem trod_array6 {t e : TypeId} {fuel : Nat} {c0 c1 c2 c3 c4 c5 : Value} {x : DataW H × List MemPlace} (ht : P.underlying t = some (.array 6 e)) (hce : P.cellsOf e = 1)
    (h : DataW.trod enc P w base spare held fuel t [c0, c1, c2, c3, c4, c5] = some x) :
    ∃ y0 y1 y2 y3 y4 y5 n, DataW.trod enc P w base spare held n e [c0] = some y0 ∧ DataW.trod enc P w base spare held n e [c1] = some y1 ∧ DataW.trod enc P w base spare held n e [c2] = some y2 ∧ DataW.trod enc P w base spare held n e [c3] = some y3 ∧ DataW.trod enc P w base spare held n e [c4] = some y4 ∧ DataW.trod enc P w base spare held n e [c5] = some y5 := by
  cases fuel with
  | zero => simp [DataW.trod] at h
  | succ n =>
    unfold DataW.trod at h
    rw [ht] at h
    have r6 : List.range 6 = [0, 1, 2, 3, 4, 5] := rfl
    simp [r6, hce] at h
    obtain ⟨_, h⟩ := h
    cases h0 : DataW.trod enc P w base spare held n e [c0] with
    | none => simp [h0] at h
    | some y0 =>
      cases h1 : DataW.trod enc P w base spare held n e [c1] with
      | none => simp [h0, h1] at h
      | some y1 =>
        cases h2 : DataW.trod enc P w base spare held n e [c2] with
        | none => simp [h0, h1, h2] at h
        | some y2 =>
          cases h3 : DataW.trod enc P w base spare held n e [c3] with
          | none => simp [h0, h1, h2, h3] at h
          | some y3 =>
            cases h4 : DataW.trod enc P w base spare held n e [c4] with
            | none => simp [h0, h1, h2, h3, h4] at h
            | some y4 =>
              cases h5 : DataW.trod enc P w base spare held n e [c5] with
              | none => simp [h0, h1, h2, h3, h4, h5] at h
              | some y5 => exact ⟨y0, y1, y2, y3, y4, y5, n, h0, h1, h2, h3, h4, h5⟩
theorem okWide_array {r : Reach} {b0 : Nat} {t e : TypeId} {n : Nat} {v : Value} (ht : P.underlying t = some (.array n e)) (h : Value.okWide P w r b0 t v) : ∃ cs, v = .agg cs ∧ cs.size = P.cellsOf t := by
  simp only [Value.okWide, ht] at h
  obtain ⟨cs, h1, h2, _⟩ := h
  exact ⟨cs, h1, h2⟩
end
theorem byte_wf {x : Int} (h : (Lit.int .u8 x).wf = true) : 0 ≤ x ∧ x ≤ 255 := (bts_of_wf (l := [x]) (fun y hy => by simp at hy; subst hy; exact h)).head

section
variable {H : Type} {enc : TypeId × Value → H} {W : World} {base : Nat} {spare : Nat → Bool} {held : Bool}
theorem trod_six {fuel : Nat} {cs : List Value} {x : DataW H × List MemPlace} (hl : cs.length = 6) (h : DataW.trod enc Try.prog W base spare held fuel 33 cs = some x) : ∃ a0 a1 a2 a3 a4 a5 : Int, cs = [.int .u8 a0, .int .u8 a1, .int .u8 a2, .int .u8 a3, .int .u8 a4, .int .u8 a5] ∧ Bts [a0, a1, a2, a3, a4, a5] := by
  match cs, hl with
  | [c0, c1, c2, c3, c4, c5], _ =>
    obtain ⟨y0, y1, y2, y3, y4, y5, n, h0, h1, h2, h3, h4, h5⟩ := trod_array6 Try.underlying33 (by kernel_rfl) h
    obtain ⟨a0, e0, _, w0⟩ := DataW.trod_int Try.underlying5 h0
    obtain ⟨a1, e1, _, w1⟩ := DataW.trod_int Try.underlying5 h1
    obtain ⟨a2, e2, _, w2⟩ := DataW.trod_int Try.underlying5 h2
    obtain ⟨a3, e3, _, w3⟩ := DataW.trod_int Try.underlying5 h3
    obtain ⟨a4, e4, _, w4⟩ := DataW.trod_int Try.underlying5 h4
    obtain ⟨a5, e5, _, w5⟩ := DataW.trod_int Try.underlying5 h5
    injection e0 with e0; injection e1 with e1; injection e2 with e2; injection e3 with e3; injection e4 with e4; injection e5 with e5
    subst e0 e1 e2 e3 e4 e5
    refine ⟨a0, a1, a2, a3, a4, a5, rfl, ?_⟩
    intro y hy
    simp at hy
    rcases hy with rfl | rfl | rfl | rfl | rfl | rfl
    · exact byte_wf w0
    · exact byte_wf w1
    · exact byte_wf w2
    · exact byte_wf w3
    · exact byte_wf w4
    · exact byte_wf w5
end
section
variable {H : Type} {enc : TypeId × Value → H} {W : World} {r : Reach} {base : Nat} {v : Value} {d : DataW H} {p : List MemPlace}
open Go.ChangeShapes Go.WideShapes Go.ChangeAt in
theorem addr_in (hv : Value.okWide Try.prog W r base 33 v) (h : DataW.Trod enc Try.prog W 0 (fun _ => true) true 33 v d p) :
    ∃ a0 a1 a2 a3 a4 a5 : Int, v = .agg #[.int .u8 a0, .int .u8 a1, .int .u8 a2, .int .u8 a3, .int .u8 a4, .int .u8 a5] ∧ Bts [a0, a1, a2, a3, a4, a5] := by
  obtain ⟨cs, rfl, hsz⟩ := okWide_array Try.underlying33 hv
  obtain ⟨fuel, hf⟩ := h
  have h6 : Try.prog.cellsOf 33 = 6 := by kernel_rfl
  obtain ⟨a0, a1, a2, a3, a4, a5, e, hb⟩ := trod_six (cs := cs.toList) (by rw [Array.length_toList, hsz, h6]) hf
  obtain ⟨l⟩ := cs
  subst e
  exact ⟨a0, a1, a2, a3, a4, a5, rfl, hb⟩
open Go.ChangeShapes Go.WideShapes Go.ChangeAt in
theorem row_of_trod {fuel : Nat} {u : Value} {x : DataW H × List MemPlace} (hf : DataW.trod enc Try.prog W 0 (fun _ => true) true fuel 28 [u] = some x) :
    ∃ A len cap l, u = .slice A len cap ∧ len ≤ cap ∧ cap ≤ maxLen ∧ Row W W.heap.size A len l ∧ Bts l ∧ (A = none → cap = 0) := by
  rcases open_ints Try.underlying28 Try.underlying5 (by kernel_rfl) hf with ⟨hcs, _⟩ | ⟨ad, len, cap, zs, hcs, _, hl, hm, hz, _, hcell, hwz⟩
  · injection hcs with hcs
    subst hcs
    exact ⟨none, 0, 0, [], rfl, Nat.le_refl _, Nat.zero_le _, RowK.none_, Bts.nil, fun _ => rfl⟩
  · injection hcs with hcs
    subst hcs
    have hzl : zs.length = cap := by simpa using hz
    refine ⟨some ad, len, cap, zs.take len, rfl, hl, hm, ⟨by rw [List.length_take]; omega, fun k hk => ?_⟩, (bts_of_wf hwz).take _, fun e => by cases e⟩
    rw [List.length_take] at hk
    have h1 := hcell k (by omega)
    refine ⟨ad, rfl, ?_, ?_⟩
    · have := cell_in h1; rw [addr_add_block] at this; exact this
    · rw [h1, List.getElem_take, List.getD_eq_getElem?_getD, List.getElem?_eq_getElem (by omega)]; rfl
open Go.ChangeShapes Go.WideShapes Go.ChangeAt in
theorem frame_in (hv : Value.okWide Try.prog W r base 36 v) (h : DataW.Trod enc Try.prog W 0 (fun _ => true) true 36 v d p) :
    ∃ (t0 t1 t2 t3 t4 t5 f0 f1 f2 f3 f4 f5 : Int) (A : Option Addr) (len cap : Nat) (l : List Int), v = .agg #[.int .u8 t0, .int .u8 t1, .int .u8 t2, .int .u8 t3, .int .u8 t4, .int .u8 t5, .int .u8 f0, .int .u8 f1, .int .u8 f2, .int .u8 f3, .int .u8 f4, .int .u8 f5, .slice A len cap] ∧ Bts [t0, t1, t2, t3, t4, t5] ∧ Bts [f0, f1, f2, f3, f4, f5] ∧ len ≤ cap ∧ cap ≤ maxLen ∧ Row W W.heap.size A len l ∧ Bts l ∧ (A = none → cap = 0) := by
  obtain ⟨cs, rfl, hsz⟩ := okWide_struct Try.underlying36 hv
  obtain ⟨fuel, hf⟩ := h
  have h13 : Try.prog.cellsOf 36 = 13 := by kernel_rfl
  have h6 : Try.prog.cellsOf 33 = 6 := by kernel_rfl
  have h1 : Try.prog.cellsOf 28 = 1 := by kernel_rfl
  obtain ⟨l⟩ := cs
  have hl : l.length = 13 := hsz.trans h13
  obtain ⟨xs, n, _, _, _, hlen, hg⟩ := DataW.trod_struct Try.underlying36 hf
  match l, hl with
  | [c0, c1, c2, c3, c4, c5, c6, c7, c8, c9, c10, c11, c12], _ =>
    match xs, hlen with
    | [y0, y1, y2], _ =>
      have g0 := hg 0 _ rfl
      have g1 := hg 1 _ rfl
      have g2 := hg 2 _ rfl
      simp [h6, h1, Value.cells] at g0 g1 g2
      obtain ⟨t0, t1, t2, t3, t4, t5, e0, b0⟩ := trod_six rfl g0
      obtain ⟨f0, f1, f2, f3, f4, f5, e1, b1⟩ := trod_six rfl g1
      obtain ⟨A, len, cap, dl, e2, k1, k2, k3, k4, k5⟩ := row_of_trod g2
      simp only [List.cons.injEq, and_true] at e0 e1
      obtain ⟨rfl, rfl, rfl, rfl, rfl, rfl⟩ := e0
      obtain ⟨rfl, rfl, rfl, rfl, rfl, rfl⟩ := e1
      subst e2
      exact ⟨t0, t1, t2, t3, t4, t5, f0, f1, f2, f3, f4, f5, A, len, cap, dl, rfl, b0, b1, k1, k2, k3, k4, k5⟩
open Go.ChangeShapes Go.WideShapes Go.ChangeAt in
theorem addrs_in (hv : Value.okWide Try.prog W r base 51 v) (h : DataW.Trod enc Try.prog W 0 (fun _ => true) true 51 v d p) :
    ∃ A len cap gs, v = .slice A len cap ∧ len ≤ cap ∧ cap ≤ maxLen ∧ AdrsB W W.heap.size A len gs := by
  obtain ⟨a, len, cap, rfl⟩ := okWide_slice Try.underlying51 hv
  obtain ⟨fuel, hf⟩ := h
  have h6 : Try.prog.cellsOf 33 = 6 := by kernel_rfl
  rcases Go.Deep.open_slice Try.underlying51 hf with ⟨hcs, _⟩ | ⟨a', len', cap', m, n, D, Pl, hcs, _, hl, hm, hmm, _, hi⟩
  · simp [Value.cells] at hcs
    obtain ⟨rfl, rfl, rfl⟩ := hcs
    exact ⟨none, 0, 0, [], rfl, Nat.le_refl _, Nat.zero_le _, AdrsB.none_⟩
  · simp [Value.cells] at hcs
    obtain ⟨rfl, rfl, rfl⟩ := hcs
    have hlm : len ≤ m := by rw [hmm]; split <;> omega
    obtain ⟨gs, hgl, hgs⟩ := list_of (n := len) (P := fun i (g : List Int) => ∃ a0 a1 a2 a3 a4 a5 : Int, g = [a0, a1, a2, a3, a4, a5] ∧ W.cell? (a'.add (i * 6)) = some (.int .u8 a0) ∧ W.cell? ⟨(a'.add (i * 6)).block, (a'.add (i * 6)).off + 1, none⟩ = some (.int .u8 a1) ∧ W.cell? ⟨(a'.add (i * 6)).block, (a'.add (i * 6)).off + 2, none⟩ = some (.int .u8 a2) ∧ W.cell? ⟨(a'.add (i * 6)).block, (a'.add (i * 6)).off + 3, none⟩ = some (.int .u8 a3) ∧ W.cell? ⟨(a'.add (i * 6)).block, (a'.add (i * 6)).off + 4, none⟩ = some (.int .u8 a4) ∧ W.cell? ⟨(a'.add (i * 6)).block, (a'.add (i * 6)).off + 5, none⟩ = some (.int .u8 a5)) (fun i hil => by
      obtain ⟨cs', h1, h2⟩ := hi i (by omega)
      rw [h6] at h1
      obtain ⟨_, hlen, hat⟩ := World.cells?_some h1
      obtain ⟨a0, a1, a2, a3, a4, a5, rfl, _⟩ := trod_six hlen h2
      exact ⟨[a0, a1, a2, a3, a4, a5], a0, a1, a2, a3, a4, a5, rfl, hat 0 (by omega), hat 1 (by omega), hat 2 (by omega), hat 3 (by omega), hat 4 (by omega), hat 5 (by omega)⟩)
    refine ⟨some a', len, cap, gs, rfl, hl, hm, hgl, fun k hk => ?_⟩
    obtain ⟨a0, a1, a2, a3, a4, a5, e, q0, q1, q2, q3, q4, q5⟩ := hgs k hk
    exact ⟨a', a0, a1, a2, a3, a4, a5, rfl, by have := cell_in q0; rw [addr_add_block] at this; exact this, e, q0, q1, q2, q3, q4, q5⟩
end
end Go.Proofs.Ytbpmhfekjihhhaa
