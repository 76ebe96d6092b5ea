/- Keys as memory holds them: eight cells, six bytes and two numbers; what of it is a key of a map. -/
import Derived.Test.YtjkgiepfglimcaaEWords
import Derived.Test.YtjkgiepfglimcaaOFrame
import Derived.Test.YtjkgiepfglimcaaEMath
namespace Go.Proofs.Ytjkgiepfglimcaa
open Go.RowKit
set_option linter.unusedVariables false

instance : Inhabited EK := ⟨⟨0, 0, 0, 0, 0, 0, 0, 0⟩⟩
abbrev U8 (x : Int) : Prop := (Lit.int .u8 x).wf = true
/-- a key's eight cells -/
abbrev cellsE (k : EK) : List Value := [.int .u8 k.a0, .int .u8 k.a1, .int .u8 k.a2, .int .u8 k.a3, .int .u8 k.a4, .int .u8 k.a5, .int .i64 k.near, .int .i64 k.there_]
abbrev keyV (k : EK) : Value := .agg #[.int .u8 k.a0, .int .u8 k.a1, .int .u8 k.a2, .int .u8 k.a3, .int .u8 k.a4, .int .u8 k.a5, .int .i64 k.near, .int .i64 k.there_]
/-- six bytes, two numbers of 64 bits -/
structure OkE (k : EK) : Prop where
  b0 : U8 k.a0
  b1 : U8 k.a1
  b2 : U8 k.a2
  b3 : U8 k.a3
  b4 : U8 k.a4
  b5 : U8 k.a5
  n : I64 k.near
  t : I64 k.there_
def kE (k : EK) : Lit := .string (keyBytes [.int .u8 k.a0, .int .u8 k.a1, .int .u8 k.a2, .int .u8 k.a3, .int .u8 k.a4, .int .u8 k.a5, .int .i64 k.near, .int .i64 k.there_])
theorem lawE : Maps.Keyed Try.prog 28 := Maps.Keyed.of_law (deep_law_laid laid_out (m := 3) (by omega) (of_decide_eq_true (by kernel_rfl)) (by kernel_rfl) (by kernel_rfl))
theorem cells_key : Try.prog.cellsOf 28 = 8 := by kernel_rfl
theorem cells_addr : Try.prog.cellsOf 26 = 6 := by kernel_rfl
theorem cells_u8 : Try.prog.cellsOf 5 = 1 := by kernel_rfl
theorem cells_int : Try.prog.cellsOf 3 = 1 := by kernel_rfl
theorem keyt_key : Try.prog.keyType 28 = true := by kernel_rfl
theorem deep_many : ∃ m, Try.prog.types.size = m + 2 := ⟨Try.prog.types.size - 2, by have h : 1 < Try.prog.types.size := of_decide_eq_true (by kernel_rfl); omega⟩
theorem key_E {k : EK} (h : OkE k) : keyOf Try.prog 28 (keyV k) = some (kE k) := by
  obtain ⟨m, hm⟩ := deep_many
  obtain ⟨h0, h1, h2, h3, h4, h5, h6, h7⟩ := h
  have hf : (keyV k).formed Try.prog 28 = true := by simp [Value.formed, Try.underlying28, cells_key]
  unfold keyOf
  rw [Try.underlying28]
  simp only [keyt_key, hf, Bool.and_self, if_true, hm]
  simp [Program.keyLits, Try.underlying28, Try.underlying26, Try.underlying5, Try.underlying3, cells_key, cells_addr, cells_u8, cells_int, Value.cells, h0, h1, h2, h3, h4, h5, h6, h7, kE, List.range, List.range.loop]
theorem lits_u8 {d : Nat} {c : Value} {l : List Lit} (h : Try.prog.keyLits (d + 1) 5 [c] = some l) : ∃ x, c = .int .u8 x ∧ U8 x ∧ l = [.int .u8 x] := by
  cases c with
  | int q x =>
    by_cases hq : q = .u8 ∧ (Lit.int .u8 x).wf = true
    · obtain ⟨rfl, hx⟩ := hq
      simp [Program.keyLits, Try.underlying5, hx] at h
      exact ⟨x, rfl, hx, h.symm⟩
    · simp [Program.keyLits, Try.underlying5, hq] at h
  | _ => simp [Program.keyLits, Try.underlying5] at h
theorem lits_int {d : Nat} {c : Value} {l : List Lit} (h : Try.prog.keyLits (d + 1) 3 [c] = some l) : ∃ x, c = .int .i64 x ∧ I64 x ∧ l = [.int .i64 x] := by
  cases c with
  | int q x =>
    by_cases hq : q = .i64 ∧ (Lit.int .i64 x).wf = true
    · obtain ⟨rfl, hx⟩ := hq
      simp [Program.keyLits, Try.underlying3, hx] at h
      exact ⟨x, rfl, hx, h.symm⟩
    · simp [Program.keyLits, Try.underlying3, hq] at h
  | _ => simp [Program.keyLits, Try.underlying3] at h
theorem lits_addr {d : Nat} {c0 c1 c2 c3 c4 c5 : Value} {l : List Lit} (h : Try.prog.keyLits (d + 1 + 1) 26 [c0, c1, c2, c3, c4, c5] = some l) :
    ∃ x0 x1 x2 x3 x4 x5, c0 = .int .u8 x0 ∧ c1 = .int .u8 x1 ∧ c2 = .int .u8 x2 ∧ c3 = .int .u8 x3 ∧ c4 = .int .u8 x4 ∧ c5 = .int .u8 x5 ∧ U8 x0 ∧ U8 x1 ∧ U8 x2 ∧ U8 x3 ∧ U8 x4 ∧ U8 x5 := by
  unfold Program.keyLits at h
  simp only [Try.underlying26] at h
  obtain ⟨D, hD⟩ : ∃ D, D = d + 1 := ⟨_, rfl⟩
  rw [← hD] at h
  simp [cells_addr, cells_u8, List.range, List.range.loop, Option.bind_eq_some_iff] at h
  subst hD
  obtain ⟨a0, h0, _, ⟨a1, h1, _, ⟨a2, h2, _, ⟨a3, h3, _, ⟨a4, h4, _, ⟨a5, h5, -⟩, -⟩, -⟩, -⟩, -⟩, -⟩ := h
  obtain ⟨x0, rfl, k0, -⟩ := lits_u8 h0
  obtain ⟨x1, rfl, k1, -⟩ := lits_u8 h1
  obtain ⟨x2, rfl, k2, -⟩ := lits_u8 h2
  obtain ⟨x3, rfl, k3, -⟩ := lits_u8 h3
  obtain ⟨x4, rfl, k4, -⟩ := lits_u8 h4
  obtain ⟨x5, rfl, k5, -⟩ := lits_u8 h5
  exact ⟨x0, x1, x2, x3, x4, x5, rfl, rfl, rfl, rfl, rfl, rfl, k0, k1, k2, k3, k4, k5⟩
set_option maxRecDepth 100000 in
/-- what reads as a key of such a map is one of these -/
theorem key_E_inv {v : Value} {l : Lit} (h : keyOf Try.prog 28 v = some l) : ∃ k, v = keyV k ∧ l = kE k ∧ OkE k := by
  obtain ⟨m, hm⟩ := deep_many
  have h0 := h
  unfold keyOf at h
  rw [Try.underlying28] at h
  simp only [hm] at h
  split at h
  · rename_i hc
    simp only [Bool.and_eq_true] at hc
    have hf := hc.2
    cases v <;> simp [Value.formed, Try.underlying28, cells_key] at hf
    rename_i cs
    obtain ⟨c0, c1, c2, c3, c4, c5, c6, c7, e⟩ : ∃ c0 c1 c2 c3 c4 c5 c6 c7, cs = #[c0, c1, c2, c3, c4, c5, c6, c7] := by
      obtain ⟨l⟩ := cs
      match l, hf with
      | [a, b, c, d, e, f, g, h], _ => exact ⟨a, b, c, d, e, f, g, h, rfl⟩
    subst e
    simp only [Option.map_eq_some_iff] at h
    obtain ⟨ls, hls, rfl⟩ := h
    unfold Program.keyLits at hls
    simp only [Try.underlying28] at hls
    obtain ⟨D, hD⟩ : ∃ D, D = m + 2 := ⟨_, rfl⟩
    rw [← hD] at hls
    simp [cells_addr, cells_int, cells_key, Option.bind_eq_some_iff, Value.cells] at hls
    subst hD
    obtain ⟨b0, h1, _, ⟨b1, h2, _, ⟨b2, h3, -⟩, -⟩, -⟩ := hls
    obtain ⟨x0, x1, x2, x3, x4, x5, rfl, rfl, rfl, rfl, rfl, rfl, k0, k1, k2, k3, k4, k5⟩ := lits_addr h1
    obtain ⟨x6, rfl, k6, -⟩ := lits_int h2
    obtain ⟨x7, rfl, k7, -⟩ := lits_int h3
    have hk : OkE ⟨x0, x1, x2, x3, x4, x5, x6, x7⟩ := ⟨k0, k1, k2, k3, k4, k5, k6, k7⟩
    have h5 := key_E hk
    rw [h5] at h0
    exact ⟨_, rfl, (Option.some.inj h0).symm, hk⟩
  · cases h
theorem kE_inj {a b : EK} (ha : OkE a) (hb : OkE b) (h : kE a = kE b) : a = b := by
  have := lawE.inj (key_E ha) (by rw [h]; exact key_E hb)
  obtain ⟨_, _, _, _, _, _, _, _⟩ := a
  obtain ⟨_, _, _, _, _, _, _, _⟩ := b
  simpa using this
end Go.Proofs.Ytjkgiepfglimcaa
