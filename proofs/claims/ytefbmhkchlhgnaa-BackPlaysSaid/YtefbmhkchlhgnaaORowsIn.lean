/- How rows of bytes come in. -/
import Derived.Deep.Matrix
import Derived.Test.YtefbmhkchlhgnaaOFrame
import Derived.Test.YtefbmhkchlhgnaaORows
namespace Go.Proofs.Ytefbmhkchlhgnaa
open Go.RowKit

/-- all are rows of bytes -/
def Btss (ls : List (List Int)) : Prop := ∀ l ∈ ls, Bts l
theorem Btss.get {ls : List (List Int)} (h : Btss ls) {k : Nat} {x : List Int} (hx : ls[k]? = some x) : Bts x := h x (List.mem_of_getElem? hx)
theorem Btss.take {ls : List (List Int)} (h : Btss ls) (k : Nat) : Btss (ls.take k) := fun x hx => h x (List.mem_of_mem_take hx)
theorem Btss.flatten {ls : List (List Int)} (h : Btss ls) : Bts ls.flatten := fun x hx => by
  obtain ⟨l, hl, hx⟩ := List.mem_flatten.1 hx
  exact h l hl x hx
open Go.ChangeShapes Go.WideShapes Go.ChangeAt in
set_option maxRecDepth 100000 in
/-- a row of bytes that came in; a nil one has no room -/
theorem rown_in {H : Type} {enc : TypeId × Value → H} {W : World} {r : Reach} {base : Nat} {v : Value} {d : DataW H} {p : List MemPlace}
    (hv : Value.okWide Try.prog W r base 26 v) (h : DataW.Trod enc Try.prog W 0 (fun _ => true) true 26 v d p) :
    ∃ A len cap l, v = .slice A len cap ∧ len ≤ cap ∧ cap ≤ maxLen ∧ Row W W.heap.size A len l ∧ Bts l ∧ (A = none → cap = 0) := by
  have h0 := h
  obtain ⟨A, len, cap, l, rfl, h1, h2, h3, h4⟩ := row_in Try.underlying26 Try.underlying5 (by kernel_rfl) hv h
  refine ⟨A, len, cap, l, rfl, h1, h2, h3, bts_of_wf h4, ?_⟩
  rintro rfl
  obtain ⟨fuel, hf⟩ := h0
  rcases open_ints Try.underlying26 Try.underlying5 (by kernel_rfl) hf with ⟨hcs, _⟩ | ⟨x, l, c, zs, hcs, _⟩
  · simp [Value.cells] at hcs; exact hcs.2
  · simp [Value.cells] at hcs
open Go.ChangeShapes Go.WideShapes Go.ChangeAt in
set_option maxRecDepth 100000 in
theorem rows_in {H : Type} {enc : TypeId × Value → H} {W : World} {r : Reach} {base : Nat} {v : Value} {d : DataW H} {p : List MemPlace}
    (hv : Value.okWide Try.prog W r base 34 v) (h : DataW.Trod enc Try.prog W 0 (fun _ => true) true 34 v d p) :
    ∃ A len cap ls, v = .slice A len cap ∧ len ≤ cap ∧ cap ≤ maxLen ∧ RowsB W W.heap.size A len ls ∧ Btss ls := by
  obtain ⟨a, len, cap, rfl⟩ := okWide_slice Try.underlying34 hv
  obtain ⟨fuel, hf⟩ := h
  rcases Go.Deep.open_int_rows Try.underlying34 Try.underlying26 Try.underlying5 (by kernel_rfl) (by kernel_rfl) hf with ⟨hcs, _⟩ | ⟨a', len', cap', A, L, C, Z, hcs, _, hl, hm, _, hcell⟩
  · simp [Value.cells] at hcs
    obtain ⟨rfl, rfl, rfl⟩ := hcs
    exact ⟨none, 0, 0, [], rfl, Nat.le_refl _, Nat.zero_le _, ⟨rfl, fun k hk => by simp at hk⟩, fun x hx => by cases hx⟩
  · simp [Value.cells] at hcs
    obtain ⟨rfl, rfl, rfl⟩ := hcs
    have hgl : ∀ (k : Nat) (hk : k < ((List.range len).map fun r => (Z r).take (L r)).length), ((List.range len).map fun r => (Z r).take (L r))[k] = (Z k).take (L k) := fun k hk => by simp
    refine ⟨some a', len, cap, (List.range len).map fun r => (Z r).take (L r), rfl, hl, hm, ⟨by simp, fun k hk => ?_⟩, fun x hx => ?_⟩
    · have hk' : k < len := by simpa using hk
      obtain ⟨h1, h2, h3, h4, h5, h6, h7⟩ := hcell k (by omega)
      have hlz : ((Z k).take (L k)).length = L k := by rw [List.length_take]; omega
      rw [hgl k hk]
      have hrow : Row W W.heap.size (A k) (L k) ((Z k).take (L k)) := ⟨hlz, fun j hj => by
        rw [hlz] at hj
        rcases hA : A k with _ | ad
        · have := h6 hA; omega
        · obtain ⟨_, h8⟩ := h7 ad hA
          have h9 := h8 j (by omega)
          refine ⟨ad, rfl, ?_, ?_⟩
          · have := cell_in h9; rw [addr_add_block] at this; exact this
          · rw [h9, List.getElem_take, List.getD_eq_getElem?_getD, List.getElem?_eq_getElem (by omega)]; rfl⟩
      refine ⟨a', A k, C k, rfl, ?_, by rw [hlz]; exact h1, by rw [hlz]; exact h2, by rw [hlz]; exact hrow, h6⟩
      have := cell_in h1; rw [addr_add_block] at this; exact this
    · obtain ⟨k, hk, rfl⟩ := List.mem_map.1 hx
      have hk' : k < len := by simpa using hk
      obtain ⟨h1, h2, h3, h4, h5, h6, h7⟩ := hcell k (by omega)
      exact (bts_of_wf fun y hy => h5 y hy).take _
end Go.Proofs.Ytefbmhkchlhgnaa
