/- How rows of bytes come in. -/
import Derived.Deep.Matrix
import Derived.Test.YtdjfnhplbhhgiaaOFrame
import Derived.Test.YtdjfnhplbhhgiaaORows
namespace Go.Proofs.Ytdjfnhplbhhgiaa
open Go.RowKit

/-- all are rows of bytes -/
def Btss (ls : List (List Int)) : Prop := ∀ l ∈ ls, Bts l
theorem Btss.get {ls : List (List Int)} (h : Btss ls) {k : Nat} {x : List Int} (hx : ls[k]? = some x) : Bts x := h x (List.mem_of_getElem? hx)
theorem Btss.take {ls : List (List Int)} (h : Btss ls) (k : Nat) : Btss (ls.take k) := fun x hx => h x (List.mem_of_mem_take hx)
theorem Btss.flatten {ls : List (List Int)} (h : Btss ls) : Bts ls.flatten := fun x hx => by
  obtain ⟨l, hl, hx⟩ := List.mem_flatten.1 hx
  exact h l hl x hx
open Go.ChangeShapes Go.WideShapes Go.ChangeAt in
set_option maxRecDepth 100000 in
/-- a row of bytes that came in; a nil one has no room -/
theorem rown_in {H : Type} {enc : TypeId × Value → H} {W : World} {r : Reach} {base : Nat} {v : Value} {d : DataW H} {p : List MemPlace}
    (hv : Value.okWide Try.prog W r base 38 v) (h : DataW.Trod enc Try.prog W 0 (fun _ => true) true 38 v d p) :
    ∃ A len cap l, v = .slice A len cap ∧ len ≤ cap ∧ cap ≤ maxLen ∧ Row W W.heap.size A len l ∧ Bts l ∧ (A = none → cap = 0) := by
  have h0 := h
  obtain ⟨A, len, cap, l, rfl, h1, h2, h3, h4⟩ := row_in Try.underlying38 Try.underlying5 (by kernel_rfl) hv h
  refine ⟨A, len, cap, l, rfl, h1, h2, h3, bts_of_wf h4, ?_⟩
  rintro rfl
  obtain ⟨fuel, hf⟩ := h0
  rcases open_ints Try.underlying38 Try.underlying5 (by kernel_rfl) hf with ⟨hcs, _⟩ | ⟨x, l, c, zs, hcs, _⟩
  · simp [Value.cells] at hcs; exact hcs.2
  · simp [Value.cells] at hcs
end Go.Proofs.Ytdjfnhplbhhgiaa
