/- A queue in memory whose items have several cells each; what a call owns, what it may have turned. -/
import Derived.Laws.Rows
import Derived.Test.YtefbmhkchlhgnaaQMem
namespace Go.Proofs.Ytefbmhkchlhgnaa
open Go.RowKit

theorem results_two {P : Program} {fn : Func} {p s : Tmp} {ty : TypeId} (h : fn.results = #[.cell p ty, .tmp s]) (tmps : Array Value) (w : World) (g : Nat) (t : TypeId) (cs : Array Value) (fr : Nat × Nat) (d : TypeDesc) (v : Value)
    (hp : tmps.getD p undef = .pointer (some ⟨g, 0, none⟩)) (hg : w.heap[g]? = some (.cells cs t fr)) (hv : tmps.getD s undef = v)
    (hu : P.underlying ty = some d) (hd : (match d with | .struct _ | .array _ _ => true | _ => false) = true) (hi : (P.info? ty).map (·.size) = some cs.size) :
    (results fn tmps).run P w = .ok (.tuple #[.agg cs, v]) w := by
  have hp' : tmps[p]?.getD undef = .pointer (some ⟨g, 0, none⟩) := by simpa using hp
  have hv' : tmps[s]?.getD undef = v := by simpa using hv
  simp [results, h, hp', hv', asAddr, run_loadVar_row w g t ty cs fr d hg hu hd hi]
/-- a queue at block q, of items of several cells: its row in block G, its cells ps with the items xs -/
structure QA (TQ TP TC : TypeId) (w : World) (q : Nat) (G : Option Nat) (m : Int) (ps : List Nat) (xs : List (Array Value)) : Prop where
  ex : ∃ A c, w.heap[q]? = some (.cells #[.int .i64 m, .slice A ps.length c] TQ (0, 0)) ∧ PRow TP w G A c ps
  len : ps.length = xs.length
  cells : ∀ (k p : Nat) (x : Array Value), ps[k]? = some p → xs[k]? = some x → w.heap[p]? = some (Obj.cells (x.push (.bool false)) TC (0, 0))
  nd : ps.Nodup
section
variable {TQ TP TC : TypeId} {w w' : World} {q : Nat} {G : Option Nat} {m : Int} {ps : List Nat} {xs : List (Array Value)} {L : List Nat}
theorem QA.lt (h : QA TQ TP TC w q G m ps xs) : q < w.heap.size := by obtain ⟨A, c, hh, _⟩ := h.ex; exact block_lt hh
theorem QA.cellOf (h : QA TQ TP TC w q G m ps xs) {p : Nat} (hp : p ∈ ps) : ∃ x : Array Value, w.heap[p]? = some (.cells (x.push (.bool false)) TC (0, 0)) := by
  obtain ⟨k, hk⟩ := List.mem_iff_getElem?.1 hp
  obtain ⟨hlt, _⟩ := List.getElem?_eq_some_iff.1 hk
  exact ⟨_, h.cells k p _ hk (List.getElem?_eq_getElem (by rw [← h.len]; exact hlt))⟩
theorem QA.keep (h : QA TQ TP TC w q G m ps xs) (hk : ∀ k, k = q ∨ G = some k ∨ k ∈ ps → w'.heap[k]? = w.heap[k]?) : QA TQ TP TC w' q G m ps xs := by
  obtain ⟨A, c, hh, hr⟩ := h.ex
  refine ⟨⟨A, c, (hk q (.inl rfl)).trans hh, hr.keep fun g hg => hk g (.inr (.inl hg))⟩, h.len, fun k p x h1 h2 => ?_, h.nd⟩
  exact (hk p (.inr (.inr (List.mem_of_getElem? h1)))).trans (h.cells k p x h1 h2)
theorem QA.inSize (h : QA TQ TP TC w q G m ps xs) {k : Nat} (hk : k = q ∨ G = some k ∨ k ∈ ps) : k < w.heap.size := by
  rcases hk with rfl | hg | hp
  · exact h.lt
  · obtain ⟨A, c, hh, hr⟩ := h.ex; obtain ⟨cur, hc⟩ := hr.lt hg; exact block_lt hc
  · obtain ⟨x, hx⟩ := h.cellOf hp; exact block_lt hx
theorem QA.turned (h : QA TQ TP TC w q G m ps xs) (hT : Turned L w w') (hn : ∀ k, k = q ∨ G = some k ∨ k ∈ ps → k ∉ L) : QA TQ TP TC w' q G m ps xs :=
  h.keep fun k hk => hT.block k (h.inSize hk) (hn k hk)
theorem QA.below (h : QA TQ TP TC w q G m ps xs) (hb : Below w.heap.size w w') : QA TQ TP TC w' q G m ps xs := h.keep fun k hk => hb.block k (h.inSize hk)
theorem QA.drewN (h : QA TQ TP TC w q G m ps xs) (n : Nat) : QA TQ TP TC (w.drewN n) q G m ps xs := h.keep fun _ _ => rfl
end

end Go.Proofs.Ytefbmhkchlhgnaa
