/- A slice of values of one cell each, wherever it lies. -/
import Derived.Test.YtjidhpmjdhjciaaQMem
namespace Go.Proofs.Ytjidhpmjdhjciaa
open Go.RowKit

/-- a slice of values of one cell each: its row lies in block G, from some cell on -/
structure VRow (TE : TypeId) (w : World) (G : Option Nat) (A : Option Addr) (c : Nat) (vs : List Value) : Prop where
  ex : (G = none ∧ A = none ∧ c = 0 ∧ vs = []) ∨ ∃ g o cur, G = some g ∧ A = some ⟨g, o, none⟩ ∧ w.heap[g]? = some (.cells cur TE (0, 0)) ∧ o + c ≤ cur.size ∧ vs.length ≤ c ∧
    ∀ (k : Nat) (v : Value), vs[k]? = some v → cur[o + k]? = some v
section
variable {TE : TypeId} {w w' : World} {G : Option Nat} {A : Option Addr} {c : Nat} {vs : List Value}
theorem VRow.nil (TE : TypeId) (w : World) : VRow TE w none none 0 [] := ⟨.inl ⟨rfl, rfl, rfl, rfl⟩⟩
theorem VRow.keep (h : VRow TE w G A c vs) (hk : ∀ g, G = some g → w'.heap[g]? = w.heap[g]?) : VRow TE w' G A c vs := by
  rcases h.ex with h0 | ⟨g, o, cur, h1, h2, h3, h4⟩
  · exact ⟨.inl h0⟩
  · exact ⟨.inr ⟨g, o, cur, h1, h2, (hk g h1).trans h3, h4⟩⟩
theorem VRow.lt (h : VRow TE w G A c vs) {g : Nat} (hg : G = some g) : ∃ cur, w.heap[g]? = some (.cells cur TE (0, 0)) := by
  rcases h.ex with ⟨h0, _⟩ | ⟨g', o, cur, h1, h2, h3, h4⟩
  · rw [h0] at hg; cases hg
  · rw [h1] at hg; cases hg; exact ⟨cur, h3⟩
theorem VRow.cap (h : VRow TE w G A c vs) : vs.length ≤ c := by
  rcases h.ex with ⟨_, _, rfl, rfl⟩ | ⟨g, o, cur, h1, h2, h3, h4, h5, h6⟩
  · exact Nat.le_refl _
  · exact h5
theorem VRow.cell (h : VRow TE w G A c vs) {k : Nat} {v : Value} (hk : vs[k]? = some v) : ∃ g o, G = some g ∧ A = some ⟨g, o, none⟩ ∧ w.cell? ⟨g, o + k, none⟩ = some v := by
  rcases h.ex with ⟨_, _, _, rfl⟩ | ⟨g, o, cur, h1, h2, h3, h4, h5, h6⟩
  · cases hk
  · exact ⟨g, o, h1, h2, by rw [cell_of_row w g _ cur TE (0, 0) h3]; exact h6 k v hk⟩
theorem VRow.below (h : VRow TE w G A c vs) (hb : Below w.heap.size w w') : VRow TE w' G A c vs :=
  h.keep fun g hg => by obtain ⟨cur, hc⟩ := h.lt hg; exact hb.block g (block_lt hc)
theorem VRow.spare {ts : List TypeId} {B : Nat} (h : VRow TE w G A c vs) (hS : Spare ts B w w') (hT : TE ∉ ts) : VRow TE w' G A c vs :=
  h.keep fun g hg => by
    obtain ⟨cur, hc⟩ := h.lt hg
    rw [hc]; exact hS.block g _ hc (.inr fun c T f e => by injection e with _ e2; subst e2; exact hT)
/-- what is left behind the first k -/
theorem VRow.drop (h : VRow TE w G A c vs) {k : Nat} (hk : k ≤ vs.length) : VRow TE w G (if c = k then A else A.map (·.add k)) (c - k) (vs.drop k) := by
  rcases h.ex with ⟨h1, rfl, rfl, rfl⟩ | ⟨g, o, cur, h1, rfl, h3, h4, h5, h6⟩
  · simp at hk; subst hk; exact ⟨.inl ⟨h1, by simp, rfl, rfl⟩⟩
  · refine ⟨.inr ⟨g, if c = k then o else o + k, cur, h1, ?_, h3, by split <;> omega, by rw [List.length_drop]; omega, fun j v hj => ?_⟩⟩
    · by_cases hck : c = k <;> simp [hck, add_off]
    · rw [List.getElem?_drop] at hj
      obtain ⟨hlt, _⟩ := List.getElem?_eq_some_iff.1 hj
      rw [if_neg (show ¬ c = k by omega), Nat.add_assoc]
      exact h6 _ v hj
/-- the first k -/
theorem VRow.take (h : VRow TE w G A c vs) (k : Nat) : VRow TE w G A c (vs.take k) := by
  rcases h.ex with ⟨h1, rfl, rfl, rfl⟩ | ⟨g, o, cur, h1, rfl, h3, h4, h5, h6⟩
  · exact ⟨.inl ⟨h1, rfl, rfl, by simp⟩⟩
  · refine ⟨.inr ⟨g, o, cur, h1, rfl, h3, h4, by rw [List.length_take]; omega, fun j v hj => ?_⟩⟩
    rw [List.getElem?_take] at hj
    split at hj
    · exact h6 j v hj
    · cases hj
theorem VRow.rowK {κ : IntKind} {l : List Int} (h : VRow TE w G A c (l.map (.int κ))) : RowK κ w w.heap.size A l.length l :=
  ⟨rfl, fun k hk => by
    obtain ⟨g, o, h1, h2, h3⟩ := h.cell (k := k) (v := .int κ l[k]) (by simp [List.getElem?_eq_getElem hk])
    obtain ⟨cur, hc⟩ := h.lt h1
    exact ⟨_, h2, block_lt hc, by rw [add_off]; exact h3⟩⟩
end
theorem VRow.of_own {TE : TypeId} {w : World} {base n c : Nat} {A : Option Addr} {vs : List Value} (h : w.ownsRow base TE 1 (.slice A n c) n vs) : ∃ G, VRow TE w G A c vs ∧ ∀ g, G = some g → base ≤ g := by
  rcases h.2 with ⟨hv, h0⟩ | ⟨g, cap, cur, hv, hg, hh, hnc, hcm, hsz, htk⟩
  · injection hv with h1 h2 h3
    subst h1 h3 h0
    have := h.1
    simp at this
    subst this
    exact ⟨none, VRow.nil _ _, fun g hg => by cases hg⟩
  · injection hv with h1 h2 h3
    subst h1 h3
    have hl := h.1
    simp at hl
    refine ⟨some g, ⟨.inr ⟨g, 0, cur, rfl, rfl, hh, by simp at hsz; omega, by omega, fun k v hk => ?_⟩⟩, fun g' hg' => by injection hg' with e; omega⟩
    have hlt := (List.getElem?_eq_some_iff.1 hk).1
    rw [← htk, List.getElem?_take_of_lt (by omega)] at hk
    rw [Nat.zero_add]; simpa using hk


end Go.Proofs.Ytjidhpmjdhjciaa
