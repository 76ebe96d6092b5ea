/- Rows of the grid in memory: what is done (a row of integers), the next state, is it known; rules, several of them in a block. -/
import Derived.WalkKit
import Derived.WalkSpells
import Derived.WalkLawsBesides
import Derived.RowKit
import Derived.Test.YtlffhnplcgmhlaaOMore
import Derived.Test.YtlffhnplcgmhlaaQMem
import Derived.Test.YtlffhnplcgmhlaaJMath
namespace Go.Proofs.Ytlffhnplcgmhlaa
open Go.RowKit
set_option linter.unusedVariables false
set_option linter.unusedSimpArgs false

theorem unfrozen {w : World} {g : Nat} {cs : Array Value} {T : TypeId} (h : w.heap[g]? = some (.cells cs T (0, 0))) (o : Nat) : w.frozen? ⟨g, o, none⟩ = false := by simp [World.frozen?, h]
/-- numbers, as cells -/
abbrev intsC (l : List Int) : Array Value := (l.map (Value.int .i64)).toArray
/-- a slice value that reads as the numbers l, in a block at or above B -/
def IntsAt (w : World) (B : Nat) (v : Value) (l : List Int) : Prop :=
  (v = .slice none 0 0 ∧ l = []) ∨ ∃ g, v = .slice (some ⟨g, 0, none⟩) l.length l.length ∧ B ≤ g ∧ w.heap[g]? = some (.cells (intsC l) 3 (0, 0))
section
variable {w w' : World} {B B' : Nat} {v : Value} {l : List Int}
theorem IntsAt.keep (h : IntsAt w B v l) (hk : ∀ g : Nat, w.heap[g]? = some (.cells (intsC l) 3 (0, 0)) → w'.heap[g]? = w.heap[g]?) : IntsAt w' B v l := by
  rcases h with h | ⟨g, hv, hb, hh⟩
  · exact .inl h
  · exact .inr ⟨g, hv, hb, (hk g hh).trans hh⟩
theorem IntsAt.below (h : IntsAt w B v l) (hb : Below w.heap.size w w') : IntsAt w' B v l := h.keep fun g hg => hb.block g (block_lt hg)
theorem IntsAt.more (h : IntsAt w B v l) (hB : B' ≤ B) : IntsAt w B' v l := by
  rcases h with h | ⟨g, hv, hb, hh⟩
  · exact .inl h
  · exact .inr ⟨g, hv, by omega, hh⟩
/-- as a row that is read -/
theorem IntsAt.row (h : IntsAt w B v l) : ∃ A, v = .slice A l.length l.length ∧ RowK .i64 w w.heap.size A l.length l := by
  rcases h with ⟨hv, rfl⟩ | ⟨g, hv, _, hh⟩
  · exact ⟨none, hv, RowK.none_⟩
  · refine ⟨_, hv, rfl, fun k hk => ⟨_, rfl, block_lt hh, ?_⟩⟩
    have ha : (⟨g, 0, none⟩ : Addr).add k = ⟨g, k, none⟩ := by
      unfold Addr.add; split <;> simp_all
    rw [ha, cell_of_row w g k _ _ (0, 0) hh]
    simp [hk]
end
/-- an event, what is done, the next state -/
abbrev RuleV := Int × List Int × Int
/-- rules, cell by cell -/
def rulesC : List Value → List RuleV → List Value
  | v :: vs, r :: rs => .int .i64 r.1 :: v :: .int .i64 r.2.2 :: rulesC vs rs
  | _, _ => []
/-- rules in a block; what is done lies in blocks of numbers at or above B -/
def RulesAt (w : World) (B g : Nat) (rs : List RuleV) : Prop :=
  ∃ vs, vs.length = rs.length ∧ w.heap[g]? = some (.cells (rulesC vs rs).toArray 44 (0, 0)) ∧ ∀ i (h : i < rs.length) (h' : i < vs.length), IntsAt w B vs[i] rs[i].2.1
/-- a slice value that reads as rules -/
def RulesIn (w : World) (B : Nat) (v : Value) (rs : List RuleV) : Prop :=
  (v = .slice none 0 0 ∧ rs = []) ∨ ∃ g, v = .slice (some ⟨g, 0, none⟩) rs.length rs.length ∧ B ≤ g ∧ RulesAt w B g rs
theorem RulesAt.below {w w' : World} {B g : Nat} {rs : List RuleV} (h : RulesAt w B g rs) (hb : Below w.heap.size w w') : RulesAt w' B g rs := by
  obtain ⟨vs, hl, hh, hr⟩ := h
  exact ⟨vs, hl, (hb.block g (block_lt hh)).trans hh, fun i h h' => (hr i h h').below hb⟩
theorem RulesAt.more {w : World} {B B' g : Nat} {rs : List RuleV} (h : RulesAt w B g rs) (hB : B' ≤ B) : RulesAt w B' g rs := by
  obtain ⟨vs, hl, hh, hr⟩ := h
  exact ⟨vs, hl, hh, fun i h h' => (hr i h h').more hB⟩
theorem RulesIn.below {w w' : World} {B : Nat} {v : Value} {rs : List RuleV} (h : RulesIn w B v rs) (hb : Below w.heap.size w w') : RulesIn w' B v rs := by
  rcases h with h | ⟨g, h1, h2, h3⟩
  · exact .inl h
  · exact .inr ⟨g, h1, h2, h3.below hb⟩
theorem RulesIn.more {w : World} {B B' : Nat} {v : Value} {rs : List RuleV} (h : RulesIn w B v rs) (hB : B' ≤ B) : RulesIn w B' v rs := by
  rcases h with h | ⟨g, h1, h2, h3⟩
  · exact .inl h
  · exact .inr ⟨g, h1, by omega, h3.more hB⟩
/-- the rows of what is done, made one behind the other -/
def layW (w : World) : List (List Int) → World
  | [] => w
  | l :: ls => layW (w.alloc (.cells (intsC l) 3)) ls
def vsOf (b : Nat) : List (List Int) → List Value
  | [] => []
  | l :: ls => .slice (some ⟨b, 0, none⟩) l.length l.length :: vsOf (b + 1) ls
theorem vsOf_len (b : Nat) (ls : List (List Int)) : (vsOf b ls).length = ls.length := by
  induction ls generalizing b with
  | nil => rfl
  | cons l ls ih => simp only [vsOf, List.length_cons, ih]
theorem layW_size (w : World) (ls : List (List Int)) : (layW w ls).heap.size = w.heap.size + ls.length := by
  induction ls generalizing w with
  | nil => rfl
  | cons l ls ih => simp only [layW, List.length_cons, ih]; simp; omega
theorem layW_below (w : World) (ls : List (List Int)) : Below w.heap.size w (layW w ls) := by
  induction ls generalizing w with
  | nil => exact Below.refl _ _
  | cons l ls ih =>
    have h1 : Below w.heap.size w (w.alloc (.cells (intsC l) 3)) := (Below.refl _ _).alloc (Nat.le_refl _) _
    exact h1.trans ((ih _).mono h1.size)
theorem layW_at (w : World) (ls : List (List Int)) : ∀ i (h : i < ls.length) (h' : i < (vsOf w.heap.size ls).length), IntsAt (layW w ls) w.heap.size (vsOf w.heap.size ls)[i] ls[i] := by
  induction ls generalizing w with
  | nil => intro i h; simp at h
  | cons l ls ih =>
    intro i h h'
    have hs : (w.alloc (.cells (intsC l) 3)).heap.size = w.heap.size + 1 := by simp
    rcases i with _ | i
    · have h1 : IntsAt (w.alloc (.cells (intsC l) 3)) w.heap.size (.slice (some ⟨w.heap.size, 0, none⟩) l.length l.length) l := .inr ⟨_, rfl, Nat.le_refl _, heap_alloc_new w _⟩
      exact h1.below (layW_below _ _)
    · have h2 := ih (w.alloc (.cells (intsC l) 3)) i (by simpa using h) (by rw [vsOf_len]; simpa using h)
      simp only [hs] at h2
      exact h2.more (by omega)
/-- rules that were made: their rows, then the block -/
theorem rules_made (w : World) (rs : List RuleV) : RulesIn ((layW w (rs.map (·.2.1))).alloc (.cells (rulesC (vsOf w.heap.size (rs.map (·.2.1))) rs).toArray 44)) w.heap.size
    (.slice (some ⟨w.heap.size + rs.length, 0, none⟩) rs.length rs.length) rs ∧ Below w.heap.size w ((layW w (rs.map (·.2.1))).alloc (.cells (rulesC (vsOf w.heap.size (rs.map (·.2.1))) rs).toArray 44)) := by
  have hs := layW_size w (rs.map (·.2.1))
  rw [List.length_map] at hs
  have hb := layW_below w (rs.map (·.2.1))
  refine ⟨.inr ⟨_, rfl, by omega, vsOf w.heap.size (rs.map (·.2.1)), by rw [vsOf_len, List.length_map], ?_, fun i h h' => ?_⟩, hb.alloc hb.size _⟩
  · rw [← hs]; exact heap_alloc_new _ _
  · have h1 := layW_at w (rs.map (·.2.1)) i (by simpa using h) h'
    rw [List.getElem_map] at h1
    exact h1.below ((Below.refl _ _).alloc (Nat.le_refl _) _)
end Go.Proofs.Ytlffhnplcgmhlaa
