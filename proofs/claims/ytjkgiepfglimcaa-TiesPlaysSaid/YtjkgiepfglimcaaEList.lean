/- A table by whom, plainly: what is got behind a Put and a Del; its keys; how sorting gives them. No program is named here. -/
import Derived.Test.YtjkgiepfglimcaaEMath
namespace Go.Proofs.Ytjkgiepfglimcaa
open Go.RowKit
set_option linter.unusedVariables false
variable {α β : Type} [DecidableEq α]

theorem getT_app (a b : List (α × β)) (k : α) : getT (a ++ b) k = (getT a k).or (getT b k) := by
  induction a with
  | nil => rfl
  | cons x a ih =>
    rw [List.cons_append, getT, getT]
    split
    · rfl
    · exact ih
theorem hasT_get (l : List (α × β)) (k : α) : hasT l k = (getT l k).isSome := by
  induction l with
  | nil => rfl
  | cons x l ih =>
    unfold hasT at ih ⊢
    rw [List.any_cons, getT, ih]
    by_cases h : x.1 = k
    · simp [h]
    · simp [h]
theorem getT_mem {l : List (α × β)} {k : α} {y : β} (h : getT l k = some y) : (k, y) ∈ l := by
  induction l with
  | nil => cases h
  | cons x l ih =>
    rw [getT] at h
    split at h
    · rename_i e
      obtain ⟨x1, x2⟩ := x
      simp only at e h
      injection h with h
      subst e; subst h
      exact List.mem_cons_self
    · exact List.mem_cons_of_mem _ (ih h)
theorem getT_ins_other (lt : α → α → Bool) (l : List (α × β)) (k k' : α) (x : β) (hne : k' ≠ k) : getT (insT lt l k x) k' = getT l k' := by
  unfold insT
  rw [getT_app, getT_app, getT, if_neg (fun e => hne e.symm), getT]
  conv => rhs; rw [← List.take_append_drop (placeT lt l k) l, getT_app]
  simp
theorem getT_set_other (l : List (α × β)) (k k' : α) (x : β) (hne : k' ≠ k) : getT (setT l k x) k' = getT l k' := by
  unfold setT
  induction l with
  | nil => rfl
  | cons y l ih =>
    rw [List.map_cons, getT, getT, ih]
    by_cases h : y.1 = k
    · rw [if_pos h]
      have h1 : ¬ k = k' := fun e => hne e.symm
      have h2 : ¬ y.1 = k' := fun e => hne (e.symm.trans h)
      rw [if_neg h1, if_neg h2]
    · rw [if_neg h]
theorem getT_del_other (l : List (α × β)) (k k' : α) (hne : k' ≠ k) : getT (delT l k) k' = getT l k' := by
  unfold delT
  induction l with
  | nil => rfl
  | cons y l ih =>
    rw [List.filter_cons]
    by_cases h : y.1 = k
    · rw [if_neg (by simpa using h), ih, getT, if_neg (fun e => hne (e.symm.trans h))]
    · rw [if_pos (by simpa using h), getT, getT, ih]
/-- what a Put that is not refused leaves -/
theorem getT_put {lt : α → α → Bool} (ho : Ord lt) {l : List (α × β)} (hr : Rise lt l) {most : Nat} {k : α} {x : β} (hf : fullT most l k = false) (k' : α) : getT (putT lt most l k x) k' = if k' = k then some x else getT l k' := by
  unfold putT
  cases hk : hasT l k with
  | true =>
    rw [if_pos rfl]
    by_cases e : k' = k
    · rw [if_pos e, e, getT_set_own ho hr hk]
    · rw [if_neg e, getT_set_other _ _ _ _ e]
  | false =>
    rw [if_neg (by simp)]
    have hlt : l.length < most := by
      unfold fullT at hf
      rw [hk] at hf
      simp at hf
      exact hf
    rw [if_pos hlt]
    by_cases e : k' = k
    · rw [if_pos e, e, getT_ins_own ho hr hk]
    · rw [if_neg e, getT_ins_other _ _ _ _ _ e]
theorem putT_full (lt : α → α → Bool) {l : List (α × β)} {most : Nat} {k : α} (x : β) (hf : fullT most l k = true) : putT lt most l k x = l := by
  unfold fullT at hf
  simp only [Bool.and_eq_true, Bool.not_eq_true', decide_eq_true_eq] at hf
  unfold putT
  rw [hf.1, if_neg (by simp), if_neg (by omega)]
theorem getT_del {l : List (α × β)} {k : α} (k' : α) : getT (delT l k) k' = if k' = k then none else getT l k' := by
  by_cases e : k' = k
  · rw [if_pos e, e, getT_del_own]
  · rw [if_neg e, getT_del_other _ _ _ e]
theorem putT_mem {lt : α → α → Bool} {l : List (α × β)} {most : Nat} {k : α} {x : β} {z : α × β} (h : z ∈ putT lt most l k x) : z ∈ l ∨ z = (k, x) := by
  unfold putT at h
  split at h
  · unfold setT at h
    obtain ⟨y, hy, e⟩ := List.mem_map.1 h
    split at e
    · exact .inr e.symm
    · exact .inl (e ▸ hy)
  · split at h
    · unfold insT at h
      rcases List.mem_append.1 h with h | h
      · rcases List.mem_append.1 h with h | h
        · exact .inl (List.mem_of_mem_take h)
        · exact .inr (by simpa using h)
      · exact .inl (List.mem_of_mem_drop h)
    · exact .inl h
theorem delT_mem {l : List (α × β)} {k : α} {z : α × β} (h : z ∈ delT l k) : z ∈ l := (List.mem_filter.1 h).1
theorem delT_len (l : List (α × β)) (k : α) : (delT l k).length ≤ l.length := List.length_filter_le _ _
/-- keys that rise, in whatever order they were met, sort to one list -/
theorem sort_keys {lt : α → α → Bool} (ho : Ord lt) {ss T : List α} (hT : T.Pairwise fun a b => lt a b = true) (hp : ss.Perm T) : (ss.mergeSort fun x y => !lt y x) = T := by
  have tr : ∀ a b c : α, (!lt b a) = true → (!lt c b) = true → (!lt c a) = true := fun a b c h1 h2 => by
    simp only [Bool.not_eq_true'] at *
    cases h3 : lt c a
    · rfl
    · by_cases e : b = c
      · subst e; rw [h1] at h3; cases h3
      · rcases ho.tot b c e with h4 | h4
        · have := ho.trans _ _ _ h4 h3; rw [h1] at this; cases this
        · rw [h2] at h4; cases h4
  have to : ∀ a b : α, ((!lt b a) || (!lt a b)) = true := fun a b => by
    cases h3 : lt b a
    · rfl
    · rw [ho.asym h3]; rfl
  refine List.Perm.eq_of_pairwise (le := fun a b => (!lt b a) = true) (fun a b _ _ h1 h2 => ?_) (List.pairwise_mergeSort tr to ss) (hT.imp fun h => by rw [ho.asym h]; rfl) ((List.mergeSort_perm ss _).trans hp)
  simp only [Bool.not_eq_true'] at h1 h2
  by_cases e : a = b
  · exact e
  · rcases ho.tot a b e with h4 | h4
    · rw [h2] at h4; cases h4
    · rw [h1] at h4; cases h4
theorem keysT_get {l : List (α × β)} (k : α) : k ∈ l.map (·.1) ↔ (getT l k).isSome = true := by rw [← hasT_get, hasT_iff]
end Go.Proofs.Ytjkgiepfglimcaa
