/- A table by whom, plainly: rows that rise by a strict order of their keys; keys of eight numbers, in the order of words. No program is named here. -/
import Derived.WalkKit
namespace Go.Proofs.Ytjkgiepfglimcaa
open Go.RowKit
set_option linter.unusedVariables false
variable {α β : Type}

/-- a strict order in which any two unlike ones are one ahead of the other -/
structure Ord (lt : α → α → Bool) : Prop where
  irr : ∀ a, lt a a = false
  trans : ∀ a b c, lt a b = true → lt b c = true → lt a c = true
  tot : ∀ a b, a ≠ b → lt a b = true ∨ lt b a = true
theorem Ord.asym {lt : α → α → Bool} (h : Ord lt) {a b : α} (hab : lt a b = true) : lt b a = false := by
  cases hh : lt b a
  · rfl
  · have := h.trans a b a hab hh; rw [h.irr] at this; cases this
theorem Ord.ne {lt : α → α → Bool} (h : Ord lt) {a b : α} (hab : lt a b = true) : a ≠ b := fun e => by subst e; rw [h.irr] at hab; cases hab
/-- the keys rise -/
def Rise (lt : α → α → Bool) (l : List (α × β)) : Prop := l.Pairwise fun x y => lt x.1 y.1 = true
/-- how many lie ahead of a key -/
def placeT (lt : α → α → Bool) (l : List (α × β)) (k : α) : Nat := (l.takeWhile fun x => lt x.1 k).length
def hasT [DecidableEq α] (l : List (α × β)) (k : α) : Bool := l.any fun x => x.1 == k
def getT [DecidableEq α] : List (α × β) → α → Option β
  | [], _ => none
  | x :: l, k => if x.1 = k then some x.2 else getT l k
def insT (lt : α → α → Bool) (l : List (α × β)) (k : α) (x : β) : List (α × β) := l.take (placeT lt l k) ++ [(k, x)] ++ l.drop (placeT lt l k)
def setT [DecidableEq α] (l : List (α × β)) (k : α) (x : β) : List (α × β) := l.map fun y => if y.1 = k then (k, x) else y
def delT [DecidableEq α] (l : List (α × β)) (k : α) : List (α × β) := l.filter fun y => y.1 != k
/-- Put: what it answers is 'full', where it is not there and most others are -/
def putT [DecidableEq α] (lt : α → α → Bool) (most : Nat) (l : List (α × β)) (k : α) (x : β) : List (α × β) := if hasT l k = true then setT l k x else if l.length < most then insT lt l k x else l
def fullT [DecidableEq α] (most : Nat) (l : List (α × β)) (k : α) : Bool := !hasT l k && decide (most ≤ l.length)
theorem hasT_iff [DecidableEq α] {l : List (α × β)} {k : α} : hasT l k = true ↔ k ∈ l.map (·.1) := by
  unfold hasT
  rw [List.any_eq_true, List.mem_map]
  constructor
  · rintro ⟨x, h1, h2⟩; exact ⟨x, h1, by simpa using h2⟩
  · rintro ⟨x, h1, h2⟩; exact ⟨x, h1, by simpa using h2⟩
theorem getT_none [DecidableEq α] {l : List (α × β)} {k : α} (h : hasT l k = false) : getT l k = none := by
  induction l with
  | nil => rfl
  | cons x l ih =>
    unfold hasT at h ih
    rw [List.any_cons, Bool.or_eq_false_iff] at h
    have hx : x.1 ≠ k := by simpa using h.1
    rw [getT, if_neg hx, ih h.2]
section
variable {lt : α → α → Bool} {l : List (α × β)} {k : α} {x : β}
theorem Rise.get_lt (h : Rise lt l) {i j : Nat} {a b : α × β} (hi : l[i]? = some a) (hj : l[j]? = some b) (hij : i < j) : lt a.1 b.1 = true := by
  obtain ⟨hil, rfl⟩ := List.getElem?_eq_some_iff.1 hi
  obtain ⟨hjl, rfl⟩ := List.getElem?_eq_some_iff.1 hj
  exact List.pairwise_iff_getElem.1 h i j hil hjl hij
theorem placeT_le (lt : α → α → Bool) (l : List (α × β)) (k : α) : placeT lt l k ≤ l.length := by
  unfold placeT
  induction l with
  | nil => exact Nat.le_refl _
  | cons y l ih =>
    rw [List.takeWhile_cons]
    split
    · simp only [List.length_cons]; omega
    · exact Nat.zero_le _
/-- what lies ahead lies ahead of the key, and nothing else does -/
theorem Rise.place_iff (ho : Ord lt) (h : Rise lt l) {j : Nat} {a : α × β} (hj : l[j]? = some a) : lt a.1 k = true ↔ j < placeT lt l k := by
  induction l generalizing j with
  | nil => simp at hj
  | cons y l ih =>
    have hp := List.pairwise_cons.1 h
    unfold placeT at ih ⊢
    rw [List.takeWhile_cons]
    cases hy : lt y.1 k with
    | true =>
      rw [if_pos rfl, List.length_cons]
      cases j with
      | zero => simp at hj; subst hj; rw [hy]; simp
      | succ j =>
        rw [ih hp.2 (by simpa using hj)]
        omega
    | false =>
      rw [if_neg (by simp)]
      simp only [List.length_nil, Nat.not_lt_zero, iff_false]
      cases j with
      | zero => simp at hj; subst hj; rw [hy]; simp
      | succ j =>
        have hm := List.mem_of_getElem? (show l[j]? = some a by simpa using hj)
        intro ha
        have := ho.trans _ _ _ (hp.1 a hm) ha
        rw [hy] at this; cases this
/-- where the key is, so many lie ahead -/
theorem Rise.place_at (ho : Ord lt) (h : Rise lt l) {i : Nat} {y : β} (hi : l[i]? = some (k, y)) : placeT lt l k = i := by
  have h1 : ¬ i < placeT lt l k := fun hlt => by have := (h.place_iff ho (k := k) hi).2 hlt; rw [ho.irr] at this; cases this
  have hil := (List.getElem?_eq_some_iff.1 hi).1
  by_cases h2 : placeT lt l k < i
  · obtain ⟨a, ha⟩ : ∃ a, l[placeT lt l k]? = some a := ⟨_, List.getElem?_eq_getElem (by omega)⟩
    have h3 := h.get_lt ha hi h2
    have := (h.place_iff ho (k := k) ha).1 h3
    omega
  · omega
theorem Rise.nodup (ho : Ord lt) (h : Rise lt l) : (l.map (·.1)).Nodup := by
  unfold List.Nodup
  rw [List.pairwise_map]
  exact h.imp fun hab => ho.ne hab
theorem hasT_at [DecidableEq α] (ho : Ord lt) (h : Rise lt l) : hasT l k = true ↔ ∃ y, l[placeT lt l k]? = some (k, y) := by
  constructor
  · intro hh
    obtain ⟨a, ha, e⟩ := List.mem_map.1 (hasT_iff.1 hh)
    obtain ⟨i, hi⟩ := List.mem_iff_getElem?.1 ha
    obtain ⟨a1, a2⟩ := a
    simp only at e
    subst e
    exact ⟨a2, by rw [h.place_at ho hi]; exact hi⟩
  · rintro ⟨y, hy⟩
    exact hasT_iff.2 (List.mem_map.2 ⟨_, List.mem_of_getElem? hy, rfl⟩)
theorem getT_at [DecidableEq α] (ho : Ord lt) (h : Rise lt l) {i : Nat} {y : β} (hi : l[i]? = some (k, y)) : getT l k = some y := by
  induction l generalizing i with
  | nil => simp at hi
  | cons z l ih =>
    have hp := List.pairwise_cons.1 h
    cases i with
    | zero => simp at hi; subst hi; rw [getT, if_pos rfl]
    | succ i =>
      have hi' : l[i]? = some (k, y) := by simpa using hi
      have hne := ho.ne (hp.1 _ (List.mem_of_getElem? hi'))
      rw [getT, if_neg hne, ih hp.2 hi']
/-- one more, at its place: they rise -/
theorem Rise.ins [DecidableEq α] (ho : Ord lt) (h : Rise lt l) (hk : hasT l k = false) : Rise lt (insT lt l k x) := by
  unfold insT Rise
  have hno : ∀ a ∈ l, a.1 ≠ k := fun a ha e => by
    have : hasT l k = true := hasT_iff.2 (List.mem_map.2 ⟨a, ha, e⟩)
    rw [hk] at this; cases this
  have ht : ∀ a ∈ l.take (placeT lt l k), lt a.1 k = true := fun a ha => by
    obtain ⟨i, hi⟩ := List.mem_iff_getElem?.1 ha
    rw [List.getElem?_take] at hi
    split at hi
    · exact (h.place_iff ho hi).2 ‹_›
    · cases hi
  have hd : ∀ a ∈ l.drop (placeT lt l k), lt k a.1 = true := fun a ha => by
    obtain ⟨i, hi⟩ := List.mem_iff_getElem?.1 ha
    rw [List.getElem?_drop] at hi
    have h1 : ¬ lt a.1 k = true := fun hl => by have := (h.place_iff ho hi).1 hl; omega
    exact (ho.tot k a.1 (fun e => hno a (List.mem_of_getElem? hi) e.symm)).resolve_right h1
  rw [List.pairwise_append, List.pairwise_append]
  refine ⟨⟨h.sublist (List.take_sublist _ _), List.pairwise_singleton _ _, ?_⟩, h.sublist (List.drop_sublist _ _), ?_⟩
  · intro a ha b hb
    simp at hb; subst hb; exact ht a ha
  · intro a ha b hb
    rcases List.mem_append.1 ha with ha | ha
    · exact ho.trans _ _ _ (ht a ha) (hd b hb)
    · simp at ha; subst ha; exact hd b hb
theorem setT_keys [DecidableEq α] (l : List (α × β)) (k : α) (x : β) : (setT l k x).map (·.1) = l.map (·.1) := by
  unfold setT
  rw [List.map_map]
  apply List.map_congr_left
  intro y _
  show (if y.1 = k then (k, x) else y).1 = y.1
  split
  · rename_i e; exact e.symm
  · rfl
theorem Rise.set [DecidableEq α] (h : Rise lt l) : Rise lt (setT l k x) := by
  have h1 : (l.map (·.1)).Pairwise fun a b => lt a b = true := List.pairwise_map.2 h
  rw [← setT_keys l k x] at h1
  exact List.pairwise_map.1 h1
theorem Rise.del [DecidableEq α] (h : Rise lt l) : Rise lt (delT l k) := h.sublist List.filter_sublist
theorem Rise.put [DecidableEq α] (ho : Ord lt) (h : Rise lt l) (most : Nat) : Rise lt (putT lt most l k x) := by
  unfold putT
  cases hk : hasT l k with
  | true => rw [if_pos rfl]; exact h.set
  | false =>
    rw [if_neg (by simp)]
    split
    · exact h.ins ho hk
    · exact h
/-- what is there has another thing: at its place -/
theorem setT_at [DecidableEq α] (ho : Ord lt) (h : Rise lt l) {i : Nat} {y : β} (hi : l[i]? = some (k, y)) : setT l k x = l.set i (k, x) := by
  apply List.ext_getElem?
  intro j
  unfold setT
  rw [List.getElem?_map]
  have hil := (List.getElem?_eq_some_iff.1 hi).1
  by_cases hij : i = j
  · subst hij
    rw [hi, List.getElem?_set_self hil]
    simp
  · rw [List.getElem?_set_ne hij]
    cases hj : l[j]? with
    | none => rfl
    | some z =>
      have hne : z.1 ≠ k := fun e => by
        rcases Nat.lt_or_gt_of_ne hij with h1 | h1
        · have := h.get_lt hi hj h1; rw [e, ho.irr] at this; cases this
        · have := h.get_lt hj hi h1; rw [e, ho.irr] at this; cases this
      simp [hne]
/-- what goes is out of its place -/
theorem delT_at [DecidableEq α] (ho : Ord lt) (h : Rise lt l) {i : Nat} {y : β} (hi : l[i]? = some (k, y)) : delT l k = l.take i ++ l.drop (i + 1) := by
  induction l generalizing i with
  | nil => simp at hi
  | cons z l ih =>
    have hp := List.pairwise_cons.1 h
    unfold delT at ih ⊢
    cases i with
    | zero =>
      simp at hi; subst hi
      have hall : l.filter (fun y => y.1 != k) = l := List.filter_eq_self.2 fun a ha => by
        have := ho.ne (hp.1 a ha)
        simpa using fun e => this e.symm
      rw [List.filter_cons, if_neg (by simp), hall]; rfl
    | succ i =>
      have hi' : l[i]? = some (k, y) := by simpa using hi
      have hne := ho.ne (hp.1 _ (List.mem_of_getElem? hi'))
      rw [List.filter_cons, if_pos (by simpa using hne), ih hp.2 hi']; rfl
theorem delT_no [DecidableEq α] (hk : hasT l k = false) : delT l k = l := by
  unfold delT
  refine List.filter_eq_self.2 fun a ha => ?_
  have : a.1 ≠ k := fun e => by
    have : hasT l k = true := hasT_iff.2 (List.mem_map.2 ⟨a, ha, e⟩)
    rw [hk] at this; cases this
  simpa using this
theorem insT_len (lt : α → α → Bool) (l : List (α × β)) (k : α) (x : β) : (insT lt l k x).length = l.length + 1 := by
  unfold insT
  have := placeT_le lt l k
  simp only [List.length_append, List.length_take, List.length_drop, List.length_cons, List.length_nil]; omega
theorem setT_len [DecidableEq α] (l : List (α × β)) (k : α) (x : β) : (setT l k x).length = l.length := by unfold setT; rw [List.length_map]
theorem putT_len [DecidableEq α] (lt : α → α → Bool) {most : Nat} {l : List (α × β)} (h : l.length ≤ most) (k : α) (x : β) : (putT lt most l k x).length ≤ most := by
  unfold putT
  split
  · rw [setT_len]; exact h
  · split
    · rw [insT_len]; omega
    · exact h
theorem getT_ins_own [DecidableEq α] (ho : Ord lt) (h : Rise lt l) (hk : hasT l k = false) : getT (insT lt l k x) k = some x := by
  have hr := h.ins (x := x) ho hk
  have hl := placeT_le lt l k
  refine getT_at ho hr (i := placeT lt l k) ?_
  unfold insT
  rw [List.append_assoc, List.getElem?_append_right (by rw [List.length_take]; omega), List.length_take, Nat.min_eq_left hl, Nat.sub_self]
  rfl
theorem getT_set_own [DecidableEq α] (ho : Ord lt) (h : Rise lt l) (hk : hasT l k = true) : getT (setT l k x) k = some x := by
  obtain ⟨y, hy⟩ := (hasT_at ho h).1 hk
  refine getT_at ho (h.set (x := x)) (i := placeT lt l k) ?_
  rw [setT_at ho h hy, List.getElem?_set_self (List.getElem?_eq_some_iff.1 hy).1]
theorem getT_del_own [DecidableEq α] (l : List (α × β)) (k : α) : getT (delT l k) k = none := by
  refine getT_none ?_
  cases hh : hasT (delT l k) k
  · rfl
  · obtain ⟨a, ha, e⟩ := List.mem_map.1 (hasT_iff.1 hh)
    unfold delT at ha
    have := (List.mem_filter.1 ha).2
    simp [e] at this
/-- the law's own way to the place: the last one that is ahead, and one more -/
theorem Rise.before_step (ho : Ord lt) (h : Rise lt l) {j : Nat} {a : α × β} (hj : l[j]? = some a) : (if lt a.1 k = true then j + 1 else min (placeT lt l k) j) = min (placeT lt l k) (j + 1) := by
  have h1 := h.place_iff ho (k := k) hj
  split
  · have := h1.1 ‹_›; omega
  · have : ¬ j < placeT lt l k := fun hl => ‹¬ _› (h1.2 hl)
    omega
end
/-- numbers in the order of words -/
def ltW : List Int → List Int → Bool
  | x :: a, y :: b => if x = y then ltW a b else decide (x < y)
  | _, _ => false
theorem ltW_irr : ∀ a, ltW a a = false
  | [] => rfl
  | x :: a => by rw [ltW, if_pos rfl]; exact ltW_irr a
theorem ltW_trans : ∀ a b c : List Int, ltW a b = true → ltW b c = true → ltW a c = true
  | x :: a, y :: b, z :: c, h1, h2 => by
    rw [ltW] at h1 h2 ⊢
    by_cases h3 : x = y
    · rw [if_pos h3] at h1
      subst h3
      by_cases h4 : x = z
      · rw [if_pos h4] at h2 ⊢; exact ltW_trans a b c h1 h2
      · rw [if_neg h4] at h2 ⊢; exact h2
    · rw [if_neg h3] at h1
      by_cases h4 : y = z
      · subst h4; rw [if_neg h3]; exact h1
      · rw [if_neg h4] at h2
        have e1 := of_decide_eq_true h1
        have e2 := of_decide_eq_true h2
        rw [if_neg (by omega)]
        exact decide_eq_true (by omega)
  | [], _, _, h1, _ => by cases h1
  | _ :: _, [], _, h1, _ => by cases h1
  | _ :: _, _ :: _, [], _, h2 => by cases h2
theorem ltW_tot : ∀ a b : List Int, a.length = b.length → a ≠ b → ltW a b = true ∨ ltW b a = true
  | [], [], _, h => absurd rfl h
  | x :: a, y :: b, hl, h => by
    rw [ltW, ltW]
    by_cases hx : x = y
    · subst hx
      rw [if_pos rfl, if_pos rfl]
      exact ltW_tot a b (by simpa using hl) (fun e => h (by rw [e]))
    · rw [if_neg hx, if_neg (fun e => hx e.symm)]
      rcases Int.lt_or_lt_of_ne hx with h1 | h1
      · exact .inl (decide_eq_true h1)
      · exact .inr (decide_eq_true h1)
  | [], _ :: _, hl, _ => by simp at hl
  | _ :: _, [], hl, _ => by simp at hl
/-- whom a thing belongs to: an address, a SAP here, a SAP there -/
structure EK where
  a0 : Int
  a1 : Int
  a2 : Int
  a3 : Int
  a4 : Int
  a5 : Int
  near : Int
  there_ : Int
def EK.word (k : EK) : List Int := [k.a0, k.a1, k.a2, k.a3, k.a4, k.a5, k.near, k.there_]
theorem EK.word_inj {a b : EK} (h : a.word = b.word) : a = b := by
  obtain ⟨_, _, _, _, _, _, _, _⟩ := a
  obtain ⟨_, _, _, _, _, _, _, _⟩ := b
  simp [EK.word] at h
  simp [h]
instance : DecidableEq EK := fun a b => if h : a.word = b.word then isTrue (EK.word_inj h) else isFalse (fun e => h (by rw [e]))
def ltE (a b : EK) : Bool := ltW a.word b.word
theorem ltE_ord : Ord ltE := ⟨fun a => ltW_irr _, fun a b c => ltW_trans _ _ _, fun a b h => ltW_tot _ _ rfl (fun e => h (EK.word_inj e))⟩
end Go.Proofs.Ytjkgiepfglimcaa
