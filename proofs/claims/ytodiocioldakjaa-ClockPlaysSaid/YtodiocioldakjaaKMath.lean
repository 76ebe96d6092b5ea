/- Timers in order, plainly: a row of keys and of what is left. No program is named here. -/
import Derived.WalkKit
namespace Go.Proofs.Ytodiocioldakjaa
open Go.RowKit
set_option linter.unusedVariables false
variable {α : Type}

/-- does k's timer run? -/
def hasK [DecidableEq α] (l : List (α × Int)) (k : α) : Bool := l.any (fun x => x.1 == k)
/-- what is left of it; 0: it does not run -/
def leftK [DecidableEq α] : List (α × Int) → α → Int
  | [], _ => 0
  | x :: l, k => if x.1 = k then x.2 else leftK l k
def stopK [DecidableEq α] (l : List (α × Int)) (k : α) : List (α × Int) := l.filter (fun x => x.1 != k)
def startK [DecidableEq α] (l : List (α × Int)) (k : α) (t : Int) : List (α × Int) := stopK l k ++ [(k, t)]
/-- is it started? -/
def startB [DecidableEq α] (most : Nat) (l : List (α × Int)) (k : α) (t mx : Int) : Bool := decide (1 ≤ t) && decide (t ≤ mx) && (hasK l k || decide (l.length < most))
/-- told at a tick; and those that run on -/
def toldK (l : List (α × Int)) : List α := (l.filter (fun x => x.2 == 1)).map (·.1)
def tickK (l : List (α × Int)) : List (α × Int) := (l.filter (fun x => x.2 != 1)).map (fun x => (x.1, x.2 - 1))
/-- each key once; of each there is something left -/
structure InK (most : Nat) (mx : Int) (l : List (α × Int)) : Prop where
  once : (l.map (·.1)).Nodup
  room : l.length ≤ most
  left : ∀ x ∈ l, 1 ≤ x.2 ∧ x.2 ≤ mx
theorem hasK_iff [DecidableEq α] {l : List (α × Int)} {k : α} : hasK l k = true ↔ k ∈ l.map (·.1) := by
  unfold hasK
  rw [List.any_eq_true, List.mem_map]
  constructor
  · rintro ⟨x, h1, h2⟩; exact ⟨x, h1, by simpa using h2⟩
  · rintro ⟨x, h1, h2⟩; exact ⟨x, h1, by simpa using h2⟩
theorem stopK_keys [DecidableEq α] (l : List (α × Int)) (k : α) : (stopK l k).map (·.1) = (l.map (·.1)).filter (· != k) := by
  induction l with
  | nil => rfl
  | cons x l ih =>
    unfold stopK at ih ⊢
    rw [List.map_cons, List.filter_cons, List.filter_cons]
    by_cases h : x.1 != k
    · rw [if_pos h, if_pos h, List.map_cons, ih]
    · rw [if_neg h, if_neg h, ih]
theorem stopK_no [DecidableEq α] {l : List (α × Int)} {k : α} (h : hasK l k = false) : stopK l k = l := by
  unfold stopK
  rw [List.filter_eq_self]
  intro x hx
  unfold hasK at h
  rw [List.any_eq_false] at h
  have := h x hx
  simpa using this
theorem stopK_len [DecidableEq α] {l : List (α × Int)} {k : α} (hd : (l.map (·.1)).Nodup) (h : hasK l k = true) : (stopK l k).length + 1 = l.length := by
  induction l with
  | nil => cases h
  | cons x l ih =>
    rw [List.map_cons, List.nodup_cons] at hd
    by_cases hx : x.1 = k
    · have hno : hasK l k = false := by
        cases hh : hasK l k
        · rfl
        · exact absurd (hasK_iff.1 hh) (hx ▸ hd.1)
      have e : stopK (x :: l) k = stopK l k := by
        unfold stopK; rw [List.filter_cons, if_neg (by simp [hx])]
      rw [e, stopK_no hno]; rfl
    · have e : stopK (x :: l) k = x :: stopK l k := by
        unfold stopK; rw [List.filter_cons, if_pos (by simp [hx])]
      have h' : hasK l k = true := by
        unfold hasK at h ⊢
        rw [List.any_cons] at h
        simpa [hx] using h
      rw [e, List.length_cons, List.length_cons, ih hd.2 h']
theorem InK.stop [DecidableEq α] {most : Nat} {mx : Int} {k : α} {l : List (α × Int)} (h : InK most mx l) : InK most mx (stopK l k) := by
  refine ⟨?_, Nat.le_trans (List.length_filter_le _ _) h.room, fun x hx => h.left x (List.mem_filter.1 hx).1⟩
  rw [stopK_keys]
  exact h.once.filter _
theorem InK.start [DecidableEq α] {most : Nat} {mx t : Int} {k : α} {l : List (α × Int)} (h : InK most mx l) (hb : startB most l k t mx = true) : InK most mx (startK l k t) := by
  unfold startB at hb
  simp only [Bool.and_eq_true, Bool.or_eq_true, decide_eq_true_eq] at hb
  refine ⟨?_, ?_, ?_⟩
  · unfold startK
    rw [List.map_append, List.nodup_append]
    refine ⟨h.stop.once, by simp, ?_⟩
    intro a ha b hb' e
    simp at hb'
    subst hb'
    subst e
    rw [stopK_keys, List.mem_filter] at ha
    simp at ha
  · unfold startK
    rw [List.length_append]
    have hl := h.room
    rcases hb.2 with h1 | h1
    · have := stopK_len h.once h1
      simp; omega
    · have : (stopK l k).length ≤ l.length := List.length_filter_le _ _
      simp; omega
  · intro x hx
    unfold startK at hx
    rcases List.mem_append.1 hx with hx | hx
    · exact h.stop.left x hx
    · simp at hx; subst hx; exact ⟨hb.1.1, hb.1.2⟩
theorem tickK_keys (l : List (α × Int)) : (tickK l).map (·.1) = (l.filter (fun x => x.2 != 1)).map (·.1) := by
  unfold tickK; rw [List.map_map]; rfl
theorem InK.tick {most : Nat} {mx : Int} {l : List (α × Int)} (h : InK most mx l) : InK most mx (tickK l) := by
  refine ⟨?_, ?_, ?_⟩
  · rw [tickK_keys]
    exact h.once.sublist ((List.filter_sublist).map _)
  · unfold tickK; rw [List.length_map]; exact Nat.le_trans (List.length_filter_le _ _) h.room
  · intro x hx
    unfold tickK at hx
    obtain ⟨y, hy, rfl⟩ := List.mem_map.1 hx
    obtain ⟨h1, h2⟩ := List.mem_filter.1 hy
    have := h.left y h1
    have hne : y.2 ≠ 1 := by simpa using h2
    exact ⟨by show 1 ≤ y.2 - 1; omega, by show y.2 - 1 ≤ mx; omega⟩
/-! what becomes of one timer -/
theorem leftK_stop_other [DecidableEq α] {l : List (α × Int)} {k j : α} (h : j ≠ k) : leftK (stopK l j) k = leftK l k := by
  induction l with
  | nil => rfl
  | cons x l ih =>
    by_cases hj : x.1 = j
    · have e : stopK (x :: l) j = stopK l j := by unfold stopK; rw [List.filter_cons, if_neg (by simp [hj])]
      rw [e, ih, leftK, if_neg (fun e' => h (hj.symm.trans e'))]
    · have e : stopK (x :: l) j = x :: stopK l j := by unfold stopK; rw [List.filter_cons, if_pos (by simp [hj])]
      rw [e, leftK, leftK, ih]
theorem leftK_append_other [DecidableEq α] {l : List (α × Int)} {k j : α} {t : Int} (h : j ≠ k) : leftK (l ++ [(j, t)]) k = leftK l k := by
  induction l with
  | nil =>
    show (if j = k then t else leftK [] k) = leftK [] k
    rw [if_neg h]
  | cons x l ih => rw [List.cons_append, leftK, leftK, ih]
theorem leftK_start_other [DecidableEq α] {l : List (α × Int)} {k j : α} {t : Int} (h : j ≠ k) : leftK (startK l j t) k = leftK l k := by
  unfold startK; rw [leftK_append_other h, leftK_stop_other h]
theorem leftK_start_own [DecidableEq α] (l : List (α × Int)) (k : α) (t : Int) : leftK (startK l k t) k = t := by
  have h : ∀ m : List (α × Int), (∀ x ∈ m, x.1 ≠ k) → leftK (m ++ [(k, t)]) k = t := by
    intro m
    induction m with
    | nil => intro _; rw [List.nil_append, leftK, if_pos rfl]
    | cons x m ih => intro hm; rw [List.cons_append, leftK, if_neg (hm x (by simp)), ih (fun y hy => hm y (by simp [hy]))]
  exact h _ (fun x hx => by unfold stopK at hx; simpa using (List.mem_filter.1 hx).2)
theorem leftK_none [DecidableEq α] {l : List (α × Int)} {k : α} (h : ∀ x ∈ l, x.1 ≠ k) : leftK l k = 0 := by
  induction l with
  | nil => rfl
  | cons x l ih => rw [leftK, if_neg (h x (by simp)), ih (fun y hy => h y (by simp [hy]))]
theorem tickK_mem {l : List (α × Int)} {x : α × Int} (h : x ∈ tickK l) : (x.1, x.2 + 1) ∈ l := by
  unfold tickK at h
  obtain ⟨y, hy, rfl⟩ := List.mem_map.1 h
  have := (List.mem_filter.1 hy).1
  simpa using this
/-- a tick takes one from it; and tells it, when it was the last -/
theorem leftK_tick [DecidableEq α] {l : List (α × Int)} {k : α} (hd : (l.map (·.1)).Nodup) (hl : ∀ x ∈ l, 1 ≤ x.2) : leftK (tickK l) k = (if leftK l k = 0 then 0 else leftK l k - 1) := by
  induction l with
  | nil => rfl
  | cons x l ih =>
    rw [List.map_cons, List.nodup_cons] at hd
    have ih := ih hd.2 (fun y hy => hl y (by simp [hy]))
    have hx1 := hl x (by simp)
    by_cases hx : x.1 = k
    · have hno : ∀ y ∈ l, y.1 ≠ k := fun y hy e => hd.1 (List.mem_map.2 ⟨y, hy, by rw [e, hx]⟩)
      rw [leftK, if_pos hx, if_neg (by omega)]
      by_cases h1 : x.2 = 1
      · have e : tickK (x :: l) = tickK l := by unfold tickK; rw [List.filter_cons, if_neg (by simp [h1])]
        rw [e, leftK_none (fun y hy => ?_), h1]
        · rfl
        · exact fun e => hno _ (tickK_mem hy) e
      · have e : tickK (x :: l) = (x.1, x.2 - 1) :: tickK l := by unfold tickK; rw [List.filter_cons, if_pos (by simp [h1]), List.map_cons]
        rw [e, leftK, if_pos hx]
    · rw [leftK, if_neg hx]
      by_cases h1 : x.2 = 1
      · have e : tickK (x :: l) = tickK l := by unfold tickK; rw [List.filter_cons, if_neg (by simp [h1])]
        rw [e, ih]
      · have e : tickK (x :: l) = (x.1, x.2 - 1) :: tickK l := by unfold tickK; rw [List.filter_cons, if_pos (by simp [h1]), List.map_cons]
        rw [e, leftK, if_neg (show ¬ (x.1, x.2 - 1).1 = k from hx), ih]
/-- how often it is told: once, when one is left -/
theorem told_count [DecidableEq α] {l : List (α × Int)} {k : α} (hd : (l.map (·.1)).Nodup) (hl : ∀ x ∈ l, 1 ≤ x.2) : (toldK l).count k = if leftK l k = 1 then 1 else 0 := by
  induction l with
  | nil => rfl
  | cons x l ih =>
    rw [List.map_cons, List.nodup_cons] at hd
    have ih := ih hd.2 (fun y hy => hl y (by simp [hy]))
    have hx1 := hl x (by simp)
    by_cases hx : x.1 = k
    · have hno : ∀ y ∈ l, y.1 ≠ k := fun y hy e => hd.1 (List.mem_map.2 ⟨y, hy, by rw [e, hx]⟩)
      have h0 : (toldK l).count k = 0 := by rw [ih, leftK_none hno]; rfl
      rw [leftK, if_pos hx]
      by_cases h1 : x.2 = 1
      · have e : toldK (x :: l) = x.1 :: toldK l := by unfold toldK; rw [List.filter_cons, if_pos (by simp [h1]), List.map_cons]
        rw [e, List.count_cons, h0, if_pos h1, if_pos (by simp [hx])]
      · have e : toldK (x :: l) = toldK l := by unfold toldK; rw [List.filter_cons, if_neg (by simp [h1])]
        rw [e, h0, if_neg h1]
    · rw [leftK, if_neg hx]
      by_cases h1 : x.2 = 1
      · have e : toldK (x :: l) = x.1 :: toldK l := by unfold toldK; rw [List.filter_cons, if_pos (by simp [h1]), List.map_cons]
        rw [e, List.count_cons, ih, if_neg (show ¬ (x.1 == k) = true by simp [hx])]; rfl
      · have e : toldK (x :: l) = toldK l := by unfold toldK; rw [List.filter_cons, if_neg (by simp [h1])]
        rw [e, ih]
/-! all of one length -/
theorem tick_all {ks : List α} {n : Int} (h : n ≠ 1) : tickK (ks.map (fun k => (k, n))) = ks.map (fun k => (k, n - 1)) ∧ toldK (ks.map (fun k => (k, n))) = [] := by
  induction ks with
  | nil => exact ⟨rfl, rfl⟩
  | cons k ks ih =>
    obtain ⟨h1, h2⟩ := ih
    constructor
    · unfold tickK at h1 ⊢
      rw [List.map_cons, List.filter_cons, if_pos (by simp [h]), List.map_cons, h1, List.map_cons]
    · unfold toldK at h2 ⊢
      rw [List.map_cons, List.filter_cons, if_neg (by simp [h]), h2]
theorem tick_end (ks : List α) : tickK (ks.map (fun k => (k, (1 : Int)))) = [] ∧ toldK (ks.map (fun k => (k, (1 : Int)))) = ks := by
  induction ks with
  | nil => exact ⟨rfl, rfl⟩
  | cons k ks ih =>
    obtain ⟨h1, h2⟩ := ih
    constructor
    · unfold tickK at h1 ⊢
      rw [List.map_cons, List.filter_cons, if_neg (by simp), h1]
    · unfold toldK at h2 ⊢
      rw [List.map_cons, List.filter_cons, if_pos (by simp), List.map_cons, h2]
theorem start_all [DecidableEq α] (ks : List α) (n : Int) (k : α) : startK (ks.map (fun k => (k, n))) k n = (ks.filter (· != k) ++ [k]).map (fun k => (k, n)) := by
  unfold startK
  rw [List.map_append]
  congr 1
  induction ks with
  | nil => rfl
  | cons j ks ih =>
    unfold stopK at ih ⊢
    rw [List.map_cons, List.filter_cons, List.filter_cons]
    by_cases h : (j != k) = true
    · rw [if_pos h, if_pos h, List.map_cons, ih]
    · rw [if_neg h, if_neg h, ih]
theorem leftK_at [DecidableEq α] {l : List (α × Int)} {k : α} {i : Nat} {x : Int} (h : l[i]? = some (k, x)) (hd : (l.map (·.1)).Nodup) : leftK l k = x := by
  induction l generalizing i with
  | nil => simp at h
  | cons y l ih =>
    rw [List.map_cons, List.nodup_cons] at hd
    cases i with
    | zero => simp at h; subst h; rw [leftK, if_pos rfl]
    | succ i =>
      have h' : l[i]? = some (k, x) := by simpa using h
      have hne : y.1 ≠ k := fun e => hd.1 (List.mem_map.2 ⟨(k, x), List.mem_of_getElem? h', e.symm⟩)
      rw [leftK, if_neg hne, ih h' hd.2]
theorem startB_no {α : Type} [DecidableEq α] {m : Nat} {l : List (α × Int)} {k : α} {t : Int} (h : t < 1 ∨ 10000 < t) : startB m l k t 10000 = false := by
  unfold startB
  rcases h with h | h
  · have : decide (1 ≤ t) = false := by rw [decide_eq_false_iff_not]; omega
    rw [this]; rfl
  · have : decide (t ≤ 10000) = false := by rw [decide_eq_false_iff_not]; omega
    rw [this, Bool.and_false]; rfl
theorem startB_is {α : Type} [DecidableEq α] {m : Nat} {l : List (α × Int)} {k : α} {t : Int} (h1 : 1 ≤ t) (h2 : t ≤ 10000) : startB m l k t 10000 = (hasK l k || decide (l.length < m)) := by
  unfold startB
  rw [decide_eq_true h1, decide_eq_true h2]; rfl
end Go.Proofs.Ytodiocioldakjaa
