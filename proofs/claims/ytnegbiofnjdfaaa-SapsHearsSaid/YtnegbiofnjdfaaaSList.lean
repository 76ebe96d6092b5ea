/- Who listens where, plainly: what each deed makes of who is active, of what class, in which groups. No program is named here. -/
import Derived.Test.YtnegbiofnjdfaaaSMath
namespace Go.Proofs.Ytnegbiofnjdfaaa
open Go.RowKit
set_option linter.unusedVariables false

theorem hasS_cons (s : SV) (l : List SV) (n : Int) : hasS (s :: l) n = (s.sap == n || hasS l n) := rfl
theorem mem_no {l : List SV} {n g : Int} (h : hasS l n = false) : memS l n g = false := by
  induction l with
  | nil => rfl
  | cons y l ih =>
    rw [hasS_cons, Bool.or_eq_false_iff] at h
    rw [memS, if_neg (by simpa using h.1), ih h.2]
theorem has_ins (x : SV) (l : List SV) (n : Int) : hasS (insS x l) n = (x.sap == n || hasS l n) := by
  rw [Bool.eq_iff_iff, Bool.or_eq_true, hasS_iff, hasS_iff]
  constructor
  · rintro ⟨s, hs, e⟩
    rcases insS_mem.1 hs with rfl | hs
    · exact .inl (by simpa using e)
    · exact .inr ⟨s, hs, e⟩
  · rintro (h | ⟨s, hs, e⟩)
    · exact ⟨x, insS_mem.2 (.inl rfl), by simpa using h⟩
    · exact ⟨s, insS_mem.2 (.inr hs), e⟩
theorem cls_ins {x : SV} {l : List SV} (h : hasS l x.sap = false) (n : Int) : clsS (insS x l) n = if x.sap = n then x.cls else clsS l n := by
  induction l with
  | nil => rfl
  | cons y l ih =>
    rw [hasS_cons, Bool.or_eq_false_iff] at h
    have hy : y.sap ≠ x.sap := by simpa using h.1
    unfold insS
    split
    · rw [clsS]
    · rw [clsS, ih h.2, clsS]
      by_cases e : y.sap = n
      · rw [if_pos e, if_neg (by omega), if_pos e]
      · rw [if_neg e, if_neg e]
theorem mem_ins {x : SV} {l : List SV} (h : hasS l x.sap = false) (n g : Int) : memS (insS x l) n g = if x.sap = n then x.gs.contains g else memS l n g := by
  induction l with
  | nil => rfl
  | cons y l ih =>
    rw [hasS_cons, Bool.or_eq_false_iff] at h
    have hy : y.sap ≠ x.sap := by simpa using h.1
    unfold insS
    split
    · rw [memS]
    · rw [memS, ih h.2, memS]
      by_cases e : y.sap = n
      · rw [if_pos e, if_neg (by omega), if_pos e]
      · rw [if_neg e, if_neg e]
theorem close_cons (y : SV) (l : List SV) (k : Int) : closeS (y :: l) k = if y.sap = k then closeS l k else y :: closeS l k := by
  unfold closeS
  rw [List.filter_cons]
  by_cases e : y.sap = k
  · simp [e]
  · simp [e]
theorem has_close (l : List SV) (k n : Int) : hasS (closeS l k) n = if n = k then false else hasS l n := by
  induction l with
  | nil => split <;> rfl
  | cons y l ih =>
    rw [close_cons, hasS_cons]
    by_cases e : y.sap = k
    · rw [if_pos e, ih]
      by_cases e2 : n = k
      · rw [if_pos e2, if_pos e2]
      · rw [if_neg e2, if_neg e2]; simp; omega
    · rw [if_neg e, hasS_cons, ih]
      by_cases e2 : n = k
      · rw [if_pos e2, if_pos e2]; simp; omega
      · rw [if_neg e2, if_neg e2]
theorem cls_close (l : List SV) (k n : Int) : clsS (closeS l k) n = if n = k then 0 else clsS l n := by
  induction l with
  | nil => split <;> rfl
  | cons y l ih =>
    rw [close_cons, clsS]
    by_cases e : y.sap = k
    · rw [if_pos e, ih]
      by_cases e2 : n = k
      · rw [if_pos e2, if_pos e2]
      · rw [if_neg e2, if_neg e2, if_neg (by omega)]
    · rw [if_neg e, clsS, ih]
      by_cases e2 : n = k
      · rw [if_pos e2, if_pos e2, if_neg (by omega)]
      · rw [if_neg e2, if_neg e2]
theorem mem_close (l : List SV) (k n g : Int) : memS (closeS l k) n g = if n = k then false else memS l n g := by
  induction l with
  | nil => split <;> rfl
  | cons y l ih =>
    rw [close_cons, memS]
    by_cases e : y.sap = k
    · rw [if_pos e, ih]
      by_cases e2 : n = k
      · rw [if_pos e2, if_pos e2]
      · rw [if_neg e2, if_neg e2, if_neg (by omega)]
    · rw [if_neg e, memS, ih]
      by_cases e2 : n = k
      · rw [if_pos e2, if_pos e2, if_neg (by omega)]
      · rw [if_neg e2, if_neg e2]
theorem has_map {f : SV → SV} (hf : ∀ s, (f s).sap = s.sap) (l : List SV) (n : Int) : hasS (l.map f) n = hasS l n := by
  induction l with
  | nil => rfl
  | cons y l ih => rw [List.map_cons, hasS_cons, hasS_cons, hf, ih]
theorem cls_map {f : SV → SV} (hf : ∀ s, (f s).sap = s.sap) (hc : ∀ s, (f s).cls = s.cls) (l : List SV) (n : Int) : clsS (l.map f) n = clsS l n := by
  induction l with
  | nil => rfl
  | cons y l ih => rw [List.map_cons, clsS, clsS, hf, hc, ih]
abbrev joinF (k g0 : Int) : SV → SV := fun s => if s.sap = k then ⟨s.sap, s.cls, s.gs ++ [g0]⟩ else s
abbrev leaveF (k g0 : Int) : SV → SV := fun s => if s.sap = k then ⟨s.sap, s.cls, s.gs.filter (· != g0)⟩ else s
theorem joinF_sap (k g0 : Int) (s : SV) : (joinF k g0 s).sap = s.sap := by unfold joinF; split <;> rfl
theorem joinF_cls (k g0 : Int) (s : SV) : (joinF k g0 s).cls = s.cls := by unfold joinF; split <;> rfl
theorem leaveF_sap (k g0 : Int) (s : SV) : (leaveF k g0 s).sap = s.sap := by unfold leaveF; split <;> rfl
theorem leaveF_cls (k g0 : Int) (s : SV) : (leaveF k g0 s).cls = s.cls := by unfold leaveF; split <;> rfl
theorem mem_join (l : List SV) (k g0 n g : Int) : memS (l.map (joinF k g0)) n g = (memS l n g || (decide (n = k) && decide (g = g0) && hasS l k)) := by
  induction l with
  | nil => simp [memS, hasS]
  | cons y l ih =>
    rw [List.map_cons, memS, joinF_sap, ih, memS, hasS_cons]
    by_cases e : y.sap = n
    · rw [if_pos e, if_pos e]
      unfold joinF
      by_cases e2 : y.sap = k
      · rw [if_pos e2, e2, show n = k by omega]
        rw [Bool.eq_iff_iff]
        simp
      · rw [if_neg e2, show decide (n = k) = false by simp; omega]; simp
    · rw [if_neg e, if_neg e]
      by_cases e2 : n = k
      · rw [show (y.sap == k) = false by simp; omega]; simp
      · rw [show decide (n = k) = false by simp; omega]; simp
theorem mem_leave (l : List SV) (k g0 n g : Int) : memS (l.map (leaveF k g0)) n g = (memS l n g && !(decide (n = k) && decide (g = g0))) := by
  induction l with
  | nil => simp [memS]
  | cons y l ih =>
    rw [List.map_cons, memS, leaveF_sap, ih, memS]
    by_cases e : y.sap = n
    · rw [if_pos e, if_pos e]
      unfold leaveF
      by_cases e2 : y.sap = k
      · rw [if_pos e2, show n = k by omega]
        rw [Bool.eq_iff_iff]
        simp
      · rw [if_neg e2, show decide (n = k) = false by simp; omega]; simp
    · rw [if_neg e, if_neg e]
theorem joinS_yes {l : List SV} {n g : Int} (h : joinE l n g = 0) : joinS l n g = l.map (joinF n g) := by unfold joinS; rw [if_pos h]
theorem joinS_no {l : List SV} {n g : Int} (h : joinE l n g ≠ 0) : joinS l n g = l := by unfold joinS; rw [if_neg h]
theorem leaveS_yes {l : List SV} {n g : Int} (h : leaveE l n g = 0) : leaveS l n g = l.map (leaveF n g) := by unfold leaveS; rw [if_pos h]
theorem leaveS_no {l : List SV} {n g : Int} (h : leaveE l n g ≠ 0) : leaveS l n g = l := by unfold leaveS; rw [if_neg h]
theorem leaveE_0 {l : List SV} {n g : Int} (h : leaveE l n g = 0) : OkGrp g ∧ memS l n g = true := by
  unfold leaveE at h
  split at h
  · rename_i h1
    split at h
    · rename_i h2; exact ⟨h1, h2⟩
    · omega
  · omega
theorem mem_has {l : List SV} {n g : Int} (h : memS l n g = true) : hasS l n = true := by
  cases hh : hasS l n
  · rw [mem_no hh] at h; cases h
  · rfl
theorem close_no {l : List SV} {n : Int} (h : hasS l n = false) : closeS l n = l := by
  unfold closeS
  rw [List.filter_eq_self]
  intro s hs
  cases hc : (s.sap != n)
  · have : hasS l n = true := hasS_iff.2 ⟨s, hs, by simpa using hc⟩
    rw [h] at this; cases this
  · rfl
/-! what is told, in order -/
theorem list_mem {l : List SV} {x : Int} : x ∈ listS l ↔ hasS l x = true := by
  unfold listS
  rw [List.mem_map, hasS_iff]
theorem list_rise {l : List SV} (h : InS l) : (listS l).Pairwise (· < ·) := by
  unfold listS
  rw [List.pairwise_map]
  exact h.rise
theorem list_len (l : List SV) : (listS l).length = l.length := by simp [listS]
theorem ok_has {l : List SV} (h : InS l) {x : Int} (hx : hasS l x = true) : OkSap x := by
  obtain ⟨s, hs, rfl⟩ := hasS_iff.1 hx
  exact (h.ok s hs).1
theorem ok_mem {l : List SV} (h : InS l) {x g : Int} (hx : memS l x g = true) : OkSap x ∧ OkGrp g := by
  have hh := mem_has hx
  obtain ⟨s, hs, rfl⟩ := hasS_iff.1 hh
  rw [(mem_at h.rise hs g).1] at hx
  exact ⟨(h.ok s hs).1, (h.ok s hs).2.2.1 g (by simpa using hx)⟩
theorem cls_ok {l : List SV} (h : InS l) {x : Int} (hx : hasS l x = true) : OkCls (clsS l x) := by
  obtain ⟨s, hs, rfl⟩ := hasS_iff.1 hx
  rw [(mem_at h.rise hs 0).2]
  exact (h.ok s hs).2.1
/-- of a number that is neither one that is active nor all, they are those of the group -/
theorem hear_mem {l : List SV} (h : InS l) {g : Int} (h1 : hasS l g = false) (h2 : g ≠ 255) {x : Int} : x ∈ hearS l g ↔ memS l x g = true := by
  unfold hearS
  rw [List.mem_map]
  constructor
  · rintro ⟨s, hs, rfl⟩
    obtain ⟨hs1, hs2⟩ := List.mem_filter.1 hs
    rw [(mem_at h.rise hs1 g).1]
    unfold hearB at hs2
    rw [Bool.or_eq_true, Bool.or_eq_true] at hs2
    rcases hs2 with (hs2 | hs2) | hs2
    · have : hasS l g = true := hasS_iff.2 ⟨s, hs1, by simpa using hs2⟩
      rw [h1] at this; cases this
    · exact absurd (by simpa using hs2) h2
    · exact hs2
  · intro hm
    obtain ⟨s, hs, rfl⟩ := hasS_iff.1 (mem_has hm)
    rw [(mem_at h.rise hs g).1] at hm
    exact ⟨s, List.mem_filter.2 ⟨hs, by unfold hearB; rw [hm]; simp⟩, rfl⟩
theorem hear_len (l : List SV) (g : Int) : (hearS l g).length ≤ l.length := by
  unfold hearS
  rw [List.length_map]
  exact List.length_filter_le _ _
theorem mem_nil (n g : Int) : memS [] n g = false := rfl
theorem nodup_le {α : Type} [DecidableEq α] : ∀ (l L : List α), l.Nodup → (∀ x ∈ l, x ∈ L) → l.length ≤ L.length
  | [], L, _, _ => Nat.zero_le _
  | x :: l, L, h, hL => by
    rw [List.nodup_cons] at h
    have hx := hL x (by simp)
    have ih := nodup_le l (L.erase x) h.2 (fun y hy => (List.mem_erase_of_ne (fun e => h.1 (by rw [← e]; exact hy))).2 (hL y (by simp [hy])))
    rw [List.length_erase_of_mem hx] at ih
    have := List.length_pos_of_mem hx
    rw [List.length_cons]
    omega
end Go.Proofs.Ytnegbiofnjdfaaa
