/- Who listens where, plainly: active SAPs, rising, each with its class and its groups. No program is named here. Who listens where, plainly: what each deed makes of who is active, of what class, in which groups. No program is named here. -/
import Derived.WalkKit
namespace Go.Proofs.Ytgpmimohoepeiaa
open Go.RowKit
set_option linter.unusedVariables false

/-- an active SAP -/
structure SV where
  sap : Int
  cls : Int
  gs : List Int
def OkSap (n : Int) : Prop := 2 ≤ n ∧ n ≤ 254 ∧ n % 2 = 0
def OkGrp (n : Int) : Prop := 1 ≤ n ∧ n ≤ 253 ∧ n % 2 = 1
def OkCls (n : Int) : Prop := 1 ≤ n ∧ n ≤ 4
instance (n : Int) : Decidable (OkSap n) := by unfold OkSap; infer_instance
instance (n : Int) : Decidable (OkGrp n) := by unfold OkGrp; infer_instance
instance (n : Int) : Decidable (OkCls n) := by unfold OkCls; infer_instance
def hasS (l : List SV) (n : Int) : Bool := l.any (fun s => s.sap == n)
def clsS : List SV → Int → Int
  | [], _ => 0
  | s :: l, n => if s.sap = n then s.cls else clsS l n
def memS : List SV → Int → Int → Bool
  | [], _, _ => false
  | s :: l, n, g => if s.sap = n then s.gs.contains g else memS l n g
def insS (x : SV) : List SV → List SV
  | [] => [x]
  | s :: l => if x.sap < s.sap then x :: s :: l else s :: insS x l
def openE (l : List SV) (n c : Int) : Int := if OkSap n ∧ OkCls c then (if hasS l n then 8 else if 16 ≤ l.length then 6 else 0) else 1
def openS (l : List SV) (n c : Int) : List SV := if openE l n c = 0 then insS ⟨n, c, []⟩ l else l
def closeE (l : List SV) (n : Int) : Int := if hasS l n then 0 else 7
def closeS (l : List SV) (n : Int) : List SV := l.filter (fun s => s.sap != n)
def joinE (l : List SV) (n g : Int) : Int := if OkGrp g then (if hasS l n then (if memS l n g then 8 else 0) else 7) else 1
def joinS (l : List SV) (n g : Int) : List SV := if joinE l n g = 0 then l.map (fun s => if s.sap = n then ⟨s.sap, s.cls, s.gs ++ [g]⟩ else s) else l
def leaveE (l : List SV) (n g : Int) : Int := if OkGrp g then (if memS l n g then 0 else 7) else 1
def leaveS (l : List SV) (n g : Int) : List SV := if leaveE l n g = 0 then l.map (fun s => if s.sap = n then ⟨s.sap, s.cls, s.gs.filter (· != g)⟩ else s) else l
def hearB (s : SV) (n : Int) : Bool := s.sap == n || n == 255 || s.gs.contains n
def hearS (l : List SV) (n : Int) : List Int := (l.filter (hearB · n)).map SV.sap
def listS (l : List SV) : List Int := l.map SV.sap
/-- they rise; each is a SAP with a class, in groups alone, each once -/
structure InS (l : List SV) : Prop where
  rise : l.Pairwise (fun a b => a.sap < b.sap)
  ok : ∀ s ∈ l, OkSap s.sap ∧ OkCls s.cls ∧ (∀ g ∈ s.gs, OkGrp g) ∧ s.gs.Nodup
  room : l.length ≤ 16
theorem InS.nil : InS [] := ⟨List.Pairwise.nil, fun s h => (by cases h), Nat.zero_le _⟩
theorem hasS_iff {l : List SV} {n : Int} : hasS l n = true ↔ ∃ s ∈ l, s.sap = n := by
  unfold hasS
  rw [List.any_eq_true]
  constructor
  · rintro ⟨s, h1, h2⟩; exact ⟨s, h1, by simpa using h2⟩
  · rintro ⟨s, h1, h2⟩; exact ⟨s, h1, by simpa using h2⟩
theorem insS_mem {x s : SV} {l : List SV} : s ∈ insS x l ↔ s = x ∨ s ∈ l := by
  induction l with
  | nil => simp [insS]
  | cons y l ih =>
    unfold insS
    split
    · simp
    · simp only [List.mem_cons, ih]
      constructor
      · rintro (h | h | h)
        · exact .inr (.inl h)
        · exact .inl h
        · exact .inr (.inr h)
      · rintro (h | h | h)
        · exact .inr (.inl h)
        · exact .inl h
        · exact .inr (.inr h)
theorem insS_len (x : SV) (l : List SV) : (insS x l).length = l.length + 1 := by
  induction l with
  | nil => rfl
  | cons y l ih =>
    unfold insS
    split
    · rfl
    · rw [List.length_cons, ih, List.length_cons]
theorem insS_rise {x : SV} {l : List SV} (h : l.Pairwise (fun a b => a.sap < b.sap)) (hn : ∀ s ∈ l, s.sap ≠ x.sap) : (insS x l).Pairwise (fun a b => a.sap < b.sap) := by
  induction l with
  | nil => exact List.pairwise_singleton _ _
  | cons y l ih =>
    rw [List.pairwise_cons] at h
    unfold insS
    have hy := hn y (by simp)
    split
    · rename_i hlt
      rw [List.pairwise_cons]
      refine ⟨fun s hs => ?_, List.pairwise_cons.2 h⟩
      rcases List.mem_cons.1 hs with rfl | hs
      · exact hlt
      · have := h.1 s hs; omega
    · rename_i hge
      rw [List.pairwise_cons]
      refine ⟨fun s hs => ?_, ih h.2 (fun s hs => hn s (by simp [hs]))⟩
      rcases insS_mem.1 hs with rfl | hs
      · omega
      · exact h.1 s hs
theorem openE_0 {l : List SV} {n c : Int} (h : openE l n c = 0) : OkSap n ∧ OkCls c ∧ hasS l n = false ∧ l.length < 16 := by
  unfold openE at h
  split at h
  · rename_i h1
    split at h
    · omega
    · rename_i h2
      split at h
      · omega
      · rename_i h3
        exact ⟨h1.1, h1.2, by simpa using h2, by omega⟩
  · omega
theorem InS.open {l : List SV} (h : InS l) (n c : Int) : InS (openS l n c) := by
  unfold openS
  split
  · rename_i he
    obtain ⟨h1, h2, h3, h4⟩ := openE_0 he
    refine ⟨insS_rise h.rise (fun s hs e => ?_), fun s hs => ?_, by rw [insS_len]; omega⟩
    · rw [hasS_iff.2 ⟨s, hs, e⟩] at h3; cases h3
    · rcases insS_mem.1 hs with rfl | hs
      · exact ⟨h1, h2, fun g hg => (by cases hg), List.nodup_nil⟩
      · exact h.ok s hs
  · exact h
theorem InS.close {l : List SV} (h : InS l) (n : Int) : InS (closeS l n) :=
  ⟨h.rise.filter _, fun s hs => h.ok s (List.mem_filter.1 hs).1, Nat.le_trans (List.length_filter_le _ _) h.room⟩
theorem mem_at {l : List SV} (h : l.Pairwise (fun a b => a.sap < b.sap)) {s : SV} (hs : s ∈ l) (g : Int) : memS l s.sap g = s.gs.contains g ∧ clsS l s.sap = s.cls := by
  induction l with
  | nil => cases hs
  | cons y l ih =>
    rw [List.pairwise_cons] at h
    rcases List.mem_cons.1 hs with rfl | hs
    · exact ⟨by rw [memS, if_pos rfl], by rw [clsS, if_pos rfl]⟩
    · have hlt := h.1 s hs
      rw [memS, clsS, if_neg (by omega), if_neg (by omega)]
      exact ih h.2 hs
theorem clsS_no {l : List SV} {n : Int} (h : hasS l n = false) : clsS l n = 0 := by
  induction l with
  | nil => rfl
  | cons y l ih =>
    have h' : y.sap ≠ n ∧ hasS l n = false := by
      unfold hasS at h ⊢
      rw [List.any_cons, Bool.or_eq_false_iff] at h
      exact ⟨by simpa using h.1, h.2⟩
    rw [clsS, if_neg h'.1, ih h'.2]
theorem map_rise {l : List SV} {f : SV → SV} (h : l.Pairwise (fun a b => a.sap < b.sap)) (hf : ∀ s, (f s).sap = s.sap) : (l.map f).Pairwise (fun a b => a.sap < b.sap) := by
  rw [List.pairwise_map]
  exact h.imp (fun hab => by rw [hf, hf]; exact hab)
theorem joinE_0 {l : List SV} {n g : Int} (h : joinE l n g = 0) : OkGrp g ∧ hasS l n = true ∧ memS l n g = false := by
  unfold joinE at h
  split at h
  · rename_i h1
    split at h
    · rename_i h2
      split at h
      · omega
      · rename_i h3
        exact ⟨h1, h2, by simpa using h3⟩
    · omega
  · omega
theorem InS.join {l : List SV} (h : InS l) (n g : Int) : InS (joinS l n g) := by
  unfold joinS
  split
  · rename_i he
    obtain ⟨h1, h2, h3⟩ := joinE_0 he
    refine ⟨map_rise h.rise (fun s => by split <;> rfl), fun s hs => ?_, by rw [List.length_map]; exact h.room⟩
    obtain ⟨t, ht, rfl⟩ := List.mem_map.1 hs
    obtain ⟨o1, o2, o3, o4⟩ := h.ok t ht
    split
    · rename_i e
      refine ⟨o1, o2, fun x hx => ?_, ?_⟩
      · rcases List.mem_append.1 hx with hx | hx
        · exact o3 x hx
        · simp at hx; subst hx; exact h1
      · show (t.gs ++ [g]).Nodup
        rw [List.nodup_append]
        refine ⟨o4, by simp, fun a ha b hb e2 => ?_⟩
        simp at hb
        subst hb
        subst e2
        rw [← e, (mem_at h.rise ht a).1] at h3
        simp [ha] at h3
    · exact ⟨o1, o2, o3, o4⟩
  · exact h
theorem InS.leave {l : List SV} (h : InS l) (n g : Int) : InS (leaveS l n g) := by
  unfold leaveS
  split
  · refine ⟨map_rise h.rise (fun s => by split <;> rfl), fun s hs => ?_, by rw [List.length_map]; exact h.room⟩
    obtain ⟨t, ht, rfl⟩ := List.mem_map.1 hs
    obtain ⟨o1, o2, o3, o4⟩ := h.ok t ht
    split
    · exact ⟨o1, o2, fun x hx => o3 x (List.mem_filter.1 hx).1, o4.filter _⟩
    · exact ⟨o1, o2, o3, o4⟩
  · exact h
/-! what is heard -/
theorem hear_rise {l : List SV} (h : l.Pairwise (fun a b => a.sap < b.sap)) (n : Int) : (hearS l n).Pairwise (· < ·) := by
  unfold hearS
  rw [List.pairwise_map]
  exact h.filter _
theorem hear_active {l : List SV} {n x : Int} (h : x ∈ hearS l n) : hasS l x = true := by
  unfold hearS at h
  obtain ⟨s, hs, rfl⟩ := List.mem_map.1 h
  exact hasS_iff.2 ⟨s, (List.mem_filter.1 hs).1, rfl⟩
theorem hear_all (l : List SV) : hearS l 255 = listS l := by
  unfold hearS listS
  congr 1
  rw [List.filter_eq_self]
  intro s _
  simp [hearB]
theorem close_none (l : List SV) (n : Int) : hasS (closeS l n) n = false := by
  cases h : hasS (closeS l n) n
  · rfl
  · obtain ⟨s, hs, e⟩ := hasS_iff.1 h
    have := (List.mem_filter.1 hs).2
    simp [e] at this
/-- what goes to one SAP is heard by that one alone -/
theorem hear_one {l : List SV} (h : InS l) {n : Int} (he : n % 2 = 0) : hearS l n = if hasS l n then [n] else [] := by
  have hh : ∀ s ∈ l, hearB s n = (s.sap == n) := by
    intro s hs
    have hg : s.gs.contains n = false := by
      cases hc : s.gs.contains n
      · rfl
      · have := (h.ok s hs).2.2.1 n (by simpa using hc)
        have := this.2.2
        omega
    have h255 : (n == 255) = false := by simp; omega
    unfold hearB
    rw [hg, h255]
    simp
  unfold hearS
  rw [List.filter_congr hh]
  clear hh
  have hr := h.rise
  clear h
  induction l with
  | nil => rfl
  | cons y l ih =>
    rw [List.pairwise_cons] at hr
    have ih := ih hr.2
    by_cases e : y.sap = n
    · have hno : hasS l n = false := by
        cases hc : hasS l n
        · rfl
        · obtain ⟨s, hs, e2⟩ := hasS_iff.1 hc
          have := hr.1 s hs
          omega
      rw [hno] at ih
      have hy : hasS (y :: l) n = true := hasS_iff.2 ⟨y, by simp, e⟩
      rw [List.filter_cons, if_pos (by simp [e]), List.map_cons, ih, hy, e]
      rfl
    · have hy : hasS (y :: l) n = hasS l n := by
        unfold hasS
        rw [List.any_cons, show (y.sap == n) = false by simpa using e, Bool.false_or]
      rw [List.filter_cons, if_neg (by simp [e]), ih, hy]
end Go.Proofs.Ytgpmimohoepeiaa

namespace Go.Proofs.Ytgpmimohoepeiaa
open Go.RowKit
set_option linter.unusedVariables false

theorem hasS_cons (s : SV) (l : List SV) (n : Int) : hasS (s :: l) n = (s.sap == n || hasS l n) := rfl
theorem mem_no {l : List SV} {n g : Int} (h : hasS l n = false) : memS l n g = false := by
  induction l with
  | nil => rfl
  | cons y l ih =>
    rw [hasS_cons, Bool.or_eq_false_iff] at h
    rw [memS, if_neg (by simpa using h.1), ih h.2]
theorem has_ins (x : SV) (l : List SV) (n : Int) : hasS (insS x l) n = (x.sap == n || hasS l n) := by
  rw [Bool.eq_iff_iff, Bool.or_eq_true, hasS_iff, hasS_iff]
  constructor
  · rintro ⟨s, hs, e⟩
    rcases insS_mem.1 hs with rfl | hs
    · exact .inl (by simpa using e)
    · exact .inr ⟨s, hs, e⟩
  · rintro (h | ⟨s, hs, e⟩)
    · exact ⟨x, insS_mem.2 (.inl rfl), by simpa using h⟩
    · exact ⟨s, insS_mem.2 (.inr hs), e⟩
theorem cls_ins {x : SV} {l : List SV} (h : hasS l x.sap = false) (n : Int) : clsS (insS x l) n = if x.sap = n then x.cls else clsS l n := by
  induction l with
  | nil => rfl
  | cons y l ih =>
    rw [hasS_cons, Bool.or_eq_false_iff] at h
    have hy : y.sap ≠ x.sap := by simpa using h.1
    unfold insS
    split
    · rw [clsS]
    · rw [clsS, ih h.2, clsS]
      by_cases e : y.sap = n
      · rw [if_pos e, if_neg (by omega), if_pos e]
      · rw [if_neg e, if_neg e]
theorem mem_ins {x : SV} {l : List SV} (h : hasS l x.sap = false) (n g : Int) : memS (insS x l) n g = if x.sap = n then x.gs.contains g else memS l n g := by
  induction l with
  | nil => rfl
  | cons y l ih =>
    rw [hasS_cons, Bool.or_eq_false_iff] at h
    have hy : y.sap ≠ x.sap := by simpa using h.1
    unfold insS
    split
    · rw [memS]
    · rw [memS, ih h.2, memS]
      by_cases e : y.sap = n
      · rw [if_pos e, if_neg (by omega), if_pos e]
      · rw [if_neg e, if_neg e]
theorem close_cons (y : SV) (l : List SV) (k : Int) : closeS (y :: l) k = if y.sap = k then closeS l k else y :: closeS l k := by
  unfold closeS
  rw [List.filter_cons]
  by_cases e : y.sap = k
  · simp [e]
  · simp [e]
theorem has_close (l : List SV) (k n : Int) : hasS (closeS l k) n = if n = k then false else hasS l n := by
  induction l with
  | nil => split <;> rfl
  | cons y l ih =>
    rw [close_cons, hasS_cons]
    by_cases e : y.sap = k
    · rw [if_pos e, ih]
      by_cases e2 : n = k
      · rw [if_pos e2, if_pos e2]
      · rw [if_neg e2, if_neg e2]; simp; omega
    · rw [if_neg e, hasS_cons, ih]
      by_cases e2 : n = k
      · rw [if_pos e2, if_pos e2]; simp; omega
      · rw [if_neg e2, if_neg e2]
theorem cls_close (l : List SV) (k n : Int) : clsS (closeS l k) n = if n = k then 0 else clsS l n := by
  induction l with
  | nil => split <;> rfl
  | cons y l ih =>
    rw [close_cons, clsS]
    by_cases e : y.sap = k
    · rw [if_pos e, ih]
      by_cases e2 : n = k
      · rw [if_pos e2, if_pos e2]
      · rw [if_neg e2, if_neg e2, if_neg (by omega)]
    · rw [if_neg e, clsS, ih]
      by_cases e2 : n = k
      · rw [if_pos e2, if_pos e2, if_neg (by omega)]
      · rw [if_neg e2, if_neg e2]
theorem mem_close (l : List SV) (k n g : Int) : memS (closeS l k) n g = if n = k then false else memS l n g := by
  induction l with
  | nil => split <;> rfl
  | cons y l ih =>
    rw [close_cons, memS]
    by_cases e : y.sap = k
    · rw [if_pos e, ih]
      by_cases e2 : n = k
      · rw [if_pos e2, if_pos e2]
      · rw [if_neg e2, if_neg e2, if_neg (by omega)]
    · rw [if_neg e, memS, ih]
      by_cases e2 : n = k
      · rw [if_pos e2, if_pos e2, if_neg (by omega)]
      · rw [if_neg e2, if_neg e2]
theorem has_map {f : SV → SV} (hf : ∀ s, (f s).sap = s.sap) (l : List SV) (n : Int) : hasS (l.map f) n = hasS l n := by
  induction l with
  | nil => rfl
  | cons y l ih => rw [List.map_cons, hasS_cons, hasS_cons, hf, ih]
theorem cls_map {f : SV → SV} (hf : ∀ s, (f s).sap = s.sap) (hc : ∀ s, (f s).cls = s.cls) (l : List SV) (n : Int) : clsS (l.map f) n = clsS l n := by
  induction l with
  | nil => rfl
  | cons y l ih => rw [List.map_cons, clsS, clsS, hf, hc, ih]
abbrev joinF (k g0 : Int) : SV → SV := fun s => if s.sap = k then ⟨s.sap, s.cls, s.gs ++ [g0]⟩ else s
abbrev leaveF (k g0 : Int) : SV → SV := fun s => if s.sap = k then ⟨s.sap, s.cls, s.gs.filter (· != g0)⟩ else s
theorem joinF_sap (k g0 : Int) (s : SV) : (joinF k g0 s).sap = s.sap := by unfold joinF; split <;> rfl
theorem joinF_cls (k g0 : Int) (s : SV) : (joinF k g0 s).cls = s.cls := by unfold joinF; split <;> rfl
theorem leaveF_sap (k g0 : Int) (s : SV) : (leaveF k g0 s).sap = s.sap := by unfold leaveF; split <;> rfl
theorem leaveF_cls (k g0 : Int) (s : SV) : (leaveF k g0 s).cls = s.cls := by unfold leaveF; split <;> rfl
theorem mem_join (l : List SV) (k g0 n g : Int) : memS (l.map (joinF k g0)) n g = (memS l n g || (decide (n = k) && decide (g = g0) && hasS l k)) := by
  induction l with
  | nil => simp [memS, hasS]
  | cons y l ih =>
    rw [List.map_cons, memS, joinF_sap, ih, memS, hasS_cons]
    by_cases e : y.sap = n
    · rw [if_pos e, if_pos e]
      unfold joinF
      by_cases e2 : y.sap = k
      · rw [if_pos e2, e2, show n = k by omega]
        rw [Bool.eq_iff_iff]
        simp
      · rw [if_neg e2, show decide (n = k) = false by simp; omega]; simp
    · rw [if_neg e, if_neg e]
      by_cases e2 : n = k
      · rw [show (y.sap == k) = false by simp; omega]; simp
      · rw [show decide (n = k) = false by simp; omega]; simp
theorem mem_leave (l : List SV) (k g0 n g : Int) : memS (l.map (leaveF k g0)) n g = (memS l n g && !(decide (n = k) && decide (g = g0))) := by
  induction l with
  | nil => simp [memS]
  | cons y l ih =>
    rw [List.map_cons, memS, leaveF_sap, ih, memS]
    by_cases e : y.sap = n
    · rw [if_pos e, if_pos e]
      unfold leaveF
      by_cases e2 : y.sap = k
      · rw [if_pos e2, show n = k by omega]
        rw [Bool.eq_iff_iff]
        simp
      · rw [if_neg e2, show decide (n = k) = false by simp; omega]; simp
    · rw [if_neg e, if_neg e]
theorem joinS_yes {l : List SV} {n g : Int} (h : joinE l n g = 0) : joinS l n g = l.map (joinF n g) := by unfold joinS; rw [if_pos h]
theorem joinS_no {l : List SV} {n g : Int} (h : joinE l n g ≠ 0) : joinS l n g = l := by unfold joinS; rw [if_neg h]
theorem leaveS_yes {l : List SV} {n g : Int} (h : leaveE l n g = 0) : leaveS l n g = l.map (leaveF n g) := by unfold leaveS; rw [if_pos h]
theorem leaveS_no {l : List SV} {n g : Int} (h : leaveE l n g ≠ 0) : leaveS l n g = l := by unfold leaveS; rw [if_neg h]
theorem leaveE_0 {l : List SV} {n g : Int} (h : leaveE l n g = 0) : OkGrp g ∧ memS l n g = true := by
  unfold leaveE at h
  split at h
  · rename_i h1
    split at h
    · rename_i h2; exact ⟨h1, h2⟩
    · omega
  · omega
theorem mem_has {l : List SV} {n g : Int} (h : memS l n g = true) : hasS l n = true := by
  cases hh : hasS l n
  · rw [mem_no hh] at h; cases h
  · rfl
theorem close_no {l : List SV} {n : Int} (h : hasS l n = false) : closeS l n = l := by
  unfold closeS
  rw [List.filter_eq_self]
  intro s hs
  cases hc : (s.sap != n)
  · have : hasS l n = true := hasS_iff.2 ⟨s, hs, by simpa using hc⟩
    rw [h] at this; cases this
  · rfl
/-! what is told, in order -/
theorem list_mem {l : List SV} {x : Int} : x ∈ listS l ↔ hasS l x = true := by
  unfold listS
  rw [List.mem_map, hasS_iff]
theorem list_rise {l : List SV} (h : InS l) : (listS l).Pairwise (· < ·) := by
  unfold listS
  rw [List.pairwise_map]
  exact h.rise
theorem list_len (l : List SV) : (listS l).length = l.length := by simp [listS]
theorem ok_has {l : List SV} (h : InS l) {x : Int} (hx : hasS l x = true) : OkSap x := by
  obtain ⟨s, hs, rfl⟩ := hasS_iff.1 hx
  exact (h.ok s hs).1
theorem ok_mem {l : List SV} (h : InS l) {x g : Int} (hx : memS l x g = true) : OkSap x ∧ OkGrp g := by
  have hh := mem_has hx
  obtain ⟨s, hs, rfl⟩ := hasS_iff.1 hh
  rw [(mem_at h.rise hs g).1] at hx
  exact ⟨(h.ok s hs).1, (h.ok s hs).2.2.1 g (by simpa using hx)⟩
theorem cls_ok {l : List SV} (h : InS l) {x : Int} (hx : hasS l x = true) : OkCls (clsS l x) := by
  obtain ⟨s, hs, rfl⟩ := hasS_iff.1 hx
  rw [(mem_at h.rise hs 0).2]
  exact (h.ok s hs).2.1
/-- of a number that is neither one that is active nor all, they are those of the group -/
theorem hear_mem {l : List SV} (h : InS l) {g : Int} (h1 : hasS l g = false) (h2 : g ≠ 255) {x : Int} : x ∈ hearS l g ↔ memS l x g = true := by
  unfold hearS
  rw [List.mem_map]
  constructor
  · rintro ⟨s, hs, rfl⟩
    obtain ⟨hs1, hs2⟩ := List.mem_filter.1 hs
    rw [(mem_at h.rise hs1 g).1]
    unfold hearB at hs2
    rw [Bool.or_eq_true, Bool.or_eq_true] at hs2
    rcases hs2 with (hs2 | hs2) | hs2
    · have : hasS l g = true := hasS_iff.2 ⟨s, hs1, by simpa using hs2⟩
      rw [h1] at this; cases this
    · exact absurd (by simpa using hs2) h2
    · exact hs2
  · intro hm
    obtain ⟨s, hs, rfl⟩ := hasS_iff.1 (mem_has hm)
    rw [(mem_at h.rise hs g).1] at hm
    exact ⟨s, List.mem_filter.2 ⟨hs, by unfold hearB; rw [hm]; simp⟩, rfl⟩
theorem hear_len (l : List SV) (g : Int) : (hearS l g).length ≤ l.length := by
  unfold hearS
  rw [List.length_map]
  exact List.length_filter_le _ _
theorem mem_nil (n g : Int) : memS [] n g = false := rfl
end Go.Proofs.Ytgpmimohoepeiaa
