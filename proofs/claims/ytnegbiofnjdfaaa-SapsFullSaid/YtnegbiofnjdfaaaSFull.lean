/- As many SAPs as may be; those in one group. No program is named here. -/
import Derived.Test.YtnegbiofnjdfaaaSList
namespace Go.Proofs.Ytnegbiofnjdfaaa
open Go.RowKit
set_option linter.unusedVariables false

theorem ins_end {x : SV} {l : List SV} (h : ∀ s ∈ l, s.sap < x.sap) : insS x l = l ++ [x] := by
  induction l with
  | nil => rfl
  | cons y l ih =>
    unfold insS
    rw [if_neg (by have := h y (by simp); omega), ih (fun s hs => h s (by simp [hs]))]
    rfl
def fullS (k : Nat) (c : Int) : List SV := (List.range k).map fun (i : Nat) => ⟨(2 : Int) + 2 * i, c, []⟩
theorem fullS_mem {k : Nat} {c : Int} {s : SV} (h : s ∈ fullS k c) : ∃ i : Nat, i < k ∧ s.sap = (2 : Int) + 2 * i := by
  obtain ⟨i, hi, rfl⟩ := List.mem_map.1 h
  exact ⟨i, List.mem_range.1 hi, rfl⟩
theorem fullS_no {k : Nat} {c : Int} {n : Nat} (h : k ≤ n) : hasS (fullS k c) ((2 : Int) + 2 * n) = false := by
  cases hh : hasS (fullS k c) ((2 : Int) + 2 * n)
  · rfl
  · obtain ⟨s, hs, e⟩ := hasS_iff.1 hh
    obtain ⟨i, hi, e2⟩ := fullS_mem hs
    omega
theorem fullS_len (k : Nat) (c : Int) : (fullS k c).length = k := by simp [fullS]
theorem fullS_open {k : Nat} {c : Int} (hk : k < 16) (hc : OkCls c) : openE (fullS k c) ((2 : Int) + 2 * k) c = 0 ∧ openS (fullS k c) ((2 : Int) + 2 * k) c = fullS (k + 1) c := by
  have e : openE (fullS k c) ((2 : Int) + 2 * k) c = 0 := by
    unfold openE
    rw [if_pos ⟨by unfold OkSap; omega, hc⟩, fullS_no (Nat.le_refl _), fullS_len, if_neg (by decide), if_neg (by omega)]
  refine ⟨e, ?_⟩
  unfold openS
  rw [if_pos e, ins_end (fun s hs => by obtain ⟨i, hi, e2⟩ := fullS_mem hs; rw [e2]; show _ < (2 : Int) + 2 * k; omega)]
  unfold fullS
  rw [List.range_succ, List.map_append]
  rfl
theorem fullS_34 (c : Int) : openE (fullS 16 c) 34 1 = 6 ∧ openS (fullS 16 c) 34 1 = fullS 16 c := by
  have h := fullS_no (k := 16) (c := c) (n := 16) (Nat.le_refl _)
  have e : openE (fullS 16 c) 34 1 = 6 := by
    unfold openE
    rw [if_pos (by decide), show (34 : Int) = (2 : Int) + 2 * (16 : Nat) by decide, h, fullS_len]
    rfl
  exact ⟨e, by unfold openS; rw [if_neg (by rw [e]; decide)]⟩
theorem fullS_2 (c : Int) : openE (fullS 16 c) 2 1 = 8 ∧ openS (fullS 16 c) 2 1 = fullS 16 c := by
  have h : hasS (fullS 16 c) 2 = true := hasS_iff.2 ⟨⟨2, c, []⟩, List.mem_map.2 ⟨0, by simp, rfl⟩, rfl⟩
  have e : openE (fullS 16 c) 2 1 = 8 := by
    unfold openE
    rw [if_pos (by decide), if_pos h]
  exact ⟨e, by unfold openS; rw [if_neg (by rw [e]; decide)]⟩
/-- all of them, some of which are in a group -/
def memL (c a : Int) (M : Nat → Bool) : List SV := (List.range 16).map fun (i : Nat) => ⟨(2 : Int) + 2 * i, c, if M i = true then [a] else []⟩
theorem memL_none (c a : Int) : memL c a (fun _ => false) = fullS 16 c := rfl
def updM (M : Nat → Bool) (k : Nat) (v : Bool) : Nat → Bool := fun i => if i = k then v else M i
theorem updM_at (M : Nat → Bool) (k : Nat) (v : Bool) : updM M k v k = v := by unfold updM; rw [if_pos rfl]
theorem updM_ne (M : Nat → Bool) {k i : Nat} (v : Bool) (h : i ≠ k) : updM M k v i = M i := by unfold updM; rw [if_neg h]
theorem updM_same {M : Nat → Bool} {k : Nat} {v : Bool} (h : M k = v) : updM M k v = M := by
  funext i
  unfold updM
  split
  · rename_i e; rw [e, h]
  · rfl
theorem memL_rise (c a : Int) (M : Nat → Bool) : (memL c a M).Pairwise (fun a b => a.sap < b.sap) := by
  unfold memL
  rw [List.pairwise_map]
  exact List.pairwise_lt_range.imp (fun {i j} h => by show (2 : Int) + 2 * i < (2 : Int) + 2 * j; omega)
theorem memL_at {c a : Int} {M : Nat → Bool} {k : Nat} (hk : k < 16) : hasS (memL c a M) ((2 : Int) + 2 * k) = true ∧ memS (memL c a M) ((2 : Int) + 2 * k) a = M k := by
  have hm : (⟨(2 : Int) + 2 * k, c, if M k = true then [a] else []⟩ : SV) ∈ memL c a M := List.mem_map.2 ⟨k, List.mem_range.2 hk, rfl⟩
  refine ⟨hasS_iff.2 ⟨_, hm, rfl⟩, ?_⟩
  have h := (mem_at (memL_rise c a M) hm a).1
  rw [show (⟨(2 : Int) + 2 * k, c, if M k = true then [a] else []⟩ : SV).sap = (2 : Int) + 2 * k from rfl] at h
  rw [h]
  cases hMk : M k <;> simp
theorem memL_join {c a : Int} {M : Nat → Bool} {k : Nat} (hk : k < 16) (ha : OkGrp a) : joinE (memL c a M) ((2 : Int) + 2 * k) a = (if M k = true then 8 else 0) ∧ joinS (memL c a M) ((2 : Int) + 2 * k) a = memL c a (updM M k true) := by
  obtain ⟨h1, h2⟩ := memL_at (c := c) (a := a) (M := M) hk
  have e : joinE (memL c a M) ((2 : Int) + 2 * k) a = (if M k = true then 8 else 0) := by
    unfold joinE; rw [if_pos ha, if_pos h1, h2]
  refine ⟨e, ?_⟩
  cases hM : M k
  · rw [hM, if_neg (by decide)] at e
    rw [joinS_yes e]
    unfold memL
    rw [List.map_map]
    refine List.map_congr_left (fun i hi => ?_)
    by_cases e2 : i = k
    · subst e2
      simp [joinF, updM_at, hM]
    · simp only [Function.comp, joinF, updM_ne M true e2]
      rw [if_neg (by omega)]
  · rw [hM, if_pos rfl] at e
    rw [joinS_no (by rw [e]; decide), updM_same hM]
theorem memL_leave {c a : Int} {M : Nat → Bool} {k : Nat} (hk : k < 16) (ha : OkGrp a) : leaveE (memL c a M) ((2 : Int) + 2 * k) a = (if M k = true then 0 else 7) ∧ leaveS (memL c a M) ((2 : Int) + 2 * k) a = memL c a (updM M k false) := by
  obtain ⟨h1, h2⟩ := memL_at (c := c) (a := a) (M := M) hk
  have e : leaveE (memL c a M) ((2 : Int) + 2 * k) a = (if M k = true then 0 else 7) := by
    unfold leaveE; rw [if_pos ha, h2]
  refine ⟨e, ?_⟩
  cases hM : M k
  · rw [hM, if_neg (by decide)] at e
    rw [leaveS_no (by rw [e]; decide), updM_same hM]
  · rw [hM, if_pos rfl] at e
    rw [leaveS_yes e]
    unfold memL
    rw [List.map_map]
    refine List.map_congr_left (fun i hi => ?_)
    by_cases e2 : i = k
    · subst e2
      simp [leaveF, updM_at, hM]
    · simp only [Function.comp, leaveF, updM_ne M false e2]
      rw [if_neg (by omega)]
/-- those of them that are in it, as numbers -/
def wantL (M : Nat → Bool) (k : Nat) : List Int := ((List.range k).filter M).map fun (i : Nat) => (2 : Int) + 2 * i
theorem wantL_succ (M : Nat → Bool) (k : Nat) : wantL M (k + 1) = if M k = true then wantL M k ++ [(2 : Int) + 2 * k] else wantL M k := by
  unfold wantL
  rw [List.range_succ, List.filter_append, List.map_append]
  cases h : M k <;> simp [h]
theorem wantL_len (M : Nat → Bool) (k : Nat) : (wantL M k).length ≤ k := by
  unfold wantL
  rw [List.length_map]
  exact Nat.le_trans (List.length_filter_le _ _) (by simp)
theorem memL_hears {c a : Int} {M : Nat → Bool} (ha : OkGrp a) : hearS (memL c a M) a = wantL M 16 := by
  unfold hearS memL wantL
  rw [List.filter_map, List.map_map]
  have : (List.range 16).filter ((fun s => hearB s a) ∘ fun (i : Nat) => (⟨(2 : Int) + 2 * i, c, if M i = true then [a] else []⟩ : SV)) = (List.range 16).filter M := by
    refine List.filter_congr (fun i _ => ?_)
    unfold OkGrp at ha
    simp only [Function.comp, hearB]
    rw [show ((2 : Int) + 2 * i == a) = false by simp; omega, show (a == 255) = false by simp; omega]
    cases h : M i <;> simp
  rw [this]
  rfl
end Go.Proofs.Ytnegbiofnjdfaaa
