/- What slices.Reverse does to a row of the call's own. -/
import Derived.RegionTactic
import Derived.ChangeAlike
import Derived.Test.YtbpmhfekjihhhaaOPut
namespace Go.Proofs.Ytbpmhfekjihhhaa
open Go.RowKit

/-- so many rounds of Reverse -/
def revTo (l : List Int) : Nat → List Int
  | 0 => l
  | i + 1 => ((revTo l i).set i ((revTo l i).getD (l.length - 1 - i) 0)).set (l.length - 1 - i) ((revTo l i).getD i 0)
theorem revTo_length (l : List Int) (i : Nat) : (revTo l i).length = l.length := by
  induction i with
  | zero => rfl
  | succ i ih => simp [revTo, ih]
theorem revTo_get (l : List Int) (i : Nat) (hi : 2 * i ≤ l.length) (j : Nat) (hj : j < l.length) :
    (revTo l i).getD j 0 = if j < i ∨ l.length - 1 - i < j then l.getD (l.length - 1 - j) 0 else l.getD j 0 := by
  induction i generalizing j with
  | zero => rw [if_neg (by omega)]; rfl
  | succ i ih =>
    rw [revTo, List.getD_eq_getElem?_getD, List.getElem?_set, List.length_set, revTo_length]
    by_cases e1 : l.length - 1 - i = j
    · rw [if_pos e1, if_pos (by omega), if_pos (by omega)]
      rw [Option.getD_some, ih (by omega) i (by omega), if_neg (by omega), ← e1]
      congr 1; omega
    · rw [if_neg e1, List.getElem?_set, revTo_length]
      by_cases e2 : i = j
      · rw [if_pos e2, if_pos (by omega), Option.getD_some, ih (by omega) _ (by omega), if_neg (by omega), if_pos (by omega), e2]
      · rw [if_neg e2, ← List.getD_eq_getElem?_getD, ih (by omega) j hj]
        by_cases e3 : j < i ∨ l.length - 1 - i < j
        · rw [if_pos e3, if_pos (by omega)]
        · rw [if_neg e3, if_neg (by omega)]
theorem revTo_all (l : List Int) {i : Nat} (h : l.length ≤ 2 * i + 1) (hi : 2 * i ≤ l.length) : revTo l i = l.reverse := by
  apply List.ext_getElem (by rw [revTo_length, List.length_reverse])
  intro j h1 h2
  rw [revTo_length] at h1
  have h3 := revTo_get l i hi j h1
  rw [List.getD_eq_getElem?_getD, List.getElem?_eq_getElem (by rw [revTo_length]; omega), Option.getD_some] at h3
  rw [h3, List.getElem_reverse]
  by_cases e : j < i ∨ l.length - 1 - i < j
  · rw [if_pos e, List.getD_eq_getElem?_getD, List.getElem?_eq_getElem (by omega)]; rfl
  · rw [if_neg e, List.getD_eq_getElem?_getD, List.getElem?_eq_getElem (by omega)]
    have : l.length - 1 - j = j := by omega
    simp [this]

/-- at the head of a round of Reverse -/
def RevAt (base g c : Nat) (l : List Int) (i : Nat) (w wr : World) : Prop :=
  wr.ownsRow base 5 1 (.slice (some ⟨g, 0, none⟩) l.length c) l.length ((revTo l i).map (Value.int .u8)) ∧ OnlyB g w wr
theorem RevAt.step {base g c i : Nat} {l : List Int} {w wr : World} (h : RevAt base g c l i w wr) (hi : i < l.length - 1 - i) :
    ∃ x y, wr.cell? ⟨g, i, none⟩ = some (.int .u8 x) ∧ wr.cell? ⟨g, l.length - 1 - i, none⟩ = some (.int .u8 y) ∧ wr.frozen? ⟨g, i, none⟩ = false ∧ wr.frozen? ⟨g, l.length - 1 - i, none⟩ = false ∧
      ∀ d, RevAt base g c l (i + 1) w (((wr.setCell ⟨g, i, none⟩ (.int .u8 y)).setCell ⟨g, l.length - 1 - i, none⟩ (.int .u8 x)).drewN d) := by
  obtain ⟨ho, hb⟩ := h
  have hl := revTo_length l i
  have e1 : (revTo l i)[i]? = some ((revTo l i).getD i 0) := by rw [List.getD_eq_getElem?_getD, List.getElem?_eq_getElem (by omega)]; rfl
  have e2 : (revTo l i)[l.length - 1 - i]? = some ((revTo l i).getD (l.length - 1 - i) 0) := by rw [List.getD_eq_getElem?_getD, List.getElem?_eq_getElem (by omega)]; rfl
  refine ⟨(revTo l i).getD i 0, (revTo l i).getD (l.length - 1 - i) 0, ?_, ?_, ho.frozenAt _, ho.frozenAt _, fun d => ⟨?_, ?_⟩⟩
  · rw [ho.cellAt _ (by omega), List.getElem?_map, e1]; rfl
  · rw [ho.cellAt _ (by omega), List.getElem?_map, e2]; rfl
  · have h1 := (ho.stored i (.int .u8 ((revTo l i).getD (l.length - 1 - i) 0))).1
    have h2 := (h1.stored (l.length - 1 - i) (.int .u8 ((revTo l i).getD i 0))).1
    rw [← List.map_set, ← List.map_set] at h2
    exact h2
  · exact ((hb.setCell _ _).setCell _ _).drewN _

set_option maxHeartbeats 400000 in
theorem reverse_own (base g c : Nat) (l : List Int) (w : World) (ho : w.ownsRow base 5 1 (.slice (some ⟨g, 0, none⟩) l.length c) l.length (l.map (Value.int .u8))) (hmax : l.length ≤ 140737488355328) :
    Calls Try.prog 61 #[.slice (some ⟨g, 0, none⟩) l.length c] w fun e w' => e = .returned (.tuple #[]) ∧ w'.ownsRow base 5 1 (.slice (some ⟨g, 0, none⟩) l.length c) l.length (l.reverse.map (Value.int .u8)) ∧ OnlyB g w w' := by
  have hst : Hid (RevAt base g c l 0 w w) := cover ⟨ho, OnlyB.refl _ _⟩
  clear ho
  go_enter Try.func61, Try.ntmps61
  go_wp2
  go_loopw [2, 3] (fun i j wr => ∃ k : Nat, 2 * k ≤ l.length ∧ i = .int .i64 k ∧ j = .int .i64 ((l.length : Int) - 1 - k) ∧ Hid (RevAt base g c l k w wr)) (fun i _ _ => l.length - (intOf i).toNat)
  case atStart => exact ⟨0, Nat.zero_le _, rfl, by simp, hst⟩
  case round =>
    clear hst
    obtain ⟨k, hk, rfl, rfl, hat⟩ := hrel
    by_cases hlt : k < l.length - 1 - k
    · obtain ⟨x, y, c1, c2, f1, f2, hn⟩ := hat.out.step hlt
      have HN := cover hn
      have e : ((l.length : Int) - 1 - k) = ((l.length - 1 - k : Nat) : Int) := by omega
      clear hn
      rw [e]
      obtain ⟨m, hm⟩ : ∃ m, Hid (l.length - 1 - k = m) := ⟨_, cover rfl⟩
      rw [hm.out] at hlt c2 f2 HN ⊢
      have hml : m < l.length := by have := hm.out; omega
      have hme : (m : Int) - 1 = (l.length : Int) - 1 - (k + 1 : Nat) := by have := hm.out; omega
      have HME := cover hme
      have hk2 : 2 * (k + 1) ≤ l.length := by have := hm.out; omega
      clear hme e
      go_wp2
      go_region
      all_goals
        go_wp2
        go_roundw
        case rel => exact ⟨k + 1, hk2, by go_num, by rw [HME.out], HN.out _⟩
        case measure => simp [intOf]; omega
    · have HR := cover (revTo_all l (i := k) (by omega) hk)
      obtain ⟨ho, hb⟩ := hat.out
      rw [HR.out] at ho
      clear hat
      go_wp2
      go_end0
      exact ⟨rfl, ho, hb⟩
end Go.Proofs.Ytbpmhfekjihhhaa
