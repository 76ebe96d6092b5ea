/- What the law's own 'ints' and 'same' answer. -/
import Derived.BigQuiet
import Derived.Deep.QuietTactic
import Derived.Test.YtodiocioldakjaaKAwake
namespace Go.Proofs.Ytodiocioldakjaa
open Go.RowKit
set_option linter.unusedVariables false

theorem ints_len (A A' : Option Addr) (n m c c' : Nat) (w : World) (h : n ≠ m) : Calls Try.prog 19 #[.slice A n c, .slice A' m c'] w fun e w' => e = .returned (.bool false) ∧ w = w' := by
  have h1 : ((n : Int) == (m : Int)) = false := by rw [beq_eq_false_iff_ne]; omega
  have h2 : ((n : Int) != (m : Int)) = true := by simp; omega
  clear h
  go_enter Try.func19, Try.ntmps19
  go_wp2
  go_ret
  exact ⟨rfl, rfl⟩
/-- rows that read as numbers -/
def Nums (w : World) (A : Option Addr) (l : List Int) : Prop := ∀ j x, l[j]? = some x → ∃ g, A = some ⟨g, 0, none⟩ ∧ w.cell? ⟨g, j, none⟩ = some (.int .i64 x)
theorem Nums.of_own {w : World} {base cp n : Nat} {A : Option Addr} {l : List Int} (h : w.ownsRow base 3 1 (.slice A n cp) n (l.map (Value.int .i64))) : Nums w A l := fun j x hx => by
  obtain ⟨g, hA, _, _, hc⟩ := own_cell h (j := j) (x := .int .i64 x) (by rw [List.getElem?_map, hx]; rfl)
  exact ⟨g, hA, hc⟩
theorem Nums.drewN {w : World} {A : Option Addr} {l : List Int} (h : Nums w A l) (n : Nat) : Nums (w.drewN n) A l := h
set_option maxHeartbeats 800000 in
theorem ints_same {A A' : Option Addr} {c c' n : Nat} {l : List Int} (w : World) (hn : l.length = n) (hbig : n ≤ 1000000) (h1 : Nums w A l) (h2 : Nums w A' l) : Calls Try.prog 19 #[.slice A n c, .slice A' n c'] w fun e w' => e = .returned (.bool true) ∧ ∃ d, w' = w.drewN d := by
  have H1 := cover h1
  have H2 := cover h2
  have HN := cover hn
  clear h1 h2 hn
  go_enter Try.func19, Try.ntmps19
  go_wp2_with fail
  go_loopw [5] (fun i wr => ∃ j : Nat, j ≤ n ∧ i = .int .i64 j ∧ Hid (∃ d, wr = w.drewN d)) (fun i _ => n - (intOf i).toNat)
  case atStart => exact ⟨0, Nat.zero_le _, rfl, cover ⟨0, rfl⟩⟩
  case round =>
    obtain ⟨j, hj, rfl, hrel⟩ := hrel
    obtain ⟨d, rfl⟩ := hrel.out
    by_cases hlt : j < n
    · obtain ⟨x, hx⟩ : ∃ x, l[j]? = some x := ⟨_, List.getElem?_eq_getElem (by rw [HN.out]; exact hlt)⟩
      obtain ⟨g, rfl, k1⟩ := H1.out j x hx
      obtain ⟨g', rfl, k2⟩ := H2.out j x hx
      clear hx hrel
      go_wp2_with fail
      go_quiet (fail)
      all_goals (go_wp2)
      all_goals (try go_roundw)
      all_goals try (case rel => exact ⟨j + 1, by omega, by go_num, cover ⟨_, rfl⟩⟩)
      all_goals try (case measure => simp [intOf]; omega)
    · obtain rfl : j = n := by omega
      clear hrel
      go_wp2
      go_ret
      exact ⟨rfl, d, rfl⟩
/-! rows of what runs -/
theorem same_len (A A' : Option Addr) (n m c c' : Nat) (w : World) (h : n ≠ m) : Calls Try.prog 26 #[.slice A n c, .slice A' m c'] w fun e w' => e = .returned (.bool false) ∧ w = w' := by
  have h1 : ((n : Int) == (m : Int)) = false := by rw [beq_eq_false_iff_ne]; omega
  have h2 : ((n : Int) != (m : Int)) = true := by simp; omega
  clear h
  go_enter Try.func26, Try.ntmps26
  go_wp2
  go_ret
  exact ⟨rfl, rfl⟩
/-- rows that read as pairs -/
def Prs (w : World) (A : Option Addr) (l : List (Int × Int)) : Prop := ∀ j x, l[j]? = some x → ∃ g, A = some ⟨g, 0, none⟩ ∧ w.cell? ⟨g, j * 2, none⟩ = some (.int .i64 x.1) ∧ w.cell? ⟨g, j * 2 + 1, none⟩ = some (.int .i64 x.2)
theorem Prs.of_own {TT : Nat} {w : World} {cp n : Nat} {A : Option Addr} {l : List (Int × Int)} (h : OwnI TT w (.slice A n cp) l) : Prs w A l := fun j x hx => by
  obtain ⟨g, c, hv, _, _, h0, h1, _⟩ := h.cell hx
  injection hv with hA
  exact ⟨g, hA, h0, h1⟩
theorem Prs.drewN {w : World} {A : Option Addr} {l : List (Int × Int)} (h : Prs w A l) (n : Nat) : Prs (w.drewN n) A l := h
theorem Prs.take {w : World} {A : Option Addr} {l : List (Int × Int)} (h : Prs w A l) (k : Nat) : Prs w A (l.take k) := fun j x hx => h j x (by
  rw [List.getElem?_take] at hx
  split at hx
  · exact hx
  · cases hx)
set_option maxHeartbeats 1600000 in
theorem same_same {A A' : Option Addr} {c c' n : Nat} {l : List (Int × Int)} (w : World) (hn : l.length = n) (hbig : n ≤ 1000000) (h1 : Prs w A l) (h2 : Prs w A' l) : Calls Try.prog 26 #[.slice A n c, .slice A' n c'] w fun e w' => e = .returned (.bool true) ∧ ∃ d, w' = w.drewN d := by
  have H1 := cover h1
  have H2 := cover h2
  have HN := cover hn
  clear h1 h2 hn
  go_enter Try.func26, Try.ntmps26
  go_wp2_with fail
  go_loopw [5] (fun i wr => ∃ j : Nat, j ≤ n ∧ i = .int .i64 j ∧ Hid (∃ d, wr = w.drewN d)) (fun i _ => n - (intOf i).toNat)
  case atStart => exact ⟨0, Nat.zero_le _, rfl, cover ⟨0, rfl⟩⟩
  case round =>
    obtain ⟨j, hj, rfl, hrel⟩ := hrel
    obtain ⟨d, rfl⟩ := hrel.out
    by_cases hlt : j < n
    · obtain ⟨x, hx⟩ : ∃ x, l[j]? = some x := ⟨_, List.getElem?_eq_getElem (by rw [HN.out]; exact hlt)⟩
      obtain ⟨g, rfl, k1, k1'⟩ := H1.out j x hx
      obtain ⟨g', rfl, k2, k2'⟩ := H2.out j x hx
      clear hx hrel
      obtain ⟨x1, x2⟩ := x
      simp only [] at k1 k1' k2 k2'
      go_wp2_with fail
      go_quiet (fail)
      all_goals (go_wp2)
      all_goals (try go_roundw)
      all_goals try (case rel => exact ⟨j + 1, by omega, by go_num, cover ⟨_, rfl⟩⟩)
      all_goals try (case measure => simp [intOf]; omega)
    · obtain rfl : j = n := by omega
      clear hrel
      go_wp2
      go_ret
      exact ⟨rfl, d, rfl⟩
end Go.Proofs.Ytodiocioldakjaa
