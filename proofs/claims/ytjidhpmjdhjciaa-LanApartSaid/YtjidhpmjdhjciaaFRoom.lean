/- The law's question whether the deeds are few and small. -/
import Derived.Test.YtjidhpmjdhjciaaFDeeds
namespace Go.Proofs.Ytjidhpmjdhjciaa
open Go.RowKit
set_option linter.unusedVariables false

def small (ds : List DV) : Prop := ∀ q ∈ ds, q.b.length ≤ 200
theorem room_long {w : World} {A : Option Addr} {n c : Nat} (most : Int) (h : most < (n : Int)) : Calls Try.prog 19 #[.slice A n c, .int .i64 most] w fun e w' => e = .returned (.bool false) ∧ w = w' := by
  go_enter Try.func19, Try.ntmps19
  go_wp2
  go_ret
  exact ⟨rfl, rfl⟩
set_option maxRecDepth 100000 in
theorem room_any {w : World} {B n c : Nat} {A : Option Addr} {ds : List DV} (most : Int) (h : (n : Int) ≤ most) (hn : n ≤ 1000) (hd : DeedsL w B A n ds) (p : Bool) (hp : p = true ↔ small ds) :
    Calls Try.prog 19 #[.slice A n c, .int .i64 most] w fun e w' => e = .returned (.bool p) ∧ w = w' := by
  have HD := cover hd
  have HP := cover hp
  have hmost : ¬ (most < (n : Int)) := by omega
  clear hd hp
  go_enter Try.func19, Try.ntmps19
  go_wp2
  go_loop [5] (fun i => ∃ k : Nat, k ≤ n ∧ i = .int .i64 k ∧ Hid (small (ds.take k))) (fun i => n - (intOf i).toNat)
  case atStart => exact ⟨0, Nat.zero_le _, rfl, cover (fun q hq => by simp at hq)⟩
  case round =>
    obtain ⟨k, hk, rfl, hs⟩ := hrel
    by_cases hlt : k < n
    · obtain ⟨q, hq⟩ : ∃ q, ds[k]? = some q := ⟨_, List.getElem?_eq_getElem (by rw [HD.out.len]; exact hlt)⟩
      obtain ⟨ad, rfl, hc⟩ := HD.out.at_ k q hq
      have h4 := hc.c4
      have hk0 : (0 : Int) ≤ (k : Int) := by omega
      have hk1 : (k : Int) < (n : Int) := by omega
      have HQ := cover hq
      clear hc hq
      by_cases h200 : q.b.length ≤ 200
      · have HN : Hid (small (ds.take (k + 1))) := cover (fun x hx => by
          rw [List.take_add_one, HQ.out] at hx
          rcases List.mem_append.1 hx with hx | hx
          · exact hs.out x hx
          · simp at hx; subst hx; exact h200)
        clear hs
        go_wp2
        go_round
        case rel => exact ⟨k + 1, by omega, by go_num, HN⟩
        case measure => simp [intOf]; omega
      · have h201 : (200 : Int) < (q.b.length : Int) := by omega
        have HF : Hid (p = false) := cover (by
          cases hpp : p with
          | false => rfl
          | true => exact absurd ((HP.out.1 hpp) q (List.mem_of_getElem? HQ.out)) h200)
        clear hs
        go_wp2
        go_ret
        exact ⟨ret_bool HF.out.symm, rfl⟩
    · obtain rfl : k = n := by omega
      have HT : Hid (p = true) := cover (HP.out.2 (by have := hs.out; rwa [List.take_of_length_le (by rw [HD.out.len]; exact Nat.le_refl _)] at this))
      clear hs
      go_wp2
      go_ret
      exact ⟨ret_bool HT.out.symm, rfl⟩
end Go.Proofs.Ytjidhpmjdhjciaa
