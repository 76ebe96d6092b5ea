/- What slices.IndexFunc answers, at the rules, for the closure of read. -/
import Derived.Test.YtohegiphdgihpaaURule
namespace Go.Proofs.Ytohegiphdgihpaa
open Go.RowKit
set_option linter.unusedVariables false
set_option linter.unusedSimpArgs false

/-- which row has this code: the first, or none -/
def IdxOf (L : List RV) (c i : Int) : Prop :=
  (∃ (k : Nat) (h : k < L.length), i = (k : Int) ∧ L[k].code = c ∧ ∀ (j : Nat) (hj : j < L.length), j < k → L[j].code ≠ c) ∨ (i = -1 ∧ ∀ (j : Nat) (hj : j < L.length), L[j].code ≠ c)

theorem isCode_any (R : RV) (g : Nat) (c : Int) (w : World) (hc : w.cell? ⟨g, 0, none⟩ = some (.int .i64 c)) (hg : g < w.heap.size) :
    Calls Try.prog 41 #[.agg #[.int .i64 R.code, .bool R.cmd, .bool R.rsp, .bool R.grp, .int .i64 R.least, .int .i64 R.most], .pointer (some ⟨g, 0, none⟩)] w fun e w' => e = .returned (.bool (R.code == c)) ∧ Below w.heap.size w w' := by
  have hne : g ≠ w.heap.size := by omega
  go_enter Try.func41, Try.ntmps41
  go_wp2
  go_ret
  exact ⟨rfl, (Below.refl _ _).alloc (Nat.le_refl _) _⟩

set_option maxHeartbeats 800000 in
theorem indexRule_any (A : Option Addr) (n cap B g : Nat) (L : List RV) (c : Int) (w : World) (hn : n = L.length) (hL : n ≤ 10) (hr : RulesIn w B A L) (hB : B ≤ w.heap.size) (hc : w.cell? ⟨g, 0, none⟩ = some (.int .i64 c)) (hg : g < w.heap.size) :
    Calls Try.prog 39 #[.slice A n cap, .func (.func 41) #[] #[.pointer (some ⟨g, 0, none⟩)]] w fun e w' => ∃ i : Int, e = .returned (.int .i64 i) ∧ IdxOf L c i ∧ Below w.heap.size w w' := by
  subst hn
  have HR := cover hr
  have HC := cover hc
  clear hr hc
  go_enter Try.func39, Try.ntmps39
  go_wp2
  go_loopw [5, 8] (fun _ i wr => ∃ k : Nat, k ≤ L.length ∧ i = .int .i64 k ∧ Hid (∀ (j : Nat) (hj : j < L.length), j < k → L[j].code ≠ c) ∧ Hid (Below w.heap.size w wr)) (fun _ i _ => L.length - (intOf i).toNat)
  case atStart => exact ⟨0, Nat.zero_le _, rfl, cover (fun j _ h => absurd h (Nat.not_lt_zero _)), cover (Below.refl _ _)⟩
  case round =>
    obtain ⟨k, hk, rfl, hno, hbel⟩ := hrel
    have hsz := hbel.out.size
    by_cases hlt : k < L.length
    · obtain ⟨ad, rfl, hblk, h0, h1, h2, h3, h4, h5⟩ := (HR.out.below (hbel.out.mono hB)).cells k hlt
      obtain ⟨R, hRR⟩ : ∃ R, Hid (L[k] = R) := ⟨_, cover rfl⟩
      rw [hRR.out] at h0 h1 h2 h3 h4 h5
      have hcc := (hbel.out.cell (p := ⟨g, 0, none⟩) hg).trans HC.out
      go_wp2_with fail
      refine (isCode_any R g c wr hcc (by omega)).mono ?_
      rintro e w1 ⟨rfl, hb1⟩
      have HB1 := cover (hbel.out.trans (hb1.mono hsz))
      clear hb1
      rcases hq : (R.code == c) with _ | _
      · have hne : R.code ≠ c := by simpa using hq
        have HN : Hid (∀ (j : Nat) (hj : j < L.length), j < k + 1 → L[j].code ≠ c) := cover (fun j hj hjk => by
          by_cases h : j < k
          · exact hno.out j hj h
          · obtain rfl : j = k := by omega
            rw [hRR.out]; exact hne)
        clear hq hne
        go_wp2
        go_roundw
        case rel => exact ⟨k + 1, by omega, by go_num, HN, HB1⟩
        case measure => simp [intOf]; omega
      · have HE : Hid (R.code = c) := cover (by simpa using hq)
        clear hq
        go_wp2
        go_ret
        exact ⟨k, rfl, .inl ⟨k, hlt, rfl, by rw [hRR.out]; exact HE.out, hno.out⟩, HB1.out⟩
    · obtain rfl : k = L.length := by omega
      go_wp2
      go_ret
      exact ⟨-1, rfl, .inr ⟨rfl, fun j hj => hno.out j hj hj⟩, hbel.out⟩

theorem idx_i {i : Int} (h : IdxOf rowsI 0 i) : i = 0 := by
  rcases h with ⟨k, hk, rfl, _⟩ | ⟨_, hno⟩
  · have : k < 1 := hk
    omega
  · exact absurd rfl (hno 0 (by decide))
theorem idx_s {c i : Int} (h : IdxOf rowsS c i) (h4 : c % 4 = 1) (h0 : 0 ≤ c) : (c ≤ 9 → i = c / 4) ∧ (9 < c → i = -1) := by
  rcases h with ⟨k, hk, rfl, hc, _⟩ | ⟨rfl, hno⟩
  · have h3 : k < 3 := hk
    match k, h3, hk, hc with
    | 0, _, _, hc => subst hc; exact ⟨fun _ => rfl, fun h => absurd h (show ¬ (9 : Int) < 1 by decide)⟩
    | 1, _, _, hc => subst hc; exact ⟨fun _ => rfl, fun h => absurd h (show ¬ (9 : Int) < 5 by decide)⟩
    | 2, _, _, hc => subst hc; exact ⟨fun _ => rfl, fun h => absurd h (show ¬ (9 : Int) < 9 by decide)⟩
  · refine ⟨fun h9 => ?_, fun _ => rfl⟩
    have n0 : (1 : Int) ≠ c := hno 0 (by decide)
    have n1 : (5 : Int) ≠ c := hno 1 (by decide)
    have n2 : (9 : Int) ≠ c := hno 2 (by decide)
    omega
theorem idx_u {c i : Int} (h : IdxOf rowsU c i) : i = kindOf c := by
  rcases h with ⟨k, hk, rfl, hc, _⟩ | ⟨rfl, hno⟩
  · have h3 : k < 10 := hk
    match k, h3, hk, hc with
    | 0, _, _, hc | 1, _, _, hc | 2, _, _, hc | 3, _, _, hc | 4, _, _, hc | 5, _, _, hc | 6, _, _, hc | 7, _, _, hc | 8, _, _, hc | 9, _, _, hc => subst hc; rfl
  · have n0 : (3 : Int) ≠ c := hno 0 (by decide)
    have n1 : (175 : Int) ≠ c := hno 1 (by decide)
    have n2 : (227 : Int) ≠ c := hno 2 (by decide)
    have n3 : (111 : Int) ≠ c := hno 3 (by decide)
    have n4 : (67 : Int) ≠ c := hno 4 (by decide)
    have n5 : (99 : Int) ≠ c := hno 5 (by decide)
    have n6 : (15 : Int) ≠ c := hno 6 (by decide)
    have n7 : (135 : Int) ≠ c := hno 7 (by decide)
    have n8 : (103 : Int) ≠ c := hno 8 (by decide)
    have n9 : (231 : Int) ≠ c := hno 9 (by decide)
    unfold kindOf
    rw [if_neg (by omega), if_neg (by omega), if_neg (by omega), if_neg (by omega), if_neg (by omega), if_neg (by omega), if_neg (by omega), if_neg (by omega), if_neg (by omega), if_neg (by omega)]
end Go.Proofs.Ytohegiphdgihpaa
