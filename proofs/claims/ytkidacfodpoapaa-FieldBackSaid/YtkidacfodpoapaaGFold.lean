/- What fits, lengthError, fold and unfold answer. -/
import Derived.BigQuiet
import Derived.Deep.QuietTactic
import Derived.Test.YtkidacfodpoapaaRows
import Derived.Test.YtkidacfodpoapaaOWords
import Derived.Test.YtkidacfodpoapaaGMath
namespace Go.Proofs.Ytkidacfodpoapaa
open Go.RowKit
set_option linter.unusedVariables false

theorem fits_any (n m : Int) (w : World) : Calls Try.prog 28 #[.int .i64 n, .int .i64 m] w fun e w' => e = .returned (.bool (decide (0 ≤ n ∧ n ≤ m))) ∧ w' = w := by
  by_cases h1 : 0 ≤ n
  · by_cases h2 : n ≤ m
    · have HD : Hid (decide (0 ≤ n ∧ n ≤ m) = true) := cover (decide_eq_true ⟨h1, h2⟩)
      have d2 : decide (n ≤ m) = true := decide_eq_true h2
      go_enter Try.func28, Try.ntmps28
      go_wp2
      go_ret
      exact ⟨ret_bool (by first | rfl | exact HD.out.symm | (rw [HD.out]; simp; omega)), rfl⟩
    · have HD : Hid (decide (0 ≤ n ∧ n ≤ m) = false) := cover (decide_eq_false (fun h => h2 h.2))
      have d2 : decide (n ≤ m) = false := decide_eq_false h2
      have h2' : m < n := by omega
      go_enter Try.func28, Try.ntmps28
      go_wp2
      go_ret
      exact ⟨ret_bool (by first | rfl | exact HD.out.symm | (rw [HD.out]; simp; omega)), rfl⟩
  · have HD : Hid (decide (0 ≤ n ∧ n ≤ m) = false) := cover (decide_eq_false (fun h => h1 h.1))
    go_enter Try.func28, Try.ntmps28
    go_wp2
    go_ret
    exact ⟨ret_bool (by simp; omega), rfl⟩

/-- too short, too long, or neither -/
def lenE (n k : Nat) : Int := if n < k then 2 else if k < n then 3 else 0
theorem lengthError_any (A : Option Addr) (n c k : Nat) (w : World) : Calls Try.prog 30 #[.slice A n c, .int .i64 k] w fun e w' => e = .returned (.int .i64 (lenE n k)) ∧ w' = w := by
  by_cases h1 : n < k
  · have HD : Hid (lenE n k = 2) := cover (if_pos h1)
    go_enter Try.func30, Try.ntmps30
    go_wp2
    go_ret
    exact ⟨ret_int HD.out.symm, rfl⟩
  · by_cases h2 : k < n
    · have HD : Hid (lenE n k = 3) := cover (by unfold lenE; rw [if_neg h1, if_pos h2])
      go_enter Try.func30, Try.ntmps30
      go_wp2
      go_ret
      exact ⟨ret_int HD.out.symm, rfl⟩
    · have HD : Hid (lenE n k = 0) := cover (by unfold lenE; rw [if_neg h1, if_neg h2])
      go_enter Try.func30, Try.ntmps30
      go_wp2
      go_ret
      exact ⟨ret_int HD.out.symm, rfl⟩

/-- a row of flags lies at ad -/
def FlagsAt (w : World) (ad : Addr) (fs : List Bool) : Prop := ∀ k b, fs[k]? = some b → w.cell? (ad.add k) = some (.bool b)

/-- what fold has gathered behind k flags -/
def foldF (x : Int) (fs : List Bool) : Nat → Int
  | 0 => x * 2 ^ fs.length % 256
  | k + 1 => if fs[k]? = some true then bits BinOp.or IntKind.u8 (foldF x fs k) (2 ^ k % 256) else foldF x fs k

set_option maxHeartbeats 400000 in
theorem fold_any (x : Int) (ad : Addr) (fs : List Bool) (n : Nat) (w : World) (hx : 0 ≤ x ∧ x ≤ 127) (hn : fs.length = n) (h8 : n ≤ 7) (hf : FlagsAt w ad fs) :
    Calls Try.prog 29 #[.int .u8 x, .slice (some ad) n n] w fun e w' => e = .returned (.int .u8 (foldF x fs n)) ∧ w' = w := by
  have HN := cover hn
  clear hn
  go_enter Try.func29, Try.ntmps29
  go_wp2
  go_loop [5, 14] (fun m i => ∃ k : Nat, k ≤ n ∧ i = .int .i64 k ∧ m = .int .u8 (foldF x fs k)) (fun _ i => n - (intOf i).toNat)
  case atStart => exact ⟨0, Nat.zero_le _, rfl, by unfold foldF; rw [HN.out]⟩
  case round =>
    obtain ⟨k, hk, rfl, rfl⟩ := hrel
    by_cases hlt : k < n
    · have hsh : (k : Int) < 64 := by omega
      obtain ⟨b, hb⟩ : ∃ b, Hid (fs[k]? = some b) := ⟨_, cover (List.getElem?_eq_getElem (by rw [HN.out]; exact hlt))⟩
      have hc := hf k b hb.out
      cases b with
      | true =>
        have HS : Hid (bits BinOp.or IntKind.u8 (foldF x fs k) (2 ^ k % 256) = foldF x fs (k + 1)) := cover (by show _ = ite _ _ _; rw [if_pos hb.out])
        go_wp2
        go_round
        case rel => exact ⟨k + 1, by omega, by go_num, by rw [HS.out]⟩
        case measure => simp [intOf]; omega
      | false =>
        have HS : Hid (foldF x fs k = foldF x fs (k + 1)) := cover (by show _ = ite _ _ _; rw [if_neg (by rw [hb.out]; intro h; injection h with h; cases h)])
        go_wp2
        go_round
        case rel => exact ⟨k + 1, by omega, by go_num, by rw [HS.out]⟩
        case measure => simp [intOf]; omega
    · obtain rfl : k = n := by omega
      go_wp2
      go_ret
      exact ⟨rfl, rfl⟩

/-- what a row of flags, set from a number's lowest bits, leaves -/
def setBits (w : World) (ps : Nat → Addr) (x : Int) : Nat → World
  | 0 => w
  | k + 1 => (setBits w ps x k).setCell (ps k) (.bool (bits BinOp.and IntKind.i64 (x / 2 ^ k) 1 == 1))
theorem setBits_other (w : World) (ps : Nat → Addr) (x : Int) (q : Addr) : ∀ n : Nat, (∀ k, k < n → (ps k).block ≠ q.block) → (setBits w ps x n).cell? q = w.cell? q
  | 0, _ => rfl
  | n + 1, h => (World.cell?_setCell_other _ _ _ _ (fun e => h n (Nat.lt_succ_self _) (by rw [e]))).trans (setBits_other w ps x q n (fun k hk => h k (by omega)))
theorem setBits_frozen (w : World) (ps : Nat → Addr) (x : Int) (q : Addr) : ∀ n : Nat, (setBits w ps x n).frozen? q = w.frozen? q
  | 0 => rfl
  | n + 1 => (World.frozen?_setCell _ _ _ _).trans (setBits_frozen w ps x q n)
theorem setBits_there (w : World) (ps : Nat → Addr) (x : Int) (q : Addr) (hq : (w.cell? q).isSome = true) : ∀ n : Nat, ((setBits w ps x n).cell? q).isSome = true
  | 0 => hq
  | n + 1 => by
    have h := setBits_there w ps x q hq n
    show (((setBits w ps x n).setCell (ps n) _).cell? q).isSome = true
    by_cases e : ps n = q
    · subst e; rw [World.cell?_setCell_same' _ _ _ h]; rfl
    · rw [World.cell?_setCell_other _ _ _ _ e]; exact h

/-- n places that may be set, told by a row of pointers at ad -/
def PtrsAt (w : World) (ad : Addr) (ps : Nat → Addr) (n : Nat) : Prop := ∀ k, k < n → w.cell? (ad.add k) = some (.pointer (some (ps k))) ∧ (ps k).block ≠ ad.block ∧ w.frozen? (ps k) = false ∧ (w.cell? (ps k)).isSome = true

set_option maxHeartbeats 400000 in
theorem unfold_any (x : Int) (ad : Addr) (ps : Nat → Addr) (n : Nat) (w : World) (hx : 0 ≤ x ∧ x ≤ 255) (h8 : n ≤ 7) (hp : PtrsAt w ad ps n) :
    Calls Try.prog 33 #[.int .i64 x, .slice (some ad) n n] w fun e w' => e = .returned (.int .i64 (x / 2 ^ n)) ∧ w' = setBits w ps x n := by
  have HP := cover hp
  clear hp
  go_enter Try.func33, Try.ntmps33
  go_wp2
  go_loopw [9] (fun i wr => ∃ k : Nat, k ≤ n ∧ i = .int .i64 k ∧ wr = setBits w ps x k) (fun i _ => n - (intOf i).toNat)
  case atStart => exact ⟨0, Nat.zero_le _, rfl, rfl⟩
  case round =>
    obtain ⟨k, hk, rfl, hw⟩ := hrel
    have HW := cover hw
    clear hw
    by_cases hlt : k < n
    · have hsh : (k : Int) < 64 := by omega
      obtain ⟨p, hpk⟩ : ∃ p, Hid (ps k = p) := ⟨_, cover rfl⟩
      have hc : wr.cell? (ad.add k) = some (.pointer (some p)) := by
        rw [HW.out, setBits_other w ps x _ k (fun j hj => by rw [addr_add_block]; exact (HP.out j (by omega)).2.1), ← hpk.out]; exact (HP.out k hlt).1
      have hz : wr.frozen? p = false := by rw [HW.out, setBits_frozen, ← hpk.out]; exact (HP.out k hlt).2.2.1
      have hi : (wr.cell? p).isSome = true := by rw [HW.out, ← hpk.out]; exact setBits_there w ps x _ (HP.out k hlt).2.2.2 k
      obtain ⟨old, hold⟩ := Option.isSome_iff_exists.1 hi
      clear hi
      have HN : Hid (wr.setCell p (.bool (bits BinOp.and IntKind.i64 (x / 2 ^ k) 1 == 1)) = setBits w ps x (k + 1)) := cover (by rw [HW.out, ← hpk.out]; rfl)
      go_wp2
      go_roundw
      case rel => exact ⟨k + 1, by omega, by go_num, HN.out⟩
      case measure => simp [intOf]; omega
    · obtain rfl : k = n := by omega
      go_wp2
      go_ret
      exact ⟨rfl, HW.out⟩
/-- one flag -/
theorem foldF_one {x : Int} (b : Bool) (h0 : 0 ≤ x) (h1 : x ≤ 127) : foldF x [b] 1 = 2 * x + fl b := by
  have h : ∀ b : Bool, ∀ m : Nat, m < 128 → foldF (m : Int) [b] 1 = 2 * (m : Int) + fl b := by decide +kernel
  obtain ⟨m, rfl⟩ : ∃ m : Nat, x = (m : Int) := ⟨x.toNat, by omega⟩
  exact h b m (by omega)
/-- five flags alone -/
theorem foldF_five (a b c d e : Bool) : foldF 0 [a, b, c, d, e] 5 = fl a + 2 * fl b + 4 * fl c + 8 * fl d + 16 * fl e := by
  cases a <;> cases b <;> cases c <;> cases d <;> cases e <;> decide +kernel
/-- the bits of a byte -/
theorem bit_k {x : Int} (h0 : 0 ≤ x) (h1 : x ≤ 255) :
    (bits BinOp.and IntKind.i64 (x / 2 ^ 0) 1 == 1) = decide (x % 2 = 1) ∧ (bits BinOp.and IntKind.i64 (x / 2 ^ 0) 1 == 1) = bitAt x 1 ∧ (bits BinOp.and IntKind.i64 (x / 2 ^ 1) 1 == 1) = bitAt x 2 ∧ (bits BinOp.and IntKind.i64 (x / 2 ^ 2) 1 == 1) = bitAt x 4 ∧
    (bits BinOp.and IntKind.i64 (x / 2 ^ 3) 1 == 1) = bitAt x 8 ∧ (bits BinOp.and IntKind.i64 (x / 2 ^ 4) 1 == 1) = bitAt x 16 := by
  have h : ∀ m : Nat, m < 256 → (bits BinOp.and IntKind.i64 ((m : Int) / 2 ^ 0) 1 == 1) = decide ((m : Int) % 2 = 1) ∧ (bits BinOp.and IntKind.i64 ((m : Int) / 2 ^ 0) 1 == 1) = bitAt m 1 ∧ (bits BinOp.and IntKind.i64 ((m : Int) / 2 ^ 1) 1 == 1) = bitAt m 2 ∧ (bits BinOp.and IntKind.i64 ((m : Int) / 2 ^ 2) 1 == 1) = bitAt m 4 ∧
    (bits BinOp.and IntKind.i64 ((m : Int) / 2 ^ 3) 1 == 1) = bitAt m 8 ∧ (bits BinOp.and IntKind.i64 ((m : Int) / 2 ^ 4) 1 == 1) = bitAt m 16 := by decide +kernel
  obtain ⟨m, rfl⟩ : ∃ m : Nat, x = (m : Int) := ⟨x.toNat, by omega⟩
  exact h m (by omega)
end Go.Proofs.Ytkidacfodpoapaa
