/- What fits, lengthError, fold and unfold answer. -/
import Derived.BigQuiet
import Derived.Deep.QuietTactic
import Derived.Test.YtgpmimohoepeiaaRows
import Derived.Test.YtgpmimohoepeiaaOWords
import Derived.Test.YtgpmimohoepeiaaGMath
namespace Go.Proofs.Ytgpmimohoepeiaa
open Go.RowKit
set_option linter.unusedVariables false

theorem fits_any (n m : Int) (w : World) : Calls Try.prog 53 #[.int .i64 n, .int .i64 m] w fun e w' => e = .returned (.bool (decide (0 ≤ n ∧ n ≤ m))) ∧ w' = w := by
  by_cases h1 : 0 ≤ n
  · by_cases h2 : n ≤ m
    · have HD : Hid (decide (0 ≤ n ∧ n ≤ m) = true) := cover (decide_eq_true ⟨h1, h2⟩)
      have d2 : decide (n ≤ m) = true := decide_eq_true h2
      go_enter Try.func53, Try.ntmps53
      go_wp2
      go_ret
      exact ⟨ret_bool (by first | rfl | exact HD.out.symm | (rw [HD.out]; simp; omega)), rfl⟩
    · have HD : Hid (decide (0 ≤ n ∧ n ≤ m) = false) := cover (decide_eq_false (fun h => h2 h.2))
      have d2 : decide (n ≤ m) = false := decide_eq_false h2
      have h2' : m < n := by omega
      go_enter Try.func53, Try.ntmps53
      go_wp2
      go_ret
      exact ⟨ret_bool (by first | rfl | exact HD.out.symm | (rw [HD.out]; simp; omega)), rfl⟩
  · have HD : Hid (decide (0 ≤ n ∧ n ≤ m) = false) := cover (decide_eq_false (fun h => h1 h.1))
    go_enter Try.func53, Try.ntmps53
    go_wp2
    go_ret
    exact ⟨ret_bool (by simp; omega), rfl⟩

/-- too short, too long, or neither -/
def lenE (n k : Nat) : Int := if n < k then 2 else if k < n then 3 else 0
/-- a row of flags lies at ad -/
def FlagsAt (w : World) (ad : Addr) (fs : List Bool) : Prop := ∀ k b, fs[k]? = some b → w.cell? (ad.add k) = some (.bool b)

/-- what fold has gathered behind k flags -/
def foldF (x : Int) (fs : List Bool) : Nat → Int
  | 0 => x * 2 ^ fs.length % 256
  | k + 1 => if fs[k]? = some true then bits BinOp.or IntKind.u8 (foldF x fs k) (2 ^ k % 256) else foldF x fs k

set_option maxHeartbeats 400000 in
theorem fold_any (x : Int) (ad : Addr) (fs : List Bool) (n : Nat) (w : World) (hx : 0 ≤ x ∧ x ≤ 127) (hn : fs.length = n) (h8 : n ≤ 7) (hf : FlagsAt w ad fs) :
    Calls Try.prog 54 #[.int .u8 x, .slice (some ad) n n] w fun e w' => e = .returned (.int .u8 (foldF x fs n)) ∧ w' = w := by
  have HN := cover hn
  clear hn
  go_enter Try.func54, Try.ntmps54
  go_wp2
  go_loop [5, 14] (fun m i => ∃ k : Nat, k ≤ n ∧ i = .int .i64 k ∧ m = .int .u8 (foldF x fs k)) (fun _ i => n - (intOf i).toNat)
  case atStart => exact ⟨0, Nat.zero_le _, rfl, by unfold foldF; rw [HN.out]⟩
  case round =>
    obtain ⟨k, hk, rfl, rfl⟩ := hrel
    by_cases hlt : k < n
    · have hsh : (k : Int) < 64 := by omega
      obtain ⟨b, hb⟩ : ∃ b, Hid (fs[k]? = some b) := ⟨_, cover (List.getElem?_eq_getElem (by rw [HN.out]; exact hlt))⟩
      have hc := hf k b hb.out
      cases b with
      | true =>
        have HS : Hid (bits BinOp.or IntKind.u8 (foldF x fs k) (2 ^ k % 256) = foldF x fs (k + 1)) := cover (by show _ = ite _ _ _; rw [if_pos hb.out])
        go_wp2
        go_round
        case rel => exact ⟨k + 1, by omega, by go_num, by rw [HS.out]⟩
        case measure => simp [intOf]; omega
      | false =>
        have HS : Hid (foldF x fs k = foldF x fs (k + 1)) := cover (by show _ = ite _ _ _; rw [if_neg (by rw [hb.out]; intro h; injection h with h; cases h)])
        go_wp2
        go_round
        case rel => exact ⟨k + 1, by omega, by go_num, by rw [HS.out]⟩
        case measure => simp [intOf]; omega
    · obtain rfl : k = n := by omega
      go_wp2
      go_ret
      exact ⟨rfl, rfl⟩

/-- what a row of flags, set from a number's lowest bits, leaves -/
def setBits (w : World) (ps : Nat → Addr) (x : Int) : Nat → World
  | 0 => w
  | k + 1 => (setBits w ps x k).setCell (ps k) (.bool (bits BinOp.and IntKind.i64 (x / 2 ^ k) 1 == 1))
theorem setBits_other (w : World) (ps : Nat → Addr) (x : Int) (q : Addr) : ∀ n : Nat, (∀ k, k < n → (ps k).block ≠ q.block) → (setBits w ps x n).cell? q = w.cell? q
  | 0, _ => rfl
  | n + 1, h => (World.cell?_setCell_other _ _ _ _ (fun e => h n (Nat.lt_succ_self _) (by rw [e]))).trans (setBits_other w ps x q n (fun k hk => h k (by omega)))
theorem setBits_frozen (w : World) (ps : Nat → Addr) (x : Int) (q : Addr) : ∀ n : Nat, (setBits w ps x n).frozen? q = w.frozen? q
  | 0 => rfl
  | n + 1 => (World.frozen?_setCell _ _ _ _).trans (setBits_frozen w ps x q n)
theorem setBits_there (w : World) (ps : Nat → Addr) (x : Int) (q : Addr) (hq : (w.cell? q).isSome = true) : ∀ n : Nat, ((setBits w ps x n).cell? q).isSome = true
  | 0 => hq
  | n + 1 => by
    have h := setBits_there w ps x q hq n
    show (((setBits w ps x n).setCell (ps n) _).cell? q).isSome = true
    by_cases e : ps n = q
    · subst e; rw [World.cell?_setCell_same' _ _ _ h]; rfl
    · rw [World.cell?_setCell_other _ _ _ _ e]; exact h

/-- n places that may be set, told by a row of pointers at ad -/
def PtrsAt (w : World) (ad : Addr) (ps : Nat → Addr) (n : Nat) : Prop := ∀ k, k < n → w.cell? (ad.add k) = some (.pointer (some (ps k))) ∧ (ps k).block ≠ ad.block ∧ w.frozen? (ps k) = false ∧ (w.cell? (ps k)).isSome = true

/-- one flag -/
theorem foldF_one {x : Int} (b : Bool) (h0 : 0 ≤ x) (h1 : x ≤ 127) : foldF x [b] 1 = 2 * x + fl b := by
  have h : ∀ b : Bool, ∀ m : Nat, m < 128 → foldF (m : Int) [b] 1 = 2 * (m : Int) + fl b := by decide +kernel
  obtain ⟨m, rfl⟩ : ∃ m : Nat, x = (m : Int) := ⟨x.toNat, by omega⟩
  exact h b m (by omega)
/-- five flags alone -/
theorem foldF_five (a b c d e : Bool) : foldF 0 [a, b, c, d, e] 5 = fl a + 2 * fl b + 4 * fl c + 8 * fl d + 16 * fl e := by
  cases a <;> cases b <;> cases c <;> cases d <;> cases e <;> decide +kernel
/-- the bits of a byte -/
theorem bit_k {x : Int} (h0 : 0 ≤ x) (h1 : x ≤ 255) :
    (bits BinOp.and IntKind.i64 (x / 2 ^ 0) 1 == 1) = decide (x % 2 = 1) ∧ (bits BinOp.and IntKind.i64 (x / 2 ^ 0) 1 == 1) = bitAt x 1 ∧ (bits BinOp.and IntKind.i64 (x / 2 ^ 1) 1 == 1) = bitAt x 2 ∧ (bits BinOp.and IntKind.i64 (x / 2 ^ 2) 1 == 1) = bitAt x 4 ∧
    (bits BinOp.and IntKind.i64 (x / 2 ^ 3) 1 == 1) = bitAt x 8 ∧ (bits BinOp.and IntKind.i64 (x / 2 ^ 4) 1 == 1) = bitAt x 16 := by
  have h : ∀ m : Nat, m < 256 → (bits BinOp.and IntKind.i64 ((m : Int) / 2 ^ 0) 1 == 1) = decide ((m : Int) % 2 = 1) ∧ (bits BinOp.and IntKind.i64 ((m : Int) / 2 ^ 0) 1 == 1) = bitAt m 1 ∧ (bits BinOp.and IntKind.i64 ((m : Int) / 2 ^ 1) 1 == 1) = bitAt m 2 ∧ (bits BinOp.and IntKind.i64 ((m : Int) / 2 ^ 2) 1 == 1) = bitAt m 4 ∧
    (bits BinOp.and IntKind.i64 ((m : Int) / 2 ^ 3) 1 == 1) = bitAt m 8 ∧ (bits BinOp.and IntKind.i64 ((m : Int) / 2 ^ 4) 1 == 1) = bitAt m 16 := by decide +kernel
  obtain ⟨m, rfl⟩ : ∃ m : Nat, x = (m : Int) := ⟨x.toNat, by omega⟩
  exact h m (by omega)
/-- a row of bytes of the call's own and what was wrong -/
def GivesE (d : List Int × Int) (w : World) (e : Ending) (w' : World) : Prop :=
  ∃ A c, e = .returned (.tuple #[.slice A d.1.length c, .int .i64 d.2]) ∧ OwnB w' w.heap.size (.slice A d.1.length c) d.1 ∧ Below w.heap.size w w'
theorem GivesE.no {w w' : World} {d : List Int × Int} {k : Int} (h : d = ([], k)) (hb : Below w.heap.size w w') : GivesE d w (.returned (.tuple #[.slice none 0 0, .int .i64 k])) w' := by
  subst h; exact ⟨none, 0, rfl, OwnB.nil _ _, hb⟩
end Go.Proofs.Ytgpmimohoepeiaa
