/- What slices.Grow and slices.Concat hand back. -/
import Derived.Lib.AppendZerosOnto
import Derived.Test.YtkidacfodpoapaaOPut
import Derived.Test.YtkidacfodpoapaaORows
namespace Go.Proofs.Ytkidacfodpoapaa
open Go.RowKit

/-- an empty slice of the call's own, with or without room -/
def Room (w : World) (e : Ending) (w' : World) : Prop :=
  ∃ A c, e = .returned (.slice A 0 c) ∧ w'.ownsRow w.heap.size 5 1 (.slice A 0 c) 0 [] ∧ Below w.heap.size w w'
theorem own_room {w w' : World} {g c : Nat} {cur : Array Value} {e : TypeId} (h : w'.heap[g]? = some (.cells cur e (0, 0))) (hc : cur.size = c) (hm : c ≤ maxLen) (hg : w.heap.size ≤ g) : w'.ownsRow w.heap.size e 1 (.slice (some ⟨g, 0, none⟩) 0 c) 0 [] :=
  ⟨rfl, .inr ⟨g, c, cur, rfl, hg, h, Nat.zero_le _, hm, by rw [hc, Nat.mul_one], by simp⟩⟩
theorem zeroCells_size (v : Value) (n : Nat) : (Builtin.zeroCells #[v] n).size = n := by simp [Builtin.zeroCells]

set_option maxHeartbeats 400000 in
theorem grow_nil (n : Nat) (w : World) (hn : n ≤ 70368744177664) :
    Calls Try.prog 48 #[.slice none 0 0, .int .i64 n] w (Room w) := by
  obtain ⟨i0, hi, hz0, hz1, hz2⟩ := info_parts u8_info
  by_cases h0 : n = 0
  · subst h0
    go_enter Try.func48, Try.ntmps48
    go_wp2
    go_ret
    exact ⟨none, 0, rfl, World.ownsRow_nil _ _ _ _, Below.refl _ _⟩
  · have hrz : ∀ ty, (Builtin.append_ #[23, 3] ty #[.slice none 0 0, .int .i64 n]).run Try.prog w =
        .ok (.slice (some ⟨w.heap.size, 0, none⟩) n (grownCap w n 0 5)) (w.drew.alloc (.cells (#[] ++ Builtin.zeroCells (Value.int .u8 0).cells n ++ Builtin.zeroCells (Value.int .u8 0).cells (grownCap w n 0 5 - n)) 5)) := fun ty => by
      have h := Lib.run_append_grow_zeros w 23 3 ty 5 i0 (.int .u8 0) .i64 .i64 Try.underlying23 Try.underlying3 hi hz0 none 0 0 [] (run_firstCells_none w.drew i0.size 0 0 0) n (by omega) (by omega) (by omega) (by omega)
        (by rw [hz2]; omega) (growslice_fits (by omega) (by rw [hz2]; omega))
      rw [Nat.zero_add] at h
      exact h
    have hG := grownCap_ge w n 0 5
    have hG63 := grownCap_le_maxLen w n 0 5 (by unfold maxLen; omega)
    obtain ⟨G, hGe⟩ : ∃ G, G = grownCap w n 0 5 := ⟨_, rfl⟩
    rw [← hGe] at hrz hG hG63
    have h63 : G ≤ 9223372036854775807 := by unfold maxLen at hG63; omega
    have hown : (w.alloc (.cells (Builtin.zeroCells #[.int .u8 0] n ++ Builtin.zeroCells #[.int .u8 0] (G - n)) 5)).drew.ownsRow w.heap.size 5 1 (.slice (some ⟨w.heap.size, 0, none⟩) 0 G) 0 [] :=
      own_room (heap_alloc_new w _) (by rw [Array.size_append, zeroCells_size, zeroCells_size]; omega) hG63 (Nat.le_refl _)
    have HO := cover hown
    clear hGe hown
    go_enter Try.func48, Try.ntmps48
    go_wp2_with (at_builtin; refine Lib.wpList_append_run _ rfl _ _ _ _ rfl _ _ rfl rfl _ _ (hrz _) ?_)
    go_ret
    exact ⟨_, G, rfl, HO.out, ((Below.refl _ _).alloc (Nat.le_refl _) _).drew⟩

/-- at the head of a round of Concat's second loop -/
def ConAt (w : World) (ls : List (List Int)) (j : Nat) (v : Value) (wr : World) : Prop :=
  wr.ownsRow w.heap.size 5 1 v (totL (ls.take j)) ((ls.take j).flatten.map (Value.int .u8)) ∧ Below w.heap.size w wr

set_option maxHeartbeats 800000 in
theorem concat_any (A : Option Addr) (n c B : Nat) (ls : List (List Int)) (w : World) (hr : RowsB w B A n ls) (hB : B ≤ w.heap.size) (hn : n ≤ 70368744177664) (hmax : totL ls ≤ 70368744177664) :
    Calls Try.prog 41 #[.slice A n c] w (GivesB w ls.flatten) := by
  obtain ⟨i0, hi, hz0, hz1, hz2⟩ := info_parts u8_info
  have hlen := hr.len
  have HL := cover hlen
  go_enter Try.func41, Try.ntmps41
  go_wp2
  clear hlen
  go_loop [3, 11] (fun s i => ∃ j : Nat, j ≤ n ∧ i = .int .i64 j ∧ s = .int .i64 (totL (ls.take j))) (fun _ i => n - (intOf i).toNat)
  case atStart => exact ⟨0, Nat.zero_le _, rfl, rfl⟩
  case round =>
    obtain ⟨j, hj, rfl, rfl⟩ := hrel
    by_cases hlt : j < n
    · obtain ⟨ad, A', c', x, rfl, had, hc, hlc, hrow, hnil, hx⟩ := hr.at_ hlt
      have e1 := cover (totL_next hx.out)
      have hle := totL_take_le ls (j + 1)
      rw [e1.out] at hle
      clear hnil
      have hs0 : ¬ ((totL (ls.take j) : Int) + (x.length : Int) < 0) := by omega
      go_wp2
      go_round
      case rel => exact ⟨j + 1, by omega, by go_num, by rw [e1.out]; go_num⟩
      case measure => simp [intOf]; omega
    · obtain rfl : j = n := by omega
      have HT : Hid (ls.take j = ls) := cover (List.take_of_length_le (by rw [HL.out]; omega))
      rw [HT.out]
      go_wp2_with fail
      refine (grow_nil (totL ls) w hmax).mono ?_
      rintro e w1 ⟨A1, c1, rfl, ho1, hb1⟩
      have hst : Hid (ConAt w ls 0 (.slice A1 0 c1) w1) := cover ⟨ho1, hb1⟩
      clear ho1 hb1
      go_wp2_with fail
      go_loopw [6, 27] (fun v i wr => ∃ k : Nat, k ≤ j ∧ i = .int .i64 k ∧ Hid (ConAt w ls k v wr)) (fun _ i _ => j - (intOf i).toNat)
      case atStart => exact ⟨0, Nat.zero_le _, rfl, hst⟩
      case round =>
        clear hst
        obtain ⟨k, hk, rfl, hat⟩ := hrel
        obtain ⟨hown, hbel⟩ := hat.out
        have hsz := hbel.size
        by_cases hlt : k < j
        · obtain ⟨ad, A', c', x, rfl, had, hc, hlc, hrow, hnil0, hx⟩ := (hr.below (hbel.mono hB)).at_ hlt
          have e1 := cover (totL_next hx.out)
          have hnil := cover hnil0
          clear hnil0
          have hle := totL_take_le ls (k + 1)
          rw [e1.out] at hle
          clear hat
          go_wp2_with (at_builtin; refine append_row rfl _ _ 23 rfl w.heap.size 5 i0 (.int .u8 0) 1 Try.underlying23 hi hz0 hz1 hz2 rfl _ _ _ rfl hown B A' x.length c' x rfl hrow hnil.out (by unfold maxLen; omega) (by omega) hsz ?_)
          intro v' w2 hown2 hg2
          rw [← List.map_take, ← List.map_flatten] at hown2
          have HN : Hid (ConAt w ls (k + 1) v' w2) := cover (by
            refine ⟨?_, hbel.grown hg2 hsz (fun i hi => (hown.lt i hi).1)⟩
            rw [e1.out, flatten_next hx.out, List.map_append]
            exact hown2)
          clear hown2 hg2 hown
          go_wp2
          go_roundw
          case rel => exact ⟨k + 1, by omega, by go_num, HN⟩
          case measure => simp [intOf]; omega
        · obtain rfl : k = j := by omega
          rw [HT.out] at hown
          obtain ⟨A2, c2, rfl, _⟩ := own_shape hown
          clear hat
          go_wp2
          go_ret
          refine ⟨A2, c2, by rw [totL_flatten]; rfl, ?_, hbel⟩
          unfold OwnB; rw [totL_flatten]; exact hown
end Go.Proofs.Ytkidacfodpoapaa
