/- What the document's own Put, Get and Copy hand back. -/
import Derived.Test.YtkidacfodpoapaaOClone
namespace Go.Proofs.Ytkidacfodpoapaa
open Go.RowKit

/-- what the ways of the document's Put hold: what is gathered, and what is to come -/
def RefRow (w : World) (n : Int) (k j : Nat) (v : Value) (wr : World) : Prop :=
  ∃ xs, wr.ownsRow w.heap.size 5 1 v xs.length (xs.map (Value.int .u8)) ∧ xs ++ low n j = low n k ∧ Below w.heap.size w wr
theorem wrap_pow (k : Nat) (h : k ≤ 7) : wrap64 (2 ^ (8 * k)) = 256 ^ k := by
  rw [pow_256]
  have h1 := pow256_mono h
  have h2 := pow256_pos k
  exact IntWalk.wrap64_in _ ⟨by omega, by omega⟩
/-- one byte more behind an owned row -/
theorem own_more {w wr w1 : World} {v v' : Value} {xs : List Int} {x : Int} {o : Obj} (hbel : Below w.heap.size w wr) (hown : wr.ownsRow w.heap.size 5 1 v xs.length (xs.map (Value.int .u8)))
    (h : w1.ownsRow w.heap.size 5 1 v' (xs.length + 1) (xs.map (Value.int .u8) ++ [.int .u8 x])) (hg : (wr.alloc o).grownBy w1 v.ownBlock) :
    w1.ownsRow w.heap.size 5 1 v' (xs ++ [x]).length ((xs ++ [x]).map (Value.int .u8)) ∧ Below w.heap.size w w1 :=
  ⟨by simpa using h, (hbel.alloc hbel.size _).grown hg (by have := hbel.size; simp; omega) (fun k hk => (hown.lt k hk).1)⟩

set_option maxHeartbeats 400000 in
theorem ref_put_yes (n : Int) (k : Nat) (w : World) (h1 : 1 ≤ k) (h2 : k ≤ 7) (h3 : 0 ≤ n) (h4 : n < 256 ^ k) :
    Calls Try.prog 39 #[.int .i64 n, .int .i64 k] w (GivesB w (low n k)) := by
  obtain ⟨i0, hi, hz0, hz1, hz2⟩ := info_parts u8_info
  have hD : n < wrap64 (2 ^ (8 * k)) := by rw [wrap_pow k h2]; exact h4
  clear h4
  go_enter Try.func39, Try.ntmps39
  go_wp2_with fail
  clear hD
  go_loopw [5, 6] (fun v i wr => (∃ m : Nat, m < k ∧ i = .int .i64 m ∧ Hid (RefRow w n k (m + 1) v wr)) ∨ (i = .int .i64 (-1) ∧ Hid (RefRow w n k 0 v wr))) (fun _ i _ => (intOf i + 1).toNat)
  case atStart => exact .inl ⟨k - 1, by omega, by congr 1; omega, [], World.ownsRow_nil _ _ _ _, by rw [show k - 1 + 1 = k by omega]; rfl, Below.refl _ _⟩
  case round =>
    rcases hrel with ⟨m, hm, rfl, hrow⟩ | ⟨rfl, hrow⟩
    · obtain ⟨xs, hown, happ, hbel⟩ := hrow.out
      have HA := cover happ
      have hxl : xs.length ≤ k := by
        have := congrArg List.length happ; rw [List.length_append, low_length, low_length] at this; omega
      have hsz := hbel.size
      clear happ
      go_wp2_with (at_builtin; refine wpList_append_own _ rfl _ _ 23 rfl w.heap.size 5 i0 (.int .u8 0) 1 1 Try.underlying23 hi hz0 hz1 hz2 rfl (by decide) _ _ _ rfl (hown.alloc _) ⟨wr.heap.size, 0, none⟩ 1 1 [.int .u8 (n / 2 ^ (8 * m) % 256)] rfl rfl ?c1 ?c2 ?c3 ?c4 ?c5 ?_)
      case c1 => exact cell_one_new _ _ _
      case c2 => intro u hu; simp at hu; subst hu; rfl
      case c3 => unfold maxLen; omega
      case c4 => omega
      case c5 => simp; omega
      intro v' w1 hown' hgrow _
      obtain ⟨hn1, hn2⟩ := own_more hbel hown hown' hgrow
      have HN : Hid (RefRow w n k m v' w1) := cover ⟨_, hn1, by rw [List.append_assoc, pow_256]; exact HA.out, hn2⟩
      clear hn1 hn2 hown' hgrow hown
      go_wp2
      go_roundw
      case rel =>
        by_cases hm0 : m = 0
        · subst hm0; exact .inr ⟨rfl, HN⟩
        · exact .inl ⟨m - 1, by omega, by congr 1; omega, by rw [show m - 1 + 1 = m by omega]; exact HN⟩
      case measure => simp [intOf]
    · obtain ⟨xs, hown, happ, hbel⟩ := hrow.out
      have hx : xs = low n k := by simpa [low] using happ
      subst hx
      obtain ⟨A, c, rfl, _⟩ := own_shape hown
      clear happ
      go_wp2
      go_ret
      exact ⟨A, c, rfl, hown, hbel⟩
set_option maxHeartbeats 400000 in
theorem ref_put_no (n wd : Int) (w : World) (h : fitsB n wd = false) :
    Calls Try.prog 39 #[.int .i64 n, .int .i64 wd] w fun e w' => e = .returned (.slice none 0 0) ∧ w = w' := by
  by_cases hw1 : wd < 1
  · clear h
    go_enter Try.func39, Try.ntmps39
    go_wp2
    go_ret
    exact ⟨rfl, rfl⟩
  by_cases hw7 : 7 < wd
  · clear h
    go_enter Try.func39, Try.ntmps39
    go_wp2
    go_ret
    exact ⟨rfl, rfl⟩
  by_cases h0 : n < 0
  · clear h
    go_enter Try.func39, Try.ntmps39
    go_wp2
    go_ret
    exact ⟨rfl, rfl⟩
  obtain ⟨k, rfl⟩ : ∃ k : Nat, (k : Int) = wd := ⟨wd.toNat, by omega⟩
  have hD : wrap64 (2 ^ (8 * k)) ≤ n := by
    rw [wrap_pow k (by omega)]
    apply Int.not_lt.1
    intro hlt
    have := (fitsB_iff n k).2 ⟨by omega, by omega, by omega, by simpa using hlt⟩
    rw [this] at h; cases h
  clear h
  go_enter Try.func39, Try.ntmps39
  go_wp2
  go_ret
  exact ⟨rfl, rfl⟩
/-- the document's Put, at all numbers and widths -/
theorem ref_put_any (n wd : Int) (w : World) :
    Calls Try.prog 39 #[.int .i64 n, .int .i64 wd] w (GivesB w (putv n wd)) := by
  by_cases h : fitsB n wd = true
  · rw [putv_yes h]
    rw [fitsB_iff] at h
    obtain ⟨k, rfl⟩ : ∃ k : Nat, (k : Int) = wd := ⟨wd.toNat, by omega⟩
    exact ref_put_yes n k w (by omega) (by omega) h.2.2.1 (by simpa using h.2.2.2)
  · have h' : fitsB n wd = false := by simpa using h
    rw [putv_no h']
    exact (ref_put_no n wd w h').mono fun e w' ⟨he, hw⟩ => by
      subst hw
      exact ⟨none, 0, he, OwnB.nil _ _, Below.refl _ _⟩

set_option maxHeartbeats 400000 in
theorem ref_get_any (A : Option Addr) (n c B : Nat) (l : List Int) (w : World) (hr : Row w B A n l) (hb : Bts l) (hmax : n ≤ 9223372036854775807) :
    Calls Try.prog 40 #[.slice A n c] w fun e w' => e = .returned (.int .i64 (getB l)) ∧ w = w' := by
  have hlen := hr.len
  by_cases h1 : 1 ≤ n ∧ n ≤ 7
  · obtain ⟨h1, h2⟩ := h1
    have hn0 : ((n : Int) == 0) = false := by simp; omega
    go_enter Try.func40, Try.ntmps40
    go_wp2
    go_loop [3, 4] (fun m i => ∃ k : Nat, k ≤ n ∧ i = .int .i64 k ∧ m = .int .i64 (getv (l.take k))) (fun _ i => n - (intOf i).toNat)
    case atStart => exact ⟨0, Nat.zero_le _, rfl, rfl⟩
    case round =>
      obtain ⟨k, hk, rfl, rfl⟩ := hrel
      by_cases hlt : k < n
      · obtain ⟨ad, rfl, had, hc⟩ := hr.cells k (by omega)
        have HS : Hid (bits BinOp.or IntKind.i64 (wrap64 (getv (List.take k l) * 256)) (wrap64 l[k]) = getv (l.take (k + 1))) := cover (by
          have hbd := getv_bd6 (hb.take k) (by rw [List.length_take]; omega)
          rw [getv_take_succ l k (by omega)]; exact or_byte _ _ hbd.1 hbd.2 (hb.at (k := k) (by omega)))
        clear hb
        go_wp2
        go_round
        case rel => exact ⟨k + 1, by omega, by go_num, by rw [HS.out]⟩
        case measure => simp [intOf]; omega
      · obtain rfl : k = n := by omega
        go_wp2
        go_ret
        exact ⟨ret_int (by unfold getB; rw [if_pos (by omega), List.take_of_length_le (by omega)]), rfl⟩
  · have HG : Hid (getB l = 0) := cover (by unfold getB; rw [if_neg (by omega)])
    by_cases hn : n = 0
    · subst hn
      go_enter Try.func40, Try.ntmps40
      go_wp2
      go_ret
      exact ⟨ret_int HG.out.symm, rfl⟩
    · have hn0 : ((n : Int) == 0) = false := by simp [hn]
      have hn7 : 7 < n := by omega
      go_enter Try.func40, Try.ntmps40
      go_wp2
      go_ret
      exact ⟨ret_int HG.out.symm, rfl⟩
theorem ref_put_fit (n : Int) (k : Nat) (w : World) (h : fitsB n k = true) :
    Calls Try.prog 39 #[.int .i64 n, .int .i64 k] w (NewB k (low n k) w) := by
  rw [fitsB_iff] at h
  refine (ref_put_yes n k w (by omega) (by omega) h.2.2.1 (by simpa using h.2.2.2)).mono fun e w' ⟨A, c, he, ho, hb⟩ => ?_
  have hr := ho.row
  rw [low_length] at he hr
  have hc := own_cap ho
  rw [low_length] at hc
  exact ⟨A, c, he, hc, hr, hb⟩
end Go.Proofs.Ytkidacfodpoapaa
