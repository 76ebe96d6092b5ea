/- What Put hands back. -/
import Derived.Test.YtkidacfodpoapaaOWidth
namespace Go.Proofs.Ytkidacfodpoapaa
open Go.RowKit

theorem u8_info : (Try.prog.info? 5).map (fun i => (i.zero, i.size, i.bytes)) = some (some (.int .u8 0), 1, 1) := by kernel_rfl

theorem pow_256 (k : Nat) : (2 : Int) ^ (8 * k) = 256 ^ k := by
  rw [Int.pow_mul]; rfl

theorem put_row (n : Int) (k j : Nat) (h : j < k) :
    ((List.replicate (k - j) 0 ++ low n j).map (Value.int .u8))[k - 1 - j]? = some (.int .u8 0) ∧
    ((List.replicate (k - j) 0 ++ low n j).map (Value.int .u8)).set (k - 1 - j) (.int .u8 (n / 2 ^ (8 * j) % 256)) = (List.replicate (k - (j + 1)) 0 ++ low n (j + 1)).map (Value.int .u8) := by
  obtain ⟨m, rfl⟩ : ∃ m, k = m + 1 + j := ⟨k - 1 - j, by omega⟩
  have e1 : m + 1 + j - j = m + 1 := by omega
  have e2 : m + 1 + j - 1 - j = m := by omega
  have e3 : m + 1 + j - (j + 1) = m := by omega
  have e4 : List.replicate (m + 1) (0 : Int) = List.replicate m 0 ++ [0] := by rw [List.replicate_succ']
  rw [e1, e2, e3, e4, pow_256, low]
  constructor
  · simp
  · simp

/-- what the ways of Put's loop hold -/
def PutRow (w : World) (n : Int) (k j : Nat) (wr : World) : Prop :=
  wr.ownsRow w.heap.size 5 1 (.slice (some ⟨w.heap.size, 0, none⟩) k k) k ((List.replicate (k - j) 0 ++ low n j).map (Value.int .u8)) ∧ Below w.heap.size w wr
theorem PutRow.step {w wr : World} {n : Int} {k j : Nat} (h : PutRow w n k j wr) (hj : j < k) :
    wr.cell? ⟨w.heap.size, k - 1 - j, none⟩ = some (.int .u8 0) ∧ wr.frozen? ⟨w.heap.size, k - 1 - j, none⟩ = false ∧
    PutRow w n k (j + 1) (wr.setCell ⟨w.heap.size, k - 1 - j, none⟩ (.int .u8 (n / 2 ^ (8 * j) % 256))) := by
  obtain ⟨r1, r2⟩ := put_row n k j hj
  have hst := h.1.stored (k - 1 - j) (.int .u8 (n / 2 ^ (8 * j) % 256))
  rw [r2] at hst
  exact ⟨(h.1.cellAt _ (by omega)).trans r1, h.1.frozenAt _, hst.1, h.2.setCell (Nat.le_refl _) _⟩

set_option maxHeartbeats 400000 in
theorem put_yes (n : Int) (k : Nat) (w : World) (h1 : 1 ≤ k) (h2 : k ≤ 7) (h3 : 0 ≤ n) (h4 : n < 256 ^ k) :
    Calls Try.prog 37 #[.int .i64 n, .int .i64 k] w (GivesB w (low n k)) := by
  obtain ⟨i0, hi, hz0, hz1, hz2⟩ := info_parts u8_info
  have hD : (n / 2 ^ (8 * k) != 0) = false := by
    rw [pow_256, Int.ediv_eq_zero_of_lt h3 h4]; rfl
  clear h4
  go_enter Try.func37, Try.ntmps37
  go_wp2_with (first
    | (go_at_call 43; refine (isWidth_yes _ _ (by omega) (by omega)).mono ?_; rintro e w' ⟨rfl, rfl⟩)
    | (at_make; refine wpList_make_full _ rfl _ _ 23 rfl w.heap.size 5 i0 (.int .u8 0) 1 Try.underlying23 hi hz0 hz1 .i64 .i64 _ _ k rfl rfl rfl rfl (by rw [hz2]; omega) (by unfold maxLen; omega) (Nat.le_refl _) ?_; intro w1 hown1 hg1))
  have HO : Hid (w1.ownsRow w.heap.size 5 1 (.slice (some ⟨w.heap.size, 0, none⟩) k k) k (madeCells (Value.int .u8 0).cells (k * 1)).toList) := hown1
  have HG : Hid (w.grownBy w1 none) := hg1
  clear hown1 hg1
  go_loopw [6, 25] (fun _ i wr => ∃ j : Nat, j ≤ k ∧ i = .int .i64 j ∧ Hid (PutRow w n k j wr)) (fun _ i _ => k - (intOf i).toNat)
  case atStart =>
    refine ⟨0, Nat.zero_le _, rfl, ?_⟩
    have := HO.out
    rw [show (Value.int IntKind.u8 0).cells = #[.int .u8 0] from rfl, toList_madeCells_one] at this
    exact ⟨by simpa [low] using this, (Below.refl _ _).grown HG.out (Nat.le_refl _) (fun k hk => by cases hk)⟩
  case round =>
    obtain ⟨j, hj, rfl, hown⟩ := hrel
    by_cases hlt : j < k
    · obtain ⟨hcell, hfz, hnext⟩ := PutRow.step hown.out hlt
      have HN := cover hnext
      clear hnext
      go_wp2
      go_roundw
      case rel => exact ⟨j + 1, by omega, by go_num, HN.out⟩
      case measure => simp [intOf]; omega
    · obtain rfl : j = k := by omega
      go_wp2
      go_ret
      have hown := hown.out
      unfold PutRow at hown
      rw [Nat.sub_self] at hown
      refine ⟨some ⟨w.heap.size, 0, none⟩, j, ?_, ?_, hown.2⟩
      · rw [low_length]; rfl
      · unfold OwnB; rw [low_length]; exact hown.1
theorem put_no (n wd : Int) (w : World) (h : fitsB n wd = false) (hn : n ≤ 9223372036854775807) :
    Calls Try.prog 37 #[.int .i64 n, .int .i64 wd] w fun e w' => e = .returned (.slice none 0 0) ∧ w = w' := by
  by_cases hw : 1 ≤ wd ∧ wd ≤ 7
  · obtain ⟨k, rfl⟩ : ∃ k : Nat, (k : Int) = wd := ⟨wd.toNat, by omega⟩
    by_cases h0 : n < 0
    · clear h
      go_enter Try.func37, Try.ntmps37
      go_wp2_with (go_at_call 43; refine (isWidth_yes _ _ (by omega) (by omega)).mono ?_; rintro e w' ⟨rfl, rfl⟩)
      go_ret
      exact ⟨rfl, rfl⟩
    · have hD : (n / 2 ^ (8 * k) != 0) = true := by
        have hp := pow256_pos k
        have h1 : ¬ n < 256 ^ k := fun hlt => by
          have := (fitsB_iff n k).2 ⟨hw.1, hw.2, by omega, by simpa using hlt⟩
          rw [this] at h; cases h
        have h2 : 256 ^ k / 256 ^ k ≤ n / 256 ^ k := Int.ediv_le_ediv hp (by omega)
        rw [Int.ediv_self (by omega)] at h2
        rw [pow_256, bne_iff_ne]
        omega
      clear h
      go_enter Try.func37, Try.ntmps37
      go_wp2_with (go_at_call 43; refine (isWidth_yes _ _ (by omega) (by omega)).mono ?_; rintro e w' ⟨rfl, rfl⟩)
      go_ret
      exact ⟨rfl, rfl⟩
  · clear h
    go_enter Try.func37, Try.ntmps37
    go_wp2_with (go_at_call 43; refine (isWidth_no _ _ (by omega)).mono ?_; rintro e w' ⟨rfl, rfl⟩)
    go_ret
    exact ⟨rfl, rfl⟩
/-- Put, at all numbers and widths -/
theorem put_any (n wd : Int) (w : World) (hn : n ≤ 9223372036854775807) :
    Calls Try.prog 37 #[.int .i64 n, .int .i64 wd] w (GivesB w (putv n wd)) := by
  by_cases h : fitsB n wd = true
  · rw [putv_yes h]
    rw [fitsB_iff] at h
    obtain ⟨k, rfl⟩ : ∃ k : Nat, (k : Int) = wd := ⟨wd.toNat, by omega⟩
    exact put_yes n k w (by omega) (by omega) h.2.2.1 (by simpa using h.2.2.2)
  · have h' : fitsB n wd = false := by simpa using h
    rw [putv_no h']
    exact (put_no n wd w h' hn).mono fun e w' ⟨he, hw⟩ => by
      subst hw
      exact ⟨none, 0, he, OwnB.nil _ _, Below.refl _ _⟩
/-- new bytes of a known number, as the walk wants them -/
def NewB (k : Nat) (l : List Int) (w : World) (e : Ending) (w' : World) : Prop :=
  ∃ A c, e = .returned (.slice A k c) ∧ k ≤ c ∧ Row w' w'.heap.size A k l ∧ Below w.heap.size w w'
theorem put_fit_at (n wd : Int) (k : Nat) (w : World) (hw : wd = k) (h : fitsB n k = true) :
    Calls Try.prog 37 #[.int .i64 n, .int .i64 wd] w (NewB k (low n k) w) := by
  subst hw
  rw [fitsB_iff] at h
  refine (put_yes n k w (by omega) (by omega) h.2.2.1 (by simpa using h.2.2.2)).mono fun e w' ⟨A, c, he, ho, hb⟩ => ?_
  have hr := ho.row
  rw [low_length] at he hr
  have hc := own_cap ho
  rw [low_length] at hc
  exact ⟨A, c, he, hc, hr, hb⟩
theorem put_fit (n : Int) (k : Nat) (w : World) (h : fitsB n k = true) :
    Calls Try.prog 37 #[.int .i64 n, .int .i64 k] w (NewB k (low n k) w) := put_fit_at n k k w rfl h
end Go.Proofs.Ytkidacfodpoapaa
