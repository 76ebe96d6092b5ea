/- The walk of LanCopies. -/
import Derived.Test.YtjidhpmjdhjciaaFOne
namespace Go.Proofs.Ytjidhpmjdhjciaa
open Go.RowKit
set_option linter.unusedVariables false

def frj (j : Nat) : List Int × Nat := ([(j : Int)], 0)
def frs (a n : Nat) : List (List Int × Nat) := (List.range' a (n - a)).map frj
theorem frs_cons {a n : Nat} (h : a < n) : frs a n = frj a :: frs (a + 1) n := by
  unfold frs
  obtain ⟨k, hk⟩ : ∃ k, n - a = k + 1 := ⟨n - a - 1, by omega⟩
  rw [hk, show n - (a + 1) = k by omega, List.range'_succ]; rfl
theorem frs_end (n : Nat) : frs n n = [] := by simp [frs]
theorem frs_snoc (j : Nat) : frs 0 (j + 1) = frs 0 j ++ [frj j] := by
  unfold frs
  simp [List.range'_concat]
theorem frs_length (a n : Nat) : (frs a n).length = n - a := by simp [frs]
theorem rep_cons (k : Nat) (x : List Int × Nat) (r : List (List Int × Nat)) : x :: (List.replicate k x ++ r) = List.replicate (k + 1) x ++ r := by rw [List.replicate_succ]; rfl

set_option maxRecDepth 100000 in
set_option maxHeartbeats 1600000 in
theorem copies_walk (A : Option Addr) (n c : Nat) (ts : List Int) (w : World) (hn : n ≤ 15) (hr : Row w w.heap.size A n ts) (hb : ∀ x ∈ ts, 0 ≤ x ∧ x ≤ 255) :
    Calls Try.prog 11 #[.slice A n c] w fun e w' => e = .returned (.bool true) ∧ Below w.heap.size w w' := by
  have HB := cover hb
  clear hb
  go_enter Try.func11, Try.ntmps11
  go_wp2_with fail
  refine (awake_any w).mono ?_
  rintro e w0 ⟨rfl, hb0⟩
  have H0 := cover hb0
  clear hb0
  go_wp2_with fail
  refine (new_one (W := w) 2 64 9 H0.out (by decide) (by decide) (by decide)).mono ?_
  rintro e w1 ⟨l, rfl, H1⟩
  go_wp2_with fail
  go_loopw [5] (fun i wr => ∃ j : Nat, j ≤ n ∧ i = .int .i64 j ∧ Hid (LRow w [] l 2 64 9 (frs 0 j) 0 wr)) (fun i _ => n - (intOf i).toNat)
  case atStart => exact ⟨0, Nat.zero_le _, rfl, by rw [frs_end]; exact H1⟩
  case round =>
    clear H1
    obtain ⟨j, hj, rfl, hout⟩ := hrel
    by_cases hlt : j < n
    · have hw8 : (j : Int) % 256 = (j : Int) := by omega
      have a2 := cover (RowK.madeF (κ := .u8) wr [(j : Int)] #[.int .u8 (j : Int)] 5 (0, 0) rfl)
      have l2 := cover (hout.out.below ((Below.refl _ _).alloc (Nat.le_refl _) (.cells #[.int .u8 (j : Int)] 5)))
      have hlen : (frs 0 j).length < 64 := by rw [frs_length]; omega
      clear hout
      go_wp2_with fail
      refine (send_one l2.out hlen (some ⟨wr.heap.size, 0, none⟩) 1 1 _ [(j : Int)] a2.out (by simp) (by decide)).mono ?_
      rintro e w2 ⟨rfl, H2⟩
      have HN : Hid (LRow w [] l 2 64 9 (frs 0 (j + 1)) 0 w2) := cover (by rw [frs_snoc]; exact H2.out)
      clear H2 a2 l2 hlen
      go_wp2
      go_roundw
      case rel => exact ⟨j + 1, by omega, by go_num, HN⟩
      case measure => simp [intOf]; omega
    · obtain rfl : j = n := by omega
      go_wp2_with fail
      go_loopw [6] (fun i wr => ∃ (j' : Nat) (xs : List (Nat × Obj)), j' ≤ j ∧ i = .int .i64 j' ∧ Hid (LRow w xs l 2 64 9 (frs j' j) 0 wr)) (fun i _ => j - (intOf i).toNat)
      case atStart => exact ⟨0, [], Nat.zero_le _, rfl, hout⟩
      case round =>
        clear hout
        obtain ⟨i, xs, hi, rfl, hrel⟩ := hrel
        by_cases hil : i < j
        · obtain ⟨ad, y, rfl, had, hcy, hy⟩ := hr.at_ hil
          have hyb := HB.out y (List.mem_of_getElem? hy.out)
          have hcy' := (hrel.out.bel.cell (p := ad.add i) (by rw [addr_add_block]; exact had)).trans hcy
          obtain ⟨m, hm, hm1, hm3⟩ : ∃ m : Nat, 1 + y % 3 = (m : Int) ∧ 1 ≤ m ∧ m ≤ 3 := ⟨(1 + y % 3).toNat, by omega, by omega, by omega⟩
          have hi0 : (0 : Int) ≤ (i : Int) := by omega
          have hi1 : (i : Int) < (j : Int) := by omega
          have HS : Hid (LRow w xs l 2 64 9 (List.replicate 1 (frj i) ++ frs (i + 1) j) 0 wr) := cover (by have := hrel.out; rw [frs_cons hil] at this; exact this)
          clear hrel hcy
          go_wp2_with fail
          clear hm hyb hcy' hi0 hi1
          go_loopw [8] (fun v wr => ∃ k : Nat, 1 ≤ k ∧ k ≤ m ∧ v = .int .i64 k ∧ Hid (LRow w xs l 2 64 9 (List.replicate k (frj i) ++ frs (i + 1) j) 0 wr)) (fun v _ => m - (intOf v).toNat)
          case atStart => exact ⟨1, Nat.le_refl _, by omega, rfl, HS⟩
          case round =>
            clear HS
            obtain ⟨k, hk1, hk, rfl, hrel⟩ := hrel
            by_cases hkm : k < m
            · obtain ⟨k', rfl⟩ : ∃ k', k = k' + 1 := ⟨k - 1, by omega⟩
              have hR := hrel.out
              rw [← rep_cons] at hR
              have hT := twice_one hR (by simp [frs_length]; omega) (by simp [frj])
              clear hrel hR
              go_wp2_with fail
              refine hT.mono ?_
              rintro e w2 ⟨rfl, H2⟩
              have HN : Hid (LRow w xs l 2 64 9 (List.replicate (k' + 1 + 1) (frj i) ++ frs (i + 1) j) 0 w2) := cover (by have := H2.out; rw [rep_cons, rep_cons] at this; exact this)
              clear H2 hT
              go_wp2
              go_roundw
              case rel => exact ⟨k' + 1 + 1, by omega, by omega, by go_num, HN⟩
              case measure => simp [intOf]; omega
            · obtain rfl : m = k := by omega
              have HS2 : Hid (LRow w xs l 2 64 9 (List.replicate (m - 0) (frj i) ++ frs (i + 1) j) 0 wr) := hrel
              clear hrel
              go_wp2_with fail
              go_loopw [9] (fun v wr => ∃ (k : Nat) (xs : List (Nat × Obj)), k ≤ m ∧ v = .int .i64 k ∧ Hid (LRow w xs l 2 64 9 (List.replicate (m - k) (frj i) ++ frs (i + 1) j) 0 wr)) (fun v _ => m - (intOf v).toNat)
              case atStart => exact ⟨0, xs, by omega, rfl, HS2⟩
              case round =>
                clear HS2
                obtain ⟨k, xs', hk, rfl, hrel⟩ := hrel
                by_cases hkm : k < m
                · have hR := hrel.out
                  rw [show m - k = (m - (k + 1)) + 1 by omega, ← rep_cons] at hR
                  have hP := pass_one hR
                  clear hrel hR
                  go_wp2_with fail
                  refine hP.mono ?_
                  rintro e w2 ⟨A2, c2, x2, rfl, _, k2, h2⟩
                  have hw8 : (i : Int) % 256 = (i : Int) := by omega
                  have a3 := cover (RowK.madeF (κ := .u8) w2 [(i : Int)] #[.int .u8 (i : Int)] 5 (0, 0) rfl)
                  have H3 := cover (h2.below ((Below.refl _ _).alloc (Nat.le_refl _) (.cells #[.int .u8 (i : Int)] 5)))
                  have hS := same_yes (c := c2) (c' := 1) (H3.out.kept k2) a3.out (by simp [frj]) rfl
                  rw [show (frj i).1.length = 1 from rfl] at hS ⊢
                  rw [show [(i : Int)].length = 1 from rfl] at hS
                  clear h2 k2 a3 hP
                  go_wp2_with fail
                  refine hS.mono ?_
                  rintro e w3 ⟨rfl, d, hw3⟩
                  have HN : Hid (LRow w x2 l 2 64 9 (List.replicate (m - (k + 1)) (frj i) ++ frs (i + 1) j) 0 w3) := cover (by rw [hw3]; exact H3.out.drewN _)
                  clear hw3 H3 hS hw8
                  go_wp2
                  go_roundw
                  case rel => exact ⟨k + 1, x2, by omega, by go_num, HN⟩
                  case measure => simp [intOf]; omega
                · obtain rfl : m = k := by omega
                  have HN : Hid (LRow w xs' l 2 64 9 (frs (i + 1) j) 0 wr) := cover (by have := hrel.out; rw [Nat.sub_self] at this; exact this)
                  clear hrel
                  go_wp2
                  go_roundw
                  case rel => exact ⟨i + 1, xs', by omega, by go_num, HN⟩
                  case measure => simp [intOf]; omega
        · obtain rfl : i = j := by omega
          have hR : LRow w xs l 2 64 9 [] 0 wr := by have := hrel.out; rwa [frs_end] at this
          have hP := pass_no hR
          clear hrel hR
          go_wp2_with fail
          refine hP.mono ?_
          rintro e w2 ⟨A2, c2, x2, rfl, _, H2⟩
          clear hP
          go_wp2_with fail
          refine (lost_one H2.out).mono ?_
          rintro e w' ⟨rfl, rfl⟩
          have HF := cover H2.out.bel
          clear H2
          go_wp2
          go_ret
          exact ⟨rfl, HF.out⟩
theorem walk_LanCopies (A : Option Addr) (n c : Nat) (ts : List Int) (w : World) (hlc : n ≤ c) (hcm : c ≤ maxLen) (hr : Row w w.heap.size A n ts) (hts : ∀ x ∈ ts, (Lit.int .u8 x).wf = true) :
    Calls Try.prog 11 #[.slice A n c] w fun e w' => e = .returned (.bool true) ∧ Below w.heap.size w w' := by
  by_cases hn : n ≤ 15
  · refine copies_walk A n c ts w hn hr (fun x hx => ?_)
    have h := hts x hx
    have hmin : IntKind.u8.min = 0 := rfl
    have hmax : IntKind.u8.max = 255 := rfl
    simp only [Lit.wf, Bool.and_eq_true, decide_eq_true_eq] at h
    omega
  · have hn' : (15 : Int) < (n : Int) := by omega
    unfold maxLen at hcm
    clear hr hts
    go_enter Try.func11, Try.ntmps11
    go_wp2_with fail
    refine (awake_any w).mono ?_
    rintro e w0 ⟨rfl, hb0⟩
    go_wp2
    go_ret
    exact ⟨rfl, hb0⟩
end Go.Proofs.Ytjidhpmjdhjciaa
