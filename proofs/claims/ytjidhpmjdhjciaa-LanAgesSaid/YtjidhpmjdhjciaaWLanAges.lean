/- The walk of LanAges. -/
import Derived.Test.YtjidhpmjdhjciaaFRowH
namespace Go.Proofs.Ytjidhpmjdhjciaa
open Go.RowKit
set_option linter.unusedVariables false

/-- as LRow, and how many ages there were -/
def LAge (W : World) (l n m life : Nat) (r : List (List Int × Nat)) (lost now : Nat) (w : World) : Prop := ∃ s, LHas W [] l s w ∧ R1 s n m life r lost ∧ s.now = now
theorem sendS_now (s : LS) (f t : Int) (b : List Int) : (sendS s f t b).now = s.now := by
  unfold sendS
  split
  · split <;> rfl
  · rfl
theorem twiceS_now (s : LS) (f t : Int) : (twiceS s f t).now = s.now := by
  unfold twiceS; split
  · rfl
  · split <;> rfl
section
variable {W w w' : World} {l n m life lost now : Nat} {r : List (List Int × Nat)} {x : List Int × Nat}
theorem LAge.row (h : LAge W l n m life r lost now w) : LRow W [] l n m life r lost w := by obtain ⟨s, h1, h2, _⟩ := h; exact ⟨s, h1, h2⟩
theorem LAge.below (h : LAge W l n m life r lost now w) (hb : Below w.heap.size w w') : LAge W l n m life r lost now w' := by obtain ⟨s, h, k⟩ := h; exact ⟨s, h.below hb, k⟩
theorem new_age (n m life : Nat) (hw : Below W.heap.size W w) (hn : 2 ≤ n ∧ n ≤ 16) (hm : 1 ≤ m ∧ m ≤ 64) (hf : 1 ≤ life ∧ life ≤ 10000) :
    Calls Try.prog 13 #[.int .i64 n, .int .i64 m, .int .i64 life] w fun e w' => ∃ l, e = .returned (.tuple #[ptr l, .int .i64 0]) ∧ Hid (LAge W l n m life [] 0 0 w') :=
  (new_has n m life hw (by omega) hm hf).mono fun e w' ⟨l, h1, h2⟩ => ⟨l, h1, cover ⟨_, h2.out, ⟨rfl, hn.1, rfl, rfl, Nat.zero_le _, rfl, Nat.zero_le _, row_fresh _ _ _ _ _, fun _ _ => rfl⟩, rfl⟩⟩
theorem send_age (h : LAge W l n m life r lost now w) (hm : r.length < m) (A : Option Addr) (k c B : Nat) (b : List Int) (hr : Row w B A k b) (hB : B ≤ w.heap.size) (hmax : k ≤ 1000000) :
    Calls Try.prog 14 #[ptr l, .int .i64 0, .int .i64 1, .slice A k c] w fun e w' => e = .returned (.bool true) ∧ Hid (LAge W l n m life (r ++ [(b, 0)]) lost now w') := by
  obtain ⟨s, h, h1, h2⟩ := h
  obtain ⟨e1, e2⟩ := h1.send hm b
  have := send_has h 0 1 A k c B b hr hB hmax (by have := h1.e_now; omega) (by have := h1.e_lost; have := h1.e_lst; omega)
  rw [e1] at this
  exact this.mono fun e w' ⟨h3, h4⟩ => ⟨h3, cover ⟨_, h4.out, e2, by rw [sendS_now]; exact h2⟩⟩
theorem twice_age (h : LAge W l n m life (x :: r) lost now w) (hm : (x :: r).length < m) (hx : x.1.length ≤ 1000000) :
    Calls Try.prog 15 #[ptr l, .int .i64 0, .int .i64 1] w fun e w' => e = .returned (.bool true) ∧ Hid (LAge W l n m life (x :: x :: r) lost now w') := by
  obtain ⟨s, ⟨S, h2, h3, h4⟩, h1, hn⟩ := h
  obtain ⟨e1, e2⟩ := h1.twice hm
  have := twice_some h2 0 1 h1.e_row hx
  rw [e1] at this
  exact this.mono fun e w' ⟨h5, h6⟩ => ⟨h5, cover ⟨_, LHas.of_now h3 h4.1 h4.2 h6.out, e2, by rw [twiceS_now]; exact hn⟩⟩
theorem age_age (h : LAge W l n m life r lost now w) (h64 : r.length ≤ 64) (hl : lost + 64 ≤ 1000) (hnow : now ≤ 999) (r' : List (List Int × Nat)) (g : Nat) (hr : lasts life (older r) = r') (hg : r.length - r'.length = g) :
    Calls Try.prog 27 #[ptr l] w fun e w' => e = .returned (.int .i64 g) ∧ Hid (LAge W l n m life r' (lost + g) (now + 1) w') := by
  obtain ⟨s, h, h1, h2⟩ := h
  obtain ⟨e1, e2⟩ := h1.age h64 hl (by omega)
  have := age_has h (by omega) (by have := h1.e_lost; omega)
  rw [e1, hr, hg] at this
  rw [hr, hg] at e2
  exact this.mono fun e w' ⟨h3, h4⟩ => ⟨h3, cover ⟨_, h4.out, e2, by show s.now + 1 = _; rw [h2]⟩⟩
end
/-- so many frames of one byte 1, so old, and perhaps one of a byte 2 -/
def onesA (c a : Nat) : List (List Int × Nat) := List.replicate c ([1], a)
theorem lasts_append (life : Nat) (a b : List (List Int × Nat)) : lasts life (older (a ++ b)) = lasts life (older a) ++ lasts life (older b) := by simp [lasts, older]
theorem lasts_ones (life c a : Nat) : lasts life (older (onesA c a)) = if a + 1 ≤ life then onesA c (a + 1) else [] := by
  unfold lasts older onesA
  rw [List.map_replicate]
  split
  · rw [List.filter_replicate, if_pos (by simpa using ‹a + 1 ≤ life›)]
  · rw [List.filter_replicate, if_neg (by simpa using ‹¬ a + 1 ≤ life›)]
theorem lasts_two (life a : Nat) : lasts life (older [([2], a)]) = if a + 1 ≤ life then [([2], a + 1)] else [] := by
  unfold lasts older
  split
  · simp; omega
  · simp; omega
theorem ones_length (c a : Nat) : (onesA c a).length = c := by simp [onesA]

set_option maxRecDepth 100000 in
set_option maxHeartbeats 3200000 in
theorem ages_walk (life before : Int) (tw : Bool) (N K c : Nat) (w : World) (hl : 0 ≤ life ∧ life ≤ 255) (hbe : 0 ≤ before ∧ before ≤ 255) (hN : 1 + life % 50 = (N : Int)) (hN1 : 1 ≤ N ∧ N ≤ 50) (hK : before % ((N : Int) + 1) = (K : Int)) (hKN : K ≤ N) (hc : c = if tw = true then 2 else 1) :
    Calls Try.prog 8 #[.int .u8 life, .int .u8 before, .bool tw] w fun e w' => e = .returned (.bool true) ∧ Below w.heap.size w w' := by
  have HC := cover hc
  have hc2 : 1 ≤ c ∧ c ≤ 2 := by rw [hc]; split <;> omega
  have hN0 := hN1.1
  have hN50 := hN1.2
  have hl0 := hl.1
  have hl1 := hl.2
  have hb0 := hbe.1
  have hb1 := hbe.2
  clear hc hl hbe hN1
  go_enter Try.func8, Try.ntmps8
  go_wp2_with fail
  refine (awake_any w).mono ?_
  rintro e w0 ⟨rfl, hb0'⟩
  have H0 := cover hb0'
  clear hb0'
  go_wp2_with fail
  refine (new_age (W := w) 2 4 N H0.out (by decide) (by decide) (by omega)).mono ?_
  rintro e w1 ⟨l, rfl, H1⟩
  have a2 := cover (RowK.madeF (κ := .u8) w1 [1] #[.int .u8 1] 5 (0, 0) rfl)
  have l2 := cover (H1.out.below ((Below.refl _ _).alloc (Nat.le_refl _) (.cells #[.int .u8 1] 5)))
  clear H1
  go_wp2_with fail
  refine (send_age l2.out (by decide) (some ⟨w1.heap.size, 0, none⟩) 1 1 _ [1] a2.out (by simp) (by decide)).mono ?_
  rintro e w2 ⟨rfl, H2⟩
  have H2' : Hid (LAge w l 2 4 N (onesA 1 0) 0 0 w2) := H2
  clear a2 l2 H2
  go_wp2_with fail
  rw [hK]
  clear hK hN
  go_loopw [11] (fun v wr => ∃ i : Nat, i ≤ K ∧ v = .int .i64 i ∧ Hid (LAge w l 2 4 N (onesA 1 i) 0 i wr)) (fun v _ => K - (intOf v).toNat)
  case atStart => exact ⟨0, Nat.zero_le _, rfl, H2'⟩
  case round =>
    clear H2'
    obtain ⟨i, hi, rfl, hout⟩ := hrel
    by_cases hlt : i < K
    · have hA := age_age hout.out (by rw [ones_length]; omega) (by omega) (by omega) (onesA 1 (i + 1)) 0 (by rw [lasts_ones, if_pos (by omega)]) (by rw [ones_length, ones_length])
      rw [show ((0 : Nat) : Int) = 0 from rfl] at hA
      clear hout
      go_wp2_with fail
      refine hA.mono ?_
      rintro e w3 ⟨rfl, H3⟩
      have HN : Hid (LAge w l 2 4 N (onesA 1 (i + 1)) 0 (i + 1) w3) := H3
      clear H3 hA
      go_wp2
      go_roundw
      case rel => exact ⟨i + 1, by omega, by go_num, HN⟩
      case measure => simp [intOf]; omega
    · obtain rfl : K = i := by omega
      cases tw with
      | true =>
        obtain rfl : c = 2 := HC.out
        go_wp2_with fail
        refine (twice_age (x := ([1], K)) (r := []) hout.out (by simp) (by simp)).mono ?_
        rintro e w3 ⟨rfl, H3⟩
        have H3' : Hid (LAge w l 2 4 N (onesA 2 K) 0 K w3) := H3
        clear H3 hout
        have a4 := cover (RowK.madeF (κ := .u8) w3 [2] #[.int .u8 2] 5 (0, 0) rfl)
        have l4 := cover (H3'.out.below ((Below.refl _ _).alloc (Nat.le_refl _) (.cells #[.int .u8 2] 5)))
        clear H3'
        go_wp2_with fail
        refine (send_age l4.out (by rw [ones_length]; omega) (some ⟨w3.heap.size, 0, none⟩) 1 1 _ [2] a4.out (by simp) (by decide)).mono ?_
        rintro e w4 ⟨rfl, H4⟩
        have H4' : Hid (LAge w l 2 4 N (onesA 2 K ++ [([2], K - K)]) 0 K w4) := cover (by have := H4.out; rwa [Nat.sub_self])
        clear a4 l4 H4
        go_wp2_with fail
        go_loopw [13] (fun v wr => ∃ i : Nat, K ≤ i ∧ i ≤ N ∧ v = .int .i64 i ∧ Hid (LAge w l 2 4 N (onesA 2 i ++ [([2], i - K)]) 0 i wr)) (fun v _ => N - (intOf v).toNat)
        case atStart => exact ⟨K, Nat.le_refl _, hKN, rfl, H4'⟩
        case round =>
          clear H4'
          obtain ⟨i, hKi, hi, rfl, hout⟩ := hrel
          by_cases hlt : i < N
          · have hA := age_age hout.out (by simp [ones_length]) (by omega) (by omega) (onesA 2 (i + 1) ++ [([2], i + 1 - K)]) 0 (by rw [lasts_append, lasts_ones, lasts_two, if_pos (by omega), if_pos (by omega), show i - K + 1 = i + 1 - K by omega]) (by simp [ones_length])
            rw [show ((0 : Nat) : Int) = 0 from rfl] at hA
            clear hout
            go_wp2_with fail
            refine hA.mono ?_
            rintro e w5 ⟨rfl, H5⟩
            have HN : Hid (LAge w l 2 4 N (onesA 2 (i + 1) ++ [([2], i + 1 - K)]) 0 (i + 1) w5) := H5
            clear H5 hA
            go_wp2
            go_roundw
            case rel => exact ⟨i + 1, by omega, by omega, by go_num, HN⟩
            case measure => simp [intOf]; omega
          · obtain rfl : N = i := by omega
            by_cases hK0 : 1 ≤ K
            · have hA := age_age hout.out (by simp [ones_length]) (by omega) (by omega) [([2], N + 1 - K)] 2 (by rw [lasts_append, lasts_ones, lasts_two, if_neg (by omega), if_pos (by omega), show N - K + 1 = N + 1 - K by omega]; rfl) (by simp [ones_length])
              clear hout
              go_wp2_with fail
              refine hA.mono ?_
              rintro e w5 ⟨rfl, H5⟩
              clear hA
              go_wp2_with fail
              refine (row_one H5.out.row (fun x hx => by simp at hx; subst hx; simp)).mono ?_
              rintro e w6 ⟨A6, c6, rfl, H6⟩
              obtain ⟨g, B0, d0, rfl, hg, k0, k0', r0⟩ := H6.out.1.at_ 0 ([2], ((N + 1 - K : Nat) : Int)) rfl
              simp at k0 k0'
              have e9 : ((N + 1 - K : Nat) : Int) = (N : Int) - (K : Int) + 1 := by omega
              rw [e9] at k0'
              have H6b := cover H6.out.2
              have R0 := cover r0
              clear H5 H6 r0 e9
              have ht : ¬ ((N : Int) - (K : Int) + 1 > (N : Int)) := by omega
              go_wp2_with fail
              refine (lost_one H6b.out).mono ?_
              rintro e w' ⟨rfl, rfl⟩
              have a7 := cover (RowK.madeF (κ := .u8) w6 [2] #[.int .u8 2] 5 (0, 0) rfl)
              have H7 := cover (H6b.out.below ((Below.refl _ _).alloc (Nat.le_refl _) (.cells #[.int .u8 2] 5)))
              have hS := same_yes (c := d0) (c' := 1) (R0.out.below ((Below.refl _ _).alloc (Nat.le_refl _) (.cells #[.int .u8 2] 5))) a7.out (by decide) rfl
              have K1 := cover k0'
              have HG := cover hg
              clear a7 k0'
              go_wp2_with fail
              refine hS.mono ?_
              rintro e w8 ⟨rfl, d8, hw8⟩
              have H8 : Hid (LRow w [] l 2 4 N [([2], N + 1 - K)] (0 + 2) w8) := cover (by rw [hw8]; exact H7.out.drewN _)
              have k8 : w8.cell? ⟨g, 1, none⟩ = some (.int .i64 ((N : Int) - (K : Int) + 1)) := by
                rw [hw8, ← K1.out]
                exact World.cell?_alloc_lt w6 _ ⟨g, 1, none⟩ HG.out
              clear hw8 hS
              go_wp2
              go_ret
              exact ⟨rfl, H8.out.bel⟩
            · obtain rfl : K = 0 := by omega
              have hA := age_age hout.out (by simp [ones_length]) (by omega) (by omega) [] (2 + 1) (by rw [lasts_append, lasts_ones, lasts_two, if_neg (by omega), if_neg (by omega)]; rfl) (by simp [ones_length])
              clear hout
              go_wp2_with fail
              refine hA.mono ?_
              rintro e w5 ⟨rfl, H5⟩
              clear hA
              go_wp2_with fail
              refine (row_one H5.out.row (fun x hx => by cases hx)).mono ?_
              rintro e w6 ⟨A6, c6, rfl, H6⟩
              have H6b := cover H6.out.2
              clear H5 H6
              go_wp2_with fail
              refine (lost_one H6b.out).mono ?_
              rintro e w' ⟨rfl, rfl⟩
              have HF := cover H6b.out.bel
              clear H6b
              go_wp2
              go_ret
              exact ⟨rfl, HF.out⟩
      | false =>
        obtain rfl : c = 1 := HC.out
        have H3' := hout
        clear hout
        obtain ⟨w3, hw3⟩ : ∃ w3, w3 = wr := ⟨_, rfl⟩
        rw [← hw3] at H3' ⊢
        clear hw3
        have a4 := cover (RowK.madeF (κ := .u8) w3 [2] #[.int .u8 2] 5 (0, 0) rfl)
        have l4 := cover (H3'.out.below ((Below.refl _ _).alloc (Nat.le_refl _) (.cells #[.int .u8 2] 5)))
        clear H3'
        go_wp2_with fail
        refine (send_age l4.out (by rw [ones_length]; omega) (some ⟨w3.heap.size, 0, none⟩) 1 1 _ [2] a4.out (by simp) (by decide)).mono ?_
        rintro e w4 ⟨rfl, H4⟩
        have H4' : Hid (LAge w l 2 4 N (onesA 1 K ++ [([2], K - K)]) 0 K w4) := cover (by have := H4.out; rwa [Nat.sub_self])
        clear a4 l4 H4
        go_wp2_with fail
        go_loopw [13] (fun v wr => ∃ i : Nat, K ≤ i ∧ i ≤ N ∧ v = .int .i64 i ∧ Hid (LAge w l 2 4 N (onesA 1 i ++ [([2], i - K)]) 0 i wr)) (fun v _ => N - (intOf v).toNat)
        case atStart => exact ⟨K, Nat.le_refl _, hKN, rfl, H4'⟩
        case round =>
          clear H4'
          obtain ⟨i, hKi, hi, rfl, hout⟩ := hrel
          by_cases hlt : i < N
          · have hA := age_age hout.out (by simp [ones_length]) (by omega) (by omega) (onesA 1 (i + 1) ++ [([2], i + 1 - K)]) 0 (by rw [lasts_append, lasts_ones, lasts_two, if_pos (by omega), if_pos (by omega), show i - K + 1 = i + 1 - K by omega]) (by simp [ones_length])
            rw [show ((0 : Nat) : Int) = 0 from rfl] at hA
            clear hout
            go_wp2_with fail
            refine hA.mono ?_
            rintro e w5 ⟨rfl, H5⟩
            have HN : Hid (LAge w l 2 4 N (onesA 1 (i + 1) ++ [([2], i + 1 - K)]) 0 (i + 1) w5) := H5
            clear H5 hA
            go_wp2
            go_roundw
            case rel => exact ⟨i + 1, by omega, by omega, by go_num, HN⟩
            case measure => simp [intOf]; omega
          · obtain rfl : N = i := by omega
            by_cases hK0 : 1 ≤ K
            · have hA := age_age hout.out (by simp [ones_length]) (by omega) (by omega) [([2], N + 1 - K)] 1 (by rw [lasts_append, lasts_ones, lasts_two, if_neg (by omega), if_pos (by omega), show N - K + 1 = N + 1 - K by omega]; rfl) (by simp [ones_length])
              clear hout
              go_wp2_with fail
              refine hA.mono ?_
              rintro e w5 ⟨rfl, H5⟩
              clear hA
              go_wp2_with fail
              refine (row_one H5.out.row (fun x hx => by simp at hx; subst hx; simp)).mono ?_
              rintro e w6 ⟨A6, c6, rfl, H6⟩
              obtain ⟨g, B0, d0, rfl, hg, k0, k0', r0⟩ := H6.out.1.at_ 0 ([2], ((N + 1 - K : Nat) : Int)) rfl
              simp at k0 k0'
              have e9 : ((N + 1 - K : Nat) : Int) = (N : Int) - (K : Int) + 1 := by omega
              rw [e9] at k0'
              have H6b := cover H6.out.2
              have R0 := cover r0
              clear H5 H6 r0 e9
              have ht : ¬ ((N : Int) - (K : Int) + 1 > (N : Int)) := by omega
              go_wp2_with fail
              refine (lost_one H6b.out).mono ?_
              rintro e w' ⟨rfl, rfl⟩
              have a7 := cover (RowK.madeF (κ := .u8) w6 [2] #[.int .u8 2] 5 (0, 0) rfl)
              have H7 := cover (H6b.out.below ((Below.refl _ _).alloc (Nat.le_refl _) (.cells #[.int .u8 2] 5)))
              have hS := same_yes (c := d0) (c' := 1) (R0.out.below ((Below.refl _ _).alloc (Nat.le_refl _) (.cells #[.int .u8 2] 5))) a7.out (by decide) rfl
              have K1 := cover k0'
              have HG := cover hg
              clear a7 k0'
              go_wp2_with fail
              refine hS.mono ?_
              rintro e w8 ⟨rfl, d8, hw8⟩
              have H8 : Hid (LRow w [] l 2 4 N [([2], N + 1 - K)] (0 + 1) w8) := cover (by rw [hw8]; exact H7.out.drewN _)
              have k8 : w8.cell? ⟨g, 1, none⟩ = some (.int .i64 ((N : Int) - (K : Int) + 1)) := by
                rw [hw8, ← K1.out]
                exact World.cell?_alloc_lt w6 _ ⟨g, 1, none⟩ HG.out
              clear hw8 hS
              go_wp2
              go_ret
              exact ⟨rfl, H8.out.bel⟩
            · obtain rfl : K = 0 := by omega
              have hA := age_age hout.out (by simp [ones_length]) (by omega) (by omega) [] (1 + 1) (by rw [lasts_append, lasts_ones, lasts_two, if_neg (by omega), if_neg (by omega)]; rfl) (by simp [ones_length])
              clear hout
              go_wp2_with fail
              refine hA.mono ?_
              rintro e w5 ⟨rfl, H5⟩
              clear hA
              go_wp2_with fail
              refine (row_one H5.out.row (fun x hx => by cases hx)).mono ?_
              rintro e w6 ⟨A6, c6, rfl, H6⟩
              have H6b := cover H6.out.2
              clear H5 H6
              go_wp2_with fail
              refine (lost_one H6b.out).mono ?_
              rintro e w' ⟨rfl, rfl⟩
              have HF := cover H6b.out.bel
              clear H6b
              go_wp2
              go_ret
              exact ⟨rfl, HF.out⟩
theorem walk_LanAges (life before : Int) (tw : Bool) (w : World) (hl : (Lit.int .u8 life).wf = true) (hb : (Lit.int .u8 before).wf = true) :
    Calls Try.prog 8 #[.int .u8 life, .int .u8 before, .bool tw] w fun e w' => e = .returned (.bool true) ∧ Below w.heap.size w w' := by
  have h1 := bts_of_wf (l := [life, before]) (fun x hx => by simp at hx; rcases hx with rfl | rfl <;> assumption)
  have h2 := h1 life (by simp)
  have h3 := h1 before (by simp)
  have hN := Int.emod_nonneg life (show (50 : Int) ≠ 0 by decide)
  have hN' := Int.emod_lt_of_pos life (show (0 : Int) < 50 by decide)
  have hK := Int.emod_nonneg before (show (1 + life % 50 + 1 : Int) ≠ 0 by omega)
  have hK' := Int.emod_lt_of_pos before (show (0 : Int) < 1 + life % 50 + 1 by omega)
  refine ages_walk life before tw (1 + life % 50).toNat (before % (1 + life % 50 + 1)).toNat (if tw = true then 2 else 1) w h2 h3 (by omega) (by omega) ?_ (by omega) rfl
  rw [show (((1 + life % 50).toNat : Nat) : Int) = 1 + life % 50 by omega]; omega
end Go.Proofs.Ytjidhpmjdhjciaa
