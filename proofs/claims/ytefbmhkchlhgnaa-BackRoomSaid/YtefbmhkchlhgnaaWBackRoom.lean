/- The walk of BackRoom. -/
import Derived.Test.YtefbmhkchlhgnaaWBackAgain
namespace Go.Proofs.Ytefbmhkchlhgnaa
open Go.RowKit
set_option linter.unusedVariables false
set_option linter.unusedSimpArgs false

set_option maxRecDepth 100000 in
set_option maxHeartbeats 3200000 in
theorem walk_BackRoom (most sent acked : Int) (w : World) (hm : (Lit.int .u8 most).wf = true) (hs : (Lit.int .u8 sent).wf = true) (hk : (Lit.int .u8 acked).wf = true) :
    Calls Try.prog 7 #[.int .u8 most, .int .u8 sent, .int .u8 acked] w fun e w' => e = .returned (.bool true) ∧ Below w.heap.size w w' := by
  obtain ⟨b, hb⟩ : ∃ b, b = w.heap.size := ⟨_, rfl⟩
  have HG := cover hb
  have hmost := u8_wf hm
  have hsent := u8_wf hs
  have hacked := u8_wf hk
  have s0 := cover (awake_any w)
  clear hb hm hs hk
  obtain ⟨n, hn⟩ : ∃ n : Nat, (n : Int) = 1 + most % 60 := ⟨(1 + most % 60).toNat, by have := Int.emod_nonneg most (show (60 : Int) ≠ 0 by decide); omega⟩
  have hn60 : 1 ≤ n ∧ n ≤ 60 := by omega
  have htm : 1 + most % 60 = (n : Int) := hn.symm
  obtain ⟨s, hsd⟩ : ∃ s : Nat, (s : Int) = sent % ((n : Int) + 1) := ⟨(sent % ((n : Int) + 1)).toNat, by have := Int.emod_nonneg sent (show ((n : Int) + 1) ≠ 0 by omega); omega⟩
  have hsn : s ≤ n := by have := Int.emod_lt_of_pos sent (show (0 : Int) < (n : Int) + 1 by omega); omega
  have hts : sent.tmod ((n : Int) + 1) = (s : Int) := by rw [Int.tmod_eq_emod_of_nonneg hsent.1]; exact hsd.symm
  obtain ⟨k, hkk⟩ : ∃ k : Nat, acked = (k : Int) := ⟨acked.toNat, by omega⟩
  subst hkk
  clear hn hsd
  go_enter Try.func7, Try.ntmps7
  go_wp2_with fail
  refine s0.out.mono ?_
  rintro e w0 ⟨rfl, h0⟩
  have H0 : Hid (Below b w w0 ∧ b ≤ w0.heap.size) := cover (by rw [HG.out]; exact ⟨h0, h0.size⟩)
  clear h0 s0
  go_wp2_with fail
  refine (one_new (B := b) (W0 := w) n (by omega) H0.out.1 H0.out.2).mono ?_
  rintro e w1 ⟨t, rfl, h1⟩
  have H1 : Hid (AgAt b w w1 t n 0 []) := cover (AgAt.zero h1.out.1)
  clear h1 H0 htm
  go_wp2_with fail
  go_loopw [9] (fun iv wr => ∃ j : Nat, j ≤ n ∧ iv = .int .i64 j ∧ Hid (∃ L, AgAt b w wr t n 0 L ∧ L.length = j)) (fun i _ => n - (intOf i).toNat)
  case atStart => exact ⟨0, Nat.zero_le _, rfl, cover ⟨_, H1.out, rfl⟩⟩
  case round =>
    clear H1
    obtain ⟨j, hj, rfl, hrel⟩ := hrel
    by_cases hlt : j < n
    · obtain ⟨L, h4, hL⟩ := hrel.out
      have H4 := cover (And.intro h4 hL)
      clear h4 hL hrel
      go_wp2_with fail
      refine ((show AgAt b w (wr.alloc (.cells #[.int .u8 (j : Int)] 5)) t n 0 L from ⟨H4.out.1.bk.below ((Below.refl _ _).alloc (Nat.le_refl _) _), H4.out.1.le⟩).put (by rw [H4.out.2]; exact hlt) _ _ _ (wr.heap.size + 1) [(j : Int)] (RowK.madeF wr [(j : Int)] #[.int .u8 (j : Int)] 5 (0, 0) rfl) (by simp) (by show 1 ≤ 1000000; decide)).mono ?_
      rintro e w2 ⟨rfl, h2⟩
      have HN : Hid (∃ L, AgAt b w w2 t n 0 L ∧ L.length = j + 1) := cover ⟨_, h2.out, by rw [List.length_append, H4.out.2]; rfl⟩
      clear h2 H4
      go_wp2
      go_roundw
      case rel => exact ⟨j + 1, by omega, by go_num, HN⟩
      case measure => simp [intOf]; omega
    · have hje : j = n := by omega
      subst hje
      have H2 := hrel
      clear hlt hrel
      go_wp2_with fail
      go_loopw [11] (fun iv wr => ∃ i : Nat, i ≤ s ∧ iv = .int .i64 i ∧ Hid (∃ L, AgAt b w wr t j i L ∧ L.length = j)) (fun i _ => s - (intOf i).toNat)
      case atStart => exact ⟨0, Nat.zero_le _, rfl, H2⟩
      case round =>
        clear H2
        obtain ⟨i, hi, rfl, hrel⟩ := hrel
        by_cases his : i < s
        · obtain ⟨L, h4, hL⟩ := hrel.out
          obtain ⟨x, hx⟩ : ∃ x, L[i]? = some x := ⟨_, List.getElem?_eq_getElem (by omega)⟩
          have HL := cover hL
          have HC := cover (h4.next hx)
          clear h4 hL hrel hx
          go_wp2_with fail
          refine HC.out.mono ?_
          rintro e w2 ⟨A2, c2, rfl, h2⟩
          have HN : Hid (∃ L, AgAt b w w2 t j (i + 1) L ∧ L.length = j) := cover ⟨_, h2.out.2, HL.out⟩
          clear h2 HC HL
          go_wp2
          go_roundw
          case rel => exact ⟨i + 1, by omega, by go_num, HN⟩
          case measure => simp [intOf]; omega
        · have hie : i = s := by omega
          subst hie
          clear his
          obtain ⟨L, h4, hL⟩ := hrel.out
          have H4 := cover (And.intro h4 hL)
          clear h4 hL hrel
          go_wp2_with fail
          refine ((show AgAt b w (wr.alloc (.cells #[.int .u8 9] 5)) t j i L from ⟨H4.out.1.bk.below ((Below.refl _ _).alloc (Nat.le_refl _) _), H4.out.1.le⟩).full (by rw [H4.out.2]; omega) _ _ _ (wr.heap.size + 1) [9] (RowK.madeF wr [9] #[.int .u8 9] 5 (0, 0) rfl) (by simp) (by show 1 ≤ 1000000; decide)).mono ?_
          rintro e w2 ⟨rfl, h2⟩
          clear hts
          obtain ⟨g, hg⟩ : ∃ g, g = min k i := ⟨_, rfl⟩
          have HGG := cover hg
          clear hg
          go_wp2_with fail
          refine (h2.out.acked k g HGG.out).mono ?_
          rintro e w3 ⟨rfl, h3⟩
          have H3 : Hid (∃ L', AgAt b w w3 t j (i - g) L' ∧ L'.length = j - g + 0) := cover ⟨_, h3.out, by rw [List.length_drop, H4.out.2]; omega⟩
          clear h3 h2 H4
          go_upto_region 17 with fail
          go_cut [14] (fun mv wx => mv = .int .i64 g ∧ wx = w3)
          case first =>
            by_cases hki : (i : Int) < (k : Int)
            · have hgi : g = i := by have := HGG.out; omega
              subst hgi
              clear HGG
              go_wp2
              go_meet
              exact ⟨rfl, rfl⟩
            · have hgk : g = k := by have := HGG.out; omega
              subst hgk
              clear HGG
              go_wp2
              go_meet
              exact ⟨rfl, rfl⟩
          case rest =>
            obtain ⟨rfl, rfl⟩ := hcut
            have hgi : g ≤ i := by have := HGG.out; omega
            clear HGG
            go_wp2_with fail
            go_loopw [15] (fun rv wr => ∃ r : Nat, r ≤ g ∧ rv = .int .i64 r ∧ Hid (∃ L', AgAt b w wr t j (i - g) L' ∧ L'.length = j - g + r)) (fun r _ => g - (intOf r).toNat)
            case atStart => exact ⟨0, Nat.zero_le _, rfl, H3⟩
            case round =>
              clear H3
              obtain ⟨r, hr, rfl, hrel⟩ := hrel
              obtain ⟨L', h5, hL'⟩ := hrel.out
              have H5 := cover (And.intro h5 hL')
              clear h5 hL' hrel
              go_wp2_with fail
              have hb9 : ∀ W : World, Below W.heap.size W (W.alloc (.cells #[.int .u8 1] 5)) := fun W => (Below.refl _ _).alloc (Nat.le_refl _) _
              by_cases hrg : r < g
              · refine ((AgAt.mk (H5.out.1.bk.below (hb9 _)) H5.out.1.le).put (by rw [H5.out.2]; omega) _ _ _ _ [1] (RowK.madeF _ [1] #[.int .u8 1] 5 (0, 0) rfl) (by simp) (by show 1 ≤ 1000000; decide)).mono ?_
                rintro e w6 ⟨rfl, h6⟩
                have HN : Hid (∃ L', AgAt b w w6 t j (i - g) L' ∧ L'.length = j - g + (r + 1)) := cover ⟨_, h6.out, by rw [List.length_append, H5.out.2]; simp; omega⟩
                clear h6 H5 hb9
                go_wp2
                go_roundw
                case rel => exact ⟨r + 1, by omega, by go_num, HN⟩
                case measure => simp [intOf]; omega
              · have hre : r = g := by omega
                subst hre
                refine ((AgAt.mk (H5.out.1.bk.below (hb9 _)) H5.out.1.le).full (by rw [H5.out.2]; omega) _ _ _ _ [1] (RowK.madeF _ [1] #[.int .u8 1] 5 (0, 0) rfl) (by simp) (by show 1 ≤ 1000000; decide)).mono ?_
                rintro e w6 ⟨rfl, h6⟩
                have hot : Calls Try.prog 23 #[ptr t] w6 fun e W' => e = .returned (.int .i64 ((i : Int) - (r : Int))) ∧ w6 = W' := by
                  have h8 := one_out h6.out.bk
                  rwa [show (((⟨j, i - r, L'⟩ : LV (List Int)).o : Nat) : Int) = (i : Int) - (r : Int) from by show ((i - r : Nat) : Int) = _; omega] at h8
                have CO := cover hot
                have hwt := one_waits h6.out.bk
                have HL5 := H5.out.2
                rw [show ((L'.length - (i - r) : Nat) : Int) = (j : Int) - (i : Int) + (r : Int) by omega] at hwt
                have CW := cover hwt
                have HB := cover h6.out.bk.bel
                clear h6 H5 hb9 hwt HL5 hot
                have hri : (r : Int) ≤ (i : Int) := by omega
                have hij : (i : Int) ≤ (j : Int) := by omega
                go_wp2_with (first
                  | (go_at_call 23; refine CO.out.mono ?_; rintro e w7 ⟨rfl, rfl⟩)
                  | (go_at_call 24; refine CW.out.mono ?_; rintro e w7 ⟨rfl, rfl⟩))
                go_ret
                exact ⟨rfl, by rw [← HG.out]; exact HB.out⟩
end Go.Proofs.Ytefbmhkchlhgnaa
