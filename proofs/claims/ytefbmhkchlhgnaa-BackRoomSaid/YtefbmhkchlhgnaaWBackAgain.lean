/- The walk of BackAgain. -/
import Derived.Deep.CutBlock
import Derived.Deep.DeepCutAuto
import Derived.Deep.RegionHeld3
import Derived.Test.YtefbmhkchlhgnaaLAwake
import Derived.Test.YtefbmhkchlhgnaaORowsIn
namespace Go.Proofs.Ytefbmhkchlhgnaa
open Go.RowKit
set_option linter.unusedVariables false
set_option linter.unusedSimpArgs false

/-- a law's Back, i of whose row L are out -/
structure AgAt (B : Nat) (W0 W : World) (t m i : Nat) (L : List (List Int)) : Prop where
  bk : BkOne B W0 W t ⟨m, i, L⟩
  le : i ≤ L.length
section
variable {B t m i : Nat} {W0 W W' : World} {L : List (List Int)}
theorem AgAt.next (h : AgAt B W0 W t m i L) {l : List Int} (hl : L[i]? = some l) :
    Calls Try.prog 11 #[ptr t] W fun e W' => ∃ A c, e = .returned (.tuple #[.slice A l.length c, .bool true]) ∧ Hid (OwnB W' W.heap.size (.slice A l.length c) l ∧ AgAt B W0 W' t m (i + 1) L) := by
  obtain ⟨hlt, _⟩ := List.getElem?_eq_some_iff.1 hl
  refine (one_next_yes h.bk hlt l hl).mono ?_
  rintro e W' ⟨A, c, rfl, H⟩
  have hn := (nextL_yes (v := (⟨m, i, L⟩ : LV (List Int))) hlt).1
  have h2 := H.out.2.1
  rw [hn] at h2
  exact ⟨A, c, rfl, cover ⟨H.out.1, h2, hlt⟩⟩
theorem AgAt.end (h : AgAt B W0 W t m i L) (hi : L.length ≤ i) :
    Calls Try.prog 11 #[ptr t] W fun e W' => e = .returned (.tuple #[.slice none 0 0, .bool false]) ∧ W = W' := one_next_no h.bk (by show ¬ i < L.length; omega)
theorem AgAt.put (h : AgAt B W0 W t m i L) (hm : L.length < m) (A : Option Addr) (n c K : Nat) (l : List Int) (hr : Row W K A n l) (hK : K ≤ W.heap.size) (hmax : n ≤ 1000000) :
    Calls Try.prog 10 #[ptr t, .slice A n c] W fun e W' => e = .returned (.bool true) ∧ Hid (AgAt B W0 W' t m i (L ++ [l])) := by
  obtain ⟨h1, h2⟩ := putL_yes (v := (⟨m, i, L⟩ : LV (List Int))) l hm
  refine (one_put h.bk A n c K l hr hK hmax).mono ?_
  rintro e W' ⟨rfl, H⟩
  have h3 := H.out.1
  rw [h1] at h3
  exact ⟨by rw [h2], cover ⟨h3, by rw [List.length_append]; exact Nat.le_trans h.le (Nat.le_add_right _ _)⟩⟩
theorem AgAt.full (h : AgAt B W0 W t m i L) (hm : ¬ L.length < m) (A : Option Addr) (n c K : Nat) (l : List Int) (hr : Row W K A n l) (hK : K ≤ W.heap.size) (hmax : n ≤ 1000000) :
    Calls Try.prog 10 #[ptr t, .slice A n c] W fun e W' => e = .returned (.bool false) ∧ Hid (AgAt B W0 W' t m i L) := by
  obtain ⟨h1, h2⟩ := putL_no (v := (⟨m, i, L⟩ : LV (List Int))) l hm
  refine (one_put h.bk A n c K l hr hK hmax).mono ?_
  rintro e W' ⟨rfl, H⟩
  have h3 := H.out.1
  rw [h1] at h3
  exact ⟨by rw [h2], cover ⟨h3, h.le⟩⟩
theorem AgAt.again (h : AgAt B W0 W t m i L) :
    Calls Try.prog 12 #[ptr t] W fun e W' => e = .returned (.int .i64 i) ∧ Hid (AgAt B W0 W' t m 0 L) := by
  refine (one_again h.bk).mono ?_
  rintro e W' ⟨rfl, H⟩
  exact ⟨rfl, cover ⟨H.out.1, Nat.zero_le _⟩⟩
theorem AgAt.acked (h : AgAt B W0 W t m i L) (n k : Nat) (hk : k = min n i) :
    Calls Try.prog 13 #[ptr t, .int .i64 n] W fun e W' => e = .returned (.int .i64 k) ∧ Hid (AgAt B W0 W' t m (i - k) (L.drop k)) := by
  refine (one_acked h.bk n).mono ?_
  have hg : goneL (n : Int) (⟨m, i, L⟩ : LV (List Int)) = k := by unfold goneL; rw [hk]; simp
  rintro e W' ⟨rfl, H⟩
  have h3 := H.out.1
  unfold ackL at h3
  rw [hg] at h3
  exact ⟨by rw [hg], cover ⟨h3, by rw [List.length_drop]; have := h.le; omega⟩⟩
theorem AgAt.zero {n : Nat} (h : BkOne B W0 W t (zL n)) : AgAt B W0 W t n 0 [] := ⟨by
  have e : (zL (n : Int) : LV (List Int)) = ⟨n, 0, []⟩ := by unfold zL; rw [Int.toNat_natCast]
  rw [← e]; exact h, Nat.zero_le _⟩
end
theorem same_two {w : World} {A A' : Option Addr} {n c c' B B' : Nat} {l : List Int} (h1 : Row w B A n l) (h2 : Row w B' A' n l) (hmax : n ≤ 1000000) :
    Calls Try.prog 18 #[.slice A n c, .slice A' n c'] w fun e w' => e = .returned (.bool true) ∧ ∃ d, w' = w.drewN d := by
  refine (same_any A A' n c c' _ _ l l w h1 h2 (by omega)).mono ?_
  rintro e w' ⟨rfl, h⟩
  exact ⟨by simp, h⟩


set_option maxRecDepth 100000 in
set_option maxHeartbeats 3200000 in
theorem walk_BackAgain (A : Option Addr) (len cap : Nat) (ls : List (List Int)) (acks times : Int) (w : World) (hlc : len ≤ cap) (hcm : cap ≤ maxLen) (hr : RowsB w w.heap.size A len ls ∧ Btss ls) (ha : (Lit.int .u8 acks).wf = true) (ht : (Lit.int .u8 times).wf = true) :
    Calls Try.prog 6 #[.slice A len cap, .int .u8 acks, .int .u8 times] w fun e w' => e = .returned (.bool true) ∧ Below w.heap.size w w' := by
  obtain ⟨b, hb⟩ : ∃ b, b = w.heap.size := ⟨_, rfl⟩
  have HG := cover hb
  rw [← hb] at hr
  have HR := cover hr.1
  have hacks := u8_wf ha
  have htimes := u8_wf ht
  have s0 := cover (awake_any w)
  clear hb hr ha ht
  go_enter Try.func6, Try.ntmps6
  go_wp2_with fail
  refine s0.out.mono ?_
  rintro e w0 ⟨rfl, h0⟩
  have H0 : Hid (Below b w w0 ∧ b ≤ w0.heap.size) := cover (by rw [HG.out]; exact ⟨h0, h0.size⟩)
  clear h0 s0
  by_cases hlong : (60 : Int) < (len : Int)
  · go_wp2
    go_ret
    exact ⟨rfl, by rw [← HG.out]; exact H0.out.1⟩
  have hl60 : len ≤ 60 := by omega
  have hl : ¬ (60 : Int) < (len : Int) := hlong
  clear hlong
  go_wp2_with fail
  refine (one_new (B := b) (W0 := w) len (by omega) H0.out.1 H0.out.2).mono ?_
  rintro e w1 ⟨t, rfl, h1⟩
  have H1 : Hid (AgAt b w w1 t len 0 []) := cover (AgAt.zero h1.out.1)
  clear h1 H0
  go_wp2_with fail
  go_loopw [8] (fun iv wr => ∃ j : Nat, j ≤ len ∧ iv = .int .i64 j ∧ Hid (AgAt b w wr t len j (ls.take j) ∧ ∀ x ∈ ls.take j, x.length ≤ 200)) (fun i _ => len - (intOf i).toNat)
  case atStart => exact ⟨0, Nat.zero_le _, rfl, cover ⟨H1.out, fun x hx => by cases hx⟩⟩
  case round =>
    clear H1
    obtain ⟨j, hj, rfl, hrel⟩ := hrel
    by_cases hlt : j < len
    · obtain ⟨x, hx⟩ : ∃ x, ls[j]? = some x := ⟨_, List.getElem?_eq_getElem (by rw [HR.out.len]; exact hlt)⟩
      obtain ⟨hjl, hjx⟩ := List.getElem?_eq_some_iff.1 hx
      obtain ⟨ad, A', c', hA, had, hc, hcl, hrow, _⟩ := HR.out.cells j hjl
      rw [hjx] at hc hcl hrow
      subst hA
      obtain ⟨ln, hln⟩ : ∃ ln, ln = x.length := ⟨_, rfl⟩
      rw [← hln] at hc hcl hrow
      have HT : Hid (ls.take (j + 1) = ls.take j ++ [x] ∧ (ls.take j).length = j ∧ (ls.take (j + 1))[j]? = some x) := cover ⟨by rw [List.take_add_one, hx]; rfl, by rw [List.length_take]; omega, by rw [List.getElem?_take_of_lt (by omega), hx]⟩
      have HLN := cover hln
      have HROW := cover hrow
      have hcc : wr.cell? (ad.add j) = some (.slice A' ln c') := (hrel.out.1.bk.bel.cell (by rw [addr_add_block]; exact Nat.lt_of_lt_of_le had (by have := HG.out; omega))).trans hc
      clear hx hjl hjx hc hcl hrow hln
      by_cases hbig : (200 : Int) < (ln : Int)
      · have HN := cover hrel.out.1.bk.bel
        clear hrel
        go_wp2
        go_ret
        exact ⟨rfl, by rw [← HG.out]; exact HN.out⟩
      have hb200 : ln ≤ 200 := by omega
      go_wp2_with fail
      refine (hrel.out.1.put (by rw [HT.out.2.1]; exact hlt) A' ln c' b x (HROW.out.below hrel.out.1.bk.bel) hrel.out.1.bk.siz (by omega)).mono ?_
      rintro e w2 ⟨rfl, h2⟩
      rw [← HT.out.1] at h2
      clear hcc
      go_wp2_with fail
      refine (h2.out.next HT.out.2.2).mono ?_
      rintro e w3 ⟨A3, c3, rfl, h3⟩
      have HN : Hid (AgAt b w w3 t len (j + 1) (ls.take (j + 1)) ∧ ∀ x ∈ ls.take (j + 1), x.length ≤ 200) := cover ⟨h3.out.2, fun y hy => by
        rw [HT.out.1] at hy
        rcases List.mem_append.1 hy with hy | hy
        · exact hrel.out.2 y hy
        · simp at hy; subst hy; have := HLN.out; omega⟩
      clear h2 h3 hrel HT HLN HROW
      go_wp2
      go_roundw
      case rel => exact ⟨j + 1, by omega, by go_num, HN⟩
      case measure => simp [intOf]; omega
    · have hje : j = len := by omega
      subst hje
      have H2 : Hid (AgAt b w wr t j j ls ∧ (∀ x ∈ ls, x.length ≤ 200) ∧ ls.length = j) := cover (by
        have h9 := hrel.out
        rw [List.take_of_length_le (by rw [HR.out.len]; exact Nat.le_refl _)] at h9
        exact ⟨h9.1, h9.2, HR.out.len⟩)
      clear hrel hlt
      obtain ⟨n, hn⟩ : ∃ n : Nat, (n : Int) = acks % ((j : Int) + 1) := ⟨(acks % ((j : Int) + 1)).toNat, by have := Int.emod_nonneg acks (show ((j : Int) + 1) ≠ 0 by omega); omega⟩
      have hnj : n ≤ j := by have := Int.emod_lt_of_pos acks (show (0 : Int) < (j : Int) + 1 by omega); omega
      have htm : acks.tmod ((j : Int) + 1) = (n : Int) := by rw [Int.tmod_eq_emod_of_nonneg hacks.1]; exact hn.symm
      clear hn
      go_wp2_with fail
      refine (H2.out.1.acked n n (by omega)).mono ?_
      rintro e w3 ⟨rfl, h3⟩
      have HLS := cover H2.out.2
      have H3 : Hid (AgAt b w w3 t j (j - n) (ls.drop n)) := h3
      clear h3 H2 htm hacks
      obtain ⟨T, hT⟩ : ∃ T : Nat, (T : Int) = times % 4 := ⟨(times % 4).toNat, by have := Int.emod_nonneg times (show (4 : Int) ≠ 0 by decide); omega⟩
      have hT4 : T ≤ 3 := by omega
      have htm : times.tmod 4 = (T : Int) := by rw [Int.tmod_eq_emod_of_nonneg htimes.1]; exact hT.symm
      have hw0 : wrap64 ((j : Int) - (n : Int)) = (j : Int) - (n : Int) := IntWalk.wrap64_in _ ⟨by omega, by omega⟩
      clear hT
      go_wp2_with fail
      go_loopw [10] (fun iv wr => ∃ k : Nat, k ≤ T ∧ iv = .int .i64 k ∧ Hid (AgAt b w wr t j (j - n) (ls.drop n))) (fun i _ => T - (intOf i).toNat)
      case atStart => exact ⟨0, Nat.zero_le _, rfl, H3⟩
      case round =>
        clear H3
        obtain ⟨k, hk, rfl, hrel2⟩ := hrel
        by_cases hkT : k < T
        · go_wp2_with fail
          refine (hrel2.out.again).mono ?_
          rw [show ((j - n : Nat) : Int) = (j : Int) - (n : Int) by omega]
          rintro e w4 ⟨rfl, H4⟩
          clear hrel2
          go_wp2_with fail
          go_loopw [11] (fun iv wr => ∃ i : Nat, (n ≤ i ∧ i ≤ j) ∧ iv = .int .i64 i ∧ Hid (AgAt b w wr t j (i - n) (ls.drop n))) (fun i _ => j - (intOf i).toNat)
          case atStart => exact ⟨n, ⟨Nat.le_refl _, hnj⟩, rfl, cover (by rw [Nat.sub_self]; exact H4.out)⟩
          case round =>
            clear H4
            obtain ⟨i, hi, rfl, hrel3⟩ := hrel
            by_cases hij : i < j
            · obtain ⟨x, hx⟩ : ∃ x, ls[i]? = some x := ⟨_, List.getElem?_eq_getElem (by rw [HR.out.len]; exact hij)⟩
              obtain ⟨hjl, hjx⟩ := List.getElem?_eq_some_iff.1 hx
              obtain ⟨ad, A', c', hA, had, hc, hcl, hrow, _⟩ := HR.out.cells i hjl
              rw [hjx] at hc hcl hrow
              subst hA
              have hxd : (ls.drop n)[i - n]? = some x := by rw [List.getElem?_drop, show n + (i - n) = i by omega, hx]
              have hx200 : x.length ≤ 200 := HLS.out.1 x (List.mem_of_getElem? hx)
              obtain ⟨ln, hln⟩ : ∃ ln, ln = x.length := ⟨_, rfl⟩
              rw [← hln] at hc hcl hrow hx200
              have HLN := cover hln
              have HC : Hid (∀ W, Below b w W → W.cell? (ad.add i) = some (.slice A' ln c') ∧ Row W b A' ln x) := cover fun W hW => ⟨(hW.cell (by rw [addr_add_block]; exact had)).trans hc, hrow.below hW⟩
              clear hx hjl hjx hc hcl hrow
              go_wp2_with fail
              refine (hrel3.out.next hxd).mono ?_
              rw [← hln]
              rintro e w5 ⟨A5, c5, rfl, h5⟩
              have H5 : Hid (AgAt b w w5 t j (i + 1 - n) (ls.drop n)) := cover (by rw [show i + 1 - n = i - n + 1 by omega]; exact h5.out.2)
              have hrow5 : Row w5 w5.heap.size A5 ln x := by rw [hln]; exact OwnB.row (by rw [← hln]; exact h5.out.1)
              have HS := cover (same_two (c := c5) (c' := c') hrow5 (HC.out _ H5.out.bk.bel).2 (by omega))
              have hcell := (HC.out _ H5.out.bk.bel).1
              clear h5 hxd hrow5 hrel3 hln
              go_wp2_with fail
              refine HS.out.mono ?_
              rintro e w6 ⟨rfl, d, rfl⟩
              have H6 : Hid (AgAt b w (w5.drewN d) t j (i + 1 - n) (ls.drop n)) := cover ⟨H5.out.bk.drewN d, H5.out.le⟩
              generalize w5.drewN d = w6 at H6 ⊢
              clear H5 HS HC hcell HLN
              go_wp2
              go_roundw
              case rel => exact ⟨i + 1, by omega, by go_num, H6⟩
              case measure => simp [intOf]; omega
            · have hie : i = j := by omega
              subst hie
              go_wp2_with fail
              refine (hrel3.out.end (by rw [List.length_drop, HLS.out.2]; exact Nat.le_refl _)).mono ?_
              rintro e w5 ⟨rfl, rfl⟩
              go_wp2
              go_roundw
              case rel => exact ⟨k + 1, by omega, by go_num, hrel3⟩
              case measure => simp [intOf]; omega
        · go_wp2_with fail
          refine (one_clear hrel2.out.bk).mono ?_
          have hdl : (ls.drop n).length = j - n := by rw [List.length_drop, HLS.out.2]
          rintro e w4 ⟨rfl, h4⟩
          have H4 := cover h4.out.1
          rw [hdl]
          clear h4 hrel2 hdl
          go_wp2_with (go_at_call 14; refine (one_len H4.out).mono ?_; rintro e w5 ⟨rfl, rfl⟩)
          go_ret
          exact ⟨rfl, by rw [← HG.out]; exact H4.out.bel⟩
end Go.Proofs.Ytefbmhkchlhgnaa
