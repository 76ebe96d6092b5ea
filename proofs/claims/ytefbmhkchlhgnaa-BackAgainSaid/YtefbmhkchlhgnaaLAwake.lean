/- A law's Back; the law's first question. -/
import Derived.Test.YtefbmhkchlhgnaaLDo
import Derived.Test.YtefbmhkchlhgnaaOSame
namespace Go.Proofs.Ytefbmhkchlhgnaa
open Go.RowKit
set_option linter.unusedVariables false
set_option linter.unusedSimpArgs false

/-- a law's Back: it and all that is made since lies from block B on -/
structure BkOne (B : Nat) (W0 W : World) (t : Nat) (b : LV (List Int)) : Prop where
  bk : ∃ S, BkP S W t b ∧ ∀ i, S i → B ≤ i
  bel : Below B W0 W
  siz : B ≤ W.heap.size
section
variable {B t : Nat} {W0 W W' : World} {b b' : LV (List Int)}
theorem BkOne.below (h : BkOne B W0 W t b) (hb : Below W.heap.size W W') : BkOne B W0 W' t b := by
  obtain ⟨S, h1, h2⟩ := h.bk
  exact ⟨⟨S, h1.below hb, h2⟩, h.bel.trans (hb.mono h.siz), Nat.le_trans h.siz hb.size⟩
theorem BkOne.drewN (h : BkOne B W0 W t b) (n : Nat) : BkOne B W0 (W.drewN n) t b := by
  obtain ⟨S, h1, h2⟩ := h.bk
  exact ⟨⟨S, h1.drewN n, h2⟩, below_drewN h.bel n, h.siz⟩
theorem BkOne.ok (h : BkOne B W0 W t b) : LOk b := h.bk.elim fun _ h => h.1.ok
theorem one_now {S S' : Foot} (h : BkOne B W0 W t b) (h1 : BkP S W t b) (h2 : ∀ i, S i → B ≤ i) (k1 : BkP S' W' t b') (k2 : Moves S S' W W') : BkOne B W0 W' t b' ∧ U8Keep W W' :=
  ⟨⟨⟨S', k1, fun i hi => (k2.own i hi).elim (h2 i) (fun h' => Nat.le_trans h.siz h')⟩, k2.below h.bel h2 h.siz, Nat.le_trans h.siz k2.size⟩, U8Keep.of_moves h1.nob k2⟩
theorem one_out (h : BkOne B W0 W t b) : Calls Try.prog 23 #[ptr t] W fun e W' => e = .returned (.int .i64 b.o) ∧ W = W' := by
  obtain ⟨S, h1, h2⟩ := h.bk; exact bkout_any h1
theorem one_len (h : BkOne B W0 W t b) : Calls Try.prog 14 #[ptr t] W fun e W' => e = .returned (.int .i64 b.l.length) ∧ W = W' := by
  obtain ⟨S, h1, h2⟩ := h.bk; exact bklen_any h1
theorem one_waits (h : BkOne B W0 W t b) : Calls Try.prog 24 #[ptr t] W fun e W' => e = .returned (.int .i64 ((b.l.length - b.o : Nat) : Int)) ∧ W = W' := by
  obtain ⟨S, h1, h2⟩ := h.bk; exact bkwaits_any h1
theorem one_new (n : Int) (hn : n ≤ 100000) (hb : Below B W0 W) (hs : B ≤ W.heap.size) : Calls Try.prog 9 #[.int .i64 n] W fun e W' => ∃ t, e = .returned (ptr t) ∧ Hid (BkOne B W0 W' t (zL n) ∧ Below W.heap.size W W') := by
  refine (bknew_any n W hn).mono ?_
  rintro e W' ⟨t, S, rfl, H⟩
  obtain ⟨h1, h2, h3, h4⟩ := H.out
  exact ⟨t, rfl, cover ⟨⟨⟨S, h1, fun i hi => Nat.le_trans hs (h3 i hi)⟩, hb.trans (h2.mono hs), Nat.le_trans hs h2.size⟩, h2⟩⟩
theorem one_put (h : BkOne B W0 W t b) (A : Option Addr) (n c K : Nat) (l : List Int) (hr : Row W K A n l) (hK : K ≤ W.heap.size) (hmax : n ≤ 1000000) :
    Calls Try.prog 10 #[ptr t, .slice A n c] W fun e W' => e = .returned (.bool (putsL b)) ∧ Hid (BkOne B W0 W' t (putL l b) ∧ U8Keep W W') := by
  obtain ⟨S, h1, h2⟩ := h.bk
  refine (bkput_any h1 A n c K l hr hK hmax).mono ?_
  rintro e W' ⟨rfl, H⟩
  obtain ⟨S', k1, k2⟩ := H.out
  exact ⟨rfl, cover (one_now h h1 h2 k1 k2)⟩
theorem one_next_no (h : BkOne B W0 W t b) (hlt : ¬ b.o < b.l.length) : Calls Try.prog 11 #[ptr t] W fun e W' => e = .returned (.tuple #[.slice none 0 0, .bool false]) ∧ W = W' := by
  obtain ⟨S, h1, h2⟩ := h.bk; exact bknext_no h1 hlt
theorem one_next_yes (h : BkOne B W0 W t b) (hlt : b.o < b.l.length) (l : List Int) (hl : nextsL b = some l) :
    Calls Try.prog 11 #[ptr t] W fun e W' => ∃ A c, e = .returned (.tuple #[.slice A l.length c, .bool true]) ∧ Hid (OwnB W' W.heap.size (.slice A l.length c) l ∧ BkOne B W0 W' t (nextL b) ∧ U8Keep W W') := by
  obtain ⟨S, h1, h2⟩ := h.bk
  have hx : b.l[b.o] = l := by rw [(nextL_yes hlt).2] at hl; injection hl
  rw [← hx]
  refine (bknext_yes h1 hlt).mono ?_
  rintro e W' ⟨A, c, rfl, H⟩
  obtain ⟨k1, k2, k3⟩ := H.out
  exact ⟨A, c, rfl, cover ⟨k1, one_now h h1 h2 k2 k3⟩⟩
theorem one_again (h : BkOne B W0 W t b) : Calls Try.prog 12 #[ptr t] W fun e W' => e = .returned (.int .i64 b.o) ∧ Hid (BkOne B W0 W' t (againL b) ∧ U8Keep W W') := by
  obtain ⟨S, h1, h2⟩ := h.bk
  refine (bkagain_any h1).mono ?_
  rintro e W' ⟨rfl, H⟩
  obtain ⟨S', k1, k2⟩ := H.out
  exact ⟨rfl, cover (one_now h h1 h2 k1 k2)⟩

theorem one_clear (h : BkOne B W0 W t b) : Calls Try.prog 21 #[ptr t] W fun e W' => e = .returned (.int .i64 b.l.length) ∧ Hid (BkOne B W0 W' t (clearL b) ∧ U8Keep W W') := by
  obtain ⟨S, h1, h2⟩ := h.bk
  refine (bkclear_any h1).mono ?_
  rintro e W' ⟨rfl, H⟩
  obtain ⟨S', k1, k2⟩ := H.out
  exact ⟨rfl, cover (one_now h h1 h2 k1 k2)⟩
theorem one_acked (h : BkOne B W0 W t b) (n : Int) : Calls Try.prog 13 #[ptr t, .int .i64 n] W fun e W' => e = .returned (.int .i64 (goneL n b)) ∧ Hid (BkOne B W0 W' t (ackL n b) ∧ U8Keep W W') := by
  obtain ⟨S, h1, h2⟩ := h.bk
  refine (bkacked_any h1 n).mono ?_
  rintro e W' ⟨rfl, H⟩
  obtain ⟨S', k1, k2⟩ := H.out
  exact ⟨rfl, cover (one_now h h1 h2 k1 k2)⟩
end
set_option maxHeartbeats 1600000 in
theorem awake_any (w : World) : Calls Try.prog 8 #[] w fun e w' => e = .returned (.bool true) ∧ Below w.heap.size w w' := by
  obtain ⟨B, hB⟩ : ∃ B, B = w.heap.size := ⟨_, rfl⟩
  have HG := cover hB
  go_enter Try.func8, Try.ntmps8
  go_wp2_with fail
  refine (one_new (B := B) (W0 := w) 3 (by decide) (by rw [hB]; exact Below.refl _ _) (by rw [hB]; exact Nat.le_refl _)).mono ?_
  rintro e w1 ⟨t, rfl, h1⟩
  have H1 := cover h1.out.1
  clear h1 hB
  go_wp2_with fail
  refine (one_put (H1.out.below ((Below.refl _ _).alloc (Nat.le_refl _) _)) _ _ _ (w1.heap.size + 1) [5] (RowK.madeF w1 [5] #[.int .u8 5] 5 (0, 0) rfl) (by simp) (by decide)).mono ?_
  rw [show putL [5] (zL 3 : LV (List Int)) = ⟨3, 0, [[5]]⟩ from rfl, show putsL (zL 3 : LV (List Int)) = true from rfl]
  rintro e w2 ⟨rfl, h2⟩
  have H2 := cover h2.out.1
  clear h2 H1
  go_wp2_with fail
  refine (one_next_yes H2.out (by decide) [5] rfl).mono ?_
  rw [show nextL (⟨3, 0, [[5]]⟩ : LV (List Int)) = ⟨3, 1, [[5]]⟩ from rfl]
  rintro e w3 ⟨A, c, rfl, h3⟩
  have HO := cover h3.out.1
  have H3 := cover h3.out.2.1
  have HR := cover ((OwnB.row h3.out.1).below ((Below.refl w3.heap.size w3).alloc (Nat.le_refl _) (.cells #[.int .u8 5] 5)))
  have HB3 : Hid (BkOne B w (w3.alloc (.cells #[.int .u8 5] 5)) t ⟨3, 1, [[5]]⟩) := cover (H3.out.below ((Below.refl _ _).alloc (Nat.le_refl _) _))
  clear h3 H2
  have S1 : Hid (Calls Try.prog 18 #[.slice A 1 c, .slice (some ⟨w3.heap.size, 0, none⟩) 1 1] (w3.alloc (.cells #[.int .u8 5] 5)) fun e w' => e = .returned (.bool true) ∧ ∃ d, w' = (w3.alloc (.cells #[.int .u8 5] 5)).drewN d) := cover (by
    refine (same_any A (some ⟨w3.heap.size, 0, none⟩) 1 c 1 _ _ [5] [5] _ HR.out (RowK.madeF w3 [5] #[.int .u8 5] 5 (0, 0) rfl) (by decide)).mono ?_
    rintro e w' ⟨rfl, h⟩
    exact ⟨rfl, h⟩)
  go_wp2_with (first
    | (go_at_call 18; refine S1.out.mono ?_; rintro e w4 ⟨rfl, d, rfl⟩; have H4 := cover (HB3.out.drewN d))
    | (go_at_call 23; refine (one_out H4.out).mono ?_; rintro e w5 ⟨rfl, rfl⟩)
    | (go_at_call 24; refine (one_waits H4.out).mono ?_; rintro e w5 ⟨rfl, rfl⟩))
  go_ret
  exact ⟨rfl, by rw [← HG.out]; exact H4.out.bel⟩
end Go.Proofs.Ytefbmhkchlhgnaa
