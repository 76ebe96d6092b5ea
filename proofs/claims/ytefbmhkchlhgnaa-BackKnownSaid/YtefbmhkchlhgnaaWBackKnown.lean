/- The walk of BackKnown. -/
import Derived.Lib.SlBytesConst
import Derived.Test.YtefbmhkchlhgnaaOEqual
import Derived.Test.YtefbmhkchlhgnaaLAwake
namespace Go.Proofs.Ytefbmhkchlhgnaa
open Go.RowKit
set_option linter.unusedVariables false
set_option linter.unusedSimpArgs false

set_option maxRecDepth 100000 in
set_option maxHeartbeats 1600000 in
theorem walk_BackKnown (w : World) : Calls Try.prog 3 #[] w fun e w' => e = .returned (.bool true) ∧ Below w.heap.size w w' := by
  obtain ⟨b, hb⟩ : ∃ b, b = w.heap.size := ⟨_, rfl⟩
  have HG := cover hb
  have s0 := cover (awake_any w)
  have kc := fun (w : World) (C : Array Value) (n c : Nat) => Lib.run_convert_bytes_const (P := Try.prog) w 26 5 C n c Try.underlying26 Try.underlying5
  clear hb
  go_enter Try.func3, Try.ntmps3
  go_wp2_with fail
  refine s0.out.mono ?_
  rintro e w0 ⟨rfl, h0⟩
  have H0 : Hid (Below b w w0 ∧ b ≤ w0.heap.size) := cover (by rw [HG.out]; exact ⟨h0, h0.size⟩)
  clear h0 s0
  go_wp2_with fail
  refine (one_new (B := b) (W0 := w) 3 (by decide) H0.out.1 H0.out.2).mono ?_
  rintro e w1 ⟨t, rfl, h1⟩
  have H1 := cover h1.out.1
  clear h1 H0
  go_wp2_with fail
  refine (one_put (H1.out.below ((Below.refl _ _).alloc (Nat.le_refl _) _)) _ _ _ (w1.heap.size + 1) [97] (RowK.madeF w1 [97] #[.int .u8 97] 5 _ rfl) (by simp) (by decide)).mono ?_
  rw [show putL [97] (zL 3 : LV (List Int)) = ⟨3, 0, [[97]]⟩ from rfl, show putsL (zL 3 : LV (List Int)) = true from rfl]
  rintro e w2 ⟨rfl, h2⟩
  have H2 := cover h2.out.1
  clear h2 H1
  go_wp2_with fail
  refine (one_put (H2.out.below ((Below.refl _ _).alloc (Nat.le_refl _) _)) _ _ _ (w2.heap.size + 1) [98] (RowK.madeF w2 [98] #[.int .u8 98] 5 _ rfl) (by simp) (by decide)).mono ?_
  rw [show putL [98] (⟨3, 0, [[97]]⟩ : LV (List Int)) = ⟨3, 0, [[97], [98]]⟩ from rfl, show putsL (⟨3, 0, [[97]]⟩ : LV (List Int)) = true from rfl]
  rintro e w3 ⟨rfl, h3⟩
  have H3 := cover h3.out.1
  clear h3 H2
  go_wp2_with fail
  refine (one_next_yes H3.out (by decide) [97] rfl).mono ?_
  rw [show nextL (⟨3, 0, [[97], [98]]⟩ : LV (List Int)) = ⟨3, 1, [[97], [98]]⟩ from rfl]
  rintro e w4 ⟨Ax, cx, rfl, h4⟩
  have X4 : Hid (OwnB w4 0 (.slice Ax 1 cx) [97]) := cover (h4.out.1.mono (Nat.zero_le _))
  have H4 := cover h4.out.2.1
  clear h4 H3
  go_wp2_with fail
  refine (one_next_yes H4.out (by decide) [98] rfl).mono ?_
  rw [show nextL (⟨3, 1, [[97], [98]]⟩ : LV (List Int)) = ⟨3, 2, [[97], [98]]⟩ from rfl]
  rintro e w5 ⟨Ay, cy, rfl, h5⟩
  have Y5 : Hid (OwnB w5 0 (.slice Ax 1 cx) [97] ∧ OwnB w5 0 (.slice Ay 1 cy) [98]) := cover ⟨own_u8 X4.out h5.out.2.2, h5.out.1.mono (Nat.zero_le _)⟩
  have H5 := cover h5.out.2.1
  clear h5 H4 X4
  go_wp2_with fail
  refine (one_again H5.out).mono ?_
  rw [show againL (⟨3, 2, [[97], [98]]⟩ : LV (List Int)) = ⟨3, 0, [[97], [98]]⟩ from rfl]
  rintro e w6 ⟨rfl, h6⟩
  have Y6 : Hid (OwnB w6 0 (.slice Ax 1 cx) [97] ∧ OwnB w6 0 (.slice Ay 1 cy) [98]) := cover ⟨own_u8 Y5.out.1 h6.out.2, own_u8 Y5.out.2 h6.out.2⟩
  have H6 := cover h6.out.1
  clear h6 H5 Y5
  go_wp2_with fail
  refine (one_next_yes H6.out (by decide) [97] rfl).mono ?_
  rw [show nextL (⟨3, 0, [[97], [98]]⟩ : LV (List Int)) = ⟨3, 1, [[97], [98]]⟩ from rfl]
  rintro e w7 ⟨Az, cz, rfl, h7⟩
  have Y7 : Hid (OwnB w7 0 (.slice Ax 1 cx) [97] ∧ OwnB w7 0 (.slice Ay 1 cy) [98] ∧ OwnB w7 0 (.slice Az 1 cz) [97]) := cover ⟨own_u8 Y6.out.1 h7.out.2.2, own_u8 Y6.out.2 h7.out.2.2, h7.out.1.mono (Nat.zero_le _)⟩
  have H7 := cover h7.out.2.1
  clear h7 H6 Y6
  go_wp2_with fail
  refine (one_acked H7.out 1).mono ?_
  rw [show ackL 1 (⟨3, 1, [[97], [98]]⟩ : LV (List Int)) = ⟨3, 0, [[98]]⟩ from rfl, show goneL 1 (⟨3, 1, [[97], [98]]⟩ : LV (List Int)) = 1 from rfl]
  rintro e w8 ⟨rfl, h8⟩
  have Y8 : Hid (OwnB w8 0 (.slice Ax 1 cx) [97] ∧ OwnB w8 0 (.slice Ay 1 cy) [98] ∧ OwnB w8 0 (.slice Az 1 cz) [97]) := cover ⟨own_u8 Y7.out.1 h8.out.2, own_u8 Y7.out.2.1 h8.out.2, own_u8 Y7.out.2.2 h8.out.2⟩
  have H8 := cover h8.out.1
  clear h8 H7 Y7
  go_wp2_with fail
  refine (one_next_yes H8.out (by decide) [98] rfl).mono ?_
  rw [show nextL (⟨3, 0, [[98]]⟩ : LV (List Int)) = ⟨3, 1, [[98]]⟩ from rfl]
  rintro e w9 ⟨Aw, cw, rfl, h9⟩
  have Y9 : Hid (OwnB w9 0 (.slice Ax 1 cx) [97] ∧ OwnB w9 0 (.slice Ay 1 cy) [98] ∧ OwnB w9 0 (.slice Az 1 cz) [97] ∧ OwnB w9 0 (.slice Aw 1 cw) [98]) := cover ⟨own_u8 Y8.out.1 h9.out.2.2, own_u8 Y8.out.2.1 h9.out.2.2, own_u8 Y8.out.2.2 h9.out.2.2, h9.out.1.mono (Nat.zero_le _)⟩
  have H9 := cover h9.out.2.1
  clear h9 H8 Y8
  have k1 := bytes_to_string cx (OwnB.row Y9.out.1) 26 5 9 Try.underlying26 Try.underlying5 Try.underlying9
  have k2 := bytes_to_string cy (OwnB.row Y9.out.2.1) 26 5 9 Try.underlying26 Try.underlying5 Try.underlying9
  have k3 := bytes_to_string cz (OwnB.row Y9.out.2.2.1) 26 5 9 Try.underlying26 Try.underlying5 Try.underlying9
  have k4 := bytes_to_string cw (OwnB.row Y9.out.2.2.2) 26 5 9 Try.underlying26 Try.underlying5 Try.underlying9
  rw [show strOfNums [97] = ⟨#[97]⟩ from rfl] at k1 k3
  rw [show strOfNums [98] = ⟨#[98]⟩ from rfl] at k2 k4
  simp only [List.length_cons, List.length_nil, Nat.zero_add] at k1 k2 k3 k4
  go_wp2_with (first
    | (go_at_call 14; refine (one_len H9.out).mono ?_; rintro e w' ⟨rfl, rfl⟩)
    | (go_at_call 9; refine (one_new (B := b) (W0 := w) (-1) (by decide) H9.out.bel H9.out.siz).mono ?_; rintro e w10 ⟨t2, rfl, h10⟩; have H10 := cover h10.out.1)
    | (go_at_call 10; refine (one_put H10.out none 0 0 0 [] RowK.none_ (Nat.zero_le _) (by decide)).mono ?_; rw [show putsL (zL (-1) : LV (List Int)) = false from rfl]; rintro e w11 ⟨rfl, h11⟩; have H11 := cover h11.out.1.bel))
  go_ret
  exact ⟨rfl, by rw [← HG.out]; exact H11.out⟩
end Go.Proofs.Ytefbmhkchlhgnaa
