/- The walk of WindowKnown. -/
import Derived.Deep.CutBlock
import Derived.Deep.DeepCutAuto
import Derived.Deep.RegionHeld3
import Derived.Test.YtdjfnhplbhhgiaaIAwake
namespace Go.Proofs.Ytdjfnhplbhhgiaa
open Go.RowKit
set_option linter.unusedVariables false
set_option linter.unusedSimpArgs false

set_option maxRecDepth 100000 in
set_option maxHeartbeats 1600000 in
theorem walk_WindowKnown (w : World) : Calls Try.prog 3 #[] w fun e w' => e = .returned (.bool true) ∧ Below w.heap.size w w' := by
  obtain ⟨b, hb⟩ : ∃ b, b = w.heap.size := ⟨_, rfl⟩
  have HG := cover hb
  have s0 := cover (awake_any w)
  clear hb
  go_enter Try.func3, Try.ntmps3
  go_wp2_with fail
  refine s0.out.mono ?_
  rintro e w0 ⟨rfl, h0⟩
  have H0 : Hid (Below b w w0) := cover (by rw [HG.out]; exact h0)
  clear h0 s0
  go_wp2_with fail
  refine (new_no 0 (by decide) w0).mono ?_
  rintro e w00 ⟨rfl, h00⟩
  have hs00 : b ≤ w0.heap.size := by rw [HG.out]; exact (HG.out ▸ H0.out).size
  have H00 : Hid (Below b w w00 ∧ b ≤ w00.heap.size) := cover ⟨H0.out.trans (h00.mono hs00), Nat.le_trans hs00 h00.size⟩
  clear h00 hs00 H0
  obtain ⟨t, ht⟩ : ∃ t, t = w00.heap.size := ⟨_, rfl⟩
  go_wp2_with fail
  refine (new_yes 4 (by decide) w00).mono ?_
  rw [show freshW 4 = ⟨4, 0⟩ from rfl]
  rintro e w1 ⟨rfl, h1⟩
  have H1 : Hid (WiOne b w w1 t 4 ⟨4, 0⟩) := cover (by rw [ht]; exact WiOne.new H00.out.1 H00.out.2 h1.out)
  rw [← ht]
  clear ht h1 H00
  go_wp2_with fail
  refine (now_any H1.out.wi).mono ?_
  rintro e w2 ⟨rfl, rfl⟩
  go_wp2_with fail
  refine (slow_any H1.out.wi).mono ?_
  rw [show slowW = ⟨1, 0⟩ from rfl]
  rintro e w2 ⟨rfl, h2⟩
  have H2 := cover (H1.out.turn h2.out)
  clear h2 H1
  go_wp2_with fail
  refine (acked_any H2.out.wi 1 (by decide)).mono ?_
  rw [show ackW 4 (1 : Int).toNat ⟨1, 0⟩ = ⟨2, 0⟩ from rfl]
  rintro e w3 ⟨rfl, h3⟩
  have H3 := cover (H2.out.turn h3.out)
  clear h3 H2
  go_wp2_with fail
  refine (now_any H3.out.wi).mono ?_
  rintro e w4 ⟨rfl, rfl⟩
  go_wp2_with fail
  refine (acked_any H3.out.wi 2 (by decide)).mono ?_
  rw [show ackW 4 (2 : Int).toNat ⟨2, 0⟩ = ⟨3, 0⟩ from rfl]
  rintro e w5 ⟨rfl, h5⟩
  have H5 := cover (H3.out.turn h5.out)
  clear h5 H3
  go_wp2_with fail
  refine (now_any H5.out.wi).mono ?_
  rintro e w6 ⟨rfl, rfl⟩
  go_wp2_with fail
  refine (acked_any H5.out.wi 2 (by decide)).mono ?_
  rw [show ackW 4 (2 : Int).toNat ⟨3, 0⟩ = ⟨3, 2⟩ from rfl]
  rintro e w7 ⟨rfl, h7⟩
  have H7 := cover (H5.out.turn h7.out)
  clear h7 H5
  go_wp2_with fail
  refine (now_any H7.out.wi).mono ?_
  rintro e w8 ⟨rfl, rfl⟩
  have HN := cover H7.out.bel
  clear H7
  go_wp2
  go_ret
  exact ⟨rfl, by rw [← HG.out]; exact HN.out⟩
end Go.Proofs.Ytdjfnhplbhhgiaa
