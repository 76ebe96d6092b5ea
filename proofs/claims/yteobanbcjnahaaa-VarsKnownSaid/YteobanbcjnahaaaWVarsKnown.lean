/- The walk of VarsKnown. -/
import Derived.Deep.CutBlock
import Derived.Deep.DeepCutAuto
import Derived.Deep.RegionHeld3
import Derived.Test.YteobanbcjnahaaaVAwake
namespace Go.Proofs.Yteobanbcjnahaaa
open Go.RowKit
set_option linter.unusedVariables false
set_option linter.unusedSimpArgs false

set_option maxRecDepth 100000 in
set_option maxHeartbeats 1600000 in
theorem walk_VarsKnown (w : World) : Calls Try.prog 3 #[] w fun e w' => e = .returned (.bool true) ∧ Below w.heap.size w w' := by
  obtain ⟨b, hb⟩ : ∃ b, b = w.heap.size := ⟨_, rfl⟩
  have HG := cover hb
  have s0 := cover (awake_any w)
  clear hb
  go_enter Try.func3, Try.ntmps3
  go_wp2_with fail
  refine s0.out.mono ?_
  rintro e w0 ⟨rfl, h0⟩
  obtain ⟨t, ht⟩ : ∃ t, t = w0.heap.size := ⟨_, rfl⟩
  obtain ⟨w1, hw1⟩ : ∃ w1, w1 = w0.alloc (.cells (vC 0 0 0) 26) := ⟨_, rfl⟩
  have H1 : Hid (VaOne b w w1 t zVV) := cover (by rw [hw1, ht]; exact VaOne.new (by rw [HG.out]; exact h0) (by rw [HG.out]; exact h0.size))
  go_upto_region 4 with fail
  rw [← hw1, ← ht]
  clear hw1 ht h0
  rw [show zVV = ⟨0, 0, 0⟩ from rfl] at H1
  go_wp2_with fail
  refine (sent_any H1.out.va).mono ?_
  rw [show sentV ⟨0, 0, 0⟩ = 0 from rfl, show sentS ⟨0, 0, 0⟩ = ⟨1, 0, 0⟩ from rfl]
  rintro e w2 ⟨rfl, h2⟩
  have H2 := cover (H1.out.turn h2.out)
  clear h2 H1
  go_wp2_with fail
  refine (sent_any H2.out.va).mono ?_
  rw [show sentV ⟨1, 0, 0⟩ = 1 from rfl, show sentS ⟨1, 0, 0⟩ = ⟨2, 0, 0⟩ from rfl]
  rintro e w3 ⟨rfl, h3⟩
  have H3 := cover (H2.out.turn h3.out)
  clear h3 H2
  go_wp2_with fail
  refine (acked_any H3.out.va 1).mono ?_
  rw [show ackV ⟨2, 0, 0⟩ 1 = 1 from rfl, show ackS ⟨2, 0, 0⟩ 1 = ⟨2, 0, 1⟩ from rfl]
  rintro e w4 ⟨rfl, h4⟩
  have H4 := cover (H3.out.turn h4.out)
  clear h4 H3
  go_wp2_with fail
  refine (acked_any H4.out.va 0).mono ?_
  rw [show ackV ⟨2, 0, 1⟩ 0 = -1 from rfl, show ackS ⟨2, 0, 1⟩ 0 = ⟨2, 0, 1⟩ from rfl]
  rintro e w5 ⟨rfl, h5⟩
  have H5 := cover (H4.out.turn h5.out)
  clear h5 H4
  go_wp2_with fail
  refine (back_any H5.out.va).mono ?_
  rw [show outV ⟨2, 0, 1⟩ = 1 from rfl, show backS ⟨2, 0, 1⟩ = ⟨1, 0, 1⟩ from rfl]
  rintro e w6 ⟨rfl, h6⟩
  have H6 := cover (H5.out.turn h6.out)
  clear h6 H5
  go_wp2_with fail
  refine (vs_any H6.out.va).mono ?_
  rintro e w7 ⟨rfl, h7⟩
  have H7 := cover (H6.out.below h7)
  clear h7 H6
  go_wp2_with fail
  refine (took_any H7.out.va).mono ?_
  rw [show tookS ⟨1, 0, 1⟩ = ⟨1, 1, 1⟩ from rfl]
  rintro e w8 ⟨rfl, h8⟩
  have H8 := cover (H7.out.turn h8.out)
  clear h8 H7
  go_wp2_with fail
  refine (vr_any H8.out.va).mono ?_
  rintro e w9 ⟨rfl, h9⟩
  have H9 := cover (H8.out.below h9)
  clear h9 H8
  go_wp2
  go_ret
  exact ⟨rfl, by rw [← HG.out]; exact H9.out.bel⟩
end Go.Proofs.Yteobanbcjnahaaa
