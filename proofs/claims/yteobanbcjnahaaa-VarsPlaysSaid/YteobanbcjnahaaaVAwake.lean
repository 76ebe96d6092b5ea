/- A law's Vars; the law's first question. -/
import Derived.Deep.CutBlock
import Derived.Deep.DeepCutAuto
import Derived.Deep.RegionHeld3
import Derived.Test.YteobanbcjnahaaaVDo
namespace Go.Proofs.Yteobanbcjnahaaa
open Go.RowKit
set_option linter.unusedVariables false
set_option linter.unusedSimpArgs false

/-- a law's Vars: it and all that is made since lies from block B on -/
structure VaOne (B : Nat) (W0 W : World) (t : Nat) (v : VV) : Prop where
  va : VaP W t v
  lo : B ≤ t
  bel : Below B W0 W
  siz : B ≤ W.heap.size
theorem VaOne.below {B t : Nat} {W0 W W' : World} {v : VV} (h : VaOne B W0 W t v) (hb : Below W.heap.size W W') : VaOne B W0 W' t v :=
  ⟨h.va.below hb, h.lo, h.bel.trans (hb.mono h.siz), Nat.le_trans h.siz hb.size⟩
theorem VaOne.turn {B t : Nat} {W0 W W' : World} {v v' : VV} (h : VaOne B W0 W t v) (h' : VaP W' t v' ∧ OnlyB t W W') : VaOne B W0 W' t v' :=
  ⟨h'.1, h.lo, below_only h.bel h'.2 h.lo h.siz, Nat.le_trans h.siz h'.2.size⟩
theorem VaOne.drewN {B t : Nat} {W0 W : World} {v : VV} (h : VaOne B W0 W t v) (n : Nat) : VaOne B W0 (W.drewN n) t v :=
  ⟨h.va.drewN n, h.lo, below_drewN h.bel n, h.siz⟩
/-- '&vars.Vars{}' -/
theorem VaOne.new {B : Nat} {W0 W : World} (hb : Below B W0 W) (hs : B ≤ W.heap.size) : VaOne B W0 (W.alloc (.cells (vC 0 0 0) 26)) W.heap.size zVV :=
  ⟨⟨VOk.zero, heap_alloc_new _ _⟩, hs, hb.alloc hs _, by simp; omega⟩

set_option maxHeartbeats 1600000 in
theorem awake_any (w : World) : Calls Try.prog 7 #[] w fun e w' => e = .returned (.bool true) ∧ Below w.heap.size w w' := by
  obtain ⟨b, hb⟩ : ∃ b, b = w.heap.size := ⟨_, rfl⟩
  have HG := cover hb
  obtain ⟨w1, hw1⟩ : ∃ w1, w1 = w.alloc (.cells (vC 0 0 0) 26) := ⟨_, rfl⟩
  have H1 : Hid (VaOne b w w1 b zVV) := cover (by rw [hw1, hb]; exact VaOne.new (Below.refl _ _) (Nat.le_refl _))
  go_enter Try.func7, Try.ntmps7
  go_upto_region 2 with fail
  rw [← hw1, ← hb]
  clear hw1 hb
  go_wp2_with fail
  refine (sent_any H1.out.va).mono ?_
  rw [show sentV zVV = 0 from rfl, show sentS zVV = ⟨1, 0, 0⟩ from rfl]
  rintro e w2 ⟨rfl, h2⟩
  have H2 := cover (H1.out.turn h2.out)
  clear h2 H1
  go_wp2_with fail
  refine (sent_any H2.out.va).mono ?_
  rw [show sentV ⟨1, 0, 0⟩ = 1 from rfl, show sentS ⟨1, 0, 0⟩ = ⟨2, 0, 0⟩ from rfl]
  rintro e w3 ⟨rfl, h3⟩
  have H3 := cover (H2.out.turn h3.out)
  clear h3 H2
  go_wp2_with fail
  refine (acked_any H3.out.va 1).mono ?_
  rw [show ackV ⟨2, 0, 0⟩ 1 = 1 from rfl, show ackS ⟨2, 0, 0⟩ 1 = ⟨2, 0, 1⟩ from rfl]
  rintro e w4 ⟨rfl, h4⟩
  have H4 := cover (H3.out.turn h4.out)
  clear h4 H3
  go_wp2_with fail
  refine (out_any H4.out.va).mono ?_
  rw [show outV ⟨2, 0, 1⟩ = 1 from rfl]
  rintro e w5 ⟨rfl, h5⟩
  have H5 := cover (H4.out.below h5)
  clear h5 H4
  go_wp2_with fail
  refine (va_any H5.out.va).mono ?_
  rintro e w6 ⟨rfl, h6⟩
  have H6 := cover (H5.out.below h6)
  clear h6 H5
  go_wp2
  go_ret
  exact ⟨rfl, by rw [← HG.out]; exact H6.out.bel⟩
end Go.Proofs.Yteobanbcjnahaaa
