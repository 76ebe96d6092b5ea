/- A law's Window; the law's first question. -/
import Derived.Deep.CutBlock
import Derived.Deep.DeepCutAuto
import Derived.Deep.RegionHeld3
import Derived.Test.YtdjfnhplbhhgiaaIDo
namespace Go.Proofs.Ytdjfnhplbhhgiaa
open Go.RowKit
set_option linter.unusedVariables false
set_option linter.unusedSimpArgs false

/-- a law's Window: it and all that is made since lies from block B on -/
structure WiOne (B : Nat) (W0 W : World) (t : Nat) (m : Int) (v : WV) : Prop where
  wi : WiP W t m v
  lo : B ≤ t
  bel : Below B W0 W
  siz : B ≤ W.heap.size
theorem WiOne.below {B t : Nat} {W0 W W' : World} {m : Int} {v : WV} (h : WiOne B W0 W t m v) (hb : Below W.heap.size W W') : WiOne B W0 W' t m v :=
  ⟨h.wi.below hb, h.lo, h.bel.trans (hb.mono h.siz), Nat.le_trans h.siz hb.size⟩
theorem WiOne.turn {B t : Nat} {W0 W W' : World} {m : Int} {v v' : WV} (h : WiOne B W0 W t m v) (h' : WiP W' t m v' ∧ OnlyB t W W') : WiOne B W0 W' t m v' :=
  ⟨h'.1, h.lo, below_only h.bel h'.2 h.lo h.siz, Nat.le_trans h.siz h'.2.size⟩
theorem WiOne.drewN {B t : Nat} {W0 W : World} {m : Int} {v : WV} (h : WiOne B W0 W t m v) (n : Nat) : WiOne B W0 (W.drewN n) t m v :=
  ⟨h.wi.drewN n, h.lo, below_drewN h.bel n, h.siz⟩
/-- what New hands back -/
theorem WiOne.new {B : Nat} {W0 W W' : World} {m : Int} (hb : Below B W0 W) (hs : B ≤ W.heap.size) (h : WiP W' W.heap.size m (freshW m) ∧ Below W.heap.size W W') : WiOne B W0 W' W.heap.size m (freshW m) :=
  ⟨h.1, hs, hb.trans (h.2.mono hs), Nat.le_trans hs h.2.size⟩

set_option maxHeartbeats 1600000 in
theorem awake_any (w : World) : Calls Try.prog 8 #[] w fun e w' => e = .returned (.bool true) ∧ Below w.heap.size w w' := by
  obtain ⟨t, ht⟩ : ∃ t, t = w.heap.size := ⟨_, rfl⟩
  have HG := cover ht
  go_enter Try.func8, Try.ntmps8
  go_wp2_with fail
  refine (new_yes 4 (by decide) w).mono ?_
  rw [show freshW 4 = ⟨4, 0⟩ from rfl]
  rintro e w1 ⟨rfl, h1⟩
  have H1 : Hid (WiOne t w w1 t 4 ⟨4, 0⟩) := cover (by rw [ht]; exact WiOne.new (Below.refl _ _) (Nat.le_refl _) h1.out)
  rw [← ht]
  clear ht h1
  go_wp2_with fail
  refine (slow_any H1.out.wi).mono ?_
  rw [show slowW = ⟨1, 0⟩ from rfl]
  rintro e w2 ⟨rfl, h2⟩
  have H2 := cover (H1.out.turn h2.out)
  clear h2 H1
  go_wp2_with fail
  refine (acked_any H2.out.wi 3 (by decide)).mono ?_
  rw [show ackW 4 (3 : Int).toNat ⟨1, 0⟩ = ⟨3, 0⟩ from rfl]
  rintro e w3 ⟨rfl, h3⟩
  have H3 := cover (H2.out.turn h3.out)
  clear h3 H2
  go_wp2_with fail
  refine (now_any H3.out.wi).mono ?_
  rintro e w4 ⟨rfl, rfl⟩
  have HN := cover H3.out.bel
  clear H3
  go_wp2
  go_ret
  exact ⟨rfl, by rw [← HG.out]; exact HN.out⟩
end Go.Proofs.Ytdjfnhplbhhgiaa
