/- The document's SameFrame, of two frames that are the same. -/
import Derived.Deep.RegionHeld3
import Derived.Test.YtbpmhfekjihhhaaMFrm
import Derived.Test.YtbpmhfekjihhhaaCTurn
import Derived.Test.YtbpmhfekjihhhaaMTake
namespace Go.Proofs.Ytbpmhfekjihhhaa
open Go.RowKit
attribute [local go_sem] run_eq6

set_option maxHeartbeats 1600000 in
theorem sameF_any (t0 t1 t2 t3 t4 t5 f0 f1 f2 f3 f4 f5 : Int) (A1 A2 : Option Addr) (n c1 c2 B1 B2 : Nat) (d : List Int) (w : World) (h1 : Row w B1 A1 n d) (h2 : Row w B2 A2 n d) (hB1 : B1 ≤ w.heap.size) (hB2 : B2 ≤ w.heap.size) (hmax : n ≤ 9223372036854775807) :
    Calls Try.prog 23 #[.agg #[.int .u8 t0, .int .u8 t1, .int .u8 t2, .int .u8 t3, .int .u8 t4, .int .u8 t5, .int .u8 f0, .int .u8 f1, .int .u8 f2, .int .u8 f3, .int .u8 f4, .int .u8 f5, .slice A1 n c1], .agg #[.int .u8 t0, .int .u8 t1, .int .u8 t2, .int .u8 t3, .int .u8 t4, .int .u8 t5, .int .u8 f0, .int .u8 f1, .int .u8 f2, .int .u8 f3, .int .u8 f4, .int .u8 f5, .slice A2 n c2]] w fun e w' => e = .returned (.bool true) ∧ Below w.heap.size w w' := by
  obtain ⟨w2, hw2⟩ : ∃ w2, Hid (w2 = (w.alloc (.cells #[.int .u8 t0, .int .u8 t1, .int .u8 t2, .int .u8 t3, .int .u8 t4, .int .u8 t5, .int .u8 f0, .int .u8 f1, .int .u8 f2, .int .u8 f3, .int .u8 f4, .int .u8 f5, .slice A1 n c1] 36)).alloc (.cells #[.int .u8 t0, .int .u8 t1, .int .u8 t2, .int .u8 t3, .int .u8 t4, .int .u8 t5, .int .u8 f0, .int .u8 f1, .int .u8 f2, .int .u8 f3, .int .u8 f4, .int .u8 f5, .slice A2 n c2] 36)) := ⟨_, cover rfl⟩
  have hs2 : w2.heap.size = w.heap.size + 2 := by rw [hw2.out]; simp
  have H2 : Hid (Below w.heap.size w w2) := cover (by rw [hw2.out]; exact ((Below.refl _ _).alloc (Nat.le_refl _) _).alloc (by simp) _)
  have F1 : Hid (FrmIn w2 w.heap.size [t0, t1, t2, t3, t4, t5] [f0, f1, f2, f3, f4, f5] (.slice A1 n c1)) := cover (by
    rw [hw2.out]; exact (FrmIn.made w t0 t1 t2 t3 t4 t5 f0 f1 f2 f3 f4 f5 (.slice A1 n c1) 36).alloc (by simp) _)
  have F2 : Hid (FrmIn w2 (w.heap.size + 1) [t0, t1, t2, t3, t4, t5] [f0, f1, f2, f3, f4, f5] (.slice A2 n c2)) := cover (by
    have h := FrmIn.made (w.alloc (.cells #[.int .u8 t0, .int .u8 t1, .int .u8 t2, .int .u8 t3, .int .u8 t4, .int .u8 t5, .int .u8 f0, .int .u8 f1, .int .u8 f2, .int .u8 f3, .int .u8 f4, .int .u8 f5, .slice A1 n c1] 36)) t0 t1 t2 t3 t4 t5 f0 f1 f2 f3 f4 f5 (.slice A2 n c2) 36
    rw [hw2.out]
    simpa using h)
  have HS := cover (fun W' (hb : Below w2.heap.size w2 W') => same_or A1 A2 n c1 c2 B1 B2 d d W' w2 true (cover (decide_eq_true rfl)) ((h1.below (H2.out.mono hB1)).below (hb.mono (by omega))) ((h2.below (H2.out.mono hB2)).below (hb.mono (by omega))) hmax hb)
  have q1 := sameL_refl [t0, t1, t2, t3, t4, t5]
  have q2 := sameL_refl [f0, f1, f2, f3, f4, f5]
  clear h1 h2
  go_enter Try.func23, Try.ntmps23
  go_wp2_with fail
  rw [← hw2.out]
  refine (HS.out w2 (Below.refl _ _)).mono ?_
  rintro e w3 ⟨rfl, hb3⟩
  go_wp2
  go_ret
  exact ⟨rfl, H2.out.trans (hb3.mono H2.out.size)⟩
end Go.Proofs.Ytbpmhfekjihhhaa
