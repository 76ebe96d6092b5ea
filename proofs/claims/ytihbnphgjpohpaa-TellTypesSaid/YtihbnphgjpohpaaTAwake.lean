/- An I in order is told. -/
import Derived.Test.YtihbnphgjpohpaaTEv
namespace Go.Proofs.Ytihbnphgjpohpaa
open Go.RowKit
set_option linter.unusedVariables false
set_option linter.unusedSimpArgs false

def tA : PV := ⟨4, 8, false, 0, 0, 3, 1, false, []⟩
theorem may_tA : MayP tA := ⟨by unfold MayN tA; simp, .inl (by unfold tA; simp)⟩
theorem type_tA : typeP tA = 2 := (typeP_yes may_tA).trans rfl
theorem event_tA : eventP tA 8 3 0 2 = 13 := by unfold eventP; rw [type_tA]; rfl

theorem awake_any (w : World) : Calls Try.prog 9 #[] w fun e w' => e = .returned (.bool true) ∧ Below w.heap.size w w' := by
  obtain ⟨w1, hw1⟩ : ∃ w1, Hid (w1 = w.alloc (.cells #[.int .i64 4, .int .i64 8, .bool false, .int .i64 0, .int .i64 0, .int .i64 3, .int .i64 1, .bool false, .slice none 0 0] 26)) := ⟨_, cover rfl⟩
  have hs1 : w1.heap.size = w.heap.size + 1 := by rw [hw1.out]; simp
  have H1 : Hid (Below w.heap.size w w1) := cover (by rw [hw1.out]; exact (Below.refl _ _).alloc (Nat.le_refl _) _)
  have G1 : Hid (w1.heap[w.heap.size]? = some (.cells #[.int .i64 4, .int .i64 8, .bool false, .int .i64 0, .int .i64 0, .int .i64 3, .int .i64 1, .bool false, .slice none 0 0] 26 (0, 0))) := cover (by rw [hw1.out]; exact heap_alloc_new _ _)
  go_enter Try.func9, Try.ntmps9
  go_wp2_with fail
  rw [← hw1.out]
  refine (event_any tA 8 3 0 2 none 0 w1).mono ?_
  rw [event_tA]
  rintro e w2 ⟨rfl, hb2⟩
  have hs2 := hb2.size
  have H2 := cover (H1.out.trans (hb2.mono (by omega)))
  have G2 := cover ((hb2.block _ (by omega)).trans G1.out)
  clear hb2
  obtain ⟨p0, p1, p2, p3, p4, p5, p6, p7, p8⟩ := pdu_cells G2.out
  go_wp2_with fail
  refine (type_any tA none 0 w2).mono ?_
  rw [type_tA]
  rintro e w3 ⟨rfl, hb3⟩
  have H3 := cover (H2.out.trans (hb3.mono (by omega)))
  clear hb3
  go_wp2
  go_ret
  exact ⟨rfl, H3.out⟩
end Go.Proofs.Ytihbnphgjpohpaa
