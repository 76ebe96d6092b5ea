/- The walk of TellKnown. -/
import Derived.Test.YtihbnphgjpohpaaTAwake
namespace Go.Proofs.Ytihbnphgjpohpaa
open Go.RowKit
set_option linter.unusedVariables false
set_option linter.unusedSimpArgs false

def k1 : PV := ⟨4, 8, false, 0, 0, 4, 1, true, []⟩
def k2 : PV := ⟨4, 8, false, 1, 0, 0, 3, false, []⟩
def k3 : PV := ⟨4, 8, true, 1, 0, 0, 2, true, []⟩
def k5 : PV := ⟨4, 8, false, 2, 0, 0, 0, false, []⟩
theorem type_k1 : typeP k1 = 2 := (typeP_yes ⟨by unfold MayN k1; simp, .inl (by unfold k1; simp)⟩).trans rfl
theorem type_k2 : typeP k2 = 2 := (typeP_yes ⟨by unfold MayN k2; simp, .inr (.inl (by unfold k2; simp))⟩).trans rfl
theorem type_k3 : typeP k3 = 2 := (typeP_yes ⟨by unfold MayN k3; simp, .inr (.inl (by unfold k3; simp))⟩).trans rfl
theorem type_k5 : typeP k5 = 1 := (typeP_yes ⟨by unfold MayN k5; simp, .inr (.inr ⟨rfl, rfl, rfl, .inl ⟨rfl, rfl⟩⟩)⟩).trans rfl
theorem event_k1 : eventP k1 8 3 0 2 = 17 := by unfold eventP; rw [type_k1]; rfl
theorem event_k2 : eventP k2 8 3 0 2 = 28 := by unfold eventP; rw [type_k2]; rfl
theorem event_k3 : eventP k3 8 3 0 2 = 19 := by unfold eventP; rw [type_k3]; rfl
theorem event_k4 : eventP k3 11 3 0 2 = 21 := by unfold eventP; rw [type_k3]; rfl
theorem event_k5 : eventP k5 8 0 0 0 = -1 := by unfold eventP; rw [type_k5]; rfl

set_option maxHeartbeats 1600000 in
theorem walk_TellKnown (w : World) : Calls Try.prog 3 #[] w fun e w' => e = .returned (.bool true) ∧ Below w.heap.size w w' := by
  go_enter Try.func3, Try.ntmps3
  go_wp2_with fail
  refine (awake_any w).mono ?_
  rintro e w1 ⟨rfl, hb1⟩
  have hs1 := hb1.size
  have H1 := cover hb1
  clear hb1
  go_wp2_with fail
  refine (event_any k1 8 3 0 2 none 0 w1).mono ?_
  rw [event_k1]
  rintro e w2 ⟨rfl, hb2⟩
  have hs2 := hb2.size
  have H2 := cover (H1.out.trans (hb2.mono (by omega)))
  clear hb2
  go_wp2_with fail
  refine (event_any k2 8 3 0 2 none 0 w2).mono ?_
  rw [event_k2]
  rintro e w3 ⟨rfl, hb3⟩
  have hs3 := hb3.size
  have H3 := cover (H2.out.trans (hb3.mono (by omega)))
  clear hb3
  go_wp2_with fail
  refine (event_any k3 8 3 0 2 none 0 w3).mono ?_
  rw [event_k3]
  rintro e w4 ⟨rfl, hb4⟩
  have hs4 := hb4.size
  have H4 := cover (H3.out.trans (hb4.mono (by omega)))
  clear hb4
  go_wp2_with fail
  refine (event_any k3 11 3 0 2 none 0 w4).mono ?_
  rw [event_k4]
  rintro e w5 ⟨rfl, hb5⟩
  have hs5 := hb5.size
  have H5 := cover (H4.out.trans (hb5.mono (by omega)))
  clear hb5
  go_wp2_with fail
  refine (event_any k5 8 0 0 0 none 0 w5).mono ?_
  rw [event_k5]
  rintro e w6 ⟨rfl, hb6⟩
  have H6 := cover (H5.out.trans (hb6.mono (by omega)))
  clear hb6
  go_wp2
  go_ret
  exact ⟨rfl, H6.out⟩
end Go.Proofs.Ytihbnphgjpohpaa
