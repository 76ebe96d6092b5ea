/- The law's own first question: the program is awake. -/
import Derived.Lib.SlBytesConst
import Derived.Test.YtckjbndkoompmaaCTab
namespace Go.Proofs.Ytckjbndkoompmaa
open Go.RowKit

def nine : List Int := [49, 50, 51, 52, 53, 54, 55, 56, 57]
theorem nine_bts : Bts nine := by unfold Bts; decide
theorem nine_sum : rg (summ nine) = 3421780262 := by decide +kernel

set_option maxRecDepth 100000 in
set_option maxHeartbeats 400000 in
theorem awake_any (w : World) : Calls Try.prog 10 #[] w fun e w' => e = .returned (.bool true) ∧ Below w.heap.size w w' := by
  go_enter Try.func10, Try.ntmps10
  go_wp2_with fail
  refine (make_any _).mono ?_
  rintro e w1 ⟨T, rfl, hT, hb1⟩
  have hs1 := hb1.size
  have kc := fun (w : World) (C : Array Value) (n c : Nat) => Lib.run_convert_bytes_const (P := Try.prog) w 28 5 C n c Try.underlying28 Try.underlying5
  go_wp2_with (first
    | (refine new_var rfl _ rfl _ _ (alloc_tab _) ?_)
    | (refine store_tab (w0 := w) rfl _ _ rfl w1.heap.size w.heap.size T tabRow rfl rfl hT (heap_alloc_new _ _) (hb1.alloc hs1 _) hs1 ?_; intro w2 ht2 hb2; clear hb1 hs1)
    | (refine load_tab rfl _ rfl _ _ _ ht2 rfl ?_))
  refine (sum_made T _ 9 9 (w2.heap.size + 1) nine _ hT (RowK.madeF w2 nine #[.int .u8 49, .int .u8 50, .int .u8 51, .int .u8 52, .int .u8 53, .int .u8 54, .int .u8 55, .int .u8 56, .int .u8 57] 5 (9, 10) rfl) (by simp) nine_bts (by decide)).mono ?_
  rintro e w3 ⟨he, hb3⟩
  rw [nine_sum] at he
  subst he
  have hs2 := hb2.size
  go_wp2
  go_ret
  exact ⟨rfl, (hb2.alloc hs2 _).trans (hb3.mono (by simp; omega))⟩
end Go.Proofs.Ytckjbndkoompmaa
