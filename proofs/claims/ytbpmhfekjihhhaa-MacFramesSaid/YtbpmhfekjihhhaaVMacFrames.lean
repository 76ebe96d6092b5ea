/- MacFrames, of all arguments. -/
import Derived.Test.YtbpmhfekjihhhaaWMacFrames
namespace Go.Proofs.Ytbpmhfekjihhhaa
open Go.RowKit
set_option linter.unusedVariables false

set_option maxRecDepth 100000 in
theorem frames_out (t0 t1 t2 t3 t4 t5 f0 f1 f2 f3 f4 f5 : Int) (A : Option Addr) (n c : Nat) (A' : Option Addr) (n' c' : Nat) (w : World) (h : 2000 < n ∨ 2000 < n') :
    Calls Try.prog 4 #[.agg #[.int .u8 t0, .int .u8 t1, .int .u8 t2, .int .u8 t3, .int .u8 t4, .int .u8 t5, .int .u8 f0, .int .u8 f1, .int .u8 f2, .int .u8 f3, .int .u8 f4, .int .u8 f5, .slice A n c], .slice A' n' c'] w fun e w' => e = .returned (.bool true) ∧ Below w.heap.size w w' := by
  obtain ⟨w2, hw2⟩ : ∃ w2, Hid (w2 = w.alloc (.cells #[.int .u8 t0, .int .u8 t1, .int .u8 t2, .int .u8 t3, .int .u8 t4, .int .u8 t5, .int .u8 f0, .int .u8 f1, .int .u8 f2, .int .u8 f3, .int .u8 f4, .int .u8 f5, .slice A n c] 36)) := ⟨_, cover rfl⟩
  have H2 : Hid (Below w.heap.size w w2) := cover (by rw [hw2.out]; exact (Below.refl _ _).alloc (Nat.le_refl _) _)
  have G2 : Hid (w2.heap[w.heap.size]? = some (.cells #[.int .u8 t0, .int .u8 t1, .int .u8 t2, .int .u8 t3, .int .u8 t4, .int .u8 t5, .int .u8 f0, .int .u8 f1, .int .u8 f2, .int .u8 f3, .int .u8 f4, .int .u8 f5, .slice A n c] 36 (0, 0))) := cover (by rw [hw2.out]; exact heap_alloc_new _ _)
  have hs2 : w.heap.size < w2.heap.size := block_lt G2.out
  by_cases h1 : 2000 < n
  · have i1 : (2000 : Int) < (n : Int) := by omega
    clear h
    go_enter Try.func4, Try.ntmps4
    go_wp2_with fail
    rw [← hw2.out]
    refine (awake_any w2).mono ?_
    rintro e w3 ⟨rfl, hb3⟩
    have H3 := cover (H2.out.trans (hb3.mono (by omega)))
    have k3 := (FrmIn.ofHeap ((hb3.block w.heap.size hs2).trans G2.out)).dat
    clear hb3
    go_wp2
    go_ret
    exact ⟨rfl, H3.out⟩
  · have i1 : ¬ ((2000 : Int) < (n : Int)) := by omega
    have i2 : (2000 : Int) < (n' : Int) := by omega
    clear h
    go_enter Try.func4, Try.ntmps4
    go_wp2_with fail
    rw [← hw2.out]
    refine (awake_any w2).mono ?_
    rintro e w3 ⟨rfl, hb3⟩
    have H3 := cover (H2.out.trans (hb3.mono (by omega)))
    have k3 := (FrmIn.ofHeap ((hb3.block w.heap.size hs2).trans G2.out)).dat
    clear hb3
    go_wp2
    go_ret
    exact ⟨rfl, H3.out⟩
theorem walk_MacFrames (t0 t1 t2 t3 t4 t5 f0 f1 f2 f3 f4 f5 : Int) (A : Option Addr) (n c : Nat) (d : List Int) (A' : Option Addr) (n' c' : Nat) (l : List Int) (w : World) (h1 : Bts [t0, t1, t2, t3, t4, t5]) (h2 : Bts [f0, f1, f2, f3, f4, f5]) (hc : n ≤ c) (hcm : c ≤ maxLen) (hr : Row w w.heap.size A n d) (hd : Bts d) (hnil : A = none → c = 0)
    (hc' : n' ≤ c') (hcm' : c' ≤ maxLen) (hr' : Row w w.heap.size A' n' l ∧ Bts l ∧ (A' = none → c' = 0)) :
    Calls Try.prog 4 #[.agg #[.int .u8 t0, .int .u8 t1, .int .u8 t2, .int .u8 t3, .int .u8 t4, .int .u8 t5, .int .u8 f0, .int .u8 f1, .int .u8 f2, .int .u8 f3, .int .u8 f4, .int .u8 f5, .slice A n c], .slice A' n' c'] w fun e w' => e = .returned (.bool true) ∧ Below w.heap.size w w' := by
  by_cases h : n ≤ 2000 ∧ n' ≤ 2000
  · exact frames_in t0 t1 t2 t3 t4 t5 f0 f1 f2 f3 f4 f5 A n c d A' n' c' l w _ h1 h2 hc hcm (hr.alloc (Nat.le_refl _) _) hd hnil hc' hcm' (hr'.1.alloc (Nat.le_refl _) _) hr'.2.1 h.1 h.2 (cover rfl)
  · exact frames_out t0 t1 t2 t3 t4 t5 f0 f1 f2 f3 f4 f5 A n c A' n' c' w (by omega)
end Go.Proofs.Ytbpmhfekjihhhaa
