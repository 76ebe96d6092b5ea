/- MacPads, of all arguments. -/
import Derived.Test.YtbpmhfekjihhhaaWMacPads
namespace Go.Proofs.Ytbpmhfekjihhhaa
open Go.RowKit
set_option linter.unusedVariables false

set_option maxRecDepth 100000 in
theorem pads_skip (t0 t1 t2 t3 t4 t5 f0 f1 f2 f3 f4 f5 : Int) (A : Option Addr) (n c : Nat) (w : World) (h : 1500 < n ∨ grp f0 = true) :
    Calls Try.prog 7 #[.agg #[.int .u8 t0, .int .u8 t1, .int .u8 t2, .int .u8 t3, .int .u8 t4, .int .u8 t5, .int .u8 f0, .int .u8 f1, .int .u8 f2, .int .u8 f3, .int .u8 f4, .int .u8 f5, .slice A n c]] w fun e w' => e = .returned (.bool true) ∧ Below w.heap.size w w' := by
  obtain ⟨w2, hw2⟩ : ∃ w2, Hid (w2 = w.alloc (.cells #[.int .u8 t0, .int .u8 t1, .int .u8 t2, .int .u8 t3, .int .u8 t4, .int .u8 t5, .int .u8 f0, .int .u8 f1, .int .u8 f2, .int .u8 f3, .int .u8 f4, .int .u8 f5, .slice A n c] 36)) := ⟨_, cover rfl⟩
  have H2 : Hid (Below w.heap.size w w2) := cover (by rw [hw2.out]; exact (Below.refl _ _).alloc (Nat.le_refl _) _)
  have G2 : Hid (w2.heap[w.heap.size]? = some (.cells #[.int .u8 t0, .int .u8 t1, .int .u8 t2, .int .u8 t3, .int .u8 t4, .int .u8 t5, .int .u8 f0, .int .u8 f1, .int .u8 f2, .int .u8 f3, .int .u8 f4, .int .u8 f5, .slice A n c] 36 (0, 0))) := cover (by rw [hw2.out]; exact heap_alloc_new _ _)
  have hs2 : w.heap.size < w2.heap.size := block_lt G2.out
  by_cases h1 : 1500 < n
  · have i1 : (1500 : Int) < (n : Int) := by omega
    clear h
    go_enter Try.func7, Try.ntmps7
    go_wp2_with fail
    rw [← hw2.out]
    refine (awake_any w2).mono ?_
    rintro e w3 ⟨rfl, hb3⟩
    have hs3 := hb3.size
    have H3 := cover (H2.out.trans (hb3.mono (by omega)))
    have k3 := (FrmIn.ofHeap ((hb3.block w.heap.size hs2).trans G2.out)).dat
    have k4 := (FrmIn.ofHeap ((hb3.block w.heap.size hs2).trans G2.out)).fr.all6
    clear hb3
    go_wp2
    go_ret
    exact ⟨rfl, H3.out⟩
  · have i1 : ¬ ((1500 : Int) < (n : Int)) := by omega
    have hg : Hid (grp f0 = true) := cover (h.resolve_left h1)
    clear h
    go_enter Try.func7, Try.ntmps7
    go_wp2_with fail
    rw [← hw2.out]
    refine (awake_any w2).mono ?_
    rintro e w3 ⟨rfl, hb3⟩
    have hs3 := hb3.size
    have H3 := cover (H2.out.trans (hb3.mono (by omega)))
    have k3 := (FrmIn.ofHeap ((hb3.block w.heap.size hs2).trans G2.out)).dat
    have k4 := (FrmIn.ofHeap ((hb3.block w.heap.size hs2).trans G2.out)).fr.all6
    clear hb3
    go_wp2_with fail
    refine (group_any f0 f1 f2 f3 f4 f5 w3).mono ?_
    rintro e w4 ⟨he, hb4⟩
    rw [hg.out] at he
    subst he
    have hs4 := hb4.size
    have H4 := cover (H3.out.trans (hb4.mono (by omega)))
    clear hb4
    go_wp2
    go_ret
    exact ⟨rfl, H4.out⟩
theorem walk_MacPads (t0 t1 t2 t3 t4 t5 f0 f1 f2 f3 f4 f5 : Int) (A : Option Addr) (n c : Nat) (d : List Int) (w : World) (h1 : Bts [t0, t1, t2, t3, t4, t5]) (h2 : Bts [f0, f1, f2, f3, f4, f5]) (hc : n ≤ c) (hcm : c ≤ maxLen) (hr : Row w w.heap.size A n d) (hd : Bts d) (hnil : A = none → c = 0) :
    Calls Try.prog 7 #[.agg #[.int .u8 t0, .int .u8 t1, .int .u8 t2, .int .u8 t3, .int .u8 t4, .int .u8 t5, .int .u8 f0, .int .u8 f1, .int .u8 f2, .int .u8 f3, .int .u8 f4, .int .u8 f5, .slice A n c]] w fun e w' => e = .returned (.bool true) ∧ Below w.heap.size w w' := by
  by_cases h : 1500 < n ∨ grp f0 = true
  · exact pads_skip t0 t1 t2 t3 t4 t5 f0 f1 f2 f3 f4 f5 A n c w h
  · have hn : n ≤ 1500 := by omega
    have hg : grp f0 = false := by
      cases hq : grp f0
      · rfl
      · exact absurd (.inr hq) h
    exact pads_in t0 t1 t2 t3 t4 t5 f0 f1 f2 f3 f4 f5 A n c d _ w _ h1 h2 hc hcm (hr.alloc (Nat.le_refl _) _) hd hnil hn (cover hg) (cover (sealOf h1 h2 hd)) (cover rfl)
end Go.Proofs.Ytbpmhfekjihhhaa
