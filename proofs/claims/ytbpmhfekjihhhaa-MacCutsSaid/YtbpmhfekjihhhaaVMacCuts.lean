/- MacCuts, of all arguments. -/
import Derived.Test.YtbpmhfekjihhhaaWMacCuts
namespace Go.Proofs.Ytbpmhfekjihhhaa
open Go.RowKit
set_option linter.unusedVariables false

set_option maxRecDepth 100000 in
theorem cuts_skip (t0 t1 t2 t3 t4 t5 f0 f1 f2 f3 f4 f5 : Int) (A : Option Addr) (n c : Nat) (cut : Int) (A' : Option Addr) (m c' : Nat) (w : World) (h : 1500 < n ∨ grp f0 = true) :
    Calls Try.prog 8 #[.agg #[.int .u8 t0, .int .u8 t1, .int .u8 t2, .int .u8 t3, .int .u8 t4, .int .u8 t5, .int .u8 f0, .int .u8 f1, .int .u8 f2, .int .u8 f3, .int .u8 f4, .int .u8 f5, .slice A n c], .int .u16 cut, .slice A' m c'] w fun e w' => e = .returned (.bool true) ∧ Below w.heap.size w w' := by
  obtain ⟨w2, hw2⟩ : ∃ w2, Hid (w2 = w.alloc (.cells #[.int .u8 t0, .int .u8 t1, .int .u8 t2, .int .u8 t3, .int .u8 t4, .int .u8 t5, .int .u8 f0, .int .u8 f1, .int .u8 f2, .int .u8 f3, .int .u8 f4, .int .u8 f5, .slice A n c] 36)) := ⟨_, cover rfl⟩
  have H2 : Hid (Below w.heap.size w w2) := cover (by rw [hw2.out]; exact (Below.refl _ _).alloc (Nat.le_refl _) _)
  have G2 : Hid (w2.heap[w.heap.size]? = some (.cells #[.int .u8 t0, .int .u8 t1, .int .u8 t2, .int .u8 t3, .int .u8 t4, .int .u8 t5, .int .u8 f0, .int .u8 f1, .int .u8 f2, .int .u8 f3, .int .u8 f4, .int .u8 f5, .slice A n c] 36 (0, 0))) := cover (by rw [hw2.out]; exact heap_alloc_new _ _)
  have hs2 : w.heap.size < w2.heap.size := block_lt G2.out
  by_cases h1 : 1500 < n
  · have i1 : (1500 : Int) < (n : Int) := by omega
    clear h
    go_enter Try.func8, Try.ntmps8
    go_wp2_with fail
    rw [← hw2.out]
    refine (awake_any w2).mono ?_
    rintro e w3 ⟨rfl, hb3⟩
    have hs3 := hb3.size
    have H3 := cover (H2.out.trans (hb3.mono (by omega)))
    have k3 := (FrmIn.ofHeap ((hb3.block w.heap.size hs2).trans G2.out)).dat
    have k4 := (FrmIn.ofHeap ((hb3.block w.heap.size hs2).trans G2.out)).fr.all6
    clear hb3
    go_wp2
    go_ret
    exact ⟨rfl, H3.out⟩
  · have i1 : ¬ ((1500 : Int) < (n : Int)) := by omega
    have hg : Hid (grp f0 = true) := cover (h.resolve_left h1)
    clear h
    go_enter Try.func8, Try.ntmps8
    go_wp2_with fail
    rw [← hw2.out]
    refine (awake_any w2).mono ?_
    rintro e w3 ⟨rfl, hb3⟩
    have hs3 := hb3.size
    have H3 := cover (H2.out.trans (hb3.mono (by omega)))
    have k3 := (FrmIn.ofHeap ((hb3.block w.heap.size hs2).trans G2.out)).dat
    have k4 := (FrmIn.ofHeap ((hb3.block w.heap.size hs2).trans G2.out)).fr.all6
    clear hb3
    go_wp2_with fail
    refine (group_any f0 f1 f2 f3 f4 f5 w3).mono ?_
    rintro e w4 ⟨he, hb4⟩
    rw [hg.out] at he
    subst he
    have hs4 := hb4.size
    have H4 := cover (H3.out.trans (hb4.mono (by omega)))
    clear hb4
    go_wp2
    go_ret
    exact ⟨rfl, H4.out⟩

set_option maxRecDepth 100000 in
theorem cuts_none (t0 t1 t2 t3 t4 t5 f0 f1 f2 f3 f4 f5 : Int) (A : Option Addr) (n c : Nat) (cut : Int) (A' : Option Addr) (m c' : Nat) (w : World) (h1 : n ≤ 1500) (hg : Hid (grp f0 = false)) (hm : m = 0) :
    Calls Try.prog 8 #[.agg #[.int .u8 t0, .int .u8 t1, .int .u8 t2, .int .u8 t3, .int .u8 t4, .int .u8 t5, .int .u8 f0, .int .u8 f1, .int .u8 f2, .int .u8 f3, .int .u8 f4, .int .u8 f5, .slice A n c], .int .u16 cut, .slice A' m c'] w fun e w' => e = .returned (.bool true) ∧ Below w.heap.size w w' := by
  obtain ⟨w2, hw2⟩ : ∃ w2, Hid (w2 = w.alloc (.cells #[.int .u8 t0, .int .u8 t1, .int .u8 t2, .int .u8 t3, .int .u8 t4, .int .u8 t5, .int .u8 f0, .int .u8 f1, .int .u8 f2, .int .u8 f3, .int .u8 f4, .int .u8 f5, .slice A n c] 36)) := ⟨_, cover rfl⟩
  have H2 : Hid (Below w.heap.size w w2) := cover (by rw [hw2.out]; exact (Below.refl _ _).alloc (Nat.le_refl _) _)
  have G2 : Hid (w2.heap[w.heap.size]? = some (.cells #[.int .u8 t0, .int .u8 t1, .int .u8 t2, .int .u8 t3, .int .u8 t4, .int .u8 t5, .int .u8 f0, .int .u8 f1, .int .u8 f2, .int .u8 f3, .int .u8 f4, .int .u8 f5, .slice A n c] 36 (0, 0))) := cover (by rw [hw2.out]; exact heap_alloc_new _ _)
  have hs2 : w.heap.size < w2.heap.size := block_lt G2.out
  have i1 : ¬ ((1500 : Int) < (n : Int)) := by omega
  subst hm
  go_enter Try.func8, Try.ntmps8
  go_wp2_with fail
  rw [← hw2.out]
  refine (awake_any w2).mono ?_
  rintro e w3 ⟨rfl, hb3⟩
  have hs3 := hb3.size
  have H3 := cover (H2.out.trans (hb3.mono (by omega)))
  have k3 := (FrmIn.ofHeap ((hb3.block w.heap.size hs2).trans G2.out)).dat
  have k4 := (FrmIn.ofHeap ((hb3.block w.heap.size hs2).trans G2.out)).fr.all6
  clear hb3
  go_wp2_with fail
  refine (group_any f0 f1 f2 f3 f4 f5 w3).mono ?_
  rintro e w4 ⟨he, hb4⟩
  rw [hg.out] at he
  subst he
  have hs4 := hb4.size
  have H4 := cover (H3.out.trans (hb4.mono (by omega)))
  clear hb4
  go_wp2
  go_ret
  exact ⟨rfl, H4.out⟩

set_option maxRecDepth 100000 in
theorem cuts_long (t0 t1 t2 t3 t4 t5 f0 f1 f2 f3 f4 f5 : Int) (A : Option Addr) (n c : Nat) (cut : Int) (A' : Option Addr) (m c' : Nat) (w : World) (h1 : n ≤ 1500) (hg : Hid (grp f0 = false)) (hm : 20 < m) :
    Calls Try.prog 8 #[.agg #[.int .u8 t0, .int .u8 t1, .int .u8 t2, .int .u8 t3, .int .u8 t4, .int .u8 t5, .int .u8 f0, .int .u8 f1, .int .u8 f2, .int .u8 f3, .int .u8 f4, .int .u8 f5, .slice A n c], .int .u16 cut, .slice A' m c'] w fun e w' => e = .returned (.bool true) ∧ Below w.heap.size w w' := by
  obtain ⟨w2, hw2⟩ : ∃ w2, Hid (w2 = w.alloc (.cells #[.int .u8 t0, .int .u8 t1, .int .u8 t2, .int .u8 t3, .int .u8 t4, .int .u8 t5, .int .u8 f0, .int .u8 f1, .int .u8 f2, .int .u8 f3, .int .u8 f4, .int .u8 f5, .slice A n c] 36)) := ⟨_, cover rfl⟩
  have H2 : Hid (Below w.heap.size w w2) := cover (by rw [hw2.out]; exact (Below.refl _ _).alloc (Nat.le_refl _) _)
  have G2 : Hid (w2.heap[w.heap.size]? = some (.cells #[.int .u8 t0, .int .u8 t1, .int .u8 t2, .int .u8 t3, .int .u8 t4, .int .u8 t5, .int .u8 f0, .int .u8 f1, .int .u8 f2, .int .u8 f3, .int .u8 f4, .int .u8 f5, .slice A n c] 36 (0, 0))) := cover (by rw [hw2.out]; exact heap_alloc_new _ _)
  have hs2 : w.heap.size < w2.heap.size := block_lt G2.out
  have i1 : ¬ ((1500 : Int) < (n : Int)) := by omega
  have i2 : ¬ ((m : Int) = 0) := by omega
  have i3 : (20 : Int) < (m : Int) := by omega
  have i4 : ((m : Int) == 0) = false := by simpa using i2
  go_enter Try.func8, Try.ntmps8
  go_wp2_with fail
  rw [← hw2.out]
  refine (awake_any w2).mono ?_
  rintro e w3 ⟨rfl, hb3⟩
  have hs3 := hb3.size
  have H3 := cover (H2.out.trans (hb3.mono (by omega)))
  have k3 := (FrmIn.ofHeap ((hb3.block w.heap.size hs2).trans G2.out)).dat
  have k4 := (FrmIn.ofHeap ((hb3.block w.heap.size hs2).trans G2.out)).fr.all6
  clear hb3
  go_wp2_with fail
  refine (group_any f0 f1 f2 f3 f4 f5 w3).mono ?_
  rintro e w4 ⟨he, hb4⟩
  rw [hg.out] at he
  subst he
  have hs4 := hb4.size
  have H4 := cover (H3.out.trans (hb4.mono (by omega)))
  clear hb4
  go_wp2
  go_ret
  exact ⟨rfl, H4.out⟩
theorem walk_MacCuts (t0 t1 t2 t3 t4 t5 f0 f1 f2 f3 f4 f5 : Int) (A : Option Addr) (n c : Nat) (d : List Int) (cut : Int) (A' : Option Addr) (m c' : Nat) (l : List Int) (w : World) (h1 : Bts [t0, t1, t2, t3, t4, t5]) (h2 : Bts [f0, f1, f2, f3, f4, f5]) (hc : n ≤ c) (hcm : c ≤ maxLen) (hr : Row w w.heap.size A n d) (hd : Bts d) (hnil : A = none → c = 0) (wc : (Lit.int .u16 cut).wf = true)
    (hc' : m ≤ c') (hcm' : c' ≤ maxLen) (hr' : Row w w.heap.size A' m l ∧ Bts l ∧ (A' = none → c' = 0)) :
    Calls Try.prog 8 #[.agg #[.int .u8 t0, .int .u8 t1, .int .u8 t2, .int .u8 t3, .int .u8 t4, .int .u8 t5, .int .u8 f0, .int .u8 f1, .int .u8 f2, .int .u8 f3, .int .u8 f4, .int .u8 f5, .slice A n c], .int .u16 cut, .slice A' m c'] w fun e w' => e = .returned (.bool true) ∧ Below w.heap.size w w' := by
  have hcut : 0 ≤ cut ∧ cut ≤ 65535 := by
    simp only [Lit.wf, Bool.and_eq_true, decide_eq_true_eq] at wc
    have e1 : IntKind.u16.min = 0 := by decide
    have e2 : IntKind.u16.max = 65535 := by decide
    omega
  by_cases h : 1500 < n ∨ grp f0 = true
  · exact cuts_skip t0 t1 t2 t3 t4 t5 f0 f1 f2 f3 f4 f5 A n c cut A' m c' w h
  · have hn : n ≤ 1500 := by omega
    have hg : grp f0 = false := by
      cases hq : grp f0
      · rfl
      · exact absurd (.inr hq) h
    by_cases h0 : m = 0
    · exact cuts_none t0 t1 t2 t3 t4 t5 f0 f1 f2 f3 f4 f5 A n c cut A' m c' w hn (cover hg) h0
    · by_cases h20 : 20 < m
      · exact cuts_long t0 t1 t2 t3 t4 t5 f0 f1 f2 f3 f4 f5 A n c cut A' m c' w hn (cover hg) h20
      · have hs := sealOf h1 h2 hd
        have hl := hr.len
        obtain ⟨ad, x, rfl, _⟩ := hr'.1.at_ (show 0 < m by omega)
        have hsl : 0 < (sealB (bodyB [t0, t1, t2, t3, t4, t5] [f0, f1, f2, f3, f4, f5] d)).length := by have := hs.len; omega
        have hk := Int.emod_lt_of_pos cut (show (0 : Int) < ((sealB (bodyB [t0, t1, t2, t3, t4, t5] [f0, f1, f2, f3, f4, f5] d)).length : Int) by omega)
        have hk0 := Int.emod_nonneg cut (show ((sealB (bodyB [t0, t1, t2, t3, t4, t5] [f0, f1, f2, f3, f4, f5] d)).length : Int) ≠ 0 by omega)
        exact cuts_in t0 t1 t2 t3 t4 t5 f0 f1 f2 f3 f4 f5 A n c d _ cut (cut % ((sealB (bodyB [t0, t1, t2, t3, t4, t5] [f0, f1, f2, f3, f4, f5] d)).length : Int)).toNat ad m c' l w _ h1 h2 hc hcm (hr.alloc (Nat.le_refl _) _) hd hnil hn (cover hg) (cover hs) (by omega) (by omega) (hr'.1.alloc (Nat.le_refl _) _) hr'.2.1 (by omega) (by rw [Int.tmod_eq_emod_of_nonneg hcut.1]; omega) hcut.1 hcut.2 (cover rfl)
end Go.Proofs.Ytbpmhfekjihhhaa
