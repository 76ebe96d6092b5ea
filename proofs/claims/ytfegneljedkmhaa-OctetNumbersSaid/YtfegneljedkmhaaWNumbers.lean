/- The walk of OctetNumbers. -/
import Derived.Test.YtfegneljedkmhaaOAwake
import Derived.Test.YtfegneljedkmhaaOFrame
import Derived.Test.YtfegneljedkmhaaORef
namespace Go.Proofs.Ytfegneljedkmhaa
open Go.RowKit
set_option linter.unusedVariables false

set_option maxHeartbeats 800000 in
theorem numbers_yes (n : Int) (k : Nat) (A : Option Addr) (len cap : Nat) (l : List Int) (w : World) (hr : Row w w.heap.size A len l) (hb : Bts l) (hl : len ≤ 100) (hf : fitsB n k = true) :
    Calls Try.prog 4 #[.int .i64 n, .int .i64 k, .slice A len cap] w fun e w' => e = .returned (.bool true) ∧ Below w.heap.size w w' := by
  have HF := cover hf
  have HB := cover hb
  obtain ⟨hk1, hk7, _, _⟩ := (fitsB_iff n k).1 hf
  have HG : Hid (getB (low n k) = n) := cover (by have := getB_putv hf; rw [putv_yes hf] at this; simpa using this)
  clear hf hb
  have hk0 : ((k : Int) == 0) = false := by simp; omega
  go_enter Try.func4, Try.ntmps4
  go_wp2_with fail
  refine (awake_any w).mono ?_
  rintro e w0 ⟨rfl, hb0⟩
  go_wp2_with fail
  refine (put_fit n k w0 HF.out).mono ?_
  rintro e w1 ⟨A1, c1, rfl, hc1, hr1, hb1⟩
  go_wp2_with fail
  refine (ref_put_fit n k w1 HF.out).mono ?_
  rintro e w2 ⟨A2, c2, rfl, hc2, hr2, hb2⟩
  go_wp2_with fail
  refine (same_any A1 A2 k c1 c2 _ _ (low n k) (low n k) w2 (hr1.below hb2) hr2 (by omega)).mono ?_
  rintro e w3 ⟨rfl, d3, rfl⟩
  go_wp2_with fail
  have hrow : Row w2 w.heap.size A len l := ((hr.below hb0).below (hb1.mono hb0.size)).below (hb2.mono (Nat.le_trans hb0.size hb1.size))
  refine (get_any A len cap _ l _ (hrow.drewN d3) HB.out).mono ?_
  rintro e w4 ⟨rfl, rfl⟩
  go_wp2_with fail
  refine (ref_get_any A len cap _ l _ (hrow.drewN d3) HB.out (by omega)).mono ?_
  rintro e w4 ⟨rfl, rfl⟩
  go_wp2_with fail
  refine (get_any A1 k c1 _ (low n k) _ ((hr1.below hb2).drewN d3) (low_bts _ _)).mono ?_
  rintro e w4 ⟨he, rfl⟩
  rw [HG.out] at he
  subst he
  go_wp2
  go_ret
  exact ⟨rfl, below_drewN ((hb0.trans (hb1.mono hb0.size)).trans (hb2.mono (Nat.le_trans hb0.size hb1.size))) _⟩

set_option maxHeartbeats 800000 in
theorem numbers_no (n wd : Int) (A : Option Addr) (len cap : Nat) (l : List Int) (w : World) (hn : n ≤ 9223372036854775807) (hr : Row w w.heap.size A len l) (hb : Bts l) (hl : len ≤ 100) (hf : fitsB n wd = false) :
    Calls Try.prog 4 #[.int .i64 n, .int .i64 wd, .slice A len cap] w fun e w' => e = .returned (.bool true) ∧ Below w.heap.size w w' := by
  have HF := cover hf
  have HB := cover hb
  clear hf hb
  go_enter Try.func4, Try.ntmps4
  go_wp2_with fail
  refine (awake_any w).mono ?_
  rintro e w0 ⟨rfl, hb0⟩
  go_wp2_with fail
  refine (put_no n wd w0 HF.out hn).mono ?_
  rintro e w1 ⟨rfl, rfl⟩
  go_wp2_with fail
  refine (ref_put_no n wd w0 HF.out).mono ?_
  rintro e w2 ⟨rfl, rfl⟩
  go_wp2_with fail
  refine (same_any none none 0 0 0 0 0 [] [] w0 RowK.none_ RowK.none_ (by omega)).mono ?_
  rintro e w3 ⟨rfl, d3, rfl⟩
  go_wp2_with fail
  refine (get_any A len cap _ l _ ((hr.below hb0).drewN d3) HB.out).mono ?_
  rintro e w4 ⟨rfl, rfl⟩
  go_wp2_with fail
  refine (ref_get_any A len cap _ l _ ((hr.below hb0).drewN d3) HB.out (by omega)).mono ?_
  rintro e w4 ⟨rfl, rfl⟩
  go_wp2
  go_ret
  exact ⟨rfl, below_drewN hb0 _⟩

theorem walk_OctetNumbers (n wd : Int) (A : Option Addr) (len cap : Nat) (l : List Int) (w : World) (wn : (Lit.int .i64 n).wf = true) (_ : (Lit.int .i64 wd).wf = true) (hlc : len ≤ cap) (hcm : cap ≤ maxLen) (hr : Row w w.heap.size A len l) (hb : ∀ x ∈ l, (Lit.int .u8 x).wf = true) :
    Calls Try.prog 4 #[.int .i64 n, .int .i64 wd, .slice A len cap] w fun e w' => e = .returned (.bool true) ∧ Below w.heap.size w w' := by
  have h1 := i64_of_wf wn
  have h3 := bts_of_wf hb
  unfold maxLen at hcm
  by_cases hl : len ≤ 100
  · by_cases hf : fitsB n wd = true
    · obtain ⟨k, rfl⟩ : ∃ k : Nat, (k : Int) = wd := ⟨wd.toNat, by have := (fitsB_iff n wd).1 hf; omega⟩
      exact numbers_yes n k A len cap l w hr h3 hl hf
    · exact numbers_no n wd A len cap l w h1.2 hr h3 hl (by simpa using hf)
  · have hl' : 100 < len := by omega
    clear hb h3 hl wn
    go_enter Try.func4, Try.ntmps4
    go_wp2_with fail
    refine (awake_any w).mono ?_
    rintro e w0 ⟨rfl, hb0⟩
    go_wp2
    go_ret
    exact ⟨rfl, hb0⟩
end Go.Proofs.Ytfegneljedkmhaa
