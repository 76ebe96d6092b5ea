/- The walk of CrcZero. -/
import Derived.Test.YtckjbndkoompmaaCAwake
import Derived.Test.YtckjbndkoompmaaOFrame
namespace Go.Proofs.Ytckjbndkoompmaa
open Go.RowKit
set_option linter.unusedVariables false

/-- so many times eight bits on -/
def sh8 : Nat → W32 → W32
  | 0, s => s
  | n + 1, s => (sh8 n s) >>> 8
theorem runT_zero (l : List Int) (s : W32) : runT (fun _ => 0) s l = sh8 l.length s := by
  have h : ∀ k, k ≤ l.length → runT (fun _ => 0) s (l.take k) = sh8 k s := by
    intro k hk
    induction k with
    | zero => rfl
    | succ k ih =>
      rw [runT_take_succ _ _ _ _ (by omega), ih (by omega)]
      show (sh8 k s >>> 8) ^^^ 0 = _
      exact BitVec.xor_zero
  have := h l.length (Nat.le_refl _)
  rwa [List.take_length] at this
theorem TabIn.zero {w : World} {g : Nat} (h : w.heap[g]? = some (.cells zeroCells 26 (0, 0))) : TabIn w g zeroCells (fun _ => 0) := ⟨h, IsTab.zero⟩

set_option maxRecDepth 100000 in
set_option maxHeartbeats 800000 in
theorem walk_CrcZero (A : Option Addr) (len cap : Nat) (l : List Int) (w : World) (hlc : len ≤ cap) (hcm : cap ≤ maxLen) (hr : RowK .u8 w w.heap.size A len l) (hb : ∀ x ∈ l, (Lit.int .u8 x).wf = true) :
    Calls Try.prog 6 #[.slice A len cap] w fun e w' => e = .returned (.bool true) ∧ Below w.heap.size w w' := by
  unfold maxLen at hcm
  have HB := cover (bts_of_wf hb)
  have HL := cover hr.len
  clear hb
  by_cases hl : 300 < len
  · go_enter Try.func6, Try.ntmps6
    go_wp2_with fail
    refine (awake_any w).mono ?_
    rintro e w0 ⟨rfl, hb0⟩
    go_wp2
    go_ret
    exact ⟨rfl, hb0⟩
  · go_enter Try.func6, Try.ntmps6
    go_wp2_with fail
    refine (awake_any w).mono ?_
    rintro e w0 ⟨rfl, hb0⟩
    go_wp2_with (refine new_var rfl _ rfl _ _ (alloc_tab _) ?_)
    refine (make_any _).mono ?_
    rintro e w1 ⟨T, rfl, hT, hb1⟩
    have hs0 := hb0.size
    have hbel : Below w.heap.size w w1 := (hb0.alloc hs0 _).trans (hb1.mono (by simp; omega))
    have hz : TabIn w1 w0.heap.size zeroCells (fun _ => 0) := TabIn.zero ((hb1.block w0.heap.size (by simp)).trans (heap_alloc_new _ _))
    have hr1 := hr.below hbel
    clear hb0 hb1 hr
    obtain ⟨a, ha⟩ : ∃ a : W32, Hid (a = ~~~ 0) := ⟨_, cover rfl⟩
    go_wp2_with fail
    go_loop [4, 5] (fun s i => ∃ k : Nat, k ≤ len ∧ i = .int .i64 k ∧ s = .int .u32 (rg (sh8 k a))) (fun _ i => len - (intOf i).toNat)
    case atStart => exact ⟨0, Nat.zero_le _, rfl, by rw [ha.out]; rfl⟩
    case round =>
      obtain ⟨k, hk, rfl, rfl⟩ := hrel
      by_cases hlt : k < len
      · have hbd := rg_bd (sh8 k a)
        have hn : Hid (rg (sh8 k a) / (256 : Int) = rg (sh8 (k + 1) a)) := cover (rg_shr8 _)
        go_wp2
        go_round
        case rel => exact ⟨k + 1, by omega, by go_num, by rw [hn.out]⟩
        case measure => simp [intOf]; omega
      · obtain rfl : k = len := by omega
        go_wp2_with (refine load_tab rfl _ rfl _ _ _ hz rfl ?_)
        refine (sum_any zeroCells (fun _ => 0) A k cap w.heap.size l w1 IsTab.zero hr1 hbel.size HB.out (by omega)).mono ?_
        rintro e w2 ⟨rfl, hb2⟩
        have hv : bits BinOp.xor IntKind.u32 IntKind.u32.max (rg (sh8 k a)) = rg (moreT (fun _ => 0) 0 l) := by
          rw [rg_not]; unfold moreT; rw [runT_zero, HL.out, ha.out]
        have hs1 := hbel.size
        go_wp2
        go_ret
        exact ⟨rfl, hbel.trans (hb2.mono hs1)⟩
end Go.Proofs.Ytckjbndkoompmaa
