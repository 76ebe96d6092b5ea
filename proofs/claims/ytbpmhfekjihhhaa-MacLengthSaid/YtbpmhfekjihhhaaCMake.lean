/- What Make hands back. -/
import Derived.Test.YtbpmhfekjihhhaaCMore
namespace Go.Proofs.Ytbpmhfekjihhhaa
open Go.RowKit

def zeroCells : Array Value := Array.replicate 256 (.int .u32 0)
theorem zero_tab (w : World) : (zeroValue 26).run Try.prog w = .ok (.agg zeroCells) w := by kernel_rfl
theorem alloc_tab (w : World) : (Instr.alloc 26 true (.tuple #[])).run Try.prog w = .ok (.pointer (some ⟨w.heap.size, 0, none⟩)) (w.alloc (.cells zeroCells 26)) := by
  unfold Instr.alloc
  rw [Sem.run_bind, zero_tab]
  simp [newVar, newRow, Value.cells]
theorem tab_size : (Try.prog.info? 26).map (·.size) = some 256 := by kernel_rfl

/-- a row of the table that Make makes -/
def tabRow (i : Nat) : W32 := steps 8 (BitVec.ofNat 32 i)
/-- so many rows are made -/
def mkTo (k i : Nat) : W32 := if i < k then tabRow i else 0
theorem IsTab.zero : IsTab zeroCells (fun _ => 0) := ⟨by simp [zeroCells], fun i hi => by simp [zeroCells, hi, rg]⟩
theorem IsTab.next {T : Array Value} {k : Nat} (h : IsTab T (mkTo k)) (hk : k < 256) : IsTab (T.setIfInBounds k (.int .u32 (rg (tabRow k)))) (mkTo (k + 1)) := by
  refine ⟨by simp [h.size], fun i hi => ?_⟩
  rw [Array.getElem?_setIfInBounds]
  by_cases e : k = i
  · subst e
    rw [if_pos rfl, if_pos (by rw [h.size]; exact hk)]
    unfold mkTo; rw [if_pos (by omega)]
  · rw [if_neg e, h.at_ i hi]
    unfold mkTo
    by_cases hl : i < k
    · rw [if_pos hl, if_pos (by omega)]
    · rw [if_neg hl, if_neg (by omega)]
theorem IsTab.one {T : Array Value} {f : Nat → W32} (h : IsTab T f) : T.all (·.oneCell') = true := by
  rw [Array.all_eq_true]
  intro i hi
  have h1 := h.at_ i (by rw [← h.size]; exact hi)
  rw [Array.getElem?_eq_getElem hi] at h1
  injection h1 with h1
  rw [h1]; rfl
theorem IsTab.congr {T : Array Value} {f g : Nat → W32} (h : IsTab T f) (e : ∀ i, i < 256 → f i = g i) : IsTab T g := ⟨h.size, fun i hi => by rw [h.at_ i hi, e i hi]⟩
theorem below_setRow {B g : Nat} {a w : World} (h : Below B a w) (hg : B ≤ g) (cs : Array Value) : Below B a (w.setRow g cs) :=
  ⟨h.os, h.tape, h.output, by simpa using h.size, fun i hi => (setRow_other w g i cs (by omega)).trans (h.block i hi)⟩
/-- at the head of a round of Make -/
def MakeAt (w : World) (k : Nat) (wr : World) : Prop :=
  ∃ T, IsTab T (mkTo k) ∧ wr.heap[w.heap.size + 1]? = some (.cells T 26 (0, 0)) ∧ wr.heap[w.heap.size]? = some (.cells zeroCells 26 (0, 0)) ∧ Below w.heap.size w wr
theorem MakeAt.step {w wr : World} {k : Nat} (h : MakeAt w k wr) (hk : k < 256) :
    (∃ u, wr.cell? ⟨w.heap.size + 1, k, none⟩ = some u) ∧ wr.frozen? ⟨w.heap.size + 1, k, none⟩ = false ∧ MakeAt w (k + 1) (wr.setCell ⟨w.heap.size + 1, k, none⟩ (.int .u32 (rg (tabRow k)))) := by
  obtain ⟨T, hT, h1, h0, hb⟩ := h
  refine ⟨⟨_, (cell_of_row _ _ _ _ _ _ h1).trans (hT.at_ k hk)⟩, frozen_of_row _ _ _ _ _ h1, _, hT.next hk, heap_setCell_same _ _ _ _ _ _ h1, ?_, hb.setCell (by simp) _⟩
  rw [heap_setCell_other _ _ _ _ (by simp)]; exact h0
theorem rg_small {k : Nat} (h : k < 256) : (k : Int) = rg (BitVec.ofNat 32 k) := by
  unfold rg; rw [BitVec.toNat_ofNat, Nat.mod_eq_of_lt (by omega)]
/-- Make has handed out its table -/
def MadeTab (w : World) (e : Ending) (w' : World) : Prop := ∃ T, e = .returned (.agg T) ∧ IsTab T tabRow ∧ Below w.heap.size w w'

set_option maxRecDepth 100000 in
set_option maxHeartbeats 400000 in
theorem make_any (w : World) : Calls Try.prog 13 #[] w (MadeTab w) := by
  go_enter Try.func13, Try.ntmps13
  go_wp2_with (refine new_var rfl _ rfl _ _ (alloc_tab _) ?_)
  have hst : Hid (MakeAt w 0 ((w.alloc (.cells zeroCells 26)).alloc (.cells zeroCells 26))) := cover ⟨zeroCells, IsTab.zero.congr (fun i hi => rfl), heap_alloc2_new _ _ _, heap_alloc2_old _ _ _, ((Below.refl _ _).alloc (Nat.le_refl _) _).alloc (by simp) _⟩
  go_loopw [3] (fun i wr => ∃ k : Nat, k ≤ 256 ∧ i = .int .i64 k ∧ Hid (MakeAt w k wr)) (fun i _ => 256 - (intOf i).toNat)
  case atStart => exact ⟨0, Nat.zero_le _, rfl, hst⟩
  case round =>
    obtain ⟨k, hk, rfl, hat⟩ := hrel
    clear hst
    by_cases hlt : k < 256
    · obtain ⟨⟨u, hc⟩, hf, hn⟩ := hat.out.step hlt
      have HN := cover hn
      have HS := cover (rg_small hlt)
      clear hn
      go_wp2_with (go_at_call 34; refine (shift_any _ _ _ HS).mono ?_; rintro e w' ⟨rfl, rfl⟩)
      go_roundw
      case rel => exact ⟨k + 1, by omega, by go_num, HN⟩
      case measure => simp [intOf]; omega
    · obtain rfl : k = 256 := by omega
      obtain ⟨T, hT, h1, h0, hb⟩ := hat.out
      have H1 := cover h1
      have H0 := cover h0
      clear h1 h0 hat
      go_wp2_with (first
        | (refine wpList_load_row rfl _ _ rfl (w.heap.size + 1) rfl _ T (0, 0) _ H1.out Try.underlying26 rfl (by rw [hT.size]; exact tab_size) ?_)
        | (refine wpList_store_row rfl _ _ _ rfl w.heap.size T rfl rfl _ zeroCells H0.out (by rw [hT.size]; exact tab_size) (by rw [hT.size]; simp [zeroCells]) hT.one ?_))
      exact bodyPost_ret (v := .agg T) (results_cell_row (by rfl) _ _ w.heap.size _ T (0, 0) _ rfl (setRow_heap _ _ _ _ _ _ H0.out) Try.underlying26 rfl (by rw [hT.size]; exact tab_size)) rfl ⟨T, rfl, hT.congr (fun i hi => by unfold mkTo; rw [if_pos hi]), below_setRow hb (Nat.le_refl _) _⟩
end Go.Proofs.Ytbpmhfekjihhhaa
