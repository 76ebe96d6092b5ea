/- New memory for bytes; a lan is made. -/
import Derived.Deep.AppendSrc
import Derived.Test.YtjidhpmjdhjciaaFLan
namespace Go.Proofs.Ytjidhpmjdhjciaa
open Go.RowKit
set_option linter.unusedVariables false

theorem u8_info : (Try.prog.info? 5).map (fun i => (i.zero, i.size, i.bytes)) = some (some (.int .u8 0), 1, 1) := by kernel_rfl
theorem copy_nil (A : Option Addr) (c : Nat) (w : World) : Calls Try.prog 35 #[.slice A 0 c] w (GivesB w []) := by
  go_enter Try.func35, Try.ntmps35
  go_wp2
  go_ret
  exact ⟨none, 0, rfl, OwnB.nil _ _, Below.refl _ _⟩
set_option maxHeartbeats 400000 in
theorem copyOf_any (A : Option Addr) (n c B : Nat) (l : List Int) (w : World) (hr : Row w B A n l) (hmax : n ≤ 140737488355328) :
    Calls Try.prog 35 #[.slice A n c] w (GivesB w l) := by
  have hl := hr.len
  rcases n with _ | n
  · obtain rfl : l = [] := List.eq_nil_of_length_eq_zero hl
    exact copy_nil A c w
  rcases A with _ | ad
  · obtain ⟨ad, e, _⟩ := hr.cells 0 (by omega); cases e
  obtain ⟨i0, hi, hz0, hz1, hz2⟩ := info_parts u8_info
  have hsrc : Src Try.prog i0.size 28 (.slice (some ad) (n + 1) c) (n + 1) (l.map (Value.int .u8)) w := by
    rw [hz1]
    exact Src.ofSlice w Try.underlying28 ad (n + 1) c (l.map (Value.int .u8)) (by simp [hl]) hr.news (fun u hu => by obtain ⟨x, _, rfl⟩ := List.mem_map.1 hu; rfl)
  have hrun := fun ty => run_append_grow_src w 28 28 ty 5 i0 (.int .u8 0) Try.underlying28 hi hz0 (some ad) 0 0 [] (by rw [hz1]; exact run_firstCells_some w.drew 1 0 ad 0 0 [] (by simp) (fun j u hj => by simp at hj)) _ (n + 1) _ hsrc (by omega) (by omega) (by rw [hz2]; exact growslice_fits (by omega) (by omega))
  simp only [Nat.zero_add, List.nil_append] at hrun
  have hge := grownCap_ge w (n + 1) 0 5
  obtain ⟨w1, hw1⟩ : ∃ w1, w1 = w.drew.alloc (.cells ((l.map (Value.int .u8)).toArray ++ Builtin.zeroCells (Value.int .u8 0).cells (grownCap w (n + 1) 0 5 - (n + 1))) 5) := ⟨_, rfl⟩
  rw [← hw1] at hrun
  have HF : Hid (GivesB w l (.returned (.slice (some ⟨w.heap.size, 0, none⟩) (n + 1) (grownCap w (n + 1) 0 5))) w1) := by
    refine cover ⟨some ⟨w.heap.size, 0, none⟩, grownCap w (n + 1) 0 5, by rw [hl], ?_, by rw [hw1]; exact (Below.refl _ _).drew.alloc (Nat.le_refl _) _⟩
    refine ⟨by simp, .inr ⟨w.heap.size, _, _, rfl, Nat.le_refl _, by rw [hw1]; exact heap_alloc_new w.drew _, by omega, ?_, ?_, ?_⟩⟩
    · exact grownCap_le_maxLen w _ _ _ (by unfold maxLen; omega)
    · simp [Builtin.zeroCells, Value.cells]; omega
    · simp
  generalize grownCap w (n + 1) 0 5 = cp at hrun hge HF
  clear hi hz0 hz1 hz2 hsrc hr hl hw1
  go_enter Try.func35, Try.ntmps35
  go_wp2_with (at_builtin; refine Lib.wpList_append_run _ rfl _ _ _ _ rfl _ _ rfl rfl _ _ (hrun _) ?_)
  go_ret
  exact HF.out
end Go.Proofs.Ytjidhpmjdhjciaa
