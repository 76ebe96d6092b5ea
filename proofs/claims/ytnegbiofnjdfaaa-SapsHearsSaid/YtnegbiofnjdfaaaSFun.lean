/- A Saps in memory: its three cells, its two maps. What may be a SAP, a class, a group; who is active, and of what class; who is in a group. -/
import Derived.BigQuiet
import Derived.Deep.QuietTactic
import Derived.Maps.OwnIn
import Derived.Test.YtnegbiofnjdfaaaSRise
namespace Go.Proofs.Ytnegbiofnjdfaaa
open Go.RowKit
set_option linter.unusedVariables false

theorem isSap_any (n : Int) (w : World) : Calls Try.prog 23 #[.int .i64 n] w fun e w' => e = .returned (.bool (decide (OkSap n))) ∧ w = w' := by
  by_cases h1 : 2 ≤ n
  · by_cases h2 : n ≤ 254
    · have h3 : n.tmod 2 = n % 2 := Int.tmod_eq_emod_of_nonneg (by omega)
      have e : decide (OkSap n) = (n % 2 == 0) := by
        rw [Bool.eq_iff_iff]; simp only [decide_eq_true_eq, beq_iff_eq]; unfold OkSap; omega
      rw [e]
      go_enter Try.func23, Try.ntmps23
      go_wp2
      go_ret
      exact ⟨rfl, rfl⟩
    · have e : decide (OkSap n) = false := by
        rw [decide_eq_false_iff_not]; unfold OkSap; omega
      rw [e]
      clear e
      go_enter Try.func23, Try.ntmps23
      go_wp2
      go_ret
      exact ⟨rfl, rfl⟩
  · have e : decide (OkSap n) = false := by
      rw [decide_eq_false_iff_not]; unfold OkSap; omega
    rw [e]
    clear e
    go_enter Try.func23, Try.ntmps23
    go_wp2
    go_ret
    exact ⟨rfl, rfl⟩
theorem isGroup_any (n : Int) (w : World) : Calls Try.prog 26 #[.int .i64 n] w fun e w' => e = .returned (.bool (decide (OkGrp n))) ∧ w = w' := by
  by_cases h1 : 1 ≤ n
  · by_cases h2 : n ≤ 253
    · have h3 : n.tmod 2 = n % 2 := Int.tmod_eq_emod_of_nonneg (by omega)
      have e : decide (OkGrp n) = (n % 2 == 1) := by
        rw [Bool.eq_iff_iff]; simp only [decide_eq_true_eq, beq_iff_eq]; unfold OkGrp; omega
      rw [e]
      go_enter Try.func26, Try.ntmps26
      go_wp2
      go_ret
      exact ⟨rfl, rfl⟩
    · have e : decide (OkGrp n) = false := by
        rw [decide_eq_false_iff_not]; unfold OkGrp; omega
      rw [e]
      clear e
      go_enter Try.func26, Try.ntmps26
      go_wp2
      go_ret
      exact ⟨rfl, rfl⟩
  · have e : decide (OkGrp n) = false := by
      rw [decide_eq_false_iff_not]; unfold OkGrp; omega
    rw [e]
    clear e
    go_enter Try.func26, Try.ntmps26
    go_wp2
    go_ret
    exact ⟨rfl, rfl⟩
theorem isClass_any (n : Int) (w : World) : Calls Try.prog 24 #[.int .i64 n] w fun e w' => e = .returned (.bool (decide (OkCls n))) ∧ w = w' := by
  by_cases h1 : 1 ≤ n
  · by_cases h2 : n ≤ 4
    · have e : decide (OkCls n) = true := by
        rw [decide_eq_true_iff]; unfold OkCls; omega
      rw [e]
      go_enter Try.func24, Try.ntmps24
      go_wp2
      go_ret
      exact ⟨rfl, rfl⟩
    · have e : decide (OkCls n) = false := by
        rw [decide_eq_false_iff_not]; unfold OkCls; omega
      rw [e]
      clear e
      go_enter Try.func24, Try.ntmps24
      go_wp2
      go_ret
      exact ⟨rfl, rfl⟩
  · have e : decide (OkCls n) = false := by
      rw [decide_eq_false_iff_not]; unfold OkCls; omega
    rw [e]
    clear e
    go_enter Try.func24, Try.ntmps24
    go_wp2
    go_ret
    exact ⟨rfl, rfl⟩

/-- a Saps at block s: its maps lie at a and b -/
structure SapsIn (w : World) (s a b : Nat) (l : List SV) : Prop where
  hd : w.heap[s]? = some (.cells #[.int .i64 16, .map (some a), .map (some b)] 52 (0, 0))
  act : ActIn w a l
  seat : SeatIn w b l
  ab : a ≠ b
  ok : InS l
def sfoot (s a b : Nat) : Foot := fun i => i = s ∨ i = a ∨ i = b
theorem ActIn.keep {w w' : World} {a : Nat} {l : List SV} (h : ActIn w a l) (hk : w'.heap[a]? = w.heap[a]?) : ActIn w' a l := by
  obtain ⟨D, h1, h2⟩ := h.ex; exact ⟨D, own_kept h1 hk, h2⟩
theorem SeatIn.keep {w w' : World} {b : Nat} {l : List SV} (h : SeatIn w b l) (hk : w'.heap[b]? = w.heap[b]?) : SeatIn w' b l := by
  obtain ⟨D, h1, h2⟩ := h.ex; exact ⟨D, own_kept h1 hk, h2⟩
section
variable {w w' : World} {s a b : Nat} {l : List SV}
theorem SapsIn.keep (h : SapsIn w s a b l) (hk : ∀ i, sfoot s a b i → w'.heap[i]? = w.heap[i]?) : SapsIn w' s a b l :=
  ⟨(hk s (.inl rfl)).trans h.hd, h.act.keep (hk a (.inr (.inl rfl))), h.seat.keep (hk b (.inr (.inr rfl))), h.ab, h.ok⟩
theorem SapsIn.lt (h : SapsIn w s a b l) {i : Nat} (hi : sfoot s a b i) : i < w.heap.size := by
  rcases hi with rfl | rfl | rfl
  · exact block_lt h.hd
  · obtain ⟨D, h1, _⟩ := h.act.ex; exact h1.lt
  · obtain ⟨D, h1, _⟩ := h.seat.ex; exact h1.lt
theorem SapsIn.below (h : SapsIn w s a b l) (hb : Below w.heap.size w w') : SapsIn w' s a b l := h.keep fun i hi => hb.block i (h.lt hi)
theorem SapsIn.drewN (h : SapsIn w s a b l) (n : Nat) : SapsIn (w.drewN n) s a b l := h.keep fun _ _ => rfl
theorem SapsIn.cells (h : SapsIn w s a b l) : w.cell? ⟨s, 0, none⟩ = some (.int .i64 16) ∧ w.cell? ⟨s, 1, none⟩ = some (.map (some a)) ∧ w.cell? ⟨s, 2, none⟩ = some (.map (some b)) :=
  ⟨by rw [cell_of_row _ _ _ _ _ _ h.hd]; rfl, by rw [cell_of_row _ _ _ _ _ _ h.hd]; rfl, by rw [cell_of_row _ _ _ _ _ _ h.hd]; rfl⟩
theorem SapsIn.sa (h : SapsIn w s a b l) : s ≠ a ∧ s ≠ b := by
  constructor
  · rintro rfl
    obtain ⟨D, h1, _⟩ := h.act.ex
    obtain ⟨es, c, h2⟩ := own_obj h1
    rw [h.hd] at h2; cases h2
  · rintro rfl
    obtain ⟨D, h1, _⟩ := h.seat.ex
    obtain ⟨es, c, h2⟩ := own_obj h1
    rw [h.hd] at h2; cases h2
end
/-- who is active -/
theorem look_act {w : World} {a : Nat} {l : List SV} (h : ActIn w a l) {n : Int} (hn : I64 n) (c : Bool) : (Instr.lookup 49 (.map (some a)) (.int .i64 n) c).run Try.prog w = .ok (if c = true then .tuple #[.agg #[.int .i64 (clsS l n)], .bool (hasS l n)] else .agg #[.int .i64 (clsS l n)]) w := by
  obtain ⟨D, h1, h2⟩ := h.ex
  have hz : ∀ w, (zeroValue 55).run Try.prog w = .ok (.agg #[.int .i64 0]) w := Try.zeroValue55
  have e1 : D.atKey (kI n) (.lit (.int .i64 0)) = .lit (.int .i64 (clsS l n)) := by
    rw [h2 n hn]
    split
    · rfl
    · rename_i h3; rw [clsS_no (by simpa using h3)]
  cases c
  · obtain ⟨v, ps, hr, hv⟩ := h1.lookup lawI Try.underlying49 (hz w) (zd := .lit (.int .i64 0)) (zp := []) rfl (key_I hn)
    obtain ⟨c, rfl, hz⟩ := openElem_inv hv
    rw [e1] at hz
    simp at hz
    rw [hr, hz.1]; rfl
  · obtain ⟨v, ps, hr, hv⟩ := h1.look_ok lawI Try.underlying49 (hz w) (zd := .lit (.int .i64 0)) (zp := []) rfl (key_I hn)
    obtain ⟨c, rfl, hz⟩ := openElem_inv hv
    rw [e1] at hz
    simp at hz
    rw [hr, hz.1, has_at (h2 n hn)]; rfl
/-- who is in a group -/
theorem look_seat {w : World} {b : Nat} {l : List SV} (h : SeatIn w b l) {n g : Int} (hn : I64 n) (hg : I64 g) : (Instr.lookup 50 (.map (some b)) (seatV n g) true).run Try.prog w = .ok (.tuple #[.agg #[], .bool (memS l n g)]) w := by
  obtain ⟨D, h1, h2⟩ := h.ex
  obtain ⟨v, ps, hr, hv⟩ := h1.look_ok lawS Try.underlying50 (Try.zeroValue57 w) (zd := .agg []) (zp := []) unitElem_mk (key_S hn hg)
  obtain ⟨rfl, hz⟩ := unitElem_inv hv
  rw [hr, h2 n g hn hg]
set_option maxHeartbeats 800000 in
theorem isActive_any {w : World} {s a b : Nat} {l : List SV} (h : SapsIn w s a b l) {n : Int} (hn : I64 n) :
    Calls Try.prog 25 #[ptr s, .int .i64 n] w fun e w' => e = .returned (.bool (hasS l n)) ∧ Below w.heap.size w w' := by
  have hlk := look_act h.act hn true
  rw [if_pos rfl] at hlk
  obtain ⟨_, h1, _⟩ := h.cells
  clear h hn
  go_enter Try.func25, Try.ntmps25
  go_wp2
  go_ret
  exact ⟨rfl, (Below.refl _ _).alloc (Nat.le_refl _) _⟩
set_option maxHeartbeats 800000 in
theorem isIn_any {w : World} {s a b : Nat} {l : List SV} (h : SapsIn w s a b l) {n g : Int} (hn : I64 n) (hg : I64 g) :
    Calls Try.prog 27 #[ptr s, .int .i64 n, .int .i64 g] w fun e w' => e = .returned (.bool (memS l n g)) ∧ Below w.heap.size w w' := by
  have hlk := look_seat h.seat hn hg
  obtain ⟨_, _, h2⟩ := h.cells
  clear h hn hg
  go_enter Try.func27, Try.ntmps27
  go_wp2
  go_ret
  exact ⟨rfl, (Below.refl _ _).alloc (Nat.le_refl _) _⟩
set_option maxHeartbeats 800000 in
theorem class_any {w : World} {s a b : Nat} {l : List SV} (h : SapsIn w s a b l) {n : Int} (hn : I64 n) :
    Calls Try.prog 16 #[ptr s, .int .i64 n] w fun e w' => e = .returned (.int .i64 (clsS l n)) ∧ w = w' := by
  have hlk := look_act h.act hn false
  rw [if_neg (by decide)] at hlk
  obtain ⟨_, h1, _⟩ := h.cells
  have hfd : ∀ w, (Instr.field 55 (.agg #[.int .i64 (clsS l n)]) 0).run Try.prog w = .ok (.int .i64 (clsS l n)) w := fun _ => by kernel_rfl
  clear h hn
  go_enter Try.func16, Try.ntmps16
  go_wp2
  go_ret
  exact ⟨rfl, rfl⟩
set_option maxHeartbeats 800000 in
theorem list_any {w : World} {s a b : Nat} {l : List SV} (h : SapsIn w s a b l) : Calls Try.prog 19 #[ptr s] w (Out (listS l) w) := by
  obtain ⟨D, k1, k2⟩ := h.act.ex
  have HR := riseA_any k1 (T := listS l) ⟨(act_keys h.ok k1 k2).1, by rw [list_len]; exact (act_keys h.ok k1 k2).2⟩ (by have := h.ok.room; rw [list_len]; omega)
  obtain ⟨_, h1, _⟩ := h.cells
  clear h k1 k2
  go_enter Try.func19, Try.ntmps19
  go_wp2_with fail
  refine HR.mono ?_
  rintro e w' ⟨A, cp, rfl, hh⟩
  go_wp2
  go_ret
  exact ⟨A, cp, rfl, hh⟩
set_option maxHeartbeats 800000 in
theorem new_any (w : World) : Calls Try.prog 10 #[] w fun e w' => ∃ s a b, e = .returned (ptr s) ∧ Hid (SapsIn w' s a b [] ∧ Below w.heap.size w w' ∧ ∀ i, sfoot s a b i → w.heap.size ≤ i) := by
  obtain ⟨w1, hw1⟩ : ∃ w1, w1 = ((w.alloc (.map #[] 0)).alloc (.map #[] 0)).alloc (.cells #[.int .i64 16, .map (some w.heap.size), .map (some (w.heap.size + 1))] 52) := ⟨_, rfl⟩
  have HF : Hid (SapsIn w1 (w.heap.size + 2) w.heap.size (w.heap.size + 1) [] ∧ Below w.heap.size w w1 ∧ ∀ i, sfoot (w.heap.size + 2) w.heap.size (w.heap.size + 1) i → w.heap.size ≤ i) := by
    have hm0 := World.ownsMap_made w Try.prog 3 openElem
    have hm1 := World.ownsMap_made (H := Unit) (w.alloc (.map #[] 0)) Try.prog 59 unitElem
    rw [World.size_alloc] at hm1
    have e0 : w1.heap[w.heap.size]? = (w.alloc (.map #[] 0)).heap[w.heap.size]? := by
      rw [hw1, Below.heap_alloc _ _ _ (by simp; omega), Below.heap_alloc _ _ _ (by simp)]
    have e1 : w1.heap[w.heap.size + 1]? = ((w.alloc (.map #[] 0)).alloc (.map #[] 0)).heap[w.heap.size + 1]? := by
      rw [hw1, Below.heap_alloc _ _ _ (by simp)]
    refine cover ⟨⟨?_, ⟨.map [], own_tight (own_kept hm0 e0), fun x _ z => rfl⟩, ⟨.map [], own_tight (own_kept hm1 e1), fun x g _ _ => rfl⟩, by omega, InS.nil⟩, ?_, ?_⟩
    · rw [hw1]
      have := World.alloc_heap_new ((w.alloc (.map #[] 0)).alloc (.map #[] 0)) (.cells #[.int .i64 16, .map (some w.heap.size), .map (some (w.heap.size + 1))] 52)
      simpa using this
    · rw [hw1]
      exact (((Below.refl _ w).alloc (Nat.le_refl _) _).alloc (by simp) _).alloc (by simp; omega) _
    · rintro i (rfl | rfl | rfl) <;> omega
  have hw2 : World.alloc (World.alloc (World.alloc w (.map #[] 0)) (.map #[] 0)) (.cells #[.int .i64 16, .map (some w.heap.size), .map (some (w.heap.size + 1))] 52) = w1 := hw1.symm
  clear hw1
  have hm1 : ∀ w, (Instr.makeMap 49 none).run Try.prog w = .ok (.map (some w.heap.size)) (w.alloc (.map #[] 0)) := fun w => run_makeMap _ w
  have hm2 : ∀ w, (Instr.makeMap 50 none).run Try.prog w = .ok (.map (some w.heap.size)) (w.alloc (.map #[] 0)) := fun w => run_makeMap _ w
  go_enter Try.func10, Try.ntmps10
  go_wp2
  go_ret
  exact ⟨_, _, _, rfl, HF⟩
end Go.Proofs.Ytnegbiofnjdfaaa
