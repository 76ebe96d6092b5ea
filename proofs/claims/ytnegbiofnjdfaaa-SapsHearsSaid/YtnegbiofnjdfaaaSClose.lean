/- What Close does. -/
import Derived.Test.YtnegbiofnjdfaaaSOpen
namespace Go.Proofs.Ytnegbiofnjdfaaa
open Go.RowKit
set_option linter.unusedVariables false

theorem del_act {w : World} {a : Nat} {l : List SV} (h : ActIn w a l) {n : Int} (hn : I64 n) (ty : TypeId) :
    ∃ w', (Builtin.delete_ #[49, 3] ty #[.map (some a), .int .i64 n]).run Try.prog w = .ok (.tuple #[]) w' ∧ ActIn w' a (closeS l n) ∧ w.mapTurned w' a := by
  obtain ⟨D, k1, k2⟩ := h.ex
  obtain ⟨w', hr, ho, ht⟩ := k1.drop lawI Try.underlying49 (key_I hn) ty
  refine ⟨w', hr, ⟨_, own_tight ho, fun x hx z => ?_⟩, ht⟩
  rw [has_close, cls_close]
  by_cases e : x = n
  · subst e
    rw [if_pos rfl, Maps.atKey_of_not_has Maps.has_del_same]
    simp
  · rw [if_neg e, if_neg e, Maps.atKey_del_other (fun e2 => e (kI_inj e2)), k2 x hx z]
set_option maxRecDepth 100000 in
set_option maxHeartbeats 1600000 in
theorem close_any {w : World} {s a b : Nat} {l : List SV} (h : SapsIn w s a b l) {n : Int} (hn : I64 n) :
    Calls Try.prog 21 #[ptr s, .int .i64 n] w fun e w' => e = .returned (.int .i64 (closeE l n)) ∧ Hid (SNow s a b (closeS l n) w w') := by
  have H := cover h
  obtain ⟨w1, hw1⟩ : ∃ w1, w1 = w.alloc (.cells #[.int .i64 n] 3) := ⟨_, rfl⟩
  have hb1 : Below w.heap.size w w1 := by rw [hw1]; exact (Below.refl _ _).alloc (Nat.le_refl _) _
  have hx1 : w1.heap[w.heap.size]? = some (.cells #[.int .i64 n] 3 (0, 0)) := by rw [hw1]; exact heap_alloc_new _ _
  have hc1 : w1.cell? ⟨w.heap.size, 0, none⟩ = some (.int .i64 n) := by rw [cell_of_row _ _ _ _ _ _ hx1]; rfl
  have c1 := isActive_any (h.below hb1) hn
  cases hh : hasS l n
  · rw [hh] at c1
    have e1 : closeE l n = 7 := by unfold closeE; rw [hh]; rfl
    rw [e1, close_no hh]
    clear h hh e1 hx1
    go_enter Try.func21, Try.ntmps21
    go_wp2_with fail
    rw [← hw1]
    clear hw1
    refine c1.mono ?_
    rintro e w2 ⟨rfl, hb2⟩
    have HB : Hid (Below w.heap.size w w2) := cover (hb1.trans (hb2.mono hb1.size))
    clear c1 hb1 hb2 hc1
    go_wp2
    go_ret
    exact ⟨rfl, cover (SNow.below H.out HB.out)⟩
  · rw [hh] at c1
    have e1 : closeE l n = 0 := by unfold closeE; rw [hh]; rfl
    rw [e1]
    clear h hh e1
    go_enter Try.func21, Try.ntmps21
    go_wp2_with fail
    rw [← hw1]
    clear hw1
    refine c1.mono ?_
    rintro e w2 ⟨rfl, hb2⟩
    obtain ⟨w2', hw2⟩ : ∃ w2', w2' = w2.drew := ⟨_, rfl⟩
    have hb2' : Below w1.heap.size w1 w2' := by rw [hw2]; exact below_drewN hb2 1
    have hx2 := (hb2'.block _ (block_lt hx1)).trans hx1
    have HB := cover (hb1.trans (hb2'.mono hb1.size))
    have h2 := H.out.below HB.out
    obtain ⟨w3, hr3, hA3, ht3⟩ := del_act h2.act hn 0
    obtain ⟨_, d1, d2⟩ := h2.cells
    have hc2 : w2'.cell? ⟨w.heap.size, 0, none⟩ = some (.int .i64 n) := by rw [cell_of_row _ _ _ _ _ _ hx2]; rfl
    rw [hw2] at d1 hc2 hr3
    clear c1 hc1 hb2 hb2' hx1
    have HH := cover (And.intro h2 (And.intro hx2 (And.intro hA3 (And.intro ht3 (And.intro hw2 hb1)))))
    clear h2 hx2 hA3 ht3 d2 hw2 hb1
    go_wp2_with fail
    go_region
    obtain ⟨h2, hx2, hA3, ht3, hw2, hb1⟩ := HH.out
    have hg3 := ht3.grown
    have hkeep : ∀ i, i < w2'.heap.size → i ≠ a → w3.heap[i]? = w2'.heap[i]? := fun i hi hne => hg3.block i hi (by simpa using hne)
    have hxa : w.heap.size ≠ a := by have := H.out.lt (.inr (.inl rfl)); omega
    have hxb : w.heap.size ≠ b := by have := H.out.lt (.inr (.inr rfl)); omega
    have hx3 := (hkeep _ (block_lt hx2) hxa).trans hx2
    have hc3 : w3.cell? ⟨w.heap.size, 0, none⟩ = some (.int .i64 n) := by rw [cell_of_row _ _ _ _ _ _ hx3]; rfl
    have hd3 : w3.heap[s]? = some (.cells #[.int .i64 16, .map (some a), .map (some b)] 52 (0, 0)) := (hkeep s (h2.lt (.inl rfl)) h2.sa.1).trans h2.hd
    have hS3 : SeatIn w3 b l := h2.seat.keep (hkeep b (h2.lt (.inr (.inr rfl))) (fun e => h2.ab e.symm))
    have c2 := del_any hS3 n hn hc3 hxb
    have d3 : w3.cell? ⟨s, 2, none⟩ = some (.map (some b)) := by rw [cell_of_row _ _ _ _ _ _ hd3]; rfl
    have hmf : ∀ (fn : Fn) (first cap : Array Value) (w : World), (Instr.makeFunc fn first cap).run Try.prog w = .ok (.func fn first cap) w := fun _ _ _ _ => rfl
    have HF : Hid (∀ w4, SeatIn w4 b (closeS l n) → w3.grownBy w4 (some b) → SNow s a b (closeS l n) w w4) := cover (fun w4 k1 k2 => by
      have ha3 : a < w3.heap.size := by obtain ⟨D, j1, _⟩ := hA3.ex; exact j1.lt
      have hs3 := block_lt hd3
      refine ⟨⟨(k2.block s hs3 (by simpa using h2.sa.2)).trans hd3, hA3.keep (k2.block a ha3 (by simpa using h2.ab)), k1, h2.ab, h2.ok.close n⟩, ?_⟩
      refine Moves.after HB.out ((moves_turned ht3 (.inr (.inl rfl))).trans ⟨k2.os, k2.tape, k2.output, k2.size, fun k hk hn => k2.block k hk (fun e => hn (by cases e; exact .inr (.inr rfl))), fun k hk => .inl hk⟩))
    clear HH h2 hx2 hA3 ht3 hg3 hkeep hx3 hd3 hS3 hr3 d1 hc2 hxa hxb hc3 hw2 hb1
    go_wp2_with fail
    refine c2.mono ?_
    rintro e w4 ⟨rfl, hh4⟩
    have HN : Hid (SNow s a b (closeS l n) w w4) := cover (HF.out w4 hh4.out.1 hh4.out.2)
    clear HF hh4 c2 d3
    go_wp2
    go_ret
    exact ⟨rfl, HN⟩
end Go.Proofs.Ytnegbiofnjdfaaa
