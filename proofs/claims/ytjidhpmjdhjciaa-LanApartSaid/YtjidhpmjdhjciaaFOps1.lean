/- What the queue's functions do, at items of one kind: New, Len, Most, Peek, Cut, Take, and Insert and Put behind the last one. -/
import Derived.Test.YtjidhpmjdhjciaaRows
import Derived.Test.YtjidhpmjdhjciaaOFrame
import Derived.Test.YtjidhpmjdhjciaaFMem
namespace Go.Proofs.Ytjidhpmjdhjciaa
open Go.RowKit

abbrev FIn (w : World) (q : Nat) (G : Option Nat) (m : Int) (ps : List Nat) (xs : List (Array Value)) : Prop := QA 92 95 94 w q G m ps xs
/-- a frame in a queue: its bytes, when it was sent -/
abbrev fl (A : Option Addr) (k c : Nat) (n : Int) : Array Value := #[.slice A k c, .int .i64 n]
theorem F_info : (Try.prog.info? 95).map (fun i => (i.zero, i.size, i.bytes)) = some (some (.pointer none), 1, 8) := by kernel_rfl

theorem newF_pos (n : Int) (w : World) (h : 0 < n) : Calls Try.prog 32 #[.int .i64 n] w fun e w' => e = .returned (ptr w.heap.size) ∧ Hid (FIn w' w.heap.size none n [] [] ∧ Below w.heap.size w w') := by
  go_enter Try.func32, Try.ntmps32
  go_wp2
  go_ret
  exact ⟨rfl, cover ⟨⟨⟨none, 0, heap_alloc_new _ _, PRow.nil _ _⟩, rfl, fun k p x h => by simp at h, List.nodup_nil⟩, (Below.refl _ _).alloc (Nat.le_refl _) _⟩⟩
theorem newF_neg (n : Int) (w : World) (h : n ≤ 0) : Calls Try.prog 32 #[.int .i64 n] w fun e w' => e = .returned (ptr w.heap.size) ∧ Hid (FIn w' w.heap.size none 0 [] [] ∧ Below w.heap.size w w') := by
  go_enter Try.func32, Try.ntmps32
  go_wp2
  go_ret
  exact ⟨rfl, cover ⟨⟨⟨none, 0, heap_alloc_new _ _, PRow.nil _ _⟩, rfl, fun k p x h => by simp at h, List.nodup_nil⟩, (Below.refl _ _).alloc (Nat.le_refl _) _⟩⟩

section
variable {w : World} {q : Nat} {G : Option Nat} {m : Int} {ps : List Nat} {xs : List (Array Value)}
theorem lenF_any (h : FIn w q G m ps xs) : Calls Try.prog 57 #[ptr q] w fun e w' => e = .returned (.int .i64 ps.length) ∧ w = w' := by
  obtain ⟨A, c, hh, hr⟩ := h.ex
  have h0 := cell_of_row w q 0 _ _ _ hh
  have h1 := cell_of_row w q 1 _ _ _ hh
  simp at h0 h1
  clear h hr
  go_enter Try.func57, Try.ntmps57
  go_wp2
  go_ret
  exact ⟨rfl, rfl⟩
theorem mostF_any (h : FIn w q G m ps xs) : Calls Try.prog 58 #[ptr q] w fun e w' => e = .returned (.int .i64 m) ∧ w = w' := by
  obtain ⟨A, c, hh, hr⟩ := h.ex
  have h0 := cell_of_row w q 0 _ _ _ hh
  have h1 := cell_of_row w q 1 _ _ _ hh
  simp at h0 h1
  clear h hr
  go_enter Try.func58, Try.ntmps58
  go_wp2
  go_ret
  exact ⟨rfl, rfl⟩
theorem peekF_yes (h : FIn w q G m ps xs) (i : Nat) (B : Option Addr) (k d : Nat) (n : Int) (hx : xs[i]? = some (fl B k d n)) : Calls Try.prog 36 #[ptr q, .int .i64 i] w fun e w' => e = .returned (.tuple #[.agg (fl B k d n), .bool true]) ∧ Below w.heap.size w w' := by
  obtain ⟨A, c, hh, hr⟩ := h.ex
  obtain ⟨hlt, _⟩ := List.getElem?_eq_some_iff.1 hx
  have hil : i < ps.length := by rw [h.len]; exact hlt
  have hp : ps[i]? = some ps[i] := List.getElem?_eq_getElem hil
  have hc := h.cells i _ _ hp hx
  obtain ⟨g, o, rfl, rfl, hcell⟩ := hr.cell hp
  generalize ps[i] = p at hc hcell hp
  have hl0 := block_lt hh
  have hl1 := block_lt hc
  have hl2 := cell_in hcell
  have h0 := cell_of_row w q 0 _ _ _ hh
  have h1 := cell_of_row w q 1 _ _ _ hh
  have h2 := cell_of_row w p 0 _ _ _ hc
  have h3 := cell_of_row w p 1 _ _ _ hc
  simp at h0 h1 h2 h3
  simp at hl2
  have h4 := fun v => World.cell?_alloc_lt w v ⟨q, 0, none⟩ hl0
  have h5 := fun v => World.cell?_alloc_lt w v ⟨q, 1, none⟩ hl0
  have h6 := fun v => World.cell?_alloc_lt w v ⟨p, 0, none⟩ hl1
  have h7 := fun v => World.cell?_alloc_lt w v ⟨p, 1, none⟩ hl1
  have h8 := fun v => World.cell?_alloc_lt w v ⟨g, o + i, none⟩ hl2
  have HL := fun v => lenF_any (h.below ((Below.refl w.heap.size w).alloc (Nat.le_refl _) v))
  clear h hr hx hp hc hh
  go_enter Try.func36, Try.ntmps36
  go_wp2_with (go_at_call 57; refine (HL _).mono ?_; rintro e w' ⟨rfl, rfl⟩)
  exact bodyPost_ret (v := .tuple #[.agg (fl B k d n), .bool true]) (by simp [results, Try.results36, go_sem]) rfl ⟨rfl, (Below.refl _ _).alloc (Nat.le_refl _) _⟩
theorem peekF_no (h : FIn w q G m ps xs) (i : Int) (hi : i < 0 ∨ (ps.length : Int) ≤ i) : Calls Try.prog 36 #[ptr q, .int .i64 i] w fun e w' => e = .returned (.tuple #[.agg (fl none 0 0 0), .bool false]) ∧ Below w.heap.size w w' := by
  have HL := fun v => lenF_any (h.below ((Below.refl w.heap.size w).alloc (Nat.le_refl _) v))
  clear h
  by_cases h0 : i < 0
  · clear hi
    go_enter Try.func36, Try.ntmps36
    go_wp2
    exact bodyPost_ret (v := .tuple #[.agg (fl none 0 0 0), .bool false]) (by simp [results, Try.results36, go_sem]) rfl ⟨rfl, ((Below.refl _ _).alloc (Nat.le_refl _) _).alloc (by simp) _⟩
  · have h1 : (ps.length : Int) ≤ i := by omega
    clear hi
    go_enter Try.func36, Try.ntmps36
    go_wp2_with (go_at_call 57; refine (HL _).mono ?_; rintro e w' ⟨rfl, rfl⟩)
    exact bodyPost_ret (v := .tuple #[.agg (fl none 0 0 0), .bool false]) (by simp [results, Try.results36, go_sem]) rfl ⟨rfl, ((Below.refl _ _).alloc (Nat.le_refl _) _).alloc (by simp) _⟩
end
end Go.Proofs.Ytjidhpmjdhjciaa
