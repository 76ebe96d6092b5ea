/- What Left, Fail, fail and take do to a reader. -/
import Derived.Test.YtkidacfodpoapaaONew
namespace Go.Proofs.Ytkidacfodpoapaa
open Go.RowKit

theorem rd_cells {T : TypeId} {w : World} {g : Nat} {l : List Int} {f : Bool} {A : Option Addr} {c : Nat} (h : w.heap[g]? = some (.cells #[.slice A l.length c, .bool f] T (0, 0))) :
    w.cell? ⟨g, 0, none⟩ = some (.slice A l.length c) ∧ w.cell? ⟨g, 1, none⟩ = some (.bool f) ∧ w.frozen? ⟨g, 0, none⟩ = false ∧ w.frozen? ⟨g, 1, none⟩ = false := by
  refine ⟨?_, ?_, frozen_of_row w g 0 _ _ h, frozen_of_row w g 1 _ _ h⟩
  · rw [cell_of_row w g 0 _ _ _ h]; rfl
  · rw [cell_of_row w g 1 _ _ _ h]; rfl

theorem left_any (B g : Nat) (l : List Int) (f : Bool) (w : World) (hr : Rd 78 w B g l f) :
    Calls Try.prog 47 #[.pointer (some ⟨g, 0, none⟩)] w fun e w' => e = .returned (.int .i64 l.length) ∧ w = w' := by
  obtain ⟨A, c, hh, hlc, hrow⟩ := hr.ex
  obtain ⟨c0, c1, f0, f1⟩ := rd_cells hh
  clear hh hr hrow
  go_enter Try.func47, Try.ntmps47
  go_wp2
  go_ret
  exact ⟨rfl, rfl⟩

theorem failed_any (B g : Nat) (l : List Int) (f : Bool) (w : World) (hr : Rd 78 w B g l f) :
    Calls Try.prog 35 #[.pointer (some ⟨g, 0, none⟩)] w fun e w' => e = .returned (.bool f) ∧ w = w' := by
  obtain ⟨A, c, hh, hlc, hrow⟩ := hr.ex
  obtain ⟨c0, c1, f0, f1⟩ := rd_cells hh
  clear hh hr hrow
  go_enter Try.func35, Try.ntmps35
  go_wp2
  go_ret
  exact ⟨rfl, rfl⟩

theorem fail_any (B g : Nat) (l : List Int) (f : Bool) (w : World) (hr : Rd 78 w B g l f) :
    Calls Try.prog 44 #[.pointer (some ⟨g, 0, none⟩)] w fun e w' => e = .returned (.tuple #[]) ∧ Rd 78 w' B g l true ∧ OnlyB g w w' := by
  obtain ⟨A, c, hh, hlc, hrow⟩ := hr.ex
  have hle := hr.le
  have HH := cover hh
  obtain ⟨c0, c1, f0, f1⟩ := rd_cells hh
  clear hh hr
  go_enter Try.func44, Try.ntmps44
  go_wp2
  go_end0
  refine ⟨rfl, ⟨⟨A, c, ?_, hlc, hrow.setCell hle _⟩, hle⟩, (OnlyB.refl _ _).setCell _ _⟩
  rw [heap_setCell_same w g 1 _ _ _ HH.out]; rfl

/-- does a reader take so many? -/
def okR (l : List Int) (f : Bool) (n : Int) : Bool := !f && decide (0 ≤ n) && decide (n ≤ l.length)
theorem okR_iff (l : List Int) (f : Bool) (n : Int) : okR l f n = true ↔ (f = false ∧ 0 ≤ n ∧ n ≤ l.length) := by
  simp [okR, and_assoc]

/-- take has handed out so many bytes -/
def TookB (T : TypeId) (B g : Nat) (l : List Int) (k : Nat) (w : World) (e : Ending) (w' : World) : Prop :=
  ∃ A c, e = .returned (.slice A k c) ∧ Row w' B A k (l.take k) ∧ Rd T w' B g (l.drop k) false ∧ OnlyB g w w'
/-- a method has failed: v is its answer -/
def FailedB (T : TypeId) (B g : Nat) (l : List Int) (v : Value) (w : World) (e : Ending) (w' : World) : Prop :=
  e = .returned v ∧ Rd T w' B g l true ∧ OnlyB g w w'
theorem rd_cut {T : TypeId} {w : World} {B g k c c' : Nat} {l : List Int} {A : Option Addr} {f : Bool} (hh : w.heap[g]? = some (.cells #[.slice A l.length c, .bool f] T (0, 0))) (hrow : Row w B A l.length l) (hlc : l.length ≤ c) (hk : k ≤ l.length) (hle : B ≤ g)
    {A' : Option Addr} (hA : A' = if c = k then A else A.map (·.add k)) (hc' : c' = c - k) :
    Row (w.setCell ⟨g, 0, none⟩ (.slice A' (l.length - k) c')) B A k (l.take k) ∧ Rd T (w.setCell ⟨g, 0, none⟩ (.slice A' (l.length - k) c')) B g (l.drop k) f := by
  subst hA
  refine ⟨(hrow.take hk).setCell hle _, ⟨⟨if c = k then A else A.map (·.add k), c', ?_, by rw [List.length_drop]; omega, ?_⟩, hle⟩⟩
  · rw [heap_setCell_same w g 0 _ _ _ hh, List.length_drop]; rfl
  · have := (hrow.cut hk hlc).setCell (p := ⟨g, 0, none⟩) hle (.slice (if c = k then A else A.map (·.add k)) (l.length - k) c')
    rw [List.length_drop]; exact this

set_option maxHeartbeats 400000 in
theorem take_yes (B g k : Nat) (l : List Int) (w : World) (hr : Rd 78 w B g l false) (hk : k ≤ l.length) (hmax : l.length ≤ 140737488355328) :
    Calls Try.prog 45 #[.pointer (some ⟨g, 0, none⟩), .int .i64 k] w (TookB 78 B g l k w) := by
  obtain ⟨A, c, hh, hlc, hrow⟩ := hr.ex
  have hle := hr.le
  have HH := cover hh
  obtain ⟨c0, c1, f0, f1⟩ := rd_cells hh
  clear hh
  by_cases hck : c = k
  · subst hck
    go_enter Try.func45, Try.ntmps45
    go_wp2_with (go_at_call 47; refine (left_any B g l false _ hr).mono ?_; rintro e w' ⟨rfl, rfl⟩)
    go_ret
    obtain ⟨r1, r2⟩ := rd_cut (c' := 0) HH.out hrow hlc hk hle (A' := A) (by simp) (by omega)
    rw [show l.length - c = 0 by omega] at r1 r2
    exact ⟨A, _, rfl, r1, r2, (OnlyB.refl _ _).setCell _ _⟩
  · go_enter Try.func45, Try.ntmps45
    go_wp2_with (go_at_call 47; refine (left_any B g l false _ hr).mono ?_; rintro e w' ⟨rfl, rfl⟩)
    go_ret
    obtain ⟨r1, r2⟩ := rd_cut (c' := c - k) HH.out hrow hlc hk hle (A' := A.map (·.add k)) (by simp [hck]) rfl
    exact ⟨A, _, rfl, r1, r2, (OnlyB.refl _ _).setCell _ _⟩

set_option maxHeartbeats 400000 in
theorem take_no (B g : Nat) (l : List Int) (f : Bool) (n : Int) (w : World) (hr : Rd 78 w B g l f) (h : okR l f n = false) :
    Calls Try.prog 45 #[.pointer (some ⟨g, 0, none⟩), .int .i64 n] w (FailedB 78 B g l (.slice none 0 0) w) := by
  by_cases h0 : n < 0
  · clear h
    go_enter Try.func45, Try.ntmps45
    go_wp2_with (first
      | (go_at_call 47; refine (left_any B g l f _ hr).mono ?_; rintro e w' ⟨rfl, rfl⟩)
      | (go_at_call 44; refine (fail_any B g l f _ hr).mono ?_; rintro e w' ⟨rfl, hr', ho⟩; obtain ⟨A, c, hh', _⟩ := hr'.ex; obtain ⟨c0, c1, _, _⟩ := rd_cells hh'; have HH := cover hh'; clear hh'))
    go_ret
    exact ⟨rfl, hr', ho⟩
  · by_cases h1 : (l.length : Int) < n
    · clear h
      go_enter Try.func45, Try.ntmps45
      go_wp2_with (first
        | (go_at_call 47; refine (left_any B g l f _ hr).mono ?_; rintro e w' ⟨rfl, rfl⟩)
        | (go_at_call 44; refine (fail_any B g l f _ hr).mono ?_; rintro e w' ⟨rfl, hr', ho⟩; obtain ⟨A, c, hh', _⟩ := hr'.ex; obtain ⟨c0, c1, _, _⟩ := rd_cells hh'; have HH := cover hh'; clear hh'))
      go_ret
      exact ⟨rfl, hr', ho⟩
    · have hf : f = true := by
        cases f
        · have := (okR_iff l false n).2 ⟨rfl, by omega, by omega⟩
          rw [this] at h; cases h
        · rfl
      subst hf
      clear h
      obtain ⟨A, c, hh, _⟩ := hr.ex
      obtain ⟨c0, c1, _, _⟩ := rd_cells hh
      clear hh
      go_enter Try.func45, Try.ntmps45
      go_wp2_with (first
        | (go_at_call 47; refine (left_any B g l true _ hr).mono ?_; rintro e w' ⟨rfl, rfl⟩))
      go_ret
      exact ⟨rfl, hr, OnlyB.refl _ _⟩
end Go.Proofs.Ytkidacfodpoapaa
