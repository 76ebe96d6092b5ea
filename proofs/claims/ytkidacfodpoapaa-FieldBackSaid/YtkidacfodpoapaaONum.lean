/- What Num, Raw and Rest do to a reader. -/
import Derived.Test.YtkidacfodpoapaaOTake
import Derived.Test.YtkidacfodpoapaaOGet
namespace Go.Proofs.Ytkidacfodpoapaa
open Go.RowKit

/-- Num has read a number -/
def NumB (T : TypeId) (B g : Nat) (l : List Int) (k : Nat) (w : World) (e : Ending) (w' : World) : Prop :=
  e = .returned (.int .i64 (getv (l.take k))) ∧ Rd T w' B g (l.drop k) false ∧ OnlyB g w w'
/-- Raw has handed out new bytes -/
def RawB (T : TypeId) (B g : Nat) (l : List Int) (k : Nat) (w : World) (e : Ending) (w' : World) : Prop :=
  ∃ A c, e = .returned (.slice A k c) ∧ OwnB w' w.heap.size (.slice A k c) (l.take k) ∧ Rd T w' B g (l.drop k) false ∧ OnlyB g w w'

set_option maxHeartbeats 400000 in
theorem num_yes (B g k : Nat) (l : List Int) (w : World) (hr : Rd 78 w B g l false) (hb : Bts l) (hk : k ≤ l.length) (h1 : 1 ≤ k) (h7 : k ≤ 7) (hmax : l.length ≤ 140737488355328) :
    Calls Try.prog 32 #[.pointer (some ⟨g, 0, none⟩), .int .i64 k] w (NumB 78 B g l k w) := by
  have hlen : (l.take k).length = k := by rw [List.length_take]; omega
  have HL := cover hlen
  have HB := cover (hb.take k)
  clear hlen
  go_enter Try.func32, Try.ntmps32
  go_wp2_with (first
    | (go_at_call 43; refine (isWidth_yes _ _ (by omega) (by omega)).mono ?_; rintro e w' ⟨rfl, rfl⟩)
    | (go_at_call 45; refine (take_yes B g k l w hr hk hmax).mono ?_; rintro e w1 ⟨A, c, rfl, hrow, hr1, ho1⟩)
    | (go_at_call 36; refine (get_any A k c B _ _ hrow HB.out).mono ?_; rintro e w' ⟨rfl, rfl⟩))
  go_ret
  exact ⟨ret_int (by unfold getB; rw [HL.out, if_pos ⟨h1, h7⟩]), hr1, ho1⟩

set_option maxHeartbeats 400000 in
theorem num_no (B g : Nat) (l : List Int) (f : Bool) (n : Int) (w : World) (hr : Rd 78 w B g l f) (h : (okR l f n && decide (1 ≤ n) && decide (n ≤ 7)) = false) :
    Calls Try.prog 32 #[.pointer (some ⟨g, 0, none⟩), .int .i64 n] w (FailedB 78 B g l (.int .i64 0) w) := by
  by_cases hw : 1 ≤ n ∧ n ≤ 7
  · have hok : okR l f n = false := by
      cases hh : okR l f n
      · rfl
      · rw [hh] at h; simp [hw.1, hw.2] at h
    have HOK := cover hok
    clear hok h
    go_enter Try.func32, Try.ntmps32
    go_wp2_with (first
      | (go_at_call 43; refine (isWidth_yes _ _ (by omega) (by omega)).mono ?_; rintro e w' ⟨rfl, rfl⟩)
      | (go_at_call 45; refine (take_no B g l f n w hr HOK.out).mono ?_; rintro e w1 ⟨rfl, hr1, ho1⟩)
      | (go_at_call 36; refine (get_any none 0 0 0 [] _ RowK.none_ Bts.nil).mono ?_; rintro e w' ⟨rfl, rfl⟩))
    go_ret
    exact ⟨rfl, hr1, ho1⟩
  · clear h
    go_enter Try.func32, Try.ntmps32
    go_wp2_with (first
      | (go_at_call 43; refine (isWidth_no _ _ (by omega)).mono ?_; rintro e w' ⟨rfl, rfl⟩)
      | (go_at_call 44; refine (fail_any B g l f w hr).mono ?_; rintro e w1 ⟨rfl, hr1, ho1⟩))
    go_ret
    exact ⟨rfl, hr1, ho1⟩

set_option maxHeartbeats 400000 in
theorem raw_yes (B g k : Nat) (l : List Int) (w : World) (hr : Rd 78 w B g l false) (hk : k ≤ l.length) (hmax : l.length ≤ 140737488355328) :
    Calls Try.prog 46 #[.pointer (some ⟨g, 0, none⟩), .int .i64 k] w (RawB 78 B g l k w) := by
  have hlen : (l.take k).length = k := by rw [List.length_take]; omega
  have HL := cover hlen
  clear hlen
  have hle := hr.le
  have hlt := hr.lt
  go_enter Try.func46, Try.ntmps46
  go_wp2_with (first
    | (go_at_call 45; refine (take_yes B g k l w hr hk hmax).mono ?_; rintro e w1 ⟨A, c, rfl, hrow, hr1, ho1⟩; have hsz := ho1.size)
    | (go_at_call 42; refine (clone_any A k c B _ _ hrow (by omega) (by omega)).mono ?_; rintro e w2 ⟨A2, c2, rfl, hown, hb2⟩))
  go_ret
  rw [HL.out] at hown
  exact ⟨A2, c2, rfl, hown.mono hsz, hr1.below hb2 (by omega), ho1.trans (OnlyB.of_below hb2)⟩

set_option maxHeartbeats 400000 in
theorem raw_no (B g : Nat) (l : List Int) (f : Bool) (n : Int) (w : World) (hr : Rd 78 w B g l f) (h : okR l f n = false) :
    Calls Try.prog 46 #[.pointer (some ⟨g, 0, none⟩), .int .i64 n] w (FailedB 78 B g l (.slice none 0 0) w) := by
  have HOK := cover h
  clear h
  go_enter Try.func46, Try.ntmps46
  go_wp2_with (first
    | (go_at_call 45; refine (take_no B g l f n w hr HOK.out).mono ?_; rintro e w1 ⟨rfl, hr1, ho1⟩)
    | (go_at_call 42; refine (clone_nil 0 0 _).mono ?_; rintro e w2 ⟨rfl, rfl⟩))
  go_ret
  exact ⟨rfl, hr1, ho1⟩

theorem rest_yes (B g : Nat) (l : List Int) (w : World) (hr : Rd 78 w B g l false) (hmax : l.length ≤ 140737488355328) :
    Calls Try.prog 34 #[.pointer (some ⟨g, 0, none⟩)] w (RawB 78 B g l l.length w) := by
  go_enter Try.func34, Try.ntmps34
  go_wp2_with (first
    | (go_at_call 47; refine (left_any B g l false _ hr).mono ?_; rintro e w' ⟨rfl, rfl⟩)
    | (go_at_call 46; refine (raw_yes B g l.length l w hr (Nat.le_refl _) hmax).mono ?_; rintro e w1 ⟨A, c, rfl, hr1⟩))
  go_ret
  exact ⟨A, c, rfl, hr1⟩
theorem rest_no (B g : Nat) (l : List Int) (w : World) (hr : Rd 78 w B g l true) :
    Calls Try.prog 34 #[.pointer (some ⟨g, 0, none⟩)] w (FailedB 78 B g l (.slice none 0 0) w) := by
  go_enter Try.func34, Try.ntmps34
  go_wp2_with (first
    | (go_at_call 47; refine (left_any B g l true _ hr).mono ?_; rintro e w' ⟨rfl, rfl⟩)
    | (go_at_call 46; refine (raw_no B g l true _ w hr (by simp [okR])).mono ?_; rintro e w1 ⟨rfl, hr1⟩))
  go_ret
  exact ⟨rfl, hr1⟩
end Go.Proofs.Ytkidacfodpoapaa
