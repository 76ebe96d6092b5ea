/- A lan of which one row alone is looked at: from the first station to the second one. -/
import Derived.Test.YtjidhpmjdhjciaaFHas
namespace Go.Proofs.Ytjidhpmjdhjciaa
open Go.RowKit
set_option linter.unusedVariables false

structure R1 (s : LS) (n m life : Nat) (r : List (List Int × Nat)) (lost : Nat) : Prop where
  e_n : s.n = n
  e_n2 : 2 ≤ n
  e_m : s.m = m
  e_life : s.life = life
  e_now : s.now ≤ 1000
  e_lost : s.lost = lost
  e_lst : lost ≤ 1000
  e_row : theRow s 0 1 = r
  e_oth : ∀ k, k ≠ 1 → s.rows k = []
section
variable {s : LS} {n m life lost : Nat} {r : List (List Int × Nat)} {x : List Int × Nat}
theorem R1.ok (h : R1 s n m life r lost) : okP s.n 0 1 := by rw [h.e_n]; exact ok_01 n h.e_n2
theorem R1.set (h : R1 s n m life r lost) (r' : List (List Int × Nat)) : R1 (setRow' s 0 1 r') n m life r' lost := ⟨h.e_n, h.e_n2, h.e_m, h.e_life, h.e_now, h.e_lost, h.e_lst, row_set h.ok r', fun k hk => by
  have : keyP s.n 0 1 = 1 := by simp [keyP]
  unfold setRow'
  rw [this, LS.upd_ne _ _ hk]; exact h.e_oth k hk⟩
theorem R1.send (h : R1 s n m life r lost) (hm : r.length < m) (b : List Int) : sendB s 0 1 = true ∧ R1 (sendS s 0 1 b) n m life (r ++ [(b, 0)]) lost := by
  have h1 : (theRow s 0 1).length < s.m := by rw [h.e_row, h.e_m]; exact hm
  refine ⟨sendB_yes h.ok h1, ?_⟩
  rw [sendS_yes h.ok h1, h.e_row]; exact h.set _
theorem R1.full (h : R1 s n m life r lost) (hm : ¬ r.length < m) (hl : lost < 1000) (b : List Int) : sendB s 0 1 = false ∧ R1 (sendS s 0 1 b) n m life r (lost + 1) := by
  have h1 : ¬ (theRow s 0 1).length < s.m := by rw [h.e_row, h.e_m]; exact hm
  refine ⟨sendB_full h1, ?_⟩
  rw [sendS_full h.ok h1]; exact ⟨h.e_n, h.e_n2, h.e_m, h.e_life, h.e_now, by show s.lost + 1 = _; rw [h.e_lost], by omega, h.e_row, h.e_oth⟩
theorem R1.twice (h : R1 s n m life (x :: r) lost) (hm : (x :: r).length < m) : twiceB s 0 1 = true ∧ R1 (twiceS s 0 1) n m life (x :: x :: r) lost := by
  obtain ⟨h1, h2⟩ := twice_row h.e_row (by rw [h.e_m]; exact hm)
  refine ⟨h1, ?_⟩
  rw [h2]; exact h.set _
theorem R1.pass (h : R1 s n m life (x :: r) lost) : passL s 0 1 = x.1 ∧ passB s 0 1 = true ∧ R1 (passS s 0 1) n m life r lost := by
  obtain ⟨h1, h2, h3⟩ := pass_row h.e_row
  refine ⟨h1, h2, ?_⟩
  rw [h3]; exact h.set _
theorem R1.spoil (h : R1 s n m life (x :: r) lost) (h0 : 0 < x.1.length) (bit : Int) : R1 (spoilS s 0 1 bit) n m life ((turnB x.1 bit, x.2) :: r) lost := by
  unfold spoilS; rw [h.e_row]; simp only []; rw [if_pos h0]; exact h.set _
end
/-- the law's lan, of which the row from the first station to the second one is such -/
def LRow (W : World) (xs : List (Nat × Obj)) (l n m life : Nat) (r : List (List Int × Nat)) (lost : Nat) (w : World) : Prop := ∃ s, LHas W xs l s w ∧ R1 s n m life r lost
section
variable {W w w' : World} {xs : List (Nat × Obj)} {l n m life lost : Nat} {r : List (List Int × Nat)} {x : List Int × Nat}
theorem LRow.bel (h : LRow W xs l n m life r lost w) : Below W.heap.size W w := by obtain ⟨s, h, _⟩ := h; exact h.bel
theorem LRow.siz (h : LRow W xs l n m life r lost w) : W.heap.size ≤ w.heap.size := h.bel.size
theorem LRow.below (h : LRow W xs l n m life r lost w) (hb : Below w.heap.size w w') : LRow W xs l n m life r lost w' := by obtain ⟨s, h, k⟩ := h; exact ⟨s, h.below hb, k⟩
theorem LRow.kept (h : LRow W xs l n m life r lost w) {A : Option Addr} {k : Nat} {b : List Int} (hk : Kept xs A k b) : Row w w.heap.size A k b := by obtain ⟨s, h, _⟩ := h; exact h.kept hk
theorem LRow.drewN (h : LRow W xs l n m life r lost w) (d : Nat) : LRow W xs l n m life r lost (w.drewN d) := h.below (below_drewN' _ _)
theorem new_one (n m life : Nat) (hw : Below W.heap.size W w) (hn : 2 ≤ n ∧ n ≤ 16) (hm : 1 ≤ m ∧ m ≤ 64) (hf : 1 ≤ life ∧ life ≤ 10000) :
    Calls Try.prog 13 #[.int .i64 n, .int .i64 m, .int .i64 life] w fun e w' => ∃ l, e = .returned (.tuple #[ptr l, .int .i64 0]) ∧ Hid (LRow W [] l n m life [] 0 w') :=
  (new_has n m life hw (by omega) hm hf).mono fun e w' ⟨l, h1, h2⟩ => ⟨l, h1, cover ⟨_, h2.out, rfl, hn.1, rfl, rfl, Nat.zero_le _, rfl, Nat.zero_le _, row_fresh _ _ _ _ _, fun _ _ => rfl⟩⟩
theorem send_one (h : LRow W xs l n m life r lost w) (hm : r.length < m) (A : Option Addr) (k c B : Nat) (b : List Int) (hr : Row w B A k b) (hB : B ≤ w.heap.size) (hmax : k ≤ 1000000) :
    Calls Try.prog 14 #[ptr l, .int .i64 0, .int .i64 1, .slice A k c] w fun e w' => e = .returned (.bool true) ∧ Hid (LRow W xs l n m life (r ++ [(b, 0)]) lost w') := by
  obtain ⟨s, h, h1⟩ := h
  obtain ⟨e1, e2⟩ := h1.send hm b
  have := send_has h 0 1 A k c B b hr hB hmax (by have := h1.e_now; omega) (by have := h1.e_lost; have := h1.e_lst; omega)
  rw [e1] at this
  exact this.mono fun e w' ⟨h2, h3⟩ => ⟨h2, cover ⟨_, h3.out, e2⟩⟩
theorem send_full (h : LRow W xs l n m life r lost w) (hm : ¬ r.length < m) (hl : lost < 1000) (A : Option Addr) (k c B : Nat) (b : List Int) (hr : Row w B A k b) (hB : B ≤ w.heap.size) (hmax : k ≤ 1000000) :
    Calls Try.prog 14 #[ptr l, .int .i64 0, .int .i64 1, .slice A k c] w fun e w' => e = .returned (.bool false) ∧ Hid (LRow W xs l n m life r (lost + 1) w') := by
  obtain ⟨s, h, h1⟩ := h
  obtain ⟨e1, e2⟩ := h1.full hm hl b
  have := send_has h 0 1 A k c B b hr hB hmax (by have := h1.e_now; omega) (by have := h1.e_lost; have := h1.e_lst; omega)
  rw [e1] at this
  exact this.mono fun e w' ⟨h2, h3⟩ => ⟨h2, cover ⟨_, h3.out, e2⟩⟩
/-- what is sent to oneself goes nowhere -/
theorem send_self (h : LRow W xs l n m life r lost w) (i : Int) (A : Option Addr) (k c B : Nat) (b : List Int) (hr : Row w B A k b) (hB : B ≤ w.heap.size) (hmax : k ≤ 1000000) :
    Calls Try.prog 14 #[ptr l, .int .i64 i, .int .i64 i, .slice A k c] w fun e w' => e = .returned (.bool false) ∧ Hid (LRow W xs l n m life r lost w') := by
  obtain ⟨s, h, h1⟩ := h
  have hno : ¬ okP s.n i i := fun hk => hk.2.2 rfl
  have := send_has h i i A k c B b hr hB hmax (by have := h1.e_now; omega) (by have := h1.e_lost; have := h1.e_lst; omega)
  rw [sendB_no hno, sendS_no hno] at this
  exact this.mono fun e w' ⟨h2, h3⟩ => ⟨h2, cover ⟨_, h3.out, h1⟩⟩
theorem twice_one (h : LRow W xs l n m life (x :: r) lost w) (hm : (x :: r).length < m) (hx : x.1.length ≤ 1000000) :
    Calls Try.prog 15 #[ptr l, .int .i64 0, .int .i64 1] w fun e w' => e = .returned (.bool true) ∧ Hid (LRow W xs l n m life (x :: x :: r) lost w') := by
  obtain ⟨s, ⟨S, h2, h3, h4, h7⟩, h1⟩ := h
  obtain ⟨e1, e2⟩ := h1.twice hm
  have := twice_some h2 0 1 h1.e_row hx
  rw [e1] at this
  exact this.mono fun e w' ⟨h5, h6⟩ => ⟨h5, cover ⟨_, LHas.of_now h3 h4 h7 h6.out, e2⟩⟩
def PassOne (W : World) (xs : List (Nat × Obj)) (l n m life : Nat) (y : List Int) (r : List (List Int × Nat)) (lost : Nat) (e : Ending) (w' : World) : Prop :=
  ∃ A c xs', e = .returned (.tuple #[.slice A y.length c, .bool true]) ∧ (∀ p ∈ xs, p ∈ xs') ∧ Kept xs' A y.length y ∧ LRow W xs' l n m life r lost w'
theorem pass_one (h : LRow W xs l n m life (x :: r) lost w) : Calls Try.prog 16 #[ptr l, .int .i64 0, .int .i64 1] w (PassOne W xs l n m life x.1 r lost) := by
  obtain ⟨s, h, h1⟩ := h
  obtain ⟨e1, e2, e3⟩ := h1.pass
  have := pass_has h 0 1
  unfold PassHas at this
  rw [e1, e2] at this
  exact this.mono fun e w' ⟨A, c, xs', h2, h3, h4, h5⟩ => ⟨A, c, xs', h2, h3, h4, _, h5, e3⟩
theorem pass_no (h : LRow W xs l n m life [] lost w) : Calls Try.prog 16 #[ptr l, .int .i64 0, .int .i64 1] w fun e w' => ∃ A c xs', e = .returned (.tuple #[.slice A 0 c, .bool false]) ∧ (∀ p ∈ xs, p ∈ xs') ∧ Hid (LRow W xs' l n m life [] lost w') := by
  obtain ⟨s, h, h1⟩ := h
  obtain ⟨e1, e2, e3⟩ := pass_none h1.e_row
  have := pass_has h 0 1
  unfold PassHas at this
  rw [e1, e2, e3] at this
  exact this.mono fun e w' ⟨A, c, xs', h2, h3, h4, h5⟩ => ⟨A, c, xs', h2, h3, cover ⟨_, h5, h1⟩⟩
theorem spoil_one (h : LRow W xs l n m life (x :: r) lost w) (h0 : 0 < x.1.length) (hx : x.1.length ≤ 1000000) (hb : Bts x.1) (bit : Int) :
    Calls Try.prog 26 #[ptr l, .int .i64 0, .int .i64 1, .int .i64 bit] w fun e w' => (∃ b, e = .returned (.bool b)) ∧ Hid (LRow W xs l n m life ((turnB x.1 bit, x.2) :: r) lost w') := by
  obtain ⟨s, ⟨S, h2, h3, h4, h7⟩, h1⟩ := h
  exact (spoil_yes h2 0 1 bit h1.e_row hx h0 hb).mono fun e w' ⟨h5, h6⟩ => ⟨⟨_, h5⟩, cover ⟨_, LHas.of_now h3 h4 h7 h6.out, h1.spoil h0 bit⟩⟩
theorem lost_one (h : LRow W xs l n m life r lost w) : Calls Try.prog 18 #[ptr l] w fun e w' => e = .returned (.int .i64 lost) ∧ w = w' := by
  obtain ⟨s, h, h1⟩ := h
  rw [← h1.e_lost]; exact lost_has h
end
end Go.Proofs.Ytjidhpmjdhjciaa
