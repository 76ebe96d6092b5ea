/- One lan, as a law has it. -/
import Derived.Test.YtjidhpmjdhjciaaFAwake
import Derived.Test.YtjidhpmjdhjciaaFTwice
import Derived.Test.YtjidhpmjdhjciaaFSpoil
namespace Go.Proofs.Ytjidhpmjdhjciaa
open Go.RowKit
set_option linter.unusedVariables false

/-- a lan that the law has made since world W; beside it the blocks xs lie as they are -/
def LHas (W : World) (xs : List (Nat × Obj)) (l : Nat) (s : LS) (w : World) : Prop :=
  ∃ S, LIn S w l s ∧ (∀ i, S i → W.heap.size ≤ i) ∧ Below W.heap.size W w ∧ ∀ p ∈ xs, w.heap[p.1]? = some p.2 ∧ ¬ S p.1
/-- a row of bytes that was handed out, and is kept -/
def Kept (xs : List (Nat × Obj)) (A : Option Addr) (n : Nat) (b : List Int) : Prop := ∀ w : World, (∀ p ∈ xs, w.heap[p.1]? = some p.2) → Row w w.heap.size A n b
section
variable {W w w' : World} {xs : List (Nat × Obj)} {l : Nat} {s s' : LS}
theorem LHas.bel (h : LHas W xs l s w) : Below W.heap.size W w := by obtain ⟨S, _, _, h, _⟩ := h; exact h
theorem LHas.siz (h : LHas W xs l s w) : W.heap.size ≤ w.heap.size := h.bel.size
theorem LHas.kept (h : LHas W xs l s w) {A : Option Addr} {n : Nat} {b : List Int} (hk : Kept xs A n b) : Row w w.heap.size A n b := by
  obtain ⟨S, _, _, _, h⟩ := h; exact hk w (fun p hp => (h p hp).1)
theorem LHas.below (h : LHas W xs l s w) (hb : Below w.heap.size w w') : LHas W xs l s w' := by
  obtain ⟨S, h1, h2, h3, h4⟩ := h
  exact ⟨S, h1.below hb, h2, h3.trans (hb.mono h3.size), fun p hp => ⟨(hb.block _ (block_lt (h4 p hp).1)).trans (h4 p hp).1, (h4 p hp).2⟩⟩
theorem LHas.drewN (h : LHas W xs l s w) (d : Nat) : LHas W xs l s (w.drewN d) := h.below (below_drewN' _ _)
theorem LHas.of_moves {S S' : Foot} (h2 : ∀ i, S i → W.heap.size ≤ i) (h3 : Below W.heap.size W w) (h4 : ∀ p ∈ xs, w.heap[p.1]? = some p.2 ∧ ¬ S p.1) (k1 : LIn S' w' l s') (k2 : Moves S S' w w') : LHas W xs l s' w' := by
  refine ⟨S', k1, fun i hi => ?_, Moves.below h3 k2 h2 h3.size, fun p hp => ⟨k2.at_ (h4 p hp).1 (h4 p hp).2, fun h6 => ?_⟩⟩
  · rcases k2.own i hi with h6 | h6
    · exact h2 i h6
    · exact Nat.le_trans h3.size h6
  · rcases k2.own _ h6 with h7 | h7
    · exact (h4 p hp).2 h7
    · have := block_lt (h4 p hp).1; omega
theorem LHas.of_now {S : Foot} (h2 : ∀ i, S i → W.heap.size ≤ i) (h3 : Below W.heap.size W w) (h4 : ∀ p ∈ xs, w.heap[p.1]? = some p.2 ∧ ¬ S p.1) (h : LNow S l s' w w') : LHas W xs l s' w' := by
  obtain ⟨S', k1, k2⟩ := h
  exact LHas.of_moves h2 h3 h4 k1 k2
theorem new_has (n m life : Nat) (hw : Below W.heap.size W w) (hn : 1 ≤ n ∧ n ≤ 16) (hm : 1 ≤ m ∧ m ≤ 64) (hf : 1 ≤ life ∧ life ≤ 10000) :
    Calls Try.prog 13 #[.int .i64 n, .int .i64 m, .int .i64 life] w fun e w' => ∃ l, e = .returned (.tuple #[ptr l, .int .i64 0]) ∧ Hid (LHas W [] l (LS.fresh n m life) w') :=
  (new_yes n m life w hn hm hf).mono fun e w' ⟨l, S, h1, h2, h3, h4⟩ => ⟨l, h1, cover ⟨S, h2, fun i hi => Nat.le_trans hw.size (h3 i hi), hw.trans (h4.mono hw.size), fun p hp => by cases hp⟩⟩
theorem send_has (h : LHas W xs l s w) (f t : Int) (A : Option Addr) (n c B : Nat) (b : List Int) (hr : Row w B A n b) (hB : B ≤ w.heap.size) (hmax : n ≤ 1000000) (hnow : s.now ≤ 1000000) (hlost : s.lost ≤ 100000000) :
    Calls Try.prog 14 #[ptr l, .int .i64 f, .int .i64 t, .slice A n c] w fun e w' => e = .returned (.bool (sendB s f t)) ∧ Hid (LHas W xs l (sendS s f t b) w') := by
  obtain ⟨S, h1, h2, h3, h4⟩ := h
  exact (send_any h1 f t A n c B b hr hB hmax hnow hlost).mono fun e w' ⟨he, hn⟩ => ⟨he, cover (LHas.of_now h2 h3 h4 hn.out)⟩
def PassHas (W : World) (xs : List (Nat × Obj)) (l : Nat) (s : LS) (f t : Int) (e : Ending) (w' : World) : Prop :=
  ∃ A c xs', e = .returned (.tuple #[.slice A (passL s f t).length c, .bool (passB s f t)]) ∧ (∀ p ∈ xs, p ∈ xs') ∧ Kept xs' A (passL s f t).length (passL s f t) ∧ LHas W xs' l (passS s f t) w'
theorem kept_of_own {A : Option Addr} {c : Nat} {b : List Int} (h : OwnB w 0 (.slice A b.length c) b) : ∃ ys : List (Nat × Obj), Kept ys A b.length b ∧ ∀ p ∈ ys, w.heap[p.1]? = some p.2 ∧ (Value.slice A b.length c).ownBlock = some p.1 := by
  rcases h.2 with ⟨hv, h0⟩ | ⟨g, cap, cur, hv, hb, hh, hr⟩
  · refine ⟨[], fun w' _ => ?_, fun p hp => by cases hp⟩
    obtain rfl : b = [] := List.eq_nil_of_length_eq_zero h0
    exact RowK.none_
  · injection hv with hv
    subst hv
    refine ⟨[(g, .cells cur 5 (0, 0))], fun w' hk => ?_, fun p hp => ?_⟩
    · have hg := hk (g, .cells cur 5 (0, 0)) (by simp)
      have ho : OwnB w' 0 (.slice (some ⟨g, 0, none⟩) b.length cap) b := ⟨h.1, .inr ⟨g, cap, cur, rfl, hb, hg, hr⟩⟩
      exact ho.row
    · simp at hp; subst hp; exact ⟨hh, rfl⟩
theorem Kept.more {ys : List (Nat × Obj)} {A : Option Addr} {n : Nat} {b : List Int} (h : Kept xs A n b) (hs : ∀ p ∈ xs, p ∈ ys) : Kept ys A n b := fun w hk => h w (fun p hp => hk p (hs p hp))
theorem pass_has (h : LHas W xs l s w) (f t : Int) : Calls Try.prog 16 #[ptr l, .int .i64 f, .int .i64 t] w (PassHas W xs l s f t) := by
  obtain ⟨S, h1, h2, h3, h4⟩ := h
  refine (pass_any h1 f t).mono fun e w' ⟨A, c, he, ho, S', k1, k2, k3⟩ => ?_
  obtain ⟨ys, k4, k5⟩ := kept_of_own ho
  obtain ⟨S'', m1, m2, m3, m4⟩ := LHas.of_moves h2 h3 h4 k1 k2
  refine ⟨A, c, xs ++ ys, he, fun p hp => List.mem_append_left _ hp, k4.more (fun p hp => List.mem_append_right _ hp), S', k1, fun i hi => ?_, m3, fun p hp => ?_⟩
  · rcases k2.own i hi with h6 | h6
    · exact h2 i h6
    · exact Nat.le_trans h3.size h6
  · rcases List.mem_append.1 hp with hp | hp
    · refine ⟨(m4 p hp).1, fun h6 => ?_⟩
      rcases k2.own _ h6 with h7 | h7
      · exact (h4 p hp).2 h7
      · have := block_lt (h4 p hp).1; omega
    · exact ⟨(k5 p hp).1, (k3 _ (k5 p hp).2).1⟩
theorem drop_has (h : LHas W xs l s w) (f t : Int) (hlost : s.lost ≤ 100000000) :
    Calls Try.prog 25 #[ptr l, .int .i64 f, .int .i64 t] w fun e w' => e = .returned (.bool (passB s f t)) ∧ Hid (LHas W xs l (dropS s f t) w') := by
  obtain ⟨S, h1, h2, h3, h4⟩ := h
  exact (drop_any h1 f t hlost).mono fun e w' ⟨he, hn⟩ => ⟨he, cover (LHas.of_now h2 h3 h4 hn.out)⟩
theorem twice_has (h : LHas W xs l s w) (f t : Int) (hmax : ∀ x ∈ theRow s f t, x.1.length ≤ 1000000) :
    Calls Try.prog 15 #[ptr l, .int .i64 f, .int .i64 t] w fun e w' => e = .returned (.bool (twiceB s f t)) ∧ Hid (LHas W xs l (twiceS s f t) w') := by
  obtain ⟨S, h1, h2, h3, h4⟩ := h
  exact (twice_any h1 f t hmax).mono fun e w' ⟨he, hn⟩ => ⟨he, cover (LHas.of_now h2 h3 h4 hn.out)⟩
theorem spoil_has (h : LHas W xs l s w) (f t bit : Int) (hmax : ∀ x ∈ theRow s f t, x.1.length ≤ 1000000 ∧ Bts x.1) :
    Calls Try.prog 26 #[ptr l, .int .i64 f, .int .i64 t, .int .i64 bit] w fun e w' => e = .returned (.bool (spoilB s f t)) ∧ Hid (LHas W xs l (spoilS s f t bit) w') := by
  obtain ⟨S, h1, h2, h3, h4⟩ := h
  exact (spoil_any h1 f t bit hmax).mono fun e w' ⟨he, hn⟩ => ⟨he, cover (LHas.of_now h2 h3 h4 hn.out)⟩
theorem lost_has (h : LHas W xs l s w) : Calls Try.prog 18 #[ptr l] w fun e w' => e = .returned (.int .i64 s.lost) ∧ w = w' := by
  obtain ⟨S, h1, h2, h3⟩ := h
  exact lost_any h1
end
/-! ### of one row that is there -/
section
variable {s : LS} {f t : Int}
theorem twice_row {x : List Int × Nat} {r : List (List Int × Nat)} (hr : theRow s f t = x :: r) (hm : (x :: r).length < s.m) : twiceB s f t = true ∧ twiceS s f t = setRow' s f t (x :: x :: r) := by
  unfold twiceB twiceS; rw [hr]; simp only []; rw [if_pos hm]; simpa using hm
theorem pass_row {x : List Int × Nat} {r : List (List Int × Nat)} (hr : theRow s f t = x :: r) : passL s f t = x.1 ∧ passB s f t = true ∧ passS s f t = setRow' s f t r := by
  unfold passL passB passS; rw [hr]; exact ⟨rfl, rfl, rfl⟩
theorem pass_none (hr : theRow s f t = []) : passL s f t = [] ∧ passB s f t = false ∧ passS s f t = s := by
  unfold passL passB passS; rw [hr]; exact ⟨rfl, rfl, rfl⟩
end
end Go.Proofs.Ytjidhpmjdhjciaa
