/- The program's clock and the document's, side by side. -/
import Derived.Test.YtodiocioldakjaaKIHas
import Derived.Test.YtodiocioldakjaaKRStart
import Derived.Test.YtodiocioldakjaaKRTick
import Derived.Test.YtodiocioldakjaaKLists
namespace Go.Proofs.Ytodiocioldakjaa
open Go.RowKit
set_option linter.unusedVariables false

/-- both clocks; blocks K that are neither's, and are kept; all lie from block B on -/
structure Duo (K : Foot) (B : Nat) (w : World) (c r m nc : Nat) (lc : List (Int × Int)) (nr : Nat) (lr : List (Int × Int)) (wr : World) : Prop where
  ex : ∃ V VR, CIIn wr c V m nc lc ∧ DIn wr r VR m nr lr ∧ (∀ i, cfoot c V i → B ≤ i) ∧ (∀ i, cfoot r VR i → B ≤ i) ∧ (∀ i, cfoot c V i → ¬ cfoot r VR i) ∧ ∀ i, K i → i < wr.heap.size ∧ ¬ cfoot c V i ∧ ¬ cfoot r VR i
  bel : Below B w wr
  size : B ≤ wr.heap.size
section
variable {K : Foot} {B : Nat} {w : World} {c r m nc nr : Nat} {lc lr : List (Int × Int)} {wr w' : World}
/-- new memory alone -/
theorem Duo.below (h : Duo K B w c r m nc lc nr lr wr) (hb : Below wr.heap.size wr w') : Duo K B w c r m nc lc nr lr w' := by
  obtain ⟨V, VR, h1, h2, h3, h4, h5, h6⟩ := h.ex
  exact ⟨⟨V, VR, h1.below hb, h2.below hb, h3, h4, h5, fun i hi => ⟨Nat.lt_of_lt_of_le (h6 i hi).1 hb.size, (h6 i hi).2⟩⟩, h.bel.trans (hb.mono h.size), Nat.le_trans h.size hb.size⟩
theorem Duo.sub {K' : Foot} (h : Duo K B w c r m nc lc nr lr wr) (hk : ∀ i, K' i → K i) : Duo K' B w c r m nc lc nr lr wr := by
  obtain ⟨V, VR, h1, h2, h3, h4, h5, h6⟩ := h.ex
  exact ⟨⟨V, VR, h1, h2, h3, h4, h5, fun i hi => h6 i (hk i hi)⟩, h.bel, h.size⟩
/-- one block more that is kept: a new one -/
theorem Duo.keepNew (h : Duo K B w c r m nc lc nr lr wr) (hb : Below wr.heap.size wr w') (y : Nat) (hy : wr.heap.size ≤ y ∧ y < w'.heap.size) : Duo (fun i => K i ∨ i = y) B w c r m nc lc nr lr w' := by
  obtain ⟨V, VR, h1, h2, h3, h4, h5, h6⟩ := h.ex
  refine ⟨⟨V, VR, h1.below hb, h2.below hb, h3, h4, h5, fun i hi => ?_⟩, h.bel.trans (hb.mono h.size), Nat.le_trans h.size hb.size⟩
  rcases hi with hi | rfl
  · exact ⟨Nat.lt_of_lt_of_le (h6 i hi).1 hb.size, (h6 i hi).2⟩
  · exact ⟨hy.2, fun hf => by have := h1.lt hf; omega, fun hf => by have := h2.lt hf; omega⟩
/-- a move of the program's clock -/
theorem Duo.onC {V VR V' : Value} {nc' : Nat} {lc' : List (Int × Int)} (h2 : DIn wr r VR m nr lr) (h1 : CIIn wr c V m nc lc) (h3 : ∀ i, cfoot c V i → B ≤ i) (h4 : ∀ i, cfoot r VR i → B ≤ i) (h5 : ∀ i, cfoot c V i → ¬ cfoot r VR i) (h6 : ∀ i, K i → i < wr.heap.size ∧ ¬ cfoot c V i ∧ ¬ cfoot r VR i) (hb : Below B w wr) (hs : B ≤ wr.heap.size)
    (k1 : CIIn w' c V' m nc' lc') (k2 : Moves (cfoot c V) (cfoot c V') wr w') :
    Duo K B w c r m nc' lc' nr lr w' ∧ (∀ i, K i → w'.heap[i]? = wr.heap[i]?) := by
  have ha := k2.apart (T := cfoot r VR) (fun i hi => ⟨h2.lt hi, fun hc => h5 i hc hi⟩)
  have hk := k2.apart (T := K) (fun i hi => ⟨(h6 i hi).1, (h6 i hi).2.1⟩)
  exact ⟨⟨⟨V', VR, k1, h2.keep (fun i hi => k2.block i (h2.lt hi) (fun hc => h5 i hc hi)), fun i hi => (k2.own i hi).elim (h3 i) (fun h => Nat.le_trans hs h), h4, fun i hi hr => (ha i hr).2 hi, fun i hi => ⟨(hk i hi).1, (hk i hi).2, (h6 i hi).2.2⟩⟩, Moves.below hb k2 h3 hs, Nat.le_trans hs k2.size⟩,
    fun i hi => k2.block i (h6 i hi).1 (h6 i hi).2.1⟩
/-- a move of the document's clock -/
theorem Duo.onR {V VR VR' : Value} {nr' : Nat} {lr' : List (Int × Int)} (h1 : CIIn wr c V m nc lc) (h2 : DIn wr r VR m nr lr) (h3 : ∀ i, cfoot c V i → B ≤ i) (h4 : ∀ i, cfoot r VR i → B ≤ i) (h5 : ∀ i, cfoot c V i → ¬ cfoot r VR i) (h6 : ∀ i, K i → i < wr.heap.size ∧ ¬ cfoot c V i ∧ ¬ cfoot r VR i) (hb : Below B w wr) (hs : B ≤ wr.heap.size)
    (k1 : DIn w' r VR' m nr' lr') (k2 : Moves (cfoot r VR) (cfoot r VR') wr w') :
    Duo K B w c r m nc lc nr' lr' w' ∧ (∀ i, K i → w'.heap[i]? = wr.heap[i]?) := by
  have ha := k2.apart (T := cfoot c V) (fun i hi => ⟨h1.lt hi, fun hr => h5 i hi hr⟩)
  have hk := k2.apart (T := K) (fun i hi => ⟨(h6 i hi).1, (h6 i hi).2.2⟩)
  exact ⟨⟨⟨V, VR', h1.keep (fun i hi => k2.block i (h1.lt hi) (fun hr => h5 i hi hr)), k1, h3, fun i hi => (k2.own i hi).elim (h4 i) (fun h => Nat.le_trans hs h), fun i hi hr => (ha i hi).2 hr, fun i hi => ⟨(hk i hi).1, (h6 i hi).2.1, (hk i hi).2⟩⟩, Moves.below hb k2 h4 hs, Nat.le_trans hs k2.size⟩,
    fun i hi => k2.block i (h6 i hi).1 (h6 i hi).2.2⟩
end
section
variable {K : Foot} {B : Nat} {w : World} {c r m nc nr : Nat} {lc lr : List (Int × Int)} {wr : World}
/-- what an operation leaves behind -/
def DuoOut (K : Foot) (B : Nat) (w : World) (c r m nc : Nat) (lc : List (Int × Int)) (nr : Nat) (lr : List (Int × Int)) (wr w' : World) : Prop := Duo K B w c r m nc lc nr lr w' ∧ ∀ i, K i → w'.heap[i]? = wr.heap[i]?
theorem duo_start (h : Duo K B w c r m nc lc nr lr wr) (k t : Int) : Calls Try.prog 15 #[ptr c, .int .i64 k, .int .i64 t] wr fun e w' => e = .returned (.bool (startB m lc k t 10000)) ∧ Hid (DuoOut K B w c r m nc (if startB m lc k t 10000 = true then startK lc k t else lc) nr lr wr w') := by
  obtain ⟨V, VR, h1, h2, h3, h4, h5, h6⟩ := h.ex
  refine (startI_any h1 k t).mono ?_
  rintro e w' ⟨rfl, hn⟩
  obtain ⟨V', k1, k2⟩ := hn.out
  exact ⟨rfl, cover (Duo.onC h2 h1 h3 h4 h5 h6 h.bel h.size k1 k2)⟩
theorem duo_rstart (h : Duo K B w c r m nc lc nr lr wr) (k t : Int) : Calls Try.prog 16 #[ptr r, .int .i64 k, .int .i64 t] wr fun e w' => e = .returned (.bool (startB m lr k t 10000)) ∧ Hid (DuoOut K B w c r m nc lc nr (if startB m lr k t 10000 = true then startK lr k t else lr) wr w') := by
  obtain ⟨V, VR, h1, h2, h3, h4, h5, h6⟩ := h.ex
  refine (rstart_any h2 k t).mono ?_
  rintro e w' ⟨rfl, hn⟩
  obtain ⟨V', k1, k2⟩ := hn.out
  exact ⟨rfl, cover (Duo.onR h1 h2 h3 h4 h5 h6 h.bel h.size k1 k2)⟩
theorem duo_stop (h : Duo K B w c r m nc lc nr lr wr) (k : Int) : Calls Try.prog 17 #[ptr c, .int .i64 k] wr fun e w' => e = .returned (.bool (hasK lc k)) ∧ Hid (DuoOut K B w c r m nc (stopK lc k) nr lr wr w') := by
  obtain ⟨V, VR, h1, h2, h3, h4, h5, h6⟩ := h.ex
  cases hk : hasK lc k with
  | true =>
    refine (stopI_at h1 k hk).mono ?_
    rintro e w' ⟨rfl, hn⟩
    obtain ⟨V', k1, k2⟩ := hn.out
    exact ⟨rfl, cover (Duo.onC h2 h1 h3 h4 h5 h6 h.bel h.size k1 k2)⟩
  | false =>
    refine (stopI_none h1 k hk).mono ?_
    rintro e w' ⟨rfl, hb⟩
    rw [stopK_no hk]
    exact ⟨rfl, cover ⟨h.below hb, fun i hi => hb.block i (h6 i hi).1⟩⟩
theorem duo_rstop (h : Duo K B w c r m nc lc nr lr wr) (k : Int) : Calls Try.prog 18 #[ptr r, .int .i64 k] wr fun e w' => e = .returned (.bool (hasK lr k)) ∧ Hid (DuoOut K B w c r m nc lc nr (stopK lr k) wr w') := by
  obtain ⟨V, VR, h1, h2, h3, h4, h5, h6⟩ := h.ex
  cases hk : hasK lr k with
  | true =>
    refine (rstop_at h2 k hk).mono ?_
    rintro e w' ⟨rfl, hn⟩
    obtain ⟨V', k1, k2⟩ := hn.out
    exact ⟨rfl, cover (Duo.onR h1 h2 h3 h4 h5 h6 h.bel h.size k1 k2)⟩
  | false =>
    refine (rstop_none h2 k hk).mono ?_
    rintro e w' ⟨rfl, rfl⟩
    rw [stopK_no hk]
    exact ⟨rfl, cover ⟨h, fun i hi => rfl⟩⟩
/-- what is told is kept -/
theorem duo_tick (h : Duo K B w c r m nc lc nr lr wr) (hn : nc < 1000000000) : Calls Try.prog 20 #[ptr c] wr fun e w' => ∃ A cp, e = .returned (.slice A (toldK lc).length cp) ∧
    Hid (w'.ownsRow wr.heap.size 3 1 (.slice A (toldK lc).length cp) (toldK lc).length ((toldK lc).map (Value.int .i64)) ∧ Duo (fun i => K i ∨ (Value.slice A (toldK lc).length cp).ownBlock = some i) B w c r m (nc + 1) (tickK lc) nr lr w' ∧ ∀ i, K i → w'.heap[i]? = wr.heap[i]?) := by
  obtain ⟨V, VR, h1, h2, h3, h4, h5, h6⟩ := h.ex
  refine (tickI_any h1 hn).mono ?_
  rintro e w' ⟨A, cp, rfl, hh⟩
  obtain ⟨ho, V', k1, k2, k3⟩ := hh.out
  obtain ⟨hd, hk⟩ := Duo.onC h2 h1 h3 h4 h5 h6 h.bel h.size k1 k2
  refine ⟨A, cp, rfl, cover ⟨ho, ⟨?_, hd.bel, hd.size⟩, hk⟩⟩
  have ha := k2.apart (T := cfoot r VR) (fun i hi => ⟨h2.lt hi, fun hc => h5 i hc hi⟩)
  have hkk := k2.apart (T := K) (fun i hi => ⟨(h6 i hi).1, (h6 i hi).2.1⟩)
  refine ⟨V', VR, k1, h2.keep (fun i hi => k2.block i (h2.lt hi) (fun hc => h5 i hc hi)), fun i hi => (k2.own i hi).elim (h3 i) (fun h' => Nat.le_trans h.size h'), h4, fun i hi hr => (ha i hr).2 hi, fun i hi => ?_⟩
  rcases hi with hi | hi
  · exact ⟨(hkk i hi).1, (hkk i hi).2, (h6 i hi).2.2⟩
  · have hlt := ho.lt i hi
    exact ⟨hlt.2, k3 i hi, fun hr => by have := h2.lt hr; omega⟩
theorem duo_rtick (h : Duo K B w c r m nc lc nr lr wr) (hn : nr < 1000000000) : Calls Try.prog 21 #[ptr r] wr fun e w' => ∃ A cp, e = .returned (.slice A (toldK lr).length cp) ∧
    Hid (w'.ownsRow wr.heap.size 3 1 (.slice A (toldK lr).length cp) (toldK lr).length ((toldK lr).map (Value.int .i64)) ∧ DuoOut K B w c r m nc lc (nr + 1) (tickK lr) wr w') := by
  obtain ⟨V, VR, h1, h2, h3, h4, h5, h6⟩ := h.ex
  refine (rtick_any h2 hn).mono ?_
  rintro e w' ⟨A, cp, rfl, hh⟩
  obtain ⟨ho, V', k1, k2⟩ := hh.out
  exact ⟨A, cp, rfl, cover ⟨ho, Duo.onR h1 h2 h3 h4 h5 h6 h.bel h.size k1 k2⟩⟩
theorem duo_left (h : Duo K B w c r m nc lc nr lr wr) (k : Int) : Calls Try.prog 22 #[ptr c, .int .i64 k] wr fun e w' => e = .returned (.int .i64 (leftK lc k)) ∧ Below wr.heap.size wr w' := by
  obtain ⟨V, VR, h1, h2, h3, h4, h5, h6⟩ := h.ex
  exact leftI_has (B := B) ⟨V, h1, h3⟩ k
theorem duo_rleft (h : Duo K B w c r m nc lc nr lr wr) (k : Int) : Calls Try.prog 23 #[ptr r, .int .i64 k] wr fun e w' => e = .returned (.int .i64 (leftK lr k)) ∧ wr = w' := by
  obtain ⟨V, VR, h1, h2, h3, h4, h5, h6⟩ := h.ex
  exact rleft_any h2 k
theorem duo_now (h : Duo K B w c r m nc lc nr lr wr) : Calls Try.prog 24 #[ptr c] wr fun e w' => e = .returned (.int .i64 nc) ∧ wr = w' := by
  obtain ⟨V, VR, h1, h2, h3, h4, h5, h6⟩ := h.ex
  exact nowI_any h1
theorem duo_len (h : Duo K B w c r m nc lc nr lr wr) : Calls Try.prog 25 #[ptr c] wr fun e w' => e = .returned (.int .i64 lc.length) ∧ wr = w' := by
  obtain ⟨V, VR, h1, h2, h3, h4, h5, h6⟩ := h.ex
  exact lenI_any h1
theorem duo_runs (h : Duo K B w c r m nc lc nr lr wr) (n : Int) (k : Nat) (hk : k = if 0 ≤ n ∧ n < lc.length then n.toNat else lc.length) : Calls Try.prog 27 #[ptr c, .int .i64 n] wr (RunsOut (lc.take k) wr) := by
  obtain ⟨V, VR, h1, h2, h3, h4, h5, h6⟩ := h.ex
  exact runs_any h1 n k hk
/-- the document's clock, as it is read -/
theorem Duo.read (h : Duo K B w c r m nc lc nr lr wr) : ∃ A cp, wr.cell? ⟨r, 0, none⟩ = some (.int .i64 m) ∧ wr.cell? ⟨r, 1, none⟩ = some (.int .i64 nr) ∧ wr.cell? ⟨r, 2, none⟩ = some (.slice A lr.length cp) ∧ lr.length ≤ cp ∧ Prs wr A lr ∧ r < wr.heap.size ∧ ∀ g, A = some ⟨g, 0, none⟩ → g < wr.heap.size := by
  obtain ⟨V, VR, h1, h2, h3, h4, h5, h6⟩ := h.ex
  obtain ⟨A, cp, rfl⟩ := h2.shape
  obtain ⟨d0, d1, d2⟩ := h2.cells
  refine ⟨A, cp, d0, d1, d2, own_cap h2.row, Prs.of_own h2.row, block_lt h2.hd, fun g hg => ?_⟩
  subst hg
  exact (h2.row.lt g rfl).2
theorem Duo.lenC (h : Duo K B w c r m nc lc nr lr wr) : lc.length ≤ 100000 ∧ lr.length ≤ 100000 := by
  obtain ⟨V, VR, h1, h2, h3, h4, h5, h6⟩ := h.ex
  exact ⟨h1.len, h2.len⟩
end
end Go.Proofs.Ytodiocioldakjaa
