/- The document's own lan in memory: its block, a row of slices of frames, each of its own memory; what becomes of one row becomes of the lan. What the document's lan answers: where a row lies, Line; Copy; an append to a row of frames. What the document's Send does. -/
import Derived.Deep.QuietTactic
import Derived.BigQuiet
import Derived.IntWalk
import Derived.Test.YtjidhpmjdhjciaaFRowH
import Derived.Maps.AppendAt
import Derived.Deep.RegionHeld3
import Derived.Deep.AppendLies
import Derived.TacticsIn
namespace Go.Proofs.Ytjidhpmjdhjciaa
open Go.RowKit
set_option linter.unusedVariables false

/-- as a row of frames is told: bytes and age -/
def tell2 (us : List UV) : List (List Int × Int) := us.map fun u => (u.l, u.age)
/-- a slice of frames of the document's own -/
structure RRow (w : World) (v : Value) (us : List UV) : Prop where
  row : w.ownsRow 0 81 2 v us.length (flat us)
  own : ∀ u ∈ us, OwnB w 0 u.val u.l
abbrev vfoot (v : Value) : Foot := fun i => v.ownBlock = some i
def bfoot (us : List UV) : Foot := fun i => ∃ u ∈ us, u.val.ownBlock = some i
theorem own_type {w : World} {base e size n : Nat} {v : Value} {xs : List Value} (h : w.ownsRow base e size v n xs) {i : Nat} (hi : v.ownBlock = some i) : ∃ cur, w.heap[i]? = some (.cells cur e (0, 0)) := by
  rcases h.2 with ⟨hv, _⟩ | ⟨g', cap, cur, hv, _, hh, _⟩
  · rw [hv] at hi; simp [Value.ownBlock] at hi
  · rw [hv] at hi
    have : g' = i := by simpa [Value.ownBlock] using hi
    subst this; exact ⟨cur, hh⟩
theorem own_keeps {w w' : World} {base e size n : Nat} {v : Value} {xs : List Value} (h : w.ownsRow base e size v n xs) (hk : ∀ i, v.ownBlock = some i → w'.heap[i]? = w.heap[i]?) : w'.ownsRow base e size v n xs := by
  refine ⟨h.1, ?_⟩
  rcases h.2 with h0 | ⟨g, cap, cur, rfl, hg, hh, hr⟩
  · exact .inl h0
  · exact .inr ⟨g, cap, cur, rfl, hg, (hk g rfl).trans hh, hr⟩
section
variable {w w' : World} {v : Value} {us : List UV}
theorem RRow.keep (h : RRow w v us) (h1 : ∀ i, vfoot v i → w'.heap[i]? = w.heap[i]?) (h2 : ∀ i, bfoot us i → w'.heap[i]? = w.heap[i]?) : RRow w' v us :=
  ⟨own_keeps h.row h1, fun u hu => uv_keep (h.own u hu) fun g hg => h2 g ⟨u, hu, hg⟩⟩
theorem RRow.lt (h : RRow w v us) {i : Nat} (hi : vfoot v i ∨ bfoot us i) : i < w.heap.size := by
  rcases hi with hi | ⟨u, hu, hi⟩
  · exact (h.row.lt i hi).2
  · obtain ⟨_, cur, hc⟩ := uv_blk (h.own u hu) hi; exact block_lt hc
theorem RRow.vtype (h : RRow w v us) {i : Nat} (hi : vfoot v i) : ∃ cur, w.heap[i]? = some (.cells cur 81 (0, 0)) := own_type h.row hi
theorem RRow.btype (h : RRow w v us) {i : Nat} (hi : bfoot us i) : ∃ cur, w.heap[i]? = some (.cells cur 5 (0, 0)) := by
  obtain ⟨u, hu, hi⟩ := hi
  obtain ⟨_, cur, hc⟩ := uv_blk (h.own u hu) hi; exact ⟨cur, hc⟩
theorem RRow.nil (w : World) : RRow w (.slice none 0 0) [] := ⟨World.ownsRow_nil _ _ _ _, fun u hu => by cases hu⟩
end

/-- a lan of the document's own at block r: what it owns is S -/
structure RIn (S : Foot) (w : World) (r : Nat) (s : LS) : Prop where
  n1 : 1 ≤ s.n
  n16 : s.n ≤ 16
  m64 : s.m ≤ 64
  len : ∀ k, (s.rows k).length ≤ s.m
  ex : ∃ (g c : Nat) (cur : Array Value) (V : Nat → Value) (U : Nat → List UV), w.heap[r]? = some (.cells #[.int .i64 s.n, .int .i64 s.m, .int .i64 s.life, .int .i64 s.lost, .slice (some ⟨g, 0, none⟩) ((s.n * s.n : Nat)) c] 50 (0, 0)) ∧
    w.heap[g]? = some (.cells cur 46 (0, 0)) ∧ s.n * s.n ≤ cur.size ∧
    (∀ k, k < s.n * s.n → cur[k]? = some (V k) ∧ RRow w (V k) (U k) ∧ tell2 (U k) = told (s.rows k)) ∧
    (∀ k j i, k < s.n * s.n → j < s.n * s.n → k ≠ j → vfoot (V k) i → ¬ vfoot (V j) i) ∧
    S = fun i => i = r ∨ i = g ∨ ∃ k, k < s.n * s.n ∧ (vfoot (V k) i ∨ bfoot (U k) i)
section
variable {S : Foot} {w w' : World} {r : Nat} {s : LS}
theorem RIn.r_in (h : RIn S w r s) : S r := by obtain ⟨g, c, cur, V, U, _, _, _, _, _, rfl⟩ := h.ex; exact .inl rfl
theorem RIn.lt (h : RIn S w r s) : ∀ k, S k → k < w.heap.size := by
  obtain ⟨g, c, cur, V, U, h1, h2, _, h4, _, rfl⟩ := h.ex
  rintro k (rfl | rfl | ⟨j, hj, hk⟩)
  · exact block_lt h1
  · exact block_lt h2
  · exact (h4 j hj).2.1.lt hk
theorem RIn.keep (h : RIn S w r s) (hk : ∀ k, S k → w'.heap[k]? = w.heap[k]?) : RIn S w' r s := by
  obtain ⟨g, c, cur, V, U, h1, h2, h3, h4, h5, rfl⟩ := h.ex
  exact ⟨h.n1, h.n16, h.m64, h.len, g, c, cur, V, U, (hk r (.inl rfl)).trans h1, (hk g (.inr (.inl rfl))).trans h2, h3, fun k hk1 => ⟨(h4 k hk1).1, (h4 k hk1).2.1.keep (fun i hi => hk i (.inr (.inr ⟨k, hk1, .inl hi⟩))) (fun i hi => hk i (.inr (.inr ⟨k, hk1, .inr hi⟩))), (h4 k hk1).2.2⟩, h5, rfl⟩
theorem RIn.below (h : RIn S w r s) (hb : Below w.heap.size w w') : RIn S w' r s := h.keep fun k hk => hb.block k (h.lt k hk)
theorem RIn.drewN (h : RIn S w r s) (d : Nat) : RIn S (w.drewN d) r s := h.keep fun _ _ => rfl
theorem RIn.apart {T T' : Foot} (h : RIn S w r s) (hm : Moves T T' w w') (hd : ∀ k, S k → ¬ T k) : RIn S w' r s := h.keep fun k hk => hm.block k (h.lt k hk) (hd k hk)
theorem RIn.cells (h : RIn S w r s) : w.cell? ⟨r, 0, none⟩ = some (.int .i64 s.n) ∧ w.cell? ⟨r, 1, none⟩ = some (.int .i64 s.m) ∧ w.cell? ⟨r, 2, none⟩ = some (.int .i64 s.life) ∧ w.cell? ⟨r, 3, none⟩ = some (.int .i64 s.lost) := by
  obtain ⟨g, c, cur, V, U, h1, _⟩ := h.ex
  exact ⟨by rw [cell_of_row _ _ _ _ _ _ h1]; rfl, by rw [cell_of_row _ _ _ _ _ _ h1]; rfl, by rw [cell_of_row _ _ _ _ _ _ h1]; rfl, by rw [cell_of_row _ _ _ _ _ _ h1]; rfl⟩
theorem RIn.thaw (h : RIn S w r s) (o : Nat) : w.frozen? ⟨r, o, none⟩ = false := by
  obtain ⟨g, c, cur, V, U, h1, _⟩ := h.ex
  simp [World.frozen?, h1]
/-- the count of the lost ones is set -/
theorem RIn.setLost (h : RIn S w r s) (x : Nat) : RIn S (w.setCell ⟨r, 3, none⟩ (.int .i64 x)) r { s with lost := x } := by
  obtain ⟨g, c, cur, V, U, h1, h2, h3, h4, h5, rfl⟩ := h.ex
  refine ⟨h.n1, h.n16, h.m64, h.len, g, c, cur, V, U, by rw [set_block h1]; rfl, ?_, h3, fun k hk1 => ⟨(h4 k hk1).1, (h4 k hk1).2.1.keep (fun i hi => ?_) (fun i hi => ?_), (h4 k hk1).2.2⟩, h5, rfl⟩
  · rw [set_other _ _ (type_ne h2 h1 (by decide))]; exact h2
  · obtain ⟨cu, hc⟩ := (h4 k hk1).2.1.vtype hi
    exact set_other _ _ (type_ne hc h1 (by decide))
  · obtain ⟨cu, hc⟩ := (h4 k hk1).2.1.btype hi
    exact set_other _ _ (type_ne hc h1 (by decide))
theorem RIn.moveLost (h : RIn S w r s) (x : Nat) : Moves S S w (w.setCell ⟨r, 3, none⟩ (.int .i64 x)) := (Moves.refl S w).setCell (.inl h.r_in) _ _
end
/-- the document's lan is such now; what was not its own lies as it lay -/
def RNow (S : Foot) (r : Nat) (s : LS) (w w' : World) : Prop := ∃ S', RIn S' w' r s ∧ Moves S S' w w'
theorem RNow.below {S : Foot} {r : Nat} {s : LS} {w w' : World} (h : RIn S w r s) (hb : Below w.heap.size w w') : RNow S r s w w' := ⟨S, h.below hb, Moves.of_below S hb⟩
theorem RNow.same {S : Foot} {r : Nat} {s : LS} {w : World} (h : RIn S w r s) : RNow S r s w w := ⟨S, h, Moves.refl S w⟩
theorem RNow.then_below {S : Foot} {r : Nat} {s : LS} {w w' w'' : World} (h : RNow S r s w w') (hb : Below w'.heap.size w' w'') : RNow S r s w w'' := by
  obtain ⟨S', h1, h2⟩ := h; exact ⟨S', h1.below hb, h2.then_below hb⟩
theorem RNow.trans {S : Foot} {r : Nat} {s s' : LS} {w w' w'' : World} (h : RNow S r s w w') (k : ∀ S', RIn S' w' r s → RNow S' r s' w' w'') : RNow S r s' w w'' := by
  obtain ⟨S', h1, h2⟩ := h
  obtain ⟨S'', h3, h4⟩ := k S' h1
  exact ⟨S'', h3, h2.trans h4⟩
theorem RNow.loss {S : Foot} {r : Nat} {s : LS} {w w' : World} (h : RNow S r s w w') (x : Nat) : RNow S r (s.loss x) w (w'.setCell ⟨r, 3, none⟩ (.int .i64 ((s.lost : Int) + (x : Int)))) := by
  obtain ⟨S', h1, h2⟩ := h
  have k1 := h1.setLost (s.lost + x)
  have k2 := h1.moveLost (s.lost + x)
  rw [show (((s.lost + x : Nat)) : Int) = (s.lost : Int) + (x : Int) by omega] at k1 k2
  exact ⟨S', k1, h2.trans k2⟩

/-- a row at its place; what becomes of it alone becomes of the lan -/
theorem RIn.place {S : Foot} {w : World} {r : Nat} {s : LS} (h : RIn S w r s) {k : Nat} (hk : k < s.n * s.n) :
    ∃ g c v us, w.cell? ⟨r, 4, none⟩ = some (.slice (some ⟨g, 0, none⟩) ((s.n * s.n : Nat)) c) ∧ w.cell? ⟨g, k, none⟩ = some v ∧ (∀ o, w.frozen? ⟨g, o, none⟩ = false) ∧ r ≠ g ∧ r < w.heap.size ∧ g < w.heap.size ∧
      RRow w v us ∧ tell2 us = told (s.rows k) ∧ (∀ i, vfoot v i ∨ bfoot us i → i ≠ r ∧ i ≠ g) ∧
      ∀ w' v' us' rr, RRow w' v' us' → tell2 us' = told rr → rr.length ≤ s.m → Moves (vfoot v) (vfoot v') w w' → (∀ i, bfoot us' i → bfoot us i ∨ w.heap.size ≤ i) →
        RNow S r (s.upd k rr) w (w'.setCell ⟨g, k, none⟩ v') := by
  obtain ⟨g, c, cur, V, U, h1, h2, h3, h4, h5, hS⟩ := h.ex
  obtain ⟨h6, h7, h8⟩ := h4 k hk
  have hrg : r ≠ g := type_ne h1 h2 (by decide)
  have hvt : ∀ j i, j < s.n * s.n → vfoot (V j) i → i ≠ r ∧ i ≠ g := fun j i hj hi => by
    obtain ⟨cu, hc⟩ := (h4 j hj).2.1.vtype hi
    exact ⟨type_ne hc h1 (by decide), type_ne hc h2 (by decide)⟩
  refine ⟨g, c, V k, U k, by rw [cell_of_row _ _ _ _ _ _ h1]; rfl, by rw [cell_of_row _ _ _ _ _ _ h2]; exact h6, fun o => by simp [World.frozen?, h2], hrg, block_lt h1, block_lt h2, h7, h8, fun i hi => hi.elim (hvt k i hk) (fun hi => by
    obtain ⟨cu, hc⟩ := h7.btype hi
    exact ⟨type_ne hc h1 (by decide), type_ne hc h2 (by decide)⟩), ?_⟩
  intro w' v' us' rr k1 k2 k3 hm k5
  have hrl := block_lt h1
  have hgl := block_lt h2
  have hr' : w'.heap[r]? = _ := hm.at_ h1 (fun hi => (hvt k r hk hi).1 rfl)
  have hg' : w'.heap[g]? = _ := hm.at_ h2 (fun hi => (hvt k g hk hi).2 rfl)
  obtain ⟨V', hV'⟩ : ∃ V' : Nat → Value, V' = fun j => if j = k then v' else V j := ⟨_, rfl⟩
  obtain ⟨U', hU'⟩ : ∃ U' : Nat → List UV, U' = fun j => if j = k then us' else U j := ⟨_, rfl⟩
  have ev1 : V' k = v' := by rw [hV']; simp
  have ev2 : ∀ j, j ≠ k → V' j = V j := fun j hj => by rw [hV']; simp [hj]
  have eu1 : U' k = us' := by rw [hU']; simp
  have eu2 : ∀ j, j ≠ k → U' j = U j := fun j hj => by rw [hU']; simp [hj]
  have hvn : ∀ i, vfoot v' i → i ≠ r ∧ i ≠ g := fun i hi => by
    rcases hm.own i hi with h9 | h9
    · exact hvt k i hk h9
    · omega
  have hbn : ∀ i, bfoot us' i → i ≠ r ∧ i ≠ g := fun i hi => by
    obtain ⟨cu, hc⟩ := k1.btype hi
    exact ⟨type_ne hc hr' (by decide), type_ne hc hg' (by decide)⟩
  have hbo : ∀ j i, j < s.n * s.n → bfoot (U j) i → i ≠ r ∧ i ≠ g ∧ ¬ vfoot (V k) i := fun j i hj hi => by
    obtain ⟨cu, hc⟩ := (h4 j hj).2.1.btype hi
    refine ⟨type_ne hc h1 (by decide), type_ne hc h2 (by decide), fun hv => ?_⟩
    obtain ⟨cu', hc'⟩ := h7.vtype hv
    exact type_ne hc hc' (by decide) rfl
  refine ⟨fun i => i = r ∨ i = g ∨ ∃ j, j < s.n * s.n ∧ (vfoot (V' j) i ∨ bfoot (U' j) i), ⟨h.n1, h.n16, h.m64, fun j => ?_, g, c, cur.setIfInBounds k v', V', U', ?_, ?_, ?_, ?_, ?_, rfl⟩, ?_⟩
  · by_cases hj : j = k
    · rw [hj, LS.upd_at]; exact k3
    · rw [LS.upd_ne _ _ hj]; exact h.len j
  · rw [set_other _ _ hrg]; exact hr'
  · rw [set_block hg']
  · simp only [Array.size_setIfInBounds]; exact h3
  · intro j hj
    by_cases hjk : j = k
    · subst hjk
      rw [ev1, eu1, LS.upd_at]
      exact ⟨by rw [Array.getElem?_setIfInBounds_self_of_lt (by exact Nat.lt_of_lt_of_le hj h3)], k1.keep (fun i hi => set_other _ _ (hvn i hi).2) (fun i hi => set_other _ _ (hbn i hi).2), k2⟩
    · rw [ev2 j hjk, eu2 j hjk, LS.upd_ne _ _ hjk]
      refine ⟨by rw [Array.getElem?_setIfInBounds_ne (fun e => hjk e.symm)]; exact (h4 j hj).1, (h4 j hj).2.1.keep (fun i hi => ?_) (fun i hi => ?_), (h4 j hj).2.2⟩
      · rw [set_other _ _ (hvt j i hj hi).2]
        exact hm.block i ((h4 j hj).2.1.lt (.inl hi)) (fun hv => h5 k j i hk hj (fun e => hjk e.symm) hv hi)
      · rw [set_other _ _ (hbo j i hj hi).2.1]
        exact hm.block i ((h4 j hj).2.1.lt (.inr hi)) (hbo j i hj hi).2.2
  · intro a b i ha hb hab hia hib
    by_cases h10 : a = k
    · have h11 : b ≠ k := fun e => hab (by rw [h10, e])
      rw [h10, ev1] at hia
      rw [ev2 b h11] at hib
      rcases hm.own i hia with h12 | h12
      · exact h5 k b i hk hb (fun e => h11 e.symm) h12 hib
      · have := (h4 b hb).2.1.lt (.inl hib); omega
    · rw [ev2 a h10] at hia
      by_cases h11 : b = k
      · rw [h11, ev1] at hib
        rcases hm.own i hib with h12 | h12
        · exact h5 k a i hk ha (fun e => h10 e.symm) h12 hia
        · have := (h4 a ha).2.1.lt (.inl hia); omega
      · rw [ev2 b h11] at hib
        exact h5 a b i ha hb hab hia hib
  · refine ⟨hm.os, hm.tape, hm.output, by rw [set_size]; exact hm.size, fun i hi hn => ?_, ?_⟩
    · rw [hS] at hn
      rw [set_other _ _ (fun e => hn (.inr (.inl e)))]
      exact hm.block i hi (fun hv => hn (.inr (.inr ⟨k, hk, .inl hv⟩)))
    · rw [hS]
      rintro i (hi | hi | ⟨j, hj, hi⟩)
      · exact .inl (.inl hi)
      · exact .inl (.inr (.inl hi))
      · by_cases hjk : j = k
        · rw [hjk, ev1, eu1] at hi
          rcases hi with hi | hi
          · rcases hm.own i hi with h12 | h12
            · exact .inl (.inr (.inr ⟨k, hk, .inl h12⟩))
            · exact .inr h12
          · rcases k5 i hi with h12 | h12
            · exact .inl (.inr (.inr ⟨k, hk, .inr h12⟩))
            · exact .inr h12
        · rw [ev2 j hjk, eu2 j hjk] at hi; exact .inl (.inr (.inr ⟨j, hj, hi⟩))
end Go.Proofs.Ytjidhpmjdhjciaa

namespace Go.Proofs.Ytjidhpmjdhjciaa
open Go.RowKit
set_option linter.unusedVariables false

open Classical in
noncomputable def atI (n : Nat) (f t : Int) : Int := if okP n f t then (keyP n f t : Int) else -1
theorem atI_no {n : Nat} {f t : Int} (h : ¬ okP n f t) : atI n f t = -1 := by simp [atI, h]
theorem atI_ok {n : Nat} {f t : Int} (h : okP n f t) : atI n f t = (keyP n f t : Int) := by simp [atI, h]
theorem at_any {w : World} {r n : Nat} (hc : w.cell? ⟨r, 0, none⟩ = some (.int .i64 n)) (hn : n ≤ 16) (f t : Int) :
    Calls Try.prog 48 #[ptr r, .int .i64 f, .int .i64 t] w fun e w' => e = .returned (.int .i64 (atI n f t)) ∧ w = w' := by
  by_cases h1 : f < 0
  · rw [atI_no (fun h => by have := h.1.1; omega)]
    go_enter Try.func48, Try.ntmps48
    go_wp2
    go_ret
    exact ⟨rfl, rfl⟩
  by_cases h2 : (n : Int) ≤ f
  · rw [atI_no (fun h => by have := h.1.2; omega)]
    go_enter Try.func48, Try.ntmps48
    go_wp2
    go_ret
    exact ⟨rfl, rfl⟩
  by_cases h3 : t < 0
  · rw [atI_no (fun h => by have := h.2.1.1; omega)]
    go_enter Try.func48, Try.ntmps48
    go_wp2
    go_ret
    exact ⟨rfl, rfl⟩
  by_cases h4 : (n : Int) ≤ t
  · rw [atI_no (fun h => by have := h.2.1.2; omega)]
    go_enter Try.func48, Try.ntmps48
    go_wp2
    go_ret
    exact ⟨rfl, rfl⟩
  by_cases h5 : f = t
  · rw [atI_no (fun h => h.2.2 h5)]
    have h5b : (f == t) = true := by simp [h5]
    subst h5
    go_enter Try.func48, Try.ntmps48
    go_wp2
    go_ret
    exact ⟨rfl, rfl⟩
  · have ho : okP n f t := ⟨⟨by omega, by omega⟩, ⟨by omega, by omega⟩, h5⟩
    rw [atI_ok ho]
    obtain ⟨a, b, rfl, rfl, ha, hb, hab, hk⟩ := okP_nat ho
    have hp : a * n ≤ 16 * 16 := Nat.mul_le_mul (by omega) hn
    have h5b : ((a : Int) == (b : Int)) = false := by simp; omega
    obtain ⟨p, hpe⟩ : ∃ p, p = a * n := ⟨_, rfl⟩
    have e1 : IntKind.i64.wrap ((a : Int) * (n : Int)) = (p : Int) := by
      rw [IntKind.wrap_i64]
      have : ((a * n : Nat) : Int) = (a : Int) * (n : Int) := by simp
      rw [← this, ← hpe]; omega
    have hk' : ((keyP n a b : Nat) : Int) = (p : Int) + (b : Int) := by rw [hk, ← hpe]; omega
    have hp2 : p ≤ 256 := by omega
    rw [hk']
    clear hk hk' ho hp hpe
    go_enter Try.func48, Try.ntmps48
    go_wp2
    go_ret
    exact ⟨rfl, rfl⟩
/-- at the head of a round of Copy -/
def CopyAt (w : World) (l : List Int) (j : Nat) (v : Value) (wr : World) : Prop :=
  wr.ownsRow w.heap.size 5 1 v j ((l.take j).map (Value.int .u8)) ∧ Below w.heap.size w wr

set_option maxHeartbeats 400000 in
theorem copy_any (A : Option Addr) (n c B : Nat) (l : List Int) (w : World) (hr : Row w B A n l) (hB : B ≤ w.heap.size) (hmax : n ≤ 140737488355328) :
    Calls Try.prog 60 #[.slice A n c] w (GivesB w l) := by
  obtain ⟨i0, hi, hz0, hz1, hz2⟩ := info_parts u8_info
  have HL := cover hr.len
  go_enter Try.func60, Try.ntmps60
  go_wp2
  go_loopw [3, 4] (fun v i wr => ∃ j : Nat, j ≤ n ∧ i = .int .i64 j ∧ Hid (CopyAt w l j v wr)) (fun _ i _ => n - (intOf i).toNat)
  case atStart => exact ⟨0, Nat.zero_le _, rfl, cover ⟨World.ownsRow_nil _ _ _ _, Below.refl _ _⟩⟩
  case round =>
    obtain ⟨j, hj, rfl, hrel⟩ := hrel
    obtain ⟨hown, hbel⟩ := hrel.out
    have hsz := hbel.size
    by_cases hlt : j < n
    · obtain ⟨ad, x, rfl, had, hc, hx⟩ := (hr.keep fun p hp => hbel.cell (by omega)).at_ hlt
      go_wp2_with (at_builtin; refine wpList_append_own _ rfl _ _ 28 rfl w.heap.size 5 i0 (.int .u8 0) 1 1 Try.underlying28 hi hz0 hz1 hz2 rfl (by decide) _ _ _ rfl (hown.alloc _) ⟨wr.heap.size, 0, none⟩ 1 1 [.int .u8 x] rfl rfl ?c1 ?c2 ?c3 ?c4 ?c5 ?_)
      case c1 => exact cell_one_new _ _ _
      case c2 => intro u hu; simp at hu; subst hu; rfl
      case c3 => unfold maxLen; omega
      case c4 => omega
      case c5 => simp; omega
      intro v' w1 hown' hgrow _
      rw [← List.map_take] at hown'
      have HN : Hid (CopyAt w l (j + 1) v' w1) := cover ⟨by rw [List.take_add_one, hx.out, List.map_append]; exact hown', (hbel.alloc hsz _).grown hgrow (by simp; omega) (fun k hk => (hown.lt k hk).1)⟩
      clear hown' hgrow hown
      go_wp2
      go_roundw
      case rel => exact ⟨j + 1, by omega, by go_num, HN⟩
      case measure => simp [intOf]; omega
    · obtain rfl : j = n := by omega
      rw [List.take_of_length_le (by rw [HL.out]; omega)] at hown
      obtain ⟨A1, c1, rfl, _⟩ := own_shape hown
      go_wp2
      go_ret
      refine ⟨A1, c1, by rw [HL.out]; rfl, ?_, hbel⟩
      unfold OwnB; rw [HL.out]; exact hown

theorem rfly_info : (Try.prog.info? 81).map (fun i => (i.zero, i.size, i.bytes)) = some (some (.agg #[.slice none 0 0, .int .i64 0]), 2, 32) := by kernel_rfl
/-- an append whose outcome is known -/
def Appends (P : Program) (TS : TypeId) (w : World) (v u : Value) (R : Value → World → Prop) : Prop := ∀ ty, ∃ v' w', (Builtin.append_ #[TS, TS] ty #[v, u]).run P w = .ok v' w' ∧ R v' w'
theorem appends_exec {P : Program} {o : Oper} {a : Act} {w : World} (d s : Operand) (t t' : TypeId) (ho : o.op = .call { callee := .builtin .append, args := #[d, s], argTypes := #[t, t'] })
    (v u : Value) (hd : a.eval d = v) (hs : a.eval s = u) {v' : Value} {w' : World} (hr : (Builtin.append_ #[t, t'] o.type #[v, u]).run P w = .ok v' w') : (execOp a.eval o).run P w = .ok (.value v') w' := by
  simp [execOp, ho, resolve, invoke, builtin, hd, hs, hr, Result.andThen]
/-- at a step of a region that draws -/
theorem appends_step {P : Program} {ops : Array Oper} {o : Oper} {a : Act} {w : World} {K : Act → World → Prop} {Q : Exit → Act → World → Prop} {E : Prop} (hg : o.guard = none) (d s : Operand) (t : TypeId) (ho : o.op = Op.call { callee := Callee.builtin Builtin.append, args := #[d, s], argTypes := #[t, t] })
    (v u : Value) (hd : a.eval d = v) (hs : a.eval s = u) {R : Value → World → Prop} (hG : Appends P t w v u R) (hK : ∀ v' w', R v' w' → K (a.put o.dst v') w') :
    if Region.wanted o (yielded ops a.tmps) = true then Oper.wp P o a w K Q else E := by
  obtain ⟨v', w', hr, hR⟩ := hG o.type
  rw [if_pos (by simp [Region.wanted, hg])]
  unfold Oper.wp
  rw [appends_exec d s t t ho v u hd hs hr, Oper.upon_value]
  exact hK v' w' hR
/-- in a plain region -/
theorem appends_list {P : Program} {ops : Array Oper} {rest : List Oper} {o : Oper} {a : Act} {w : World} {Q : Exit → Act → World → Prop} (hg : o.guard = none) (d s : Operand) (t : TypeId) (ho : o.op = Op.call { callee := Callee.builtin Builtin.append, args := #[d, s], argTypes := #[t, t] })
    (v u : Value) (hd : a.eval d = v) (hs : a.eval s = u) {R : Value → World → Prop} (hG : Appends P t w v u R) (h : ∀ v' w', R v' w' → wpList P ops Q rest (a.put o.dst v') w') : wpList P ops Q (o :: rest) a w := by
  obtain ⟨v', w', hr, hR⟩ := hG o.type
  exact run_to hg v' w' (appends_exec d s t t ho v u hd hs hr) (h v' w' hR)
/-- frames of the document's own are put behind such a row -/
def Longer (w : World) (v : Value) (us : List UV) (v' : Value) (w' : World) : Prop :=
  ∃ A c, v' = .slice A us.length c ∧ Hid (w'.ownsRow 0 81 2 v' us.length (flat us) ∧ w.grownBy w' v.ownBlock ∧ (v'.ownBlock = v.ownBlock ∨ v'.ownBlock = some w.heap.size))
theorem append_r {w : World} {v : Value} {us news : List UV} (h : w.ownsRow 0 81 2 v us.length (flat us)) (ad : Addr) (m c : Nat) (hm : news.length = m)
    (hc : ∀ j u, (flat news)[j]? = some u → w.cell? (ad.add j) = some u) (hbig : us.length + m ≤ 100000) :
    Appends Try.prog 46 w v (.slice (some ad) m c) (Longer w v (us ++ news)) := by
  intro ty
  obtain ⟨i0, hi, hz0, hz1, hz2⟩ := info_parts rfly_info
  obtain ⟨v', w', hr, h2, h3, _, h5⟩ := run_append_own_at (P := Try.prog) w 0 46 ty 81 i0 _ 2 32 Try.underlying46 hi hz0 hz1 hz2 rfl (by decide) v us.length (flat us) h ad m c (flat news) (by rw [flat_length, hm]) hc
    (fun u hu => by
      unfold flat at hu
      obtain ⟨x, _, hx⟩ := List.mem_flatMap.1 hu
      simp at hx
      rcases hx with rfl | rfl <;> rfl) (by unfold maxLen; omega) (by omega) (Nat.zero_le _)
  have e1 : us.length + m = (us ++ news).length := by rw [List.length_append, hm]
  have e2 : flat us ++ flat news = flat (us ++ news) := by unfold flat; rw [List.flatMap_append]
  rw [e1, e2] at h2
  obtain ⟨A, c', e, _⟩ := own_shape h2
  exact ⟨v', w', hr, A, c', e, cover ⟨h2, h3, h5⟩⟩
/-- the cells of a row of frames, from the k-th on -/
theorem flat_drop (us : List UV) (k : Nat) : flat (us.drop k) = (flat us).drop (k * 2) := by
  induction us generalizing k with
  | nil => simp [flat]
  | cons u us ih =>
    cases k with
    | zero => rfl
    | succ k =>
      have e : flat (u :: us) = .slice u.A u.l.length u.c :: .int .i64 u.age :: flat us := rfl
      rw [e, show (k + 1) * 2 = k * 2 + 1 + 1 by omega, List.drop_succ_cons, List.drop_succ_cons, List.drop_succ_cons]; exact ih k
theorem row_cells {w : World} {g n c : Nat} {us : List UV} (h : w.ownsRow 0 81 2 (.slice (some ⟨g, 0, none⟩) n c) n (flat us)) (hn : us.length = n) : ∀ j u, (flat us)[j]? = some u → w.cell? ⟨g, j, none⟩ = some u := by
  intro j u hj
  have hl : j < n * 2 := by
    have := (List.getElem?_eq_some_iff.1 hj).1
    rw [flat_length, hn] at this; exact this
  rw [World.ownsRow.cellAt h j hl]; exact hj
/-- an own row that is not empty -/
theorem RRow.at_ {w : World} {v : Value} {us : List UV} (h : RRow w v us) (h0 : us ≠ []) : ∃ g c, v = .slice (some ⟨g, 0, none⟩) us.length c ∧ us.length ≤ c ∧ vfoot v g ∧ g < w.heap.size ∧ ∀ j u, (flat us)[j]? = some u → w.cell? ⟨g, j, none⟩ = some u := by
  have hr := h.row
  rcases hr.2 with ⟨_, h1⟩ | ⟨g, c, cur, hv, _, hh, hc, _⟩
  · exact absurd (List.eq_nil_of_length_eq_zero h1) h0
  · subst hv
    exact ⟨g, c, rfl, hc, rfl, block_lt hh, row_cells hr rfl⟩
theorem RRow.shape {w : World} {v : Value} {us : List UV} (h : RRow w v us) : ∃ A c, v = .slice A us.length c := by
  obtain ⟨A, c, e, _⟩ := own_shape h.row; exact ⟨A, c, e⟩
theorem tell2_len {us : List UV} {r : List (List Int × Nat)} (h : tell2 us = told r) : us.length = r.length := by
  have := congrArg List.length h; simpa [tell2, told] using this
theorem tell2_app (us vs : List UV) : tell2 (us ++ vs) = tell2 us ++ tell2 vs := by simp [tell2]
theorem tell2_cons {us : List UV} {x : List Int × Nat} {r : List (List Int × Nat)} (h : tell2 us = told (x :: r)) : ∃ u us', us = u :: us' ∧ u.l = x.1 ∧ u.age = (x.2 : Int) ∧ tell2 us' = told r := by
  cases us with
  | nil => simp [tell2, told] at h
  | cons u us' =>
    simp [tell2, told] at h
    exact ⟨u, us', rfl, h.1.1, h.1.2, by simp [tell2, told]; exact h.2⟩
theorem told_app (r q : List (List Int × Nat)) : told (r ++ q) = told r ++ told q := by simp [told]

/-! ### Line -/
theorem keyP_lt {n : Nat} {f t : Int} (h : okP n f t) : keyP n f t < n * n := by
  obtain ⟨a, b, rfl, rfl, ha, hb, _, hk⟩ := okP_nat h
  rw [hk]; exact place_lt ha hb
/-- what Line hands back -/
def LineOut (s : LS) (f t : Int) (w : World) (e : Ending) (w' : World) : Prop :=
  ∃ A c us, e = .returned (.slice A us.length c) ∧ RRow w (.slice A us.length c) us ∧ tell2 us = told (theRow s f t) ∧ w = w'
theorem line_any {S : Foot} {w : World} {r : Nat} {s : LS} (h : RIn S w r s) (f t : Int) : Calls Try.prog 24 #[ptr r, .int .i64 f, .int .i64 t] w (LineOut s f t w) := by
  have hA := at_any h.cells.1 h.n16 f t
  by_cases ho : okP s.n f t
  · have hk := keyP_lt ho
    obtain ⟨g, c, v, us, h1, h2, _, _, _, _, h3, h4, _⟩ := h.place hk
    obtain ⟨A, cc, rfl⟩ := h3.shape
    rw [atI_ok ho] at hA
    have HF : Hid (LineOut s f t w (.returned (.slice A us.length cc)) w) := cover ⟨A, cc, us, rfl, h3, by rw [theRow_ok ho]; exact h4, rfl⟩
    have hki : (keyP s.n f t : Int) < ((s.n * s.n : Nat) : Int) := by omega
    generalize keyP s.n f t = k at *
    generalize s.n * s.n = nn at *
    clear h3 h4 h ho
    go_enter Try.func24, Try.ntmps24
    go_wp2_with fail
    refine hA.mono ?_
    rintro e w' ⟨rfl, rfl⟩
    clear hA
    go_wp2
    go_ret
    exact HF.out
  · rw [atI_no ho] at hA
    have HF : Hid (LineOut s f t w (.returned (.slice none 0 0)) w) := cover ⟨none, 0, [], rfl, RRow.nil w, by rw [theRow_no ho]; rfl, rfl⟩
    clear h ho
    go_enter Try.func24, Try.ntmps24
    go_wp2_with fail
    refine hA.mono ?_
    rintro e w' ⟨rfl, rfl⟩
    clear hA
    go_wp2
    go_ret
    exact HF.out
end Go.Proofs.Ytjidhpmjdhjciaa

namespace Go.Proofs.Ytjidhpmjdhjciaa
open Go.RowKit
set_option linter.unusedVariables false

/-- a row that was put together anew, or grew -/
theorem RRow.grown {w W1 w' : World} {v vb v' : Value} {us zs : List UV} {n : Nat} {xs : List Value} (h : RRow w v us) (hb : Below w.heap.size w W1) (hvo : W1.ownsRow 0 81 2 vb n xs) (hvb : ∀ i, vfoot vb i → vfoot v i ∨ w.heap.size ≤ i) (hL : Longer W1 vb zs v' w')
    (hn : ∀ u ∈ zs, u ∈ us ∨ OwnB W1 w.heap.size u.val u.l) : RRow w' v' zs ∧ Moves (vfoot v) (vfoot v') w w' ∧ ∀ i, bfoot zs i → bfoot us i ∨ w.heap.size ≤ i := by
  obtain ⟨A, c, rfl, hl⟩ := hL
  obtain ⟨h1, h2, h3⟩ := hl.out
  have hs := hb.size
  have hs2 := h2.size
  have hk : ∀ i (cur : Array Value), W1.heap[i]? = some (Obj.cells cur 5 (0, 0)) → w'.heap[i]? = W1.heap[i]? := fun i cur hc => h2.block i (block_lt hc) (fun e => by
    obtain ⟨cu, hc'⟩ := own_type hvo e.symm
    exact type_ne hc hc' (by decide) rfl)
  refine ⟨⟨h1, fun u hu => ?_⟩, ⟨h2.os.trans hb.os, h2.tape.trans hb.tape, h2.output.trans hb.output, by omega, fun i hi hnv => ?_, fun i hi => ?_⟩, fun i ⟨u, hu, hi⟩ => ?_⟩
  · rcases hn u hu with h4 | h4
    · refine uv_keep (h.own u h4) fun i hi => ?_
      obtain ⟨_, cur, hc⟩ := uv_blk (h.own u h4) hi
      have hc1 := (hb.block i (block_lt hc)).trans hc
      exact (hk i cur hc1).trans (hb.block i (block_lt hc))
    · refine OwnB.mono (uv_keep h4 fun i hi => ?_) (Nat.zero_le _)
      obtain ⟨_, cur, hc⟩ := uv_blk h4 hi
      exact hk i cur hc
  · exact (h2.block i (by omega) (fun e => by rcases hvb i e.symm with h4 | h4 <;> first | exact hnv h4 | omega)).trans (hb.block i hi)
  · rcases h3 with h3 | h3
    · have : vfoot vb i := by unfold vfoot; rw [← h3]; exact hi
      exact hvb i this
    · have : W1.heap.size = i := by have : vfoot _ i := hi; unfold vfoot at this; rw [h3] at this; simpa using this
      right; omega
  · rcases hn u hu with h4 | h4
    · exact .inl ⟨u, h4, hi⟩
    · exact .inr (uv_blk h4 hi).1

/-- all but the first of a row are put behind other ones -/
theorem append_tail {W : World} {vb : Value} {hs us' : List UV} {u : UV} {hb cV L : Nat} (hvb : W.ownsRow 0 81 2 vb hs.length (flat hs)) (hL : L = us'.length + 1) (hc : L ≤ cV)
    (hcell : ∀ j x, (flat (u :: us'))[j]? = some x → W.cell? ⟨hb, j, none⟩ = some x) (hbig : hs.length + us'.length ≤ 100000) :
    Appends Try.prog 46 W vb (.slice (if cV = 1 then some ⟨hb, 0, none⟩ else some ⟨hb, 2, none⟩) (L - 1) (cV - 1)) (Longer W vb (hs ++ us')) := by
  have e : (if cV = 1 then some (⟨hb, 0, none⟩ : Addr) else some ⟨hb, 2, none⟩) = some (if cV = 1 then ⟨hb, 0, none⟩ else ⟨hb, 2, none⟩) := by split <;> rfl
  rw [e]
  refine append_r hvb _ (L - 1) (cV - 1) (by omega) (fun j x hj => ?_) (by omega)
  have hlt := (List.getElem?_eq_some_iff.1 hj).1
  rw [flat_length] at hlt
  have h1 : ¬ cV = 1 := by omega
  rw [if_neg h1]
  have e2 : (⟨hb, 2, none⟩ : Addr).add j = ⟨hb, j + 2, none⟩ := by
    unfold Addr.add; split
    · subst_vars; rfl
    · simp; omega
  rw [e2]
  refine hcell _ _ ?_
  have e3 : flat (u :: us') = .slice u.A u.l.length u.c :: .int .i64 u.age :: flat us' := rfl
  rw [e3]; simpa using hj
theorem own_empty {W : World} {g : Nat} (h : W.heap[g]? = some (.cells #[] 81 (0, 0))) : W.ownsRow 0 81 2 (.slice (some ⟨g, 0, none⟩) 0 0) ([] : List UV).length (flat []) :=
  ⟨rfl, .inr ⟨g, 0, #[], rfl, Nat.zero_le _, h, Nat.le_refl _, by decide, by simp, rfl⟩⟩

set_option maxRecDepth 100000 in
set_option maxHeartbeats 1600000 in
theorem rsend_any {S : Foot} {w : World} {r : Nat} {s : LS} (h : RIn S w r s) (f t : Int) (A : Option Addr) (n c B : Nat) (b : List Int) (hr : Row w B A n b) (hB : B ≤ w.heap.size) (hmax : n ≤ 1000000) (hlost : s.lost ≤ 100000000) :
    Calls Try.prog 39 #[ptr r, .int .i64 f, .int .i64 t, .slice A n c] w fun e w' => e = .returned (.bool (sendB s f t)) ∧ Hid (RNow S r (sendS s f t b) w w') := by
  have hA := at_any h.cells.1 h.n16 f t
  by_cases ho : okP s.n f t
  · have hk := keyP_lt ho
    rw [atI_ok ho] at hA
    obtain ⟨g, cc, v, us, h1, h2, h3, h4, h5, h6, h7, h8, h9, hclose⟩ := h.place hk
    have hm1 := h.cells.2.1
    have c3 := h.cells.2.2.2
    have f3 := h.thaw 3
    have h64 := h.m64
    have hul := tell2_len h8
    have hkey : (s.rows (keyP s.n f t)).length ≤ s.m := h.len _
    obtain ⟨AV, cV, hv⟩ := h7.shape
    have hbl := hr.len
    have hki : (keyP s.n f t : Int) < ((s.n * s.n : Nat) : Int) := by omega
    have hk0 : (0 : Int) ≤ (keyP s.n f t : Int) := by omega
    by_cases hfull : (s.rows (keyP s.n f t)).length < s.m
    · have HSB : Hid (sendB s f t = true) := cover (by simp [sendB, ho, hfull])
      have HC : Hid (∀ W', Below w.heap.size w W' → Calls Try.prog 60 #[.slice A n c] W' (GivesB W' b)) := cover fun W' hb => copy_any A n c B b W' (hr.below (hb.mono hB)) (Nat.le_trans hB hb.size) (by omega)
      have HF : Hid (∀ W1 w' A2 c2 v', Below w.heap.size w W1 → OwnB W1 w.heap.size (.slice A2 b.length c2) b → Longer W1 v (us ++ [⟨A2, c2, b, 0⟩]) v' w' → RNow S r (sendS s f t b) w (w'.setCell ⟨g, keyP s.n f t, none⟩ v')) := cover fun W1 w' A2 c2 v' hb hown hL => by
        have hvo := own_keeps h7.row (w' := W1) (fun i hi => hb.block i (h7.lt (.inl hi)))
        obtain ⟨k1, k2, k3⟩ := h7.grown hb hvo (fun i hi => .inl hi) hL (fun u hu => by
          rcases List.mem_append.1 hu with hu | hu
          · exact .inl hu
          · simp at hu; subst hu; exact .inr hown)
        have := hclose w' v' _ (s.rows (keyP s.n f t) ++ [(b, 0)]) k1 (by rw [tell2_app, h8, told_app]; rfl) (by simp; omega) k2 k3
        have e : sendS s f t b = s.upd (keyP s.n f t) (s.rows (keyP s.n f t) ++ [(b, 0)]) := by simp [sendS, ho, hfull]
        rw [e]; exact this
      have HV : Hid (∀ W1, Below w.heap.size w W1 → ∀ A2 c2 ad, (∀ j u, (flat [⟨A2, c2, b, 0⟩])[j]? = some u → W1.cell? (ad.add j) = some u) → Appends Try.prog 46 W1 v (.slice (some ad) 1 1) (Longer W1 v (us ++ [⟨A2, c2, b, 0⟩]))) := cover fun W1 hb A2 c2 ad hcs =>
        append_r (own_keeps h7.row (fun i hi => hb.block i (h7.lt (.inl hi)))) ad 1 1 rfl hcs (by omega)
      have HN : Hid (v.ownBlock ≠ some r ∧ v.ownBlock ≠ some g) := cover ⟨fun e => (h9 r (.inl e)).1 rfl, fun e => (h9 g (.inl e)).2 rfl⟩
      have hlt : ¬ (s.m : Int) ≤ (us.length : Int) := by omega
      have hf3 := h3 (keyP s.n f t)
      generalize keyP s.n f t = k at *
      generalize s.n * s.n = nn at *
      generalize us.length = L at *
      generalize s.m = m at *
      clear h h7 h8 h9 hclose hr hfull hkey hul ho h3 f3
      subst hv
      go_enter Try.func39, Try.ntmps39
      go_wp2_with fail
      refine hA.mono ?_
      rintro e w' ⟨rfl, rfl⟩
      clear hA
      go_wp2_with fail
      go_quiet (fail)
      go_wp2_with fail
      have hbd := below_drewN' w nq
      obtain ⟨w1, hw1⟩ : ∃ w1, w1 = w.drewN nq := ⟨_, rfl⟩
      rw [← hw1] at hbd ⊢
      have hs1 := hbd.size
      have HK : Hid (∀ W', Below w1.heap.size w1 W' → W'.cell? ⟨r, 4, none⟩ = some (.slice (some ⟨g, 0, none⟩) nn cc) ∧ W'.cell? ⟨g, k, none⟩ = some (.slice AV L cV) ∧ W'.frozen? ⟨g, k, none⟩ = false) := cover fun W' hb => by
        have hb' := hbd.trans (hb.mono hs1)
        exact ⟨(hb'.cell (p := ⟨r, 4, none⟩) h5).trans h1, (hb'.cell (p := ⟨g, k, none⟩) h6).trans h2, by
          have := hf3; unfold World.frozen? at this ⊢; rw [hb'.block g h6]; exact this⟩
      have HC1 : Hid (∀ W', Below w1.heap.size w1 W' → Calls Try.prog 60 #[.slice A n c] W' (GivesB W' b)) := cover fun W' hb => HC.out W' (hbd.trans (hb.mono hs1))
      obtain ⟨g1, g2, g3⟩ := HK.out w1 (Below.refl _ _)
      have HG := cover (And.intro h4 (And.intro h5 (And.intro h6 (And.intro hbd hs1))))
      have hr1 : r < w1.heap.size := by omega
      have hg1 : g < w1.heap.size := by omega
      clear hw1 hbd h1 h2 hf3 hm1 c3 HC hs1
      have mixed : Try.prog.follows .mixedOrders = true := by kernel_rfl
      refine (wpIn_wide (n := 0)).1 ?_
      refine held_begin (fun W' : World => W'.cell? ⟨r, 4, none⟩ = some (.slice (some ⟨g, 0, none⟩) nn cc) ∧ W'.cell? ⟨g, k, none⟩ = some (.slice AV L cV) ∧ W'.frozen? ⟨g, k, none⟩ = false) 18 mixed ?_
      have HS : (fun W' : World => W'.cell? ⟨r, 4, none⟩ = some (.slice (some ⟨g, 0, none⟩) nn cc) ∧ W'.cell? ⟨g, k, none⟩ = some (.slice AV L cV) ∧ W'.frozen? ⟨g, k, none⟩ = false) w1.drew := HK.out _ (Below.refl _ _).drew
      refine held_take 0 _ rfl (by kernel_rfl) (by kernel_rfl) (by kernel_rfl) (by kernel_rfl) (by kernel_rfl) (fun _ _ _ h => h) (by rfl) (fun _ => rfl) HS (fun w' hS => by obtain ⟨q0, q1, q2⟩ := hS; go_simp; rfl) ?_
      refine held_take 1 _ rfl (by kernel_rfl) (by kernel_rfl) (by kernel_rfl) (by kernel_rfl) (by kernel_rfl) (fun _ _ _ h => h) (by rfl) (fun _ => rfl) HS (fun w' hS => by obtain ⟨q0, q1, q2⟩ := hS; go_simp; rfl) ?_
      refine held_take 2 _ rfl (by kernel_rfl) (by kernel_rfl) (by kernel_rfl) (by kernel_rfl) (by kernel_rfl) (fun _ _ _ h => h) (by rfl) (fun _ => rfl) HS (fun w' hS => by obtain ⟨q0, q1, q2⟩ := hS; go_simp; rfl) ?_
      refine held_take 3 _ rfl (by kernel_rfl) (by kernel_rfl) (by kernel_rfl) (by kernel_rfl) (by kernel_rfl) (fun _ _ _ h => h) (by rfl) (fun _ => rfl) HS (fun w' hS => by obtain ⟨q0, q1, q2⟩ := hS; go_simp; rfl) ?_
      refine held_take 4 _ rfl (by kernel_rfl) (by kernel_rfl) (by kernel_rfl) (by kernel_rfl) (by kernel_rfl) (fun _ _ _ h => h) (by rfl) (fun _ => rfl) HS (fun w' hS => by obtain ⟨q0, q1, q2⟩ := hS; go_simp; rfl) ?_
      refine held_take 5 _ rfl (by kernel_rfl) (by kernel_rfl) (by kernel_rfl) (by kernel_rfl) (by kernel_rfl) (fun _ _ _ h => h) (by rfl) (fun _ => rfl) HS (fun w' hS => by obtain ⟨q0, q1, q2⟩ := hS; go_simp; rfl) ?_
      refine held_take 6 _ rfl (by kernel_rfl) (by kernel_rfl) (by kernel_rfl) (by kernel_rfl) (by kernel_rfl) (fun _ _ _ h => h) (by rfl) (fun _ => rfl) HS (fun w' hS => by obtain ⟨q0, q1, q2⟩ := hS; go_simp; rfl) ?_
      refine held_take 7 _ rfl (by kernel_rfl) (by kernel_rfl) (by kernel_rfl) (by kernel_rfl) (by kernel_rfl) (fun _ _ _ h => h) (by rfl) (fun _ => rfl) HS (fun w' hS => by obtain ⟨q0, q1, q2⟩ := hS; go_simp; rfl) ?_
      refine held_take 8 _ rfl (by kernel_rfl) (by kernel_rfl) (by kernel_rfl) (by kernel_rfl) (by kernel_rfl) (fun _ _ _ h => h) (by rfl) (fun _ => rfl) HS (fun w' hS => by obtain ⟨q0, q1, q2⟩ := hS; go_simp; rfl) ?_
      refine held_take 9 _ rfl (by kernel_rfl) (by kernel_rfl) (by kernel_rfl) (by kernel_rfl) (by kernel_rfl) (fun _ _ _ h => h) (by rfl) (fun _ => rfl) HS (fun w' hS => by obtain ⟨q0, q1, q2⟩ := hS; go_simp; rfl) ?_
      refine held_take 10 _ rfl (by kernel_rfl) (by kernel_rfl) (by kernel_rfl) (by kernel_rfl) (by kernel_rfl) (fun _ _ _ h => h) (by rfl) (fun _ => rfl) HS (fun w' hS => by obtain ⟨q0, q1, q2⟩ := hS; go_simp; rfl) ?_
      refine held_take 11 _ rfl (by kernel_rfl) (by kernel_rfl) (by kernel_rfl) (by kernel_rfl) (by kernel_rfl) (fun _ _ _ h => h) (by rfl) (fun _ => rfl) HS (fun w' hS => by obtain ⟨q0, q1, q2⟩ := hS; go_simp; rfl) ?_
      refine held_take 12 _ rfl (by kernel_rfl) (by kernel_rfl) (by kernel_rfl) (by kernel_rfl) (by kernel_rfl) (fun _ _ _ h => h) (by rfl) (fun _ => rfl) HS (fun w' hS => by obtain ⟨q0, q1, q2⟩ := hS; go_simp; rfl) ?_
      refine held_one 13 (by kernel_rfl) rfl (by rfl) fun K hK => ?_
      go_simp
      refine ⟨trivial, rfl, (callsIn_wide.2 (HC1.out _ (Below.refl _ _).drew)).mono ?_⟩
      rintro e w2 ⟨A2, c2, rfl, ho2, hb02⟩
      have hb2 : Below w1.heap.size w1 w2 := (Below.refl _ _).drew.trans hb02
      have HS2 : (fun W' : World => W'.cell? ⟨r, 4, none⟩ = some (.slice (some ⟨g, 0, none⟩) nn cc) ∧ W'.cell? ⟨g, k, none⟩ = some (.slice AV L cV) ∧ W'.frozen? ⟨g, k, none⟩ = false) w2 := HK.out _ hb2
      refine hK _ _ (.inr HS2) ?_
      clear hK K
      refine held_take 14 _ rfl (by kernel_rfl) (by kernel_rfl) (by kernel_rfl) (by kernel_rfl) (by kernel_rfl) (fun _ _ _ h => h) (by rfl) (fun _ => rfl) HS2 (fun w' hS => by obtain ⟨q0, q1, q2⟩ := hS; go_simp; rfl) ?_
      refine held_one 15 (by kernel_rfl) rfl (by rfl) fun K2 hK2 => ?_
      refine run_in (fun c h => by cases h) (fun _ _ => trivial) (v := .slice (some ⟨w2.heap.size, 0, none⟩) 1 1) (w' := w2.alloc (.cells #[.slice A2 b.length c2, .int .i64 0] 81)) (by go_simp) ?_
      have hb3 := hb2.alloc hb2.size (.cells #[.slice A2 b.length c2, .int .i64 0] 81)
      refine hK2 _ _ (.inr (HK.out _ hb3)) ?_
      clear hK2 K2
      refine held_one 16 (by kernel_rfl) rfl (by rfl) fun K3 hK3 => ?_
      obtain ⟨v', w3, hr3, hL3⟩ := HV.out _ (HG.out.2.2.2.1.trans (hb3.mono HG.out.2.2.2.2)) A2 c2 ⟨w2.heap.size, 0, none⟩ (World.news_of_block (heap_alloc_new _ _)) 46
      refine run_in (fun c h => by cases h) (fun _ _ => trivial) (v := v') (w' := w3) (appends_exec _ _ _ _ rfl _ _ rfl rfl hr3) ?_
      have HN3 : Hid (RNow S r (sendS s f t b) w (w3.setCell ⟨g, k, none⟩ v')) := cover (HF.out _ w3 A2 c2 v' (HG.out.2.2.2.1.trans (hb3.mono HG.out.2.2.2.2)) (own_below (ho2.mono (by have := HG.out.2.2.2.2; simpa using this)) ((Below.refl _ _).alloc (Nat.le_refl _) _)) hL3)
      obtain ⟨A3, c3, rfl, hl3⟩ := hL3
      have HS3 : (fun W' : World => W'.cell? ⟨r, 4, none⟩ = some (.slice (some ⟨g, 0, none⟩) nn cc) ∧ W'.cell? ⟨g, k, none⟩ = some (.slice AV L cV) ∧ W'.frozen? ⟨g, k, none⟩ = false) w3 := by
        obtain ⟨k1, k2, k3⟩ := HK.out _ hb3
        have hgr := hl3.out.2.1
        have hz := hb2.size
        exact ⟨(hgr.cell_far ⟨r, 4, none⟩ (by simp; omega) (Ne.symm HN.out.1)).trans k1, (hgr.cell_far ⟨g, k, none⟩ (by simp; omega) (Ne.symm HN.out.2)).trans k2, (hgr.frozen_far ⟨g, k, none⟩ (by simp; omega) (Ne.symm HN.out.2)).trans k3⟩
      refine hK3 _ _ (.inr HS3) ?_
      clear hK3 K3 hr3 hl3
      refine held_take 17 _ rfl (by kernel_rfl) (by kernel_rfl) (by kernel_rfl) (by kernel_rfl) (by kernel_rfl) (fun _ _ _ h => h) (by rfl) (fun _ => rfl) HS3 (fun w' hS => by obtain ⟨q0, q1, q2⟩ := hS; go_simp; rfl) ?_
      refine held_one 18 (by kernel_rfl) rfl (by rfl) fun K4 hK4 => ?_
      obtain ⟨q0, q1, q2⟩ := HS3
      go_simp
      refine hK4 _ _ (.inl rfl) (held_done (by kernel_rfl) ?_ _)
      clear hK4 K4
      go_wp2
      go_ret
      exact ⟨ret_bool HSB.out.symm, cover (by have := HN3.out; rw [List.length_append] at this; exact this)⟩
    · have HSB : Hid (sendB s f t = false) := cover (by simp [sendB, hfull])
      have HF : Hid (∀ d, RNow S r (sendS s f t b) w ((w.drewN d).setCell ⟨r, 3, none⟩ (.int .i64 ((s.lost : Int) + 1)))) := cover fun d => by
        have e : sendS s f t b = s.loss 1 := by simp [sendS, ho, hfull]
        rw [e]; exact RNow.loss (RNow.below h (below_drewN' w d)) 1
      have hlt : (s.m : Int) ≤ (us.length : Int) := by omega
      generalize keyP s.n f t = k at *
      generalize s.n * s.n = nn at *
      generalize us.length = L at *
      generalize s.m = m at *
      generalize s.lost = lost at *
      clear h h7 h8 h9 hclose hr hfull hkey hul ho h3
      subst hv
      go_enter Try.func39, Try.ntmps39
      go_wp2_with fail
      refine hA.mono ?_
      rintro e w' ⟨rfl, rfl⟩
      clear hA
      go_wp2_with fail
      go_quiet (fail)
      go_wp2
      go_ret
      exact ⟨ret_bool HSB.out.symm, cover (HF.out _)⟩
  · rw [atI_no ho] at hA
    have HSB : Hid (sendB s f t = false) := cover (by simp [sendB, ho])
    have HF : Hid (RNow S r (sendS s f t b) w w) := cover (by
      have e : sendS s f t b = s := by simp [sendS, ho]
      rw [e]; exact RNow.same h)
    clear h ho hr
    go_enter Try.func39, Try.ntmps39
    go_wp2_with fail
    refine hA.mono ?_
    rintro e w' ⟨rfl, rfl⟩
    clear hA
    go_wp2
    go_ret
    exact ⟨ret_bool HSB.out.symm, HF⟩
end Go.Proofs.Ytjidhpmjdhjciaa
