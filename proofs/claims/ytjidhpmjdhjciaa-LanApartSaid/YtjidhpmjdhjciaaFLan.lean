/- A lan in memory: its own block, a row of queues, each with what it owns; how one of its rows is found. -/
import Derived.Deep.QuietTactic
import Derived.BigQuiet
import Derived.IntWalk
import Derived.Test.YtjidhpmjdhjciaaFQ
namespace Go.Proofs.Ytjidhpmjdhjciaa
open Go.RowKit
set_option linter.unusedVariables false

/-- what a lan is, plainly: stations, room of a row, ages that a frame lives, ages that there were, how many were lost; the rows (of bytes and their age) -/
structure LS where
  n : Nat
  m : Nat
  life : Nat
  now : Nat
  lost : Nat
  rows : Nat → List (List Int × Nat)
def LS.upd (s : LS) (k : Nat) (r : List (List Int × Nat)) : LS := { s with rows := fun j => if j = k then r else s.rows j }
def LS.loss (s : LS) (x : Nat) : LS := { s with lost := s.lost + x }
theorem LS.upd_at (s : LS) (k : Nat) (r : List (List Int × Nat)) : (s.upd k r).rows k = r := by simp [LS.upd]
theorem LS.upd_ne (s : LS) {k j : Nat} (r : List (List Int × Nat)) (h : j ≠ k) : (s.upd k r).rows j = s.rows j := by simp [LS.upd, h]
/-- as the queue holds them: bytes, and when they were sent -/
def encR (now : Nat) (r : List (List Int × Nat)) : List (List Int × Int) := r.map fun x => (x.1, (now : Int) - (x.2 : Int))
theorem encR_length (now : Nat) (r : List (List Int × Nat)) : (encR now r).length = r.length := by simp [encR]
def diag (n k : Nat) : Prop := k / n = k % n
theorem diag_not {n f t : Nat} (ht : t < n) (h : f ≠ t) : ¬ diag n (f * n + t) := by
  unfold diag
  have h1 : (f * n + t) / n = f := by rw [Nat.mul_comm, Nat.mul_add_div (by omega), Nat.div_eq_of_lt ht]; omega
  have h2 : (f * n + t) % n = t := by rw [Nat.mul_comm, Nat.mul_add_mod, Nat.mod_eq_of_lt ht]
  omega
theorem diag_yes {n f : Nat} (hf : f < n) : diag n (f * n + f) := by
  unfold diag
  have h1 : (f * n + f) / n = f := by rw [Nat.mul_comm, Nat.mul_add_div (by omega), Nat.div_eq_of_lt hf]; omega
  have h2 : (f * n + f) % n = f := by rw [Nat.mul_comm, Nat.mul_add_mod, Nat.mod_eq_of_lt hf]
  omega
theorem place_lt {n f t : Nat} (hf : f < n) (ht : t < n) : f * n + t < n * n := by
  have := Nat.mul_le_mul_right n (show f + 1 ≤ n by omega)
  rw [Nat.add_mul] at this; omega

/-- a lan at block l: what it owns is S -/
structure LIn (S : Foot) (w : World) (l : Nat) (s : LS) : Prop where
  n1 : 1 ≤ s.n
  n16 : s.n ≤ 16
  m64 : s.m ≤ 64
  len : ∀ k, (s.rows k).length ≤ s.m
  age : ∀ k, ∀ x ∈ s.rows k, x.2 ≤ s.now
  ex : ∃ (g c : Nat) (cur : Array Value) (q : Nat → Nat) (R : Nat → Foot), w.heap[l]? = some (.cells #[.int .i64 s.n, .int .i64 s.life, .int .i64 s.now, .int .i64 s.lost, .slice (some ⟨g, 0, none⟩) ((s.n * s.n : Nat)) c] 69 (0, 0)) ∧
    w.heap[g]? = some (.cells cur 70 (0, 0)) ∧ s.n * s.n ≤ cur.size ∧
    (∀ k, k < s.n * s.n → diag s.n k → cur[k]? = some (.pointer none) ∧ s.rows k = []) ∧
    (∀ k, k < s.n * s.n → ¬ diag s.n k → cur[k]? = some (ptr (q k)) ∧ FQ (R k) w (q k) s.m (encR s.now (s.rows k))) ∧
    (∀ k j, k < s.n * s.n → j < s.n * s.n → ¬ diag s.n k → ¬ diag s.n j → k ≠ j → ∀ i, R k i → ¬ R j i) ∧
    (∀ k, k < s.n * s.n → ¬ diag s.n k → ∀ i, R k i → i ≠ l ∧ i ≠ g) ∧
    S = fun i => i = l ∨ i = g ∨ ∃ k, k < s.n * s.n ∧ ¬ diag s.n k ∧ R k i
section
variable {S : Foot} {w w' : World} {l : Nat} {s : LS}
theorem LIn.l_in (h : LIn S w l s) : S l := by obtain ⟨g, c, cur, q, R, _, _, _, _, _, _, _, rfl⟩ := h.ex; exact .inl rfl
theorem LIn.lt (h : LIn S w l s) : ∀ k, S k → k < w.heap.size := by
  obtain ⟨g, c, cur, q, R, h1, h2, _, _, h5, _, _, rfl⟩ := h.ex
  rintro k (rfl | rfl | ⟨j, hj, hd, hk⟩)
  · exact block_lt h1
  · exact block_lt h2
  · exact (h5 j hj hd).2.lt k hk
theorem LIn.keep (h : LIn S w l s) (hk : ∀ k, S k → w'.heap[k]? = w.heap[k]?) : LIn S w' l s := by
  obtain ⟨g, c, cur, q, R, h1, h2, h3, h4, h5, h6, h7, rfl⟩ := h.ex
  exact ⟨h.n1, h.n16, h.m64, h.len, h.age, g, c, cur, q, R, (hk l (.inl rfl)).trans h1, (hk g (.inr (.inl rfl))).trans h2, h3, h4, fun k hk1 hd => ⟨(h5 k hk1 hd).1, (h5 k hk1 hd).2.keep fun i hi => hk i (.inr (.inr ⟨k, hk1, hd, hi⟩))⟩, h6, h7, rfl⟩
theorem LIn.below (h : LIn S w l s) (hb : Below w.heap.size w w') : LIn S w' l s := h.keep fun k hk => hb.block k (h.lt k hk)
theorem LIn.drewN (h : LIn S w l s) (d : Nat) : LIn S (w.drewN d) l s := h.keep fun _ _ => rfl
theorem LIn.apart {T T' : Foot} (h : LIn S w l s) (hm : Moves T T' w w') (hd : ∀ k, S k → ¬ T k) : LIn S w' l s := h.keep fun k hk => hm.block k (h.lt k hk) (hd k hk)
theorem LIn.cells (h : LIn S w l s) : w.cell? ⟨l, 0, none⟩ = some (.int .i64 s.n) ∧ w.cell? ⟨l, 1, none⟩ = some (.int .i64 s.life) ∧ w.cell? ⟨l, 2, none⟩ = some (.int .i64 s.now) ∧ w.cell? ⟨l, 3, none⟩ = some (.int .i64 s.lost) := by
  obtain ⟨g, c, cur, q, R, h1, _⟩ := h.ex
  exact ⟨by rw [cell_of_row _ _ _ _ _ _ h1]; rfl, by rw [cell_of_row _ _ _ _ _ _ h1]; rfl, by rw [cell_of_row _ _ _ _ _ _ h1]; rfl, by rw [cell_of_row _ _ _ _ _ _ h1]; rfl⟩
theorem LIn.thaw (h : LIn S w l s) (o : Nat) : w.frozen? ⟨l, o, none⟩ = false := by
  obtain ⟨g, c, cur, q, R, h1, _⟩ := h.ex
  simp [World.frozen?, h1]
/-- the count of the lost ones is set -/
theorem LIn.setLost (h : LIn S w l s) (x : Nat) : LIn S (w.setCell ⟨l, 3, none⟩ (.int .i64 x)) l { s with lost := x } := by
  obtain ⟨g, c, cur, q, R, h1, h2, h3, h4, h5, h6, h7, rfl⟩ := h.ex
  refine ⟨h.n1, h.n16, h.m64, h.len, h.age, g, c, cur, q, R, by rw [set_block h1]; rfl, ?_, h3, h4, fun k hk1 hd => ⟨(h5 k hk1 hd).1, (h5 k hk1 hd).2.keep fun i hi => set_other _ _ (h7 k hk1 hd i hi).1⟩, h6, h7, rfl⟩
  rw [set_other _ _ (type_ne h2 h1 (by decide))]; exact h2
theorem LIn.moveLost (h : LIn S w l s) (x : Nat) : Moves S S w (w.setCell ⟨l, 3, none⟩ (.int .i64 x)) := (Moves.refl S w).setCell (.inl h.l_in) _ _
theorem encR_get {now : Nat} {r : List (List Int × Nat)} {x : List Int × Nat} {t : List (List Int × Nat)} (h : r = x :: t) : encR now r = (x.1, (now : Int) - (x.2 : Int)) :: encR now t := by subst h; rfl
end

/-- the question whether there is such a station -/
theorem count_any {S : Foot} {w : World} {l : Nat} {s : LS} (h : LIn S w l s) : Calls Try.prog 53 #[ptr l] w fun e w' => e = .returned (.int .i64 s.n) ∧ w = w' := by
  have hc := h.cells.1
  clear h
  go_enter Try.func53, Try.ntmps53
  go_wp2
  go_ret
  exact ⟨rfl, rfl⟩
def inB (n : Nat) (i : Int) : Bool := decide (0 ≤ i) && decide (i < n)
theorem has_any {S : Foot} {w : World} {l : Nat} {s : LS} (h : LIn S w l s) (i : Int) : Calls Try.prog 55 #[ptr l, .int .i64 i] w fun e w' => e = .returned (.bool (inB s.n i)) ∧ w = w' := by
  have HC := count_any h
  clear h
  generalize s.n = n at HC
  by_cases h0 : 0 ≤ i
  · have h1 : decide (0 ≤ i) = true := by simpa using h0
    go_enter Try.func55, Try.ntmps55
    go_wp2_with (go_at_call 53; refine HC.mono ?_; rintro e w' ⟨rfl, rfl⟩)
    go_ret
    exact ⟨ret_bool (by simp [inB, h0]), rfl⟩
  · have h1 : decide (0 ≤ i) = false := by simpa using h0
    go_enter Try.func55, Try.ntmps55
    go_wp2_with (go_at_call 53; refine HC.mono ?_; rintro e w' ⟨rfl, rfl⟩)
    go_ret
    exact ⟨ret_bool (by unfold inB; rw [h1]; rfl), rfl⟩
theorem has_yes {S : Foot} {w : World} {l : Nat} {s : LS} (h : LIn S w l s) (i : Int) (hi : 0 ≤ i ∧ i < s.n) : Calls Try.prog 55 #[ptr l, .int .i64 i] w fun e w' => e = .returned (.bool true) ∧ w = w' := by
  have := has_any h i
  rwa [show inB s.n i = true by simp [inB, hi]] at this
theorem has_no {S : Foot} {w : World} {l : Nat} {s : LS} (h : LIn S w l s) (i : Int) (hi : ¬ (0 ≤ i ∧ i < s.n)) : Calls Try.prog 55 #[ptr l, .int .i64 i] w fun e w' => e = .returned (.bool false) ∧ w = w' := by
  have := has_any h i
  rwa [show inB s.n i = false by simp [inB]; omega] at this

/-- what 'row' loads, whatever lies there -/
theorem row_load {w : World} {l g n nn c k p f t : Nat} {cur : Array Value} {a b d : Value} {v : Option Addr}
    (h1 : w.heap[l]? = some (.cells #[.int .i64 n, a, b, d, .slice (some ⟨g, 0, none⟩) nn c] 69 (0, 0))) (h2 : w.heap[g]? = some (.cells cur 70 (0, 0)))
    (hv : cur[k]? = some (.pointer v)) (hp : p = f * n) (hk : k = p + t) (hn : n ≤ 16) (hf : f < n) (ht : t < n) (hnn : k < nn)
    (HF : Calls Try.prog 55 #[ptr l, .int .i64 f] w fun e w' => e = .returned (.bool true) ∧ w = w') (HT : Calls Try.prog 55 #[ptr l, .int .i64 t] w fun e w' => e = .returned (.bool true) ∧ w = w') :
    Calls Try.prog 33 #[ptr l, .int .i64 f, .int .i64 t] w fun e w' => e = .returned (.pointer v) ∧ ∃ d, w' = w.drewN d := by
  have hp16 : p ≤ 16 * 16 := by rw [hp]; exact Nat.mul_le_mul (by omega) hn
  have c0 := cell_of_row w l 0 _ _ _ h1
  have c4 := cell_of_row w l 4 _ _ _ h1
  have cg := cell_of_row w g k _ _ _ h2
  simp [hv] at c0 c4 cg
  have e1 : IntKind.i64.wrap ((f : Int) * (n : Int)) = (p : Int) := by
    rw [IntKind.wrap_i64]
    have : ((f * n : Nat) : Int) = (f : Int) * (n : Int) := by simp
    rw [← this, ← hp]; omega
  have e2 : IntKind.i64.wrap ((p : Int) + (t : Int)) = (k : Int) := by rw [IntKind.wrap_i64]; omega
  have b0 : (0 : Int) ≤ (k : Int) := by omega
  have b1 : (k : Int) < (nn : Int) := by omega
  clear h1 h2 hv hp hk hn hf ht hp16
  go_enter Try.func33, Try.ntmps33
  go_wp2_with (first | (go_at_call 55; (first | (with_reducible refine HF.mono ?_) | (with_reducible refine HT.mono ?_)); rintro e w' ⟨rfl, rfl⟩))
  go_quiet (fail)
  go_wp2
  go_ret
  exact ⟨rfl, _, rfl⟩
theorem row_no {S : Foot} {w : World} {l : Nat} {s : LS} (h : LIn S w l s) (f t : Int) (hb : ¬ ((0 ≤ f ∧ f < s.n) ∧ (0 ≤ t ∧ t < s.n))) :
    Calls Try.prog 33 #[ptr l, .int .i64 f, .int .i64 t] w fun e w' => e = .returned (.pointer none) ∧ ∃ d, w' = w.drewN d := by
  by_cases hf : 0 ≤ f ∧ f < s.n
  · have HF := has_yes h f hf
    have HT := has_no h t (fun ht => hb ⟨hf, ht⟩)
    clear h hf hb
    go_enter Try.func33, Try.ntmps33
    go_wp2_with (first | (go_at_call 55; (first | (with_reducible refine HF.mono ?_) | (with_reducible refine HT.mono ?_)); rintro e w' ⟨rfl, rfl⟩))
    go_ret
    exact ⟨rfl, 0, rfl⟩
  · have HF := has_no h f hf
    clear h hf hb
    go_enter Try.func33, Try.ntmps33
    go_wp2_with (go_at_call 55; refine HF.mono ?_; rintro e w' ⟨rfl, rfl⟩)
    go_ret
    exact ⟨rfl, 0, rfl⟩
/-- a row at its place; what becomes of it alone becomes of the lan -/
theorem LIn.place {S : Foot} {w : World} {l : Nat} {s : LS} (h : LIn S w l s) {k : Nat} (hk : k < s.n * s.n) (hd : ¬ diag s.n k) :
    ∃ g c cur q R, w.heap[l]? = some (.cells #[.int .i64 s.n, .int .i64 s.life, .int .i64 s.now, .int .i64 s.lost, .slice (some ⟨g, 0, none⟩) ((s.n * s.n : Nat)) c] 69 (0, 0)) ∧ w.heap[g]? = some (.cells cur 70 (0, 0)) ∧ cur[k]? = some (ptr q) ∧
      FQ R w q s.m (encR s.now (s.rows k)) ∧ (∀ i, R i → S i ∧ i ≠ l ∧ i ≠ g) ∧
      ∀ w' R' r, FQ R' w' q s.m (encR s.now r) → Moves R R' w w' → r.length ≤ s.m → (∀ x ∈ r, x.2 ≤ s.now) → ∃ S', LIn S' w' l (s.upd k r) ∧ Moves S S' w w' ∧ ∀ i, R i → ¬ R' i → ¬ S' i := by
  obtain ⟨g, c, cur, q, R, h1, h2, h3, h4, h5, h6, h7, hS⟩ := h.ex
  obtain ⟨h8, h9⟩ := h5 _ hk hd
  refine ⟨g, c, cur, q k, R k, h1, h2, h8, h9, fun i hi => ⟨by rw [hS]; exact .inr (.inr ⟨_, hk, hd, hi⟩), (h7 _ hk hd i hi).1, (h7 _ hk hd i hi).2⟩, ?_⟩
  · intro w' R' r hq hm hrl hra
    have hl : ¬ R k l := fun hi => (h7 _ hk hd l hi).1 rfl
    have hg : ¬ R k g := fun hi => (h7 _ hk hd g hi).2 rfl
    obtain ⟨R'', hR''⟩ : ∃ R'' : Nat → Foot, R'' = fun j => if j = k then R' else R j := ⟨_, rfl⟩
    have e1 : R'' k = R' := by rw [hR'']; simp
    have e2 : ∀ j, j ≠ k → R'' j = R j := fun j hj => by rw [hR'']; simp [hj]
    have hnew : ∀ i, R' i → R k i ∨ w.heap.size ≤ i := hm.own
    refine ⟨fun i => i = l ∨ i = g ∨ ∃ k, k < s.n * s.n ∧ ¬ diag s.n k ∧ R'' k i, ⟨h.n1, h.n16, h.m64, fun j => ?_, fun j x hx => ?_, g, c, cur, q, R'', hm.at_ h1 hl, hm.at_ h2 hg, h3, ?_, ?_, ?_, ?_, rfl⟩, ?_⟩
    · by_cases hj : j = k
      · rw [hj, LS.upd_at]; exact hrl
      · rw [LS.upd_ne _ _ hj]; exact h.len j
    · by_cases hj : j = k
      · rw [hj, LS.upd_at] at hx; exact hra x hx
      · rw [LS.upd_ne _ _ hj] at hx; exact h.age j x hx
    · intro j hj hdj
      have : j ≠ k := fun e => hd (by rw [← e]; exact hdj)
      rw [LS.upd_ne _ _ this]
      exact h4 j hj hdj
    · intro j hj hdj
      by_cases hjk : j = k
      · rw [hjk, LS.upd_at, e1]; exact ⟨h8, hq⟩
      · rw [LS.upd_ne _ _ hjk, e2 j hjk]
        exact ⟨(h5 j hj hdj).1, (h5 j hj hdj).2.apart hm (fun i hi => h6 j _ hj hk hdj hd hjk i hi)⟩
    · intro a b ha hb hda hdb hab i hia hib
      by_cases h10 : a = k
      · have h11 : b ≠ k := fun e => hab (by rw [h10, e])
        rw [h10, e1] at hia
        rw [e2 b h11] at hib
        rcases hnew i hia with h12 | h12
        · exact h6 _ b hk hb hd hdb (fun e => h11 e.symm) i h12 hib
        · have := (h5 b hb hdb).2.lt i hib; omega
      · rw [e2 a h10] at hia
        by_cases h11 : b = k
        · rw [h11, e1] at hib
          rcases hnew i hib with h12 | h12
          · exact h6 a _ ha hk hda hd h10 i hia h12
          · have := (h5 a ha hda).2.lt i hia; omega
        · rw [e2 b h11] at hib
          exact h6 a b ha hb hda hdb hab i hia hib
    · intro j hj hdj i hi
      by_cases hjk : j = k
      · rw [hjk, e1] at hi
        rcases hnew i hi with h12 | h12
        · exact h7 _ hk hd i h12
        · have := block_lt h1; have := block_lt h2; omega
      · rw [e2 j hjk] at hi; exact h7 j hj hdj i hi
    · refine ⟨⟨hm.os, hm.tape, hm.output, hm.size, fun i hi hn => hm.block i hi (fun h12 => hn (by rw [hS]; exact .inr (.inr ⟨_, hk, hd, h12⟩))), ?_⟩, ?_⟩
      · rw [hS]
        rintro i (hi | hi | ⟨j, hj, hdj, hi⟩)
        · exact .inl (.inl hi)
        · exact .inl (.inr (.inl hi))
        · by_cases hjk : j = k
          · rw [hjk, e1] at hi
            rcases hnew i hi with h12 | h12
            · exact .inl (.inr (.inr ⟨_, hk, hd, h12⟩))
            · exact .inr h12
          · rw [e2 j hjk] at hi; exact .inl (.inr (.inr ⟨j, hj, hdj, hi⟩))
      · rintro i hRi hR'i (hi | hi | ⟨j, hj, hdj, hi⟩)
        · exact (h7 _ hk hd i hRi).1 hi
        · exact (h7 _ hk hd i hRi).2 hi
        · by_cases hjk : j = k
          · rw [hjk, e1] at hi; exact hR'i hi
          · rw [e2 j hjk] at hi
            exact h6 _ j hk hj hd hdj (fun e => hjk e.symm) i hRi hi
/-- a row is found; what becomes of it alone becomes of the lan -/
theorem LIn.row {S : Foot} {w : World} {l : Nat} {s : LS} (h : LIn S w l s) {f t : Nat} (hf : f < s.n) (ht : t < s.n) (hne : f ≠ t) :
    ∃ q R, FQ R w q s.m (encR s.now (s.rows (f * s.n + t))) ∧ (∀ i, R i → S i ∧ i ≠ l) ∧
      Calls Try.prog 33 #[ptr l, .int .i64 f, .int .i64 t] w (fun e w' => e = .returned (ptr q) ∧ ∃ d, w' = w.drewN d) ∧
      ∀ w' R' r, FQ R' w' q s.m (encR s.now r) → Moves R R' w w' → r.length ≤ s.m → (∀ x ∈ r, x.2 ≤ s.now) → ∃ S', LIn S' w' l (s.upd (f * s.n + t) r) ∧ Moves S S' w w' ∧ ∀ i, R i → ¬ R' i → ¬ S' i := by
  have hk := place_lt hf ht
  obtain ⟨g, c, cur, q, R, h1, h2, h3, h4, h5, h6⟩ := h.place hk (diag_not ht hne)
  exact ⟨q, R, h4, fun i hi => ⟨(h5 i hi).1, (h5 i hi).2.1⟩, row_load (k := f * s.n + t) (p := f * s.n) h1 h2 h3 rfl rfl h.n16 hf ht hk (has_yes h f ⟨by omega, by omega⟩) (has_yes h t ⟨by omega, by omega⟩), h6⟩
/-- of a station to itself there is none -/
theorem LIn.row_self {S : Foot} {w : World} {l : Nat} {s : LS} (h : LIn S w l s) {f : Nat} (hf : f < s.n) :
    Calls Try.prog 33 #[ptr l, .int .i64 f, .int .i64 f] w (fun e w' => e = .returned (.pointer none) ∧ ∃ d, w' = w.drewN d) := by
  obtain ⟨g, c, cur, q, R, h1, h2, h3, h4, h5, h6, h7, hS⟩ := h.ex
  have hk := place_lt hf hf
  have hd := diag_yes hf
  exact row_load (k := f * s.n + f) (p := f * s.n) h1 h2 (h4 _ hk hd).1 rfl rfl h.n16 hf hf hk (has_yes h f ⟨by omega, by omega⟩) (has_yes h f ⟨by omega, by omega⟩)
/-- is there a row of these two? -/
def okP (n : Nat) (f t : Int) : Prop := (0 ≤ f ∧ f < n) ∧ (0 ≤ t ∧ t < n) ∧ f ≠ t
theorem row_none {S : Foot} {w : World} {l : Nat} {s : LS} (h : LIn S w l s) (f t : Int) (hb : ¬ okP s.n f t) :
    Calls Try.prog 33 #[ptr l, .int .i64 f, .int .i64 t] w fun e w' => e = .returned (.pointer none) ∧ ∃ d, w' = w.drewN d := by
  by_cases h0 : (0 ≤ f ∧ f < s.n) ∧ (0 ≤ t ∧ t < s.n)
  · have he : f = t := by
      by_cases e : f = t
      · exact e
      · exact absurd ⟨h0.1, h0.2, e⟩ hb
    subst he
    obtain ⟨a, rfl⟩ : ∃ a : Nat, (a : Int) = f := ⟨f.toNat, by omega⟩
    exact h.row_self (by omega)
  · exact row_no h f t h0
end Go.Proofs.Ytjidhpmjdhjciaa
