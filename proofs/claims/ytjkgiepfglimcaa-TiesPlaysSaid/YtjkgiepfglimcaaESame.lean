/- Two lists of rows of a key and what it has: the law's own 'same'. -/
import Derived.BigQuiet
import Derived.Deep.QuietTactic
import Derived.Test.YtjkgiepfglimcaaEEq
import Derived.Test.YtjkgiepfglimcaaEWalk
namespace Go.Proofs.Ytjkgiepfglimcaa
open Go.RowKit
set_option linter.unusedVariables false
attribute [local go_sem ↓] eqR_run

/-- from place o of block g on, a row's nine cells -/
abbrev RowCells (w : World) (g o : Nat) (x : EK × Int) : Prop := w.cell? ⟨g, o, none⟩ = some (.int .u8 x.1.a0) ∧ w.cell? ⟨g, o + 1, none⟩ = some (.int .u8 x.1.a1) ∧ w.cell? ⟨g, o + 2, none⟩ = some (.int .u8 x.1.a2) ∧ w.cell? ⟨g, o + 3, none⟩ = some (.int .u8 x.1.a3) ∧ w.cell? ⟨g, o + 4, none⟩ = some (.int .u8 x.1.a4) ∧ w.cell? ⟨g, o + 5, none⟩ = some (.int .u8 x.1.a5) ∧ w.cell? ⟨g, o + 6, none⟩ = some (.int .i64 x.1.near) ∧ w.cell? ⟨g, o + 7, none⟩ = some (.int .i64 x.1.there_) ∧ w.cell? ⟨g, o + 8, none⟩ = some (.int .i64 x.2)
/-- rows as a slice has them -/
def Rws (w : World) (A : Option Addr) (l : List (EK × Int)) : Prop := ∀ j x, l[j]? = some x → ∃ g, A = some ⟨g, 0, none⟩ ∧ g < w.heap.size ∧ RowCells w g (j * 9) x
theorem Rws.of_own {w : World} {base n c : Nat} {A : Option Addr} {l : List (EK × Int)} (h : w.ownsRow base 44 9 (.slice A n c) n (flatR l)) : Rws w A l := by
  intro i x hx
  have hl := (List.getElem?_eq_some_iff.1 hx).1
  have hfl := flatR_len l
  have hn := h.1
  rcases h.2 with ⟨_, h0⟩ | ⟨g, cp, cur, hv, hb, hh, _⟩
  · omega
  · obtain ⟨rfl, rfl⟩ : A = some ⟨g, 0, none⟩ ∧ c = cp := by
      injection hv with h1 h2 h3
      exact ⟨h1, h3⟩
    have hc : ∀ j, j < 9 → ∀ u, (cellsR x)[j]? = some u → w.cell? ⟨g, i * 9 + j, none⟩ = some u := fun j hj u hu => by
      rw [World.ownsRow.cellAt h (i * 9 + j) (by omega), flatR_get l i j hj, hx]
      exact hu
    exact ⟨g, rfl, block_lt hh, hc 0 (by omega) _ rfl, hc 1 (by omega) _ rfl, hc 2 (by omega) _ rfl, hc 3 (by omega) _ rfl, hc 4 (by omega) _ rfl, hc 5 (by omega) _ rfl, hc 6 (by omega) _ rfl, hc 7 (by omega) _ rfl, hc 8 (by omega) _ rfl⟩
theorem Rws.take {w : World} {A : Option Addr} {l : List (EK × Int)} (h : Rws w A l) (k : Nat) : Rws w A (l.take k) := fun j x hx => by
  rw [List.getElem?_take] at hx
  split at hx
  · exact h j x hx
  · cases hx
theorem RowCells.keep {w w' : World} {g o : Nat} {x : EK × Int} (h : RowCells w g o x) (hk : w'.heap[g]? = w.heap[g]?) : RowCells w' g o x := by
  have hc : ∀ i, w'.cell? ⟨g, i, none⟩ = w.cell? ⟨g, i, none⟩ := fun i => by unfold World.cell?; simp only [hk]
  obtain ⟨h0, h1, h2, h3, h4, h5, h6, h7, h8⟩ := h
  exact ⟨(hc _).trans h0, (hc _).trans h1, (hc _).trans h2, (hc _).trans h3, (hc _).trans h4, (hc _).trans h5, (hc _).trans h6, (hc _).trans h7, (hc _).trans h8⟩
theorem Rws.below {w w' : World} {A : Option Addr} {l : List (EK × Int)} (h : Rws w A l) (hb : Below w.heap.size w w') : Rws w' A l := fun j x hx => by
  obtain ⟨g, hA, hg, hc⟩ := h j x hx
  exact ⟨g, hA, Nat.lt_of_lt_of_le hg hb.size, hc.keep (hb.block g hg)⟩
theorem Rws.drewN {w : World} {A : Option Addr} {l : List (EK × Int)} (h : Rws w A l) (n : Nat) : Rws (w.drewN n) A l := h
set_option maxRecDepth 100000 in
set_option maxHeartbeats 1600000 in
theorem same_same {A A' : Option Addr} {c c' n : Nat} {l : List (EK × Int)} (w : World) (hn : l.length = n) (hbig : n ≤ 1000000) (h1 : Rws w A l) (h2 : Rws w A' l) : Calls Try.prog 22 #[.slice A n c, .slice A' n c'] w fun e w' => e = .returned (.bool true) ∧ ∃ d, w' = w.drewN d := by
  have H1 := cover h1
  have H2 := cover h2
  have HN := cover hn
  clear h1 h2 hn
  go_enter Try.func22, Try.ntmps22
  go_wp2_with fail
  go_loopw [5] (fun i wr => ∃ j : Nat, j ≤ n ∧ i = .int .i64 j ∧ Hid (∃ d, wr = w.drewN d)) (fun i _ => n - (intOf i).toNat)
  case atStart => exact ⟨0, Nat.zero_le _, rfl, cover ⟨0, rfl⟩⟩
  case round =>
    obtain ⟨j, hj, rfl, hrel⟩ := hrel
    obtain ⟨d, rfl⟩ := hrel.out
    by_cases hlt : j < n
    · obtain ⟨⟨x1, x2⟩, hx⟩ : ∃ x, l[j]? = some x := ⟨_, List.getElem?_eq_getElem (by rw [HN.out]; exact hlt)⟩
      obtain ⟨g, rfl, _, k0, k1, k2, k3, k4, k5, k6, k7, k8⟩ := H1.out j _ hx
      obtain ⟨g', rfl, _, j0, j1, j2, j3, j4, j5, j6, j7, j8⟩ := H2.out j _ hx
      have hsr := sameR_self x1 x2
      clear hx hrel
      go_wp2_with fail
      go_quiet (fail)
      all_goals (go_wp2)
      all_goals (try go_roundw)
      all_goals try (case rel => exact ⟨j + 1, by omega, by go_num, cover ⟨_, rfl⟩⟩)
      all_goals try (case measure => simp [intOf]; omega)
    · obtain rfl : j = n := by omega
      clear hrel
      go_wp2
      go_ret
      exact ⟨rfl, d, rfl⟩
end Go.Proofs.Ytjkgiepfglimcaa
