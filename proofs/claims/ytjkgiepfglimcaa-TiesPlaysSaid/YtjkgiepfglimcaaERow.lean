/- The law's own list of rows: rows put behind, one's number set; how it goes through its rows. -/
import Derived.ArgAppend
import Derived.Deep.Upon
import Derived.Maps.AppendAt
import Derived.Test.YtjkgiepfglimcaaESame
import Derived.Test.YtjkgiepfglimcaaEIHas
namespace Go.Proofs.Ytjkgiepfglimcaa
open Go.RowKit
set_option linter.unusedVariables false

/-- a list of rows of the law's own -/
abbrev OwnR (B : Nat) (w : World) (v : Value) (l : List (EK × Int)) : Prop := w.ownsRow B 44 9 v l.length (flatR l)
theorem flatR_app2 (a b : List (EK × Int)) : flatR (a ++ b) = flatR a ++ flatR b := by simp [flatR]
theorem flatR_one {l : List (EK × Int)} {u : Value} (h : u ∈ flatR l) : u.oneCell' = true := by
  unfold flatR at h
  obtain ⟨x, _, hx⟩ := List.mem_flatMap.1 h
  exact cellsR_one x u hx
theorem flatR_take : ∀ (l : List (EK × Int)) (i : Nat), flatR (l.take i) = (flatR l).take (i * 9)
  | [], i => by simp [flatR]
  | x :: l, 0 => by simp [flatR]
  | x :: l, i + 1 => by
    have e : ∀ (y : EK × Int) (l : List (EK × Int)), flatR (y :: l) = cellsR y ++ flatR l := fun _ _ => rfl
    have h9 : (cellsR x).length ≤ (i + 1) * 9 := by rw [show (cellsR x).length = 9 from rfl]; omega
    rw [List.take_succ_cons, e, e, flatR_take l i, List.take_append, List.take_of_length_le h9, show (cellsR x).length = 9 from rfl, show (i + 1) * 9 - 9 = i * 9 by omega]
theorem flatR_drop : ∀ (l : List (EK × Int)) (i : Nat), flatR (l.drop i) = (flatR l).drop (i * 9)
  | [], i => by simp [flatR]
  | x :: l, 0 => by simp
  | x :: l, i + 1 => by
    have e : flatR (x :: l) = cellsR x ++ flatR l := rfl
    have h9 : (cellsR x).length ≤ (i + 1) * 9 := by rw [show (cellsR x).length = 9 from rfl]; omega
    rw [List.drop_succ_cons, e, flatR_drop l i, List.drop_append, List.drop_of_length_le h9, show (cellsR x).length = 9 from rfl, show (i + 1) * 9 - 9 = i * 9 by omega, List.nil_append]
theorem flatR_set : ∀ (l : List (EK × Int)) (i : Nat) (k : EK) (y x : Int), l[i]? = some (k, y) → flatR (l.set i (k, x)) = (flatR l).set (i * 9 + 8) (.int .i64 x)
  | [], i, k, y, x, h => by simp at h
  | z :: l, 0, k, y, x, h => by
    simp at h; subst h; rfl
  | z :: l, i + 1, k, y, x, h => by
    have e : ∀ l, flatR (z :: l) = cellsR z ++ flatR l := fun _ => rfl
    have ih := flatR_set l i k y x (by simpa using h)
    have h9 : (cellsR z).length ≤ (i + 1) * 9 + 8 := by rw [show (cellsR z).length = 9 from rfl]; omega
    rw [List.set_cons_succ, e, e, ih, List.set_append_right _ _ h9, show (cellsR z).length = 9 from rfl, show (i + 1) * 9 + 8 - 9 = i * 9 + 8 by omega]
/-- rows put behind it -/
theorem OwnR.app {K : Nat} {w0 w : World} {v : Value} {l : List (EK × Int)} (h : OwnR K w v l) (hb : Below K w0 w) (hK : K ≤ w.heap.size) (A : Option Addr) (m c : Nat) (news : List (EK × Int)) (hm : news.length = m)
    (hsrc : 0 < m → ∃ g o, A = some ⟨g, o, none⟩ ∧ ∀ j u, (flatR news)[j]? = some u → w.cell? ⟨g, o + j, none⟩ = some u) (hbig : l.length + m ≤ 100000) :
    Appends Try.prog 39 w v (.slice A m c) (fun v' w' => OwnR K w' v' (l ++ news) ∧ Below K w0 w' ∧ ∀ z, z < w.heap.size → v.ownBlock ≠ some z → w'.heap[z]? = w.heap[z]?) := by
  intro ty
  obtain ⟨i0, hi, hz0, hz1, hz2⟩ := info_parts row_info
  by_cases h0 : m = 0
  · subst h0
    have hn : news = [] := List.length_eq_zero_iff.1 hm
    subst hn
    obtain ⟨A0, c0, e0, hc0⟩ := own_shape h
    have hs : Src Try.prog i0.size 39 (.slice A 0 c) 0 [] w := by
      cases A with
      | none => exact Src.ofNil w Try.underlying39 c
      | some ad => exact Src.ofSlice w Try.underlying39 ad 0 c [] (by simp) (fun j u hj => by simp at hj) (fun u hu => by cases hu)
    have hle : l.length ≤ c0 := by
      rcases h.2 with ⟨hv, hl⟩ | ⟨g, cp, cur, hv, _, _, r1, _⟩
      · omega
      · rw [e0] at hv; injection hv with _ _ e3; subst e3; exact r1
    rw [List.append_nil, e0]
    exact ⟨_, _, run_append_nothing w 39 39 ty 44 i0 Try.underlying39 hi A0 _ c0 hle _ hs, by rw [← e0]; exact h, hb, fun _ _ _ => rfl⟩
  · obtain ⟨g, o, rfl, hc⟩ := hsrc (by omega)
    obtain ⟨v', w', hr, h2, h3, _, h5⟩ := run_append_own_at (P := Try.prog) w K 39 ty 44 i0 _ 9 i0.bytes Try.underlying39 hi hz0 hz1 rfl rfl (by decide) v l.length (flatR l) h ⟨g, o, none⟩ m c (flatR news) (by rw [flatR_len, hm]) (fun j u hj => by rw [add_off]; exact hc j u hj) (fun u hu => flatR_one hu) (by unfold maxLen; omega) (by rw [hz2]; omega) hK
    refine ⟨v', w', hr, ?_, below_grown hb hK h h3, fun z hz hn => h3.block z hz (fun e => hn e.symm)⟩
    rw [← flatR_app2] at h2
    unfold OwnR
    rw [List.length_append, hm]
    exact h2
/-- a list of nothing, a list of one -/
theorem OwnR.bare {w0 w : World} {K : Nat} (hb : Below K w0 w) (hK : K ≤ w.heap.size) : OwnR K (w.alloc (.cells #[] 44)) (.slice (some ⟨w.heap.size, 0, none⟩) 0 0) [] ∧ Below K w0 (w.alloc (.cells #[] 44)) :=
  ⟨⟨rfl, .inr ⟨w.heap.size, 0, #[], rfl, hK, heap_alloc_new _ _, Nat.le_refl _, Nat.zero_le _, rfl, rfl⟩⟩, hb.alloc hK _⟩
theorem OwnR.keep {w w' : World} {K : Nat} {v : Value} {l : List (EK × Int)} (h : OwnR K w v l) (hb : Below w.heap.size w w') : OwnR K w' v l := row_keeps h (fun i hi => hb.block i (h.lt i hi).2)
theorem flatR_cell {w : World} {z : Nat} {x : EK × Int} (h : w.heap[z]? = some (.cells #[.int .u8 x.1.a0, .int .u8 x.1.a1, .int .u8 x.1.a2, .int .u8 x.1.a3, .int .u8 x.1.a4, .int .u8 x.1.a5, .int .i64 x.1.near, .int .i64 x.1.there_, .int .i64 x.2] 44 (0, 0))) : ∀ j u, (flatR [x])[j]? = some u → w.cell? ⟨z, 0 + j, none⟩ = some u := fun j u hj => by
  rw [Nat.zero_add, cell_of_row _ _ _ _ _ _ h]
  simpa [flatR] using hj
/-- how a list's cells read -/
theorem OwnR.cells {w w' : World} {B g n c : Nat} {l : List (EK × Int)} (h : OwnR B w (.slice (some ⟨g, 0, none⟩) n c) l) (hn : l.length = n) (hb : Below w.heap.size w w') : ∀ j u, (flatR l)[j]? = some u → w'.cell? ⟨g, j, none⟩ = some u := fun j u hj => by
  subst hn
  have hgl : g < w.heap.size := (h.lt g rfl).2
  rw [hb.cell (p := ⟨g, j, none⟩) hgl, World.ownsRow.cellAt h j (by have := (List.getElem?_eq_some_iff.1 hj).1; rw [flatR_len] at this; omega)]
  exact hj
/-- another number in a row of it -/
theorem OwnR.set {B n c g : Nat} {w : World} {l : List (EK × Int)} (h : OwnR B w (.slice (some ⟨g, 0, none⟩) n c) l) {i : Nat} {k : EK} {y x : Int} (hi : l[i]? = some (k, y)) : OwnR B (w.setCell ⟨g, i * 9 + 8, none⟩ (.int .i64 x)) (.slice (some ⟨g, 0, none⟩) n c) (l.set i (k, x)) := by
  have hil := (List.getElem?_eq_some_iff.1 hi).1
  rcases h.2 with ⟨h0, _⟩ | ⟨g', c', cur, hv, hB, hh, hc1, hc2, hc3, hc4⟩
  · cases h0
  · injection hv with hv1 hv2 hv3
    have hg : g = g' := by simpa using hv1
    subst hg hv3
    unfold OwnR
    rw [List.length_set]
    refine ⟨by rw [flatR_len, List.length_set], .inr ⟨g, c, cur.setIfInBounds (i * 9 + 8) (.int .i64 x), by rw [hv2], hB, set_block hh _ _, hc1, hc2, by rw [Array.size_setIfInBounds]; exact hc3, ?_⟩⟩
    rw [flatR_set l i k y x hi, Array.toList_setIfInBounds, List.take_set, hc4]
end Go.Proofs.Ytjkgiepfglimcaa
