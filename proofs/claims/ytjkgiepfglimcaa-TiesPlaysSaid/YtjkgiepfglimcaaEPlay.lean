/- What stands while deeds are done: the program's table and the law's own list of rows. -/
import Derived.Test.YtjkgiepfglimcaaERow
import Derived.Test.YtjkgiepfglimcaaEIn
namespace Go.Proofs.Ytjkgiepfglimcaa
open Go.RowKit
set_option linter.unusedVariables false

section
variable {l : List (EK × Int)} {k : EK}
/-- where the key was found among the first j -/
def atV (l : List (EK × Int)) (k : EK) (j : Nat) : Int := if hasT l k = true ∧ placeT ltE l k < j then (placeT ltE l k : Int) else -1
theorem atV_zero (l : List (EK × Int)) (k : EK) : atV l k 0 = -1 := by unfold atV; rw [if_neg (by omega)]
theorem atV_step (hr : Rise ltE l) {j : Nat} {x : EK × Int} (hj : l[j]? = some x) : atV l k (j + 1) = if sameE x.1 k = true then (j : Int) else atV l k j := by
  unfold atV
  by_cases hs : sameE x.1 k = true
  · rw [if_pos hs]
    obtain ⟨x1, x2⟩ := x
    have e := sameE_iff.1 hs
    simp only at e
    subst e
    rw [hr.place_at ltE_ord hj, if_pos ⟨(hasT_at ltE_ord hr).2 ⟨x2, by rw [hr.place_at ltE_ord hj]; exact hj⟩, by omega⟩]
  · rw [if_neg hs]
    by_cases hh : hasT l k = true
    · obtain ⟨y, hy⟩ := (hasT_at ltE_ord hr).1 hh
      have hne : placeT ltE l k ≠ j := fun e => by
        rw [e, hj] at hy
        have : x = (k, y) := by injection hy
        exact hs (sameE_iff.2 (by rw [this]))
      by_cases h1 : placeT ltE l k < j
      · rw [if_pos ⟨hh, by omega⟩, if_pos ⟨hh, h1⟩]
      · rw [if_neg (by omega), if_neg (by omega)]
    · rw [if_neg (fun h => hh h.1), if_neg (fun h => hh h.1)]
theorem atV_end (hr : Rise ltE l) : atV l k l.length = if hasT l k = true then (placeT ltE l k : Int) else -1 := by
  unfold atV
  by_cases hh : hasT l k = true
  · obtain ⟨y, hy⟩ := (hasT_at ltE_ord hr).1 hh
    rw [if_pos ⟨hh, (List.getElem?_eq_some_iff.1 hy).1⟩, if_pos hh]
  · rw [if_neg (fun h => hh h.1), if_neg hh]
theorem bef_step (hr : Rise ltE l) {j : Nat} {x : EK × Int} (hj : l[j]? = some x) : min (placeT ltE l k) (j + 1) = if ltE x.1 k = true then j + 1 else min (placeT ltE l k) j := (hr.before_step ltE_ord hj).symm
end
/-- the deed's object -/
abbrev deedO (d : DT) : Obj := .cells #[.int .i64 d.what, .int .i64 d.x, .int .u8 d.k.a0, .int .u8 d.k.a1, .int .u8 d.k.a2, .int .u8 d.k.a3, .int .u8 d.k.a4, .int .u8 d.k.a5, .int .i64 d.k.near, .int .i64 d.k.there_] 42 (0, 0)
/-- from block y on, its key's cells -/
abbrev DKey (w : World) (y : Nat) (k : EK) : Prop := w.cell? ⟨y, 2, none⟩ = some (.int .u8 k.a0) ∧ w.cell? ⟨y, 3, none⟩ = some (.int .u8 k.a1) ∧ w.cell? ⟨y, 4, none⟩ = some (.int .u8 k.a2) ∧ w.cell? ⟨y, 5, none⟩ = some (.int .u8 k.a3) ∧ w.cell? ⟨y, 6, none⟩ = some (.int .u8 k.a4) ∧ w.cell? ⟨y, 7, none⟩ = some (.int .u8 k.a5) ∧ w.cell? ⟨y, 8, none⟩ = some (.int .i64 k.near) ∧ w.cell? ⟨y, 9, none⟩ = some (.int .i64 k.there_)
theorem deed_key {w : World} {y : Nat} {d : DT} (h : w.heap[y]? = some (deedO d)) : DKey w y d.k := ⟨by rw [cell_of_row _ _ _ _ _ _ h]; rfl, by rw [cell_of_row _ _ _ _ _ _ h]; rfl, by rw [cell_of_row _ _ _ _ _ _ h]; rfl, by rw [cell_of_row _ _ _ _ _ _ h]; rfl, by rw [cell_of_row _ _ _ _ _ _ h]; rfl, by rw [cell_of_row _ _ _ _ _ _ h]; rfl, by rw [cell_of_row _ _ _ _ _ _ h]; rfl, by rw [cell_of_row _ _ _ _ _ _ h]; rfl⟩
theorem deed_what {w : World} {y : Nat} {d : DT} (h : w.heap[y]? = some (deedO d)) : w.cell? ⟨y, 0, none⟩ = some (.int .i64 d.what) := by rw [cell_of_row _ _ _ _ _ _ h]; rfl
theorem deed_x {w : World} {y : Nat} {d : DT} (h : w.heap[y]? = some (deedO d)) : w.cell? ⟨y, 1, none⟩ = some (.int .i64 d.x) := by rw [cell_of_row _ _ _ _ _ _ h]; rfl
theorem deed_type {g y TT : Nat} {w : World} {c : Array Value} {fr : Nat × Nat} {d : DT} (h : w.heap[y]? = some (deedO d)) (hg : w.heap[g]? = some (.cells c TT fr)) (hne : TT ≠ 42) : g ≠ y := fun e => by
  subst e
  rw [h] at hg
  injection hg with hg; injection hg with _ h2
  exact hne h2.symm
/-- the table holds lt; the law's own list reads as l -/
structure PlE (B : Nat) (w : World) (t b m n : Nat) (A : Option Addr) (c : Nat) (lt l : List (EK × Int)) (wr : World) : Prop where
  tab : THasI B wr t b m lt
  bel : Below B w wr
  row : OwnR B wr (.slice A n c) l
  len : l.length = n
  ap : ∀ g, (Value.slice A n c).ownBlock = some g → g ≠ t ∧ g ≠ b
  rise : Rise ltE l
section
variable {B : Nat} {w wr wr' : World} {t b m n : Nat} {A : Option Addr} {c : Nat} {lt l : List (EK × Int)}
theorem PlE.size (h : PlE B w t b m n A c lt l wr) : B ≤ wr.heap.size := h.tab.size
theorem PlE.below (h : PlE B w t b m n A c lt l wr) (hb : Below wr.heap.size wr wr') : PlE B w t b m n A c lt l wr' :=
  ⟨h.tab.below hb, h.bel.trans (hb.mono h.size), row_keeps h.row (fun i hi => hb.block i (h.row.lt i hi).2), h.len, h.ap, h.rise⟩
/-- the table is another one now -/
theorem PlE.turn {lt' : List (EK × Int)} (h : PlE B w t b m n A c lt l wr) (h2 : THasI B wr' t b m lt' ∧ Below B wr wr' ∧ TLies t b wr wr') : PlE B w t b m n A c lt' l wr' :=
  ⟨h2.1, h.bel.trans h2.2.1, row_keeps h.row (fun i hi => h2.2.2.2 i (h.row.lt i hi).2 (h.ap i hi).1 (h.ap i hi).2), h.len, h.ap, h.rise⟩
/-- the list is a new one now -/
theorem PlE.fresh {V : Value} {l' : List (EK × Int)} (h : PlE B w t b m n A c lt l wr) (h2 : OwnR wr.heap.size wr' V l' ∧ Below wr.heap.size wr wr') (hr : Rise ltE l') : ∃ A' c', V = .slice A' l'.length c' ∧ PlE B w t b m l'.length A' c' lt l' wr' := by
  obtain ⟨A', c', rfl, _⟩ := own_shape h2.1
  refine ⟨A', c', rfl, h.tab.below h2.2, h.bel.trans (h2.2.mono h.size), own_base h2.1 h.size, rfl, fun g hg => ?_, hr⟩
  have h3 := (h2.1.lt g hg).1
  have h4 := h.tab.lt
  omega
theorem PlE.set {g i : Nat} {k : EK} {y x : Int} (h : PlE B w t b m n (some ⟨g, 0, none⟩) c lt l wr) (hi : l[i]? = some (k, y)) : PlE B w t b m n (some ⟨g, 0, none⟩) c lt (setT l k x) (wr.setCell ⟨g, i * 9 + 8, none⟩ (.int .i64 x)) := by
  have hg : (Value.slice (some ⟨g, 0, none⟩) n c).ownBlock = some g := rfl
  have h1 := h.ap g hg
  have h2 := h.row.lt g hg
  have hk : ∀ j, j ≠ g → (wr.setCell ⟨g, i * 9 + 8, none⟩ (.int .i64 x)).heap[j]? = wr.heap[j]? := fun j hj => set_other _ _ hj
  have hm : Moves (fun j => j = g) (fun j => j = g) wr (wr.setCell ⟨g, i * 9 + 8, none⟩ (.int .i64 x)) := Moves.setCell (Moves.refl (fun j => j = g) _) (.inl rfl) _ _
  refine ⟨⟨h.tab.1.keep (fun j hj => hk j (fun e => ?_)), h.tab.2⟩, Moves.below h.bel hm (fun j hj => by rw [hj]; exact h2.1) h.size, ?_, by rw [setT_len]; exact h.len, h.ap, h.rise.set⟩
  · rcases hj with hj | hj
    · exact h1.1 (by rw [← e, hj])
    · exact h1.2 (by rw [← e, hj])
  · rw [setT_at ltE_ord h.rise hi]
    exact h.row.set hi
theorem PlE.thaw {g : Nat} (h : PlE B w t b m n (some ⟨g, 0, none⟩) c lt l wr) (o : Nat) : wr.frozen? ⟨g, o, none⟩ = false := by
  rcases h.row.2 with ⟨h0, _⟩ | ⟨g', c', cur, hv, _, hh, _⟩
  · cases h0
  · have : g = g' := by injection hv with e; simpa using e
    subst this
    simp [World.frozen?, hh]
/-- there is room for them -/
theorem PlE.le (h : PlE B w t b m n A c lt l wr) : n ≤ c ∧ c ≤ maxLen := by
  rcases h.row.2 with ⟨hv, hl⟩ | ⟨g, cp, cur, hv, _, _, r1, r2, _⟩
  · injection hv with e1 e2 e3; unfold maxLen; omega
  · injection hv with e1 e2 e3; have := h.len; subst e3; exact ⟨by omega, r2⟩
/-- how its rows read -/
theorem PlE.rows (h : PlE B w t b m n A c lt l wr) : Rws wr A l := Rws.of_own (by have := h.row; unfold OwnR at this; rw [h.len] at this; exact this)
end
end Go.Proofs.Ytjkgiepfglimcaa
