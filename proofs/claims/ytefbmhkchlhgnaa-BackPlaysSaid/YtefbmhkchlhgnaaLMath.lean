/- What may have to be sent again, plainly: a row, so many ahead of which are out. No program is named here. -/
import Derived.WalkKit
namespace Go.Proofs.Ytefbmhkchlhgnaa
open Go.RowKit
set_option linter.unusedVariables false

/-- so many at most, so many out, the row -/
structure LV (α : Type) where
  m : Nat
  o : Nat
  l : List α
variable {α : Type}
def zL (most : Int) : LV α := ⟨most.toNat, 0, []⟩
def putL (x : α) (v : LV α) : LV α := if v.l.length < v.m then { v with l := v.l ++ [x] } else v
def putsL (v : LV α) : Bool := decide (v.l.length < v.m)
def nextL (v : LV α) : LV α := if v.o < v.l.length then { v with o := v.o + 1 } else v
def nextsL (v : LV α) : Option α := v.l[v.o]?
/-- so many are gone -/
def goneL (n : Int) (v : LV α) : Nat := min n.toNat v.o
def ackL (n : Int) (v : LV α) : LV α := { v with o := v.o - goneL n v, l := v.l.drop (goneL n v) }
def againL (v : LV α) : LV α := { v with o := 0 }
def clearL (v : LV α) : LV α := { v with o := 0, l := [] }

def LOk (v : LV α) : Prop := v.o ≤ v.l.length ∧ v.l.length ≤ v.m
theorem goneL_le (n : Int) (v : LV α) : goneL n v ≤ v.o := Nat.min_le_right _ _
/-- as Go reckons it: min(max(n, 0), out) -/
theorem goneL_int (n : Int) (v : LV α) : ((goneL n v : Nat) : Int) = min (max n 0) (v.o : Int) := by
  unfold goneL; omega
theorem LOk.zero (most : Int) : LOk (zL most : LV α) := ⟨Nat.le_refl _, Nat.zero_le _⟩
theorem LOk.put {v : LV α} (x : α) (h : LOk v) : LOk (putL x v) := by
  obtain ⟨h1, h2⟩ := h
  unfold putL; split
  · refine ⟨?_, ?_⟩ <;> simp only [List.length_append, List.length_singleton] <;> omega
  · exact ⟨h1, h2⟩
theorem LOk.next {v : LV α} (h : LOk v) : LOk (nextL v) := by
  obtain ⟨h1, h2⟩ := h
  unfold nextL; split
  · next hx => exact ⟨hx, h2⟩
  · exact ⟨h1, h2⟩
theorem LOk.ack {v : LV α} (n : Int) (h : LOk v) : LOk (ackL n v) := by
  obtain ⟨h1, h2⟩ := h
  have := goneL_le n v
  unfold ackL LOk
  simp only [List.length_drop]
  omega
theorem LOk.again {v : LV α} (h : LOk v) : LOk (againL v) := ⟨Nat.zero_le _, h.2⟩
theorem LOk.clear (v : LV α) : LOk (clearL v) := ⟨Nat.le_refl _, Nat.zero_le _⟩
theorem putL_m (x : α) (v : LV α) : (putL x v).m = v.m := by unfold putL; split <;> rfl
theorem nextL_m (v : LV α) : (nextL v).m = v.m ∧ (nextL v).l = v.l := by unfold nextL; split <;> exact ⟨rfl, rfl⟩
theorem putL_yes {v : LV α} (x : α) (h : v.l.length < v.m) : putL x v = ⟨v.m, v.o, v.l ++ [x]⟩ ∧ putsL v = true := by
  unfold putL putsL; rw [if_pos h]; exact ⟨rfl, decide_eq_true h⟩
theorem putL_no {v : LV α} (x : α) (h : ¬ v.l.length < v.m) : putL x v = v ∧ putsL v = false := by
  unfold putL putsL; rw [if_neg h]; exact ⟨rfl, decide_eq_false h⟩
theorem nextL_yes {v : LV α} (h : v.o < v.l.length) : nextL v = ⟨v.m, v.o + 1, v.l⟩ ∧ nextsL v = some v.l[v.o] := by
  unfold nextL nextsL; rw [if_pos h]; exact ⟨rfl, List.getElem?_eq_getElem h⟩
theorem nextL_no {v : LV α} (h : ¬ v.o < v.l.length) : nextL v = v ∧ nextsL v = none := by
  unfold nextL nextsL; rw [if_neg h]; exact ⟨rfl, List.getElem?_eq_none (by omega)⟩

/-- so many put, gone, sent: the row holds the numbers from gone up to pt, and those below next are out (BackOrder) -/
def OrdL (f : Nat → α) (pt gone next : Nat) (v : LV α) : Prop :=
  v.l = (List.range' gone (pt - gone)).map f ∧ v.o = next - gone ∧ gone ≤ next ∧ next ≤ pt
section
variable {f : Nat → α} {pt gone next : Nat} {v : LV α}
theorem OrdL.zero (most : Int) : OrdL f 0 0 0 (zL most) := ⟨rfl, rfl, Nat.le_refl _, Nat.le_refl _⟩
theorem OrdL.len (h : OrdL f pt gone next v) : v.l.length = pt - gone := by rw [h.1]; simp
theorem OrdL.put (h : OrdL f pt gone next v) : OrdL f (if putsL v = true then pt + 1 else pt) gone next (putL (f pt) v) := by
  obtain ⟨h1, h2, h3, h4⟩ := h
  by_cases hx : v.l.length < v.m
  · rw [(putL_yes (f pt) hx).1, (putL_yes (f pt) hx).2]
    refine ⟨?_, h2, h3, by simp; omega⟩
    simp only [if_true]
    rw [h1, show pt + 1 - gone = (pt - gone) + 1 by omega, List.range'_concat, List.map_append]
    simp only [List.map_cons, List.map_nil, Nat.one_mul]
    rw [show gone + (pt - gone) = pt by omega]
  · rw [(putL_no (f pt) hx).1, (putL_no (f pt) hx).2]
    exact ⟨h1, h2, h3, by simpa using h4⟩
theorem OrdL.next_yes (h : OrdL f pt gone next v) (hn : next < pt) :
    nextsL v = some (f next) ∧ OrdL f pt gone (next + 1) (nextL v) := by
  have hl := h.len
  obtain ⟨h1, h2, h3, h4⟩ := h
  have hx : v.o < v.l.length := by omega
  rw [(nextL_yes hx).1]
  refine ⟨?_, h1, by simp only; omega, by omega, hn⟩
  unfold nextsL
  rw [h1, h2, List.getElem?_map, List.getElem?_range' (by omega)]
  simp only [Option.map_some, Nat.one_mul]
  rw [show gone + (next - gone) = next by omega]
theorem OrdL.next_no (h : OrdL f pt gone next v) (hn : ¬ next < pt) : nextsL v = none ∧ nextL v = v := by
  have hl := h.len
  obtain ⟨h1, h2, h3, h4⟩ := h
  have hx : ¬ v.o < v.l.length := by omega
  exact ⟨(nextL_no hx).2, (nextL_no hx).1⟩
theorem OrdL.ack (n : Int) (h : OrdL f pt gone next v) :
    OrdL f pt (gone + goneL n v) next (ackL n v) ∧ goneL n v ≤ next - gone := by
  have hg := goneL_le n v
  obtain ⟨h1, h2, h3, h4⟩ := h
  rw [h2] at hg
  refine ⟨⟨?_, ?_, by omega, h4⟩, hg⟩
  · unfold ackL
    simp only
    rw [h1, ← List.map_drop, List.drop_range', Nat.mul_one]
    rw [show pt - gone - goneL n v = pt - (gone + goneL n v) by omega]
  · unfold ackL
    simp only
    omega
theorem OrdL.again (h : OrdL f pt gone next v) : v.o = next - gone ∧ OrdL f pt gone gone (againL v) := by
  obtain ⟨h1, h2, h3, h4⟩ := h
  exact ⟨h2, h1, by unfold againL; simp, Nat.le_refl _, by omega⟩
end

/-- i of the row are out (BackAgain, BackRoom) -/
def OutL (L : List α) (m i : Nat) (v : LV α) : Prop := v = ⟨m, i, L⟩ ∧ i ≤ L.length
theorem OutL.next {L : List α} {m i : Nat} {v : LV α} (h : OutL L m i v) (hi : i < L.length) :
    nextsL v = some L[i] ∧ OutL L m (i + 1) (nextL v) := by
  obtain ⟨rfl, h2⟩ := h
  have := nextL_yes (v := (⟨m, i, L⟩ : LV α)) hi
  exact ⟨this.2, this.1, hi⟩
theorem OutL.end {L : List α} {m : Nat} {v : LV α} (h : OutL L m L.length v) : nextsL v = none ∧ nextL v = v := by
  obtain ⟨rfl, h2⟩ := h
  exact ⟨(nextL_no (Nat.lt_irrefl _)).2, (nextL_no (Nat.lt_irrefl _)).1⟩
theorem OutL.again {L : List α} {m i : Nat} {v : LV α} (h : OutL L m i v) : OutL L m 0 (againL v) := by
  obtain ⟨rfl, h2⟩ := h
  exact ⟨rfl, Nat.zero_le _⟩
theorem OutL.ack {L : List α} {m i : Nat} {v : LV α} (n : Int) (h : OutL L m i v) :
    goneL n v = min n.toNat i ∧ OutL (L.drop (min n.toNat i)) m (i - min n.toNat i) (ackL n v) := by
  obtain ⟨rfl, h2⟩ := h
  refine ⟨rfl, rfl, ?_⟩
  rw [List.length_drop]; omega
theorem OutL.put {L : List α} {m i : Nat} {v : LV α} (x : α) (h : OutL L m i v) (hm : L.length < m) :
    putsL v = true ∧ OutL (L ++ [x]) m i (putL x v) := by
  obtain ⟨rfl, h2⟩ := h
  have := putL_yes (v := (⟨m, i, L⟩ : LV α)) x hm
  refine ⟨this.2, this.1, ?_⟩
  rw [List.length_append]; omega
theorem OutL.full {L : List α} {m i : Nat} {v : LV α} (x : α) (h : OutL L m i v) (hm : ¬ L.length < m) :
    putsL v = false ∧ putL x v = v := by
  obtain ⟨rfl, h2⟩ := h
  have := putL_no (v := (⟨m, i, L⟩ : LV α)) x hm
  exact ⟨this.2, this.1⟩

end Go.Proofs.Ytefbmhkchlhgnaa
