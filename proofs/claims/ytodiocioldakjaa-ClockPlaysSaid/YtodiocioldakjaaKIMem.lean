/- A clock in memory: its own three cells, a row of pairs (whose timer, when it ends). -/
import Derived.Test.YtodiocioldakjaaFFoot
import Derived.Test.YtodiocioldakjaaOMore
import Derived.Laws.StructEq
import Derived.Maps.AppendAt
import Derived.Test.YtodiocioldakjaaKMath
namespace Go.Proofs.Ytodiocioldakjaa
open Go.RowKit
set_option linter.unusedVariables false

theorem row_type {w : World} {base e size n : Nat} {v : Value} {xs : List Value} (h : w.ownsRow base e size v n xs) {i : Nat} (hi : v.ownBlock = some i) : ∃ cur, w.heap[i]? = some (.cells cur e (0, 0)) := by
  rcases h.2 with ⟨hv, _⟩ | ⟨g', cap, cur, hv, _, hh, _⟩
  · rw [hv] at hi; simp [Value.ownBlock] at hi
  · rw [hv] at hi
    have : g' = i := by simpa [Value.ownBlock] using hi
    subst this; exact ⟨cur, hh⟩
theorem row_keeps {w w' : World} {base e size n : Nat} {v : Value} {xs : List Value} (h : w.ownsRow base e size v n xs) (hk : ∀ i, v.ownBlock = some i → w'.heap[i]? = w.heap[i]?) : w'.ownsRow base e size v n xs := by
  refine ⟨h.1, ?_⟩
  rcases h.2 with h0 | ⟨g, cap, cur, rfl, hg, hh, hr⟩
  · exact .inl h0
  · exact .inr ⟨g, cap, cur, rfl, hg, (hk g rfl).trans hh, hr⟩
/-- when each ends, at a time -/
def endsK {α : Type} (now : Nat) (l : List (α × Int)) : List (α × Int) := l.map fun x => (x.1, (now : Int) + x.2)
theorem endsK_len {α : Type} (now : Nat) (l : List (α × Int)) : (endsK now l).length = l.length := by simp [endsK]
theorem endsK_get {α : Type} (now : Nat) (l : List (α × Int)) (k : Nat) : (endsK now l)[k]? = (l[k]?).map fun x => (x.1, (now : Int) + x.2) := by simp [endsK]
theorem cell_alloc_lt {w : World} {p : Addr} {v : Value} (o : Obj) (h : w.cell? p = some v) : (w.alloc o).cell? p = some v := by
  have hl : p.block < w.heap.size := by
    rcases Nat.lt_or_ge p.block w.heap.size with h1 | h1
    · exact h1
    · unfold World.cell? at h; rw [Array.getElem?_eq_none h1] at h; simp at h
  rw [World.cell?_alloc_lt w o p hl]; exact h
theorem keyI_ne {a b : Int} (h : a ≠ b) : (a == b) = false := by rw [beq_eq_false_iff_ne]; exact h
theorem keyI_self (a : Int) : (a == a) = true := by simp
/-- pairs, cell by cell -/
def flatI (l : List (Int × Int)) : List Value := l.flatMap fun x => [.int .i64 x.1, .int .i64 x.2]
theorem flatI_cons (x : Int × Int) (l : List (Int × Int)) : flatI (x :: l) = .int .i64 x.1 :: .int .i64 x.2 :: flatI l := rfl
theorem flatI_app (l m : List (Int × Int)) : flatI (l ++ m) = flatI l ++ flatI m := by simp [flatI]
theorem flatI_len (l : List (Int × Int)) : (flatI l).length = l.length * 2 := by
  induction l with
  | nil => rfl
  | cons x l ih => rw [flatI_cons, List.length_cons, List.length_cons, ih, List.length_cons]; omega
theorem flatI_get : ∀ (l : List (Int × Int)) (k : Nat) (x : Int × Int), l[k]? = some x → (flatI l)[k * 2]? = some (.int .i64 x.1) ∧ (flatI l)[k * 2 + 1]? = some (.int .i64 x.2)
  | y :: l, 0, x, h => by
    simp at h; subst h; exact ⟨rfl, rfl⟩
  | y :: l, k + 1, x, h => by
    have := flatI_get l k x (by simpa using h)
    rw [flatI_cons, show (k + 1) * 2 = k * 2 + 1 + 1 by omega]
    exact this
theorem flatI_take : ∀ (l : List (Int × Int)) (k : Nat), flatI (l.take k) = (flatI l).take (k * 2)
  | [], k => by simp [flatI]
  | x :: l, 0 => by simp [flatI]
  | x :: l, k + 1 => by
    rw [List.take_succ_cons, flatI_cons, flatI_cons, show (k + 1) * 2 = k * 2 + 1 + 1 by omega, List.take_succ_cons, List.take_succ_cons, flatI_take l k]
theorem flatI_drop : ∀ (l : List (Int × Int)) (k : Nat), flatI (l.drop k) = (flatI l).drop (k * 2)
  | [], k => by simp [flatI]
  | x :: l, 0 => by simp [flatI]
  | x :: l, k + 1 => by
    rw [List.drop_succ_cons, flatI_cons, show (k + 1) * 2 = k * 2 + 1 + 1 by omega, List.drop_succ_cons, List.drop_succ_cons, flatI_drop l k]
theorem flatI_one {l : List (Int × Int)} {u : Value} (h : u ∈ flatI l) : u.oneCell' = true := by
  unfold flatI at h
  obtain ⟨x, _, hx⟩ := List.mem_flatMap.1 h
  simp at hx
  rcases hx with rfl | rfl <;> rfl
/-- a row of pairs of the call's own, of whatever type -/
abbrev OwnI (TT : TypeId) (w : World) (v : Value) (l : List (Int × Int)) : Prop := w.ownsRow 0 TT 2 v l.length (flatI l)
theorem OwnI.cell {TT : TypeId} {w : World} {v : Value} {l : List (Int × Int)} (h : OwnI TT w v l) {k : Nat} {x : Int × Int} (hx : l[k]? = some x) :
    ∃ g c, v = .slice (some ⟨g, 0, none⟩) l.length c ∧ l.length ≤ c ∧ g < w.heap.size ∧ w.cell? ⟨g, k * 2, none⟩ = some (.int .i64 x.1) ∧ w.cell? ⟨g, k * 2 + 1, none⟩ = some (.int .i64 x.2) ∧ ∀ o, w.frozen? ⟨g, o, none⟩ = false := by
  have hl := (List.getElem?_eq_some_iff.1 hx).1
  rcases h.2 with ⟨_, h0⟩ | ⟨g, c, cur, rfl, _, hh, hc, _⟩
  · omega
  · obtain ⟨f1, f2⟩ := flatI_get l k x hx
    exact ⟨g, c, rfl, hc, block_lt hh, by rw [World.ownsRow.cellAt h (k * 2) (by omega)]; exact f1, by rw [World.ownsRow.cellAt h (k * 2 + 1) (by omega)]; exact f2, fun o => by simp [World.frozen?, hh]⟩

/-- pairs put behind such a row -/
theorem OwnI.append {TT TS : TypeId} {i0 : TypeInfo} {zs : Array Value} (ht : Try.prog.underlying TS = some (.slice TT)) (hi : Try.prog.info? TT = some i0) (hz : i0.zero = some (.agg zs)) (hzs : zs.size = 2) (hs : i0.size = 2) (hby : i0.bytes ≤ 100) {w : World} {v : Value} {l news : List (Int × Int)} (h : OwnI TT w v l) (ad : Addr) (m c : Nat) (hm : news.length = m)
    (hc : ∀ j u, (flatI news)[j]? = some u → w.cell? (ad.add j) = some u) (hbig : l.length + m ≤ 1000000) :
    Appends Try.prog TS w v (.slice (some ad) m c) (fun v' w' => (∃ A c', v' = .slice A (l.length + m) c') ∧ Hid (OwnI TT w' v' (l ++ news) ∧ Moves (fun k => v.ownBlock = some k) (fun k => v'.ownBlock = some k) w w')) := by
  intro ty
  have hb2 : (l.length + m) * i0.bytes ≤ 140737488355328 := Nat.le_trans (Nat.mul_le_mul hbig hby) (by decide)
  obtain ⟨v', w', hr, h2, h3, _, h5⟩ := run_append_own_at (P := Try.prog) w 0 TS ty TT i0 _ 2 i0.bytes ht hi hz hs rfl (by simpa [Value.cells] using hzs) (by decide) v l.length (flatI l) h ad m c (flatI news) (by rw [flatI_len, hm]) hc (fun u hu => flatI_one hu) (by unfold maxLen; omega) hb2 (Nat.zero_le _)
  have e1 : l.length + m = (l ++ news).length := by rw [List.length_append, hm]
  rw [← flatI_app] at h2
  obtain ⟨A, c', e, _⟩ := own_shape h2
  refine ⟨v', w', hr, ⟨A, c', e⟩, cover ⟨by rw [e1] at h2; exact h2, ⟨h3.os, h3.tape, h3.output, h3.size, fun k hk hn => h3.block k hk (fun e => hn e.symm), fun k hk => ?_⟩⟩⟩
  rcases h5 with h5 | h5
  · exact .inl (by rw [← h5]; exact hk)
  · have hk' : v'.ownBlock = some k := hk
    rw [h5] at hk'
    exact .inr (by injection hk' with hk'; omega)
/-- a clock at block c: its row is the slice V; its time; whose timers run, and what is left of each, in the order of their starts -/
structure CIIn (w : World) (c : Nat) (V : Value) (m now : Nat) (l : List (Int × Int)) : Prop where
  hd : w.heap[c]? = some (.cells #[.int .i64 m, .int .i64 now, V] 70 (0, 0))
  row : OwnI 72 w V (endsK now l)
  ok : InK m 10000 l
  mb : m ≤ 100000
  nb : now ≤ 1000000000
def cfoot (c : Nat) (V : Value) : Foot := fun i => i = c ∨ V.ownBlock = some i
section
variable {w w' : World} {c : Nat} {V : Value} {m now : Nat} {l : List (Int × Int)}
theorem CIIn.len (h : CIIn w c V m now l) : l.length ≤ 100000 := Nat.le_trans h.ok.room h.mb
theorem CIIn.shape (h : CIIn w c V m now l) : ∃ A cp, V = .slice A l.length cp := by
  obtain ⟨A, cp, e, _⟩ := own_shape h.row; exact ⟨A, cp, by rw [e, endsK_len]⟩
theorem CIIn.lt (h : CIIn w c V m now l) {i : Nat} (hi : cfoot c V i) : i < w.heap.size := by
  rcases hi with rfl | hi
  · exact block_lt h.hd
  · obtain ⟨cur, hc⟩ := row_type h.row hi; exact block_lt hc
theorem CIIn.apart (h : CIIn w c V m now l) : V.ownBlock ≠ some c := fun e => by
  obtain ⟨cur, hc⟩ := row_type h.row e
  exact type_ne hc h.hd (by decide) rfl
theorem CIIn.keep (h : CIIn w c V m now l) (hk : ∀ i, cfoot c V i → w'.heap[i]? = w.heap[i]?) : CIIn w' c V m now l :=
  ⟨(hk c (.inl rfl)).trans h.hd, row_keeps h.row (fun i hi => hk i (.inr hi)), h.ok, h.mb, h.nb⟩
theorem CIIn.below (h : CIIn w c V m now l) (hb : Below w.heap.size w w') : CIIn w' c V m now l := h.keep fun i hi => hb.block i (h.lt hi)
theorem CIIn.drewN (h : CIIn w c V m now l) (n : Nat) : CIIn (w.drewN n) c V m now l := h.keep fun _ _ => rfl
theorem CIIn.cells (h : CIIn w c V m now l) : w.cell? ⟨c, 0, none⟩ = some (.int .i64 m) ∧ w.cell? ⟨c, 1, none⟩ = some (.int .i64 now) ∧ w.cell? ⟨c, 2, none⟩ = some V :=
  ⟨by rw [cell_of_row _ _ _ _ _ _ h.hd]; rfl, by rw [cell_of_row _ _ _ _ _ _ h.hd]; rfl, by rw [cell_of_row _ _ _ _ _ _ h.hd]; rfl⟩
theorem CIIn.thaw (h : CIIn w c V m now l) (o : Nat) : w.frozen? ⟨c, o, none⟩ = false := by simp [World.frozen?, h.hd]
end
/-- a clock whose timers may be over already -/
structure CIRaw (w : World) (c : Nat) (V : Value) (m now : Nat) (l : List (Int × Int)) : Prop where
  hd : w.heap[c]? = some (.cells #[.int .i64 m, .int .i64 now, V] 70 (0, 0))
  row : OwnI 72 w V (endsK now l)
  len : l.length ≤ 100000
  left : ∀ x ∈ l, 0 ≤ x.2 ∧ x.2 ≤ 10000
  mb : m ≤ 100000
  nb : now ≤ 1000000000
section
variable {w w' : World} {c : Nat} {V : Value} {m now : Nat} {l : List (Int × Int)}
theorem CIIn.raw (h : CIIn w c V m now l) : CIRaw w c V m now l := ⟨h.hd, h.row, h.len, fun x hx => by have := h.ok.left x hx; omega, h.mb, h.nb⟩
theorem CIRaw.shape (h : CIRaw w c V m now l) : ∃ A cp, V = .slice A l.length cp := by
  obtain ⟨A, cp, e, _⟩ := own_shape h.row; exact ⟨A, cp, by rw [e, endsK_len]⟩
theorem CIRaw.lt (h : CIRaw w c V m now l) {i : Nat} (hi : cfoot c V i) : i < w.heap.size := by
  rcases hi with rfl | hi
  · exact block_lt h.hd
  · obtain ⟨cur, hc⟩ := row_type h.row hi; exact block_lt hc
theorem CIRaw.apart (h : CIRaw w c V m now l) : V.ownBlock ≠ some c := fun e => by
  obtain ⟨cur, hc⟩ := row_type h.row e
  exact type_ne hc h.hd (by decide) rfl
theorem CIRaw.keep (h : CIRaw w c V m now l) (hk : ∀ i, cfoot c V i → w'.heap[i]? = w.heap[i]?) : CIRaw w' c V m now l :=
  ⟨(hk c (.inl rfl)).trans h.hd, row_keeps h.row (fun i hi => hk i (.inr hi)), h.len, h.left, h.mb, h.nb⟩
theorem CIRaw.below (h : CIRaw w c V m now l) (hb : Below w.heap.size w w') : CIRaw w' c V m now l := h.keep fun i hi => hb.block i (h.lt hi)
theorem CIRaw.cells (h : CIRaw w c V m now l) : w.cell? ⟨c, 0, none⟩ = some (.int .i64 m) ∧ w.cell? ⟨c, 1, none⟩ = some (.int .i64 now) ∧ w.cell? ⟨c, 2, none⟩ = some V :=
  ⟨by rw [cell_of_row _ _ _ _ _ _ h.hd]; rfl, by rw [cell_of_row _ _ _ _ _ _ h.hd]; rfl, by rw [cell_of_row _ _ _ _ _ _ h.hd]; rfl⟩
theorem CIRaw.thaw (h : CIRaw w c V m now l) (o : Nat) : w.frozen? ⟨c, o, none⟩ = false := by simp [World.frozen?, h.hd]
/-- the row is another one now: of the clock's own, or new -/
theorem CIRaw.turn {V' : Value} {l' : List (Int × Int)} (h : CIRaw w c V m now l) (hm : Moves (fun i => V.ownBlock = some i) (fun i => V'.ownBlock = some i) w w') (hr : OwnI 72 w' V' (endsK now l')) (hok : InK m 10000 l') :
    CIIn (w'.setCell ⟨c, 2, none⟩ V') c V' m now l' ∧ Moves (cfoot c V) (cfoot c V') w (w'.setCell ⟨c, 2, none⟩ V') := by
  have hne : V'.ownBlock ≠ some c := fun e => by
    rcases hm.own c e with h1 | h1
    · exact h.apart h1
    · have := block_lt h.hd; omega
  have hc : w'.heap[c]? = _ := hm.at_ h.hd h.apart
  refine ⟨⟨by rw [set_block hc]; rfl, row_keeps hr (fun i hi => set_other _ _ (fun e => hne (by rw [hi, e]))), hok, h.mb, h.nb⟩, ?_⟩
  refine Moves.setCell ⟨hm.os, hm.tape, hm.output, hm.size, fun k hk hn => hm.block k hk (fun h1 => hn (.inr h1)), fun k hk => ?_⟩ (.inl (.inl rfl)) _ _
  rcases hk with rfl | hk
  · exact .inl (.inl rfl)
  · rcases hm.own k hk with h1 | h1
    · exact .inl (.inr h1)
    · exact .inr h1
end
/-- the clock is such now; what was not its own lies as it lay -/
def CINow (S : Foot) (c m now : Nat) (l : List (Int × Int)) (w w' : World) : Prop := ∃ V', CIIn w' c V' m now l ∧ Moves S (cfoot c V') w w'
theorem timerI_info : (Try.prog.info? 72).map (fun i => (i.zero, i.size, i.bytes)) = some (some (.agg #[.int .i64 0, .int .i64 0]), 2, 16) := by kernel_rfl
end Go.Proofs.Ytodiocioldakjaa
