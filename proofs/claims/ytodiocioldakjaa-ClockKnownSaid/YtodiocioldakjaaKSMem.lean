/- A clock in memory: its own three cells, a row of pairs (whose timer, when it ends). -/
import Derived.Test.YtodiocioldakjaaFFoot
import Derived.Test.YtodiocioldakjaaOMore
import Derived.Laws.StructEq
import Derived.Maps.AppendAt
import Derived.Test.YtodiocioldakjaaKMath
import Derived.Test.YtodiocioldakjaaKIMem
namespace Go.Proofs.Ytodiocioldakjaa
open Go.RowKit
set_option linter.unusedVariables false

theorem keyS_ne {a b : ByteArray} (h : a ≠ b) : (a.toList == b.toList) = false := by
  rw [← beq_toListBytes]
  cases a; cases b
  simp only [BEq.beq, ByteArray.beq]
  rename_i x y
  have : x ≠ y := fun e => h (by rw [e])
  have h2 : (x == y) = false := by simpa using this
  exact h2
theorem keyS_self (a : ByteArray) : (a.toList == a.toList) = true := by simp
/-- pairs, cell by cell -/
def flatS (l : List (ByteArray × Int)) : List Value := l.flatMap fun x => [.string x.1, .int .i64 x.2]
theorem flatS_cons (x : ByteArray × Int) (l : List (ByteArray × Int)) : flatS (x :: l) = .string x.1 :: .int .i64 x.2 :: flatS l := rfl
theorem flatS_app (l m : List (ByteArray × Int)) : flatS (l ++ m) = flatS l ++ flatS m := by simp [flatS]
theorem flatS_len (l : List (ByteArray × Int)) : (flatS l).length = l.length * 2 := by
  induction l with
  | nil => rfl
  | cons x l ih => rw [flatS_cons, List.length_cons, List.length_cons, ih, List.length_cons]; omega
theorem flatS_get : ∀ (l : List (ByteArray × Int)) (k : Nat) (x : ByteArray × Int), l[k]? = some x → (flatS l)[k * 2]? = some (.string x.1) ∧ (flatS l)[k * 2 + 1]? = some (.int .i64 x.2)
  | y :: l, 0, x, h => by
    simp at h; subst h; exact ⟨rfl, rfl⟩
  | y :: l, k + 1, x, h => by
    have := flatS_get l k x (by simpa using h)
    rw [flatS_cons, show (k + 1) * 2 = k * 2 + 1 + 1 by omega]
    exact this
theorem flatS_take : ∀ (l : List (ByteArray × Int)) (k : Nat), flatS (l.take k) = (flatS l).take (k * 2)
  | [], k => by simp [flatS]
  | x :: l, 0 => by simp [flatS]
  | x :: l, k + 1 => by
    rw [List.take_succ_cons, flatS_cons, flatS_cons, show (k + 1) * 2 = k * 2 + 1 + 1 by omega, List.take_succ_cons, List.take_succ_cons, flatS_take l k]
theorem flatS_drop : ∀ (l : List (ByteArray × Int)) (k : Nat), flatS (l.drop k) = (flatS l).drop (k * 2)
  | [], k => by simp [flatS]
  | x :: l, 0 => by simp [flatS]
  | x :: l, k + 1 => by
    rw [List.drop_succ_cons, flatS_cons, show (k + 1) * 2 = k * 2 + 1 + 1 by omega, List.drop_succ_cons, List.drop_succ_cons, flatS_drop l k]
theorem flatS_one {l : List (ByteArray × Int)} {u : Value} (h : u ∈ flatS l) : u.oneCell' = true := by
  unfold flatS at h
  obtain ⟨x, _, hx⟩ := List.mem_flatMap.1 h
  simp at hx
  rcases hx with rfl | rfl <;> rfl
/-- a row of pairs of the call's own, of whatever type -/
abbrev OwnS (TT : TypeId) (w : World) (v : Value) (l : List (ByteArray × Int)) : Prop := w.ownsRow 0 TT 2 v l.length (flatS l)
theorem OwnS.cell {TT : TypeId} {w : World} {v : Value} {l : List (ByteArray × Int)} (h : OwnS TT w v l) {k : Nat} {x : ByteArray × Int} (hx : l[k]? = some x) :
    ∃ g c, v = .slice (some ⟨g, 0, none⟩) l.length c ∧ l.length ≤ c ∧ g < w.heap.size ∧ w.cell? ⟨g, k * 2, none⟩ = some (.string x.1) ∧ w.cell? ⟨g, k * 2 + 1, none⟩ = some (.int .i64 x.2) ∧ ∀ o, w.frozen? ⟨g, o, none⟩ = false := by
  have hl := (List.getElem?_eq_some_iff.1 hx).1
  rcases h.2 with ⟨_, h0⟩ | ⟨g, c, cur, rfl, _, hh, hc, _⟩
  · omega
  · obtain ⟨f1, f2⟩ := flatS_get l k x hx
    exact ⟨g, c, rfl, hc, block_lt hh, by rw [World.ownsRow.cellAt h (k * 2) (by omega)]; exact f1, by rw [World.ownsRow.cellAt h (k * 2 + 1) (by omega)]; exact f2, fun o => by simp [World.frozen?, hh]⟩

/-- pairs put behind such a row -/
theorem OwnS.append {TT TS : TypeId} {i0 : TypeInfo} {zs : Array Value} (ht : Try.prog.underlying TS = some (.slice TT)) (hi : Try.prog.info? TT = some i0) (hz : i0.zero = some (.agg zs)) (hzs : zs.size = 2) (hs : i0.size = 2) (hby : i0.bytes ≤ 100) {w : World} {v : Value} {l news : List (ByteArray × Int)} (h : OwnS TT w v l) (ad : Addr) (m c : Nat) (hm : news.length = m)
    (hc : ∀ j u, (flatS news)[j]? = some u → w.cell? (ad.add j) = some u) (hbig : l.length + m ≤ 1000000) :
    Appends Try.prog TS w v (.slice (some ad) m c) (fun v' w' => (∃ A c', v' = .slice A (l.length + m) c') ∧ Hid (OwnS TT w' v' (l ++ news) ∧ Moves (fun k => v.ownBlock = some k) (fun k => v'.ownBlock = some k) w w')) := by
  intro ty
  have hb2 : (l.length + m) * i0.bytes ≤ 140737488355328 := Nat.le_trans (Nat.mul_le_mul hbig hby) (by decide)
  obtain ⟨v', w', hr, h2, h3, _, h5⟩ := run_append_own_at (P := Try.prog) w 0 TS ty TT i0 _ 2 i0.bytes ht hi hz hs rfl (by simpa [Value.cells] using hzs) (by decide) v l.length (flatS l) h ad m c (flatS news) (by rw [flatS_len, hm]) hc (fun u hu => flatS_one hu) (by unfold maxLen; omega) hb2 (Nat.zero_le _)
  have e1 : l.length + m = (l ++ news).length := by rw [List.length_append, hm]
  rw [← flatS_app] at h2
  obtain ⟨A, c', e, _⟩ := own_shape h2
  refine ⟨v', w', hr, ⟨A, c', e⟩, cover ⟨by rw [e1] at h2; exact h2, ⟨h3.os, h3.tape, h3.output, h3.size, fun k hk hn => h3.block k hk (fun e => hn e.symm), fun k hk => ?_⟩⟩⟩
  rcases h5 with h5 | h5
  · exact .inl (by rw [← h5]; exact hk)
  · have hk' : v'.ownBlock = some k := hk
    rw [h5] at hk'
    exact .inr (by injection hk' with hk'; omega)
/-- a clock at block c: its row is the slice V; its time; whose timers run, and what is left of each, in the order of their starts -/
structure CSIn (w : World) (c : Nat) (V : Value) (m now : Nat) (l : List (ByteArray × Int)) : Prop where
  hd : w.heap[c]? = some (.cells #[.int .i64 m, .int .i64 now, V] 58 (0, 0))
  row : OwnS 60 w V (endsK now l)
  ok : InK m 10000 l
  mb : m ≤ 100000
  nb : now ≤ 1000000000
section
variable {w w' : World} {c : Nat} {V : Value} {m now : Nat} {l : List (ByteArray × Int)}
theorem CSIn.len (h : CSIn w c V m now l) : l.length ≤ 100000 := Nat.le_trans h.ok.room h.mb
theorem CSIn.shape (h : CSIn w c V m now l) : ∃ A cp, V = .slice A l.length cp := by
  obtain ⟨A, cp, e, _⟩ := own_shape h.row; exact ⟨A, cp, by rw [e, endsK_len]⟩
theorem CSIn.lt (h : CSIn w c V m now l) {i : Nat} (hi : cfoot c V i) : i < w.heap.size := by
  rcases hi with rfl | hi
  · exact block_lt h.hd
  · obtain ⟨cur, hc⟩ := row_type h.row hi; exact block_lt hc
theorem CSIn.apart (h : CSIn w c V m now l) : V.ownBlock ≠ some c := fun e => by
  obtain ⟨cur, hc⟩ := row_type h.row e
  exact type_ne hc h.hd (by decide) rfl
theorem CSIn.keep (h : CSIn w c V m now l) (hk : ∀ i, cfoot c V i → w'.heap[i]? = w.heap[i]?) : CSIn w' c V m now l :=
  ⟨(hk c (.inl rfl)).trans h.hd, row_keeps h.row (fun i hi => hk i (.inr hi)), h.ok, h.mb, h.nb⟩
theorem CSIn.below (h : CSIn w c V m now l) (hb : Below w.heap.size w w') : CSIn w' c V m now l := h.keep fun i hi => hb.block i (h.lt hi)
theorem CSIn.drewN (h : CSIn w c V m now l) (n : Nat) : CSIn (w.drewN n) c V m now l := h.keep fun _ _ => rfl
theorem CSIn.cells (h : CSIn w c V m now l) : w.cell? ⟨c, 0, none⟩ = some (.int .i64 m) ∧ w.cell? ⟨c, 1, none⟩ = some (.int .i64 now) ∧ w.cell? ⟨c, 2, none⟩ = some V :=
  ⟨by rw [cell_of_row _ _ _ _ _ _ h.hd]; rfl, by rw [cell_of_row _ _ _ _ _ _ h.hd]; rfl, by rw [cell_of_row _ _ _ _ _ _ h.hd]; rfl⟩
theorem CSIn.thaw (h : CSIn w c V m now l) (o : Nat) : w.frozen? ⟨c, o, none⟩ = false := by simp [World.frozen?, h.hd]
end
/-- a clock whose timers may be over already -/
structure CSRaw (w : World) (c : Nat) (V : Value) (m now : Nat) (l : List (ByteArray × Int)) : Prop where
  hd : w.heap[c]? = some (.cells #[.int .i64 m, .int .i64 now, V] 58 (0, 0))
  row : OwnS 60 w V (endsK now l)
  len : l.length ≤ 100000
  left : ∀ x ∈ l, 0 ≤ x.2 ∧ x.2 ≤ 10000
  mb : m ≤ 100000
  nb : now ≤ 1000000000
section
variable {w w' : World} {c : Nat} {V : Value} {m now : Nat} {l : List (ByteArray × Int)}
theorem CSIn.raw (h : CSIn w c V m now l) : CSRaw w c V m now l := ⟨h.hd, h.row, h.len, fun x hx => by have := h.ok.left x hx; omega, h.mb, h.nb⟩
theorem CSRaw.shape (h : CSRaw w c V m now l) : ∃ A cp, V = .slice A l.length cp := by
  obtain ⟨A, cp, e, _⟩ := own_shape h.row; exact ⟨A, cp, by rw [e, endsK_len]⟩
theorem CSRaw.lt (h : CSRaw w c V m now l) {i : Nat} (hi : cfoot c V i) : i < w.heap.size := by
  rcases hi with rfl | hi
  · exact block_lt h.hd
  · obtain ⟨cur, hc⟩ := row_type h.row hi; exact block_lt hc
theorem CSRaw.apart (h : CSRaw w c V m now l) : V.ownBlock ≠ some c := fun e => by
  obtain ⟨cur, hc⟩ := row_type h.row e
  exact type_ne hc h.hd (by decide) rfl
theorem CSRaw.keep (h : CSRaw w c V m now l) (hk : ∀ i, cfoot c V i → w'.heap[i]? = w.heap[i]?) : CSRaw w' c V m now l :=
  ⟨(hk c (.inl rfl)).trans h.hd, row_keeps h.row (fun i hi => hk i (.inr hi)), h.len, h.left, h.mb, h.nb⟩
theorem CSRaw.below (h : CSRaw w c V m now l) (hb : Below w.heap.size w w') : CSRaw w' c V m now l := h.keep fun i hi => hb.block i (h.lt hi)
theorem CSRaw.cells (h : CSRaw w c V m now l) : w.cell? ⟨c, 0, none⟩ = some (.int .i64 m) ∧ w.cell? ⟨c, 1, none⟩ = some (.int .i64 now) ∧ w.cell? ⟨c, 2, none⟩ = some V :=
  ⟨by rw [cell_of_row _ _ _ _ _ _ h.hd]; rfl, by rw [cell_of_row _ _ _ _ _ _ h.hd]; rfl, by rw [cell_of_row _ _ _ _ _ _ h.hd]; rfl⟩
theorem CSRaw.thaw (h : CSRaw w c V m now l) (o : Nat) : w.frozen? ⟨c, o, none⟩ = false := by simp [World.frozen?, h.hd]
/-- the row is another one now: of the clock's own, or new -/
theorem CSRaw.turn {V' : Value} {l' : List (ByteArray × Int)} (h : CSRaw w c V m now l) (hm : Moves (fun i => V.ownBlock = some i) (fun i => V'.ownBlock = some i) w w') (hr : OwnS 60 w' V' (endsK now l')) (hok : InK m 10000 l') :
    CSIn (w'.setCell ⟨c, 2, none⟩ V') c V' m now l' ∧ Moves (cfoot c V) (cfoot c V') w (w'.setCell ⟨c, 2, none⟩ V') := by
  have hne : V'.ownBlock ≠ some c := fun e => by
    rcases hm.own c e with h1 | h1
    · exact h.apart h1
    · have := block_lt h.hd; omega
  have hc : w'.heap[c]? = _ := hm.at_ h.hd h.apart
  refine ⟨⟨by rw [set_block hc]; rfl, row_keeps hr (fun i hi => set_other _ _ (fun e => hne (by rw [hi, e]))), hok, h.mb, h.nb⟩, ?_⟩
  refine Moves.setCell ⟨hm.os, hm.tape, hm.output, hm.size, fun k hk hn => hm.block k hk (fun h1 => hn (.inr h1)), fun k hk => ?_⟩ (.inl (.inl rfl)) _ _
  rcases hk with rfl | hk
  · exact .inl (.inl rfl)
  · rcases hm.own k hk with h1 | h1
    · exact .inl (.inr h1)
    · exact .inr h1
end
/-- the clock is such now; what was not its own lies as it lay -/
def CSNow (S : Foot) (c m now : Nat) (l : List (ByteArray × Int)) (w w' : World) : Prop := ∃ V', CSIn w' c V' m now l ∧ Moves S (cfoot c V') w w'
theorem timerS_info : (Try.prog.info? 60).map (fun i => (i.zero, i.size, i.bytes)) = some (some (.agg #[.string ⟨#[]⟩, .int .i64 0]), 2, 24) := by kernel_rfl
end Go.Proofs.Ytodiocioldakjaa
