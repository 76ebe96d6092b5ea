/- A queue in memory: its own two cells, a row of pointers, a cell behind each; what a call may have turned. -/
import Derived.Lib.SliceRun
import Derived.Deep.AppendSrc
import Derived.Lib.AppendZerosOnto
import Derived.Lib.AppendZeros
import Derived.Lib.Overlaps
import Derived.Laws.IdiomCopy
import Derived.Test.YtefbmhkchlhgnaaOWords
namespace Go.Proofs.Ytefbmhkchlhgnaa
open Go.RowKit

/-- the address of a block's first cell -/
abbrev ptr (p : Nat) : Value := .pointer (some ⟨p, 0, none⟩)

theorem set_block {w : World} {g : Nat} {cur : Array Value} {T : TypeId} {fr : Nat × Nat} (h : w.heap[g]? = some (.cells cur T fr)) (o : Nat) (v : Value) :
    (w.setCell ⟨g, o, none⟩ v).heap[g]? = some (.cells (cur.setIfInBounds o v) T fr) := by
  simp [World.setCell, Array.getElem?_modify, h]
theorem set_other {w : World} {g k : Nat} (o : Nat) (v : Value) (h : k ≠ g) : (w.setCell ⟨g, o, none⟩ v).heap[k]? = w.heap[k]? := Below.heap_setCell w ⟨g, o, none⟩ v k h
theorem set_size (w : World) (a : Addr) (v : Value) : (w.setCell a v).heap.size = w.heap.size := by simp [World.setCell]
theorem not_frozen {w : World} {g : Nat} {cs : Array Value} {T : TypeId} (h : w.heap[g]? = some (.cells cs T (0, 0))) (o : Nat) : w.frozen? ⟨g, o, none⟩ = false := by simp [World.frozen?, h]

/-- cells written one behind the other -/
def setAll (cur : Array Value) : Nat → List Value → Array Value
  | _, [] => cur
  | o, v :: r => setAll (cur.setIfInBounds o v) (o + 1) r
theorem setAll_size : ∀ (vs : List Value) (cur : Array Value) (o : Nat), (setAll cur o vs).size = cur.size
  | [], _, _ => rfl
  | v :: r, cur, o => by rw [setAll, setAll_size r]; simp
theorem setAll_out : ∀ (vs : List Value) (cur : Array Value) (o k : Nat), (k < o ∨ o + vs.length ≤ k) → (setAll cur o vs)[k]? = cur[k]?
  | [], _, _, _, _ => rfl
  | v :: r, cur, o, k, h => by
    rw [setAll, setAll_out r _ _ _ (by simp at h; omega), Array.getElem?_setIfInBounds_ne (by simp at h; omega)]
theorem setAll_in : ∀ (vs : List Value) (cur : Array Value) (o j : Nat), o + vs.length ≤ cur.size → j < vs.length → (setAll cur o vs)[o + j]? = vs[j]?
  | v :: r, cur, o, 0, h, _ => by
    rw [setAll, setAll_out r _ _ _ (by omega)]
    simp at h
    simp [Array.getElem?_setIfInBounds_self_of_lt (show o < cur.size by omega)]
  | v :: r, cur, o, j + 1, h, hj => by
    rw [setAll, show o + (j + 1) = o + 1 + j by omega, setAll_in r _ _ _ (by simp at h ⊢; omega) (by simpa using hj)]
    simp
theorem setCells_block {T : TypeId} {fr : Nat × Nat} {g : Nat} : ∀ (vs : List Value) (w : World) (cur : Array Value) (o : Nat), w.heap[g]? = some (.cells cur T fr) → (w.setCells g o vs).heap[g]? = some (.cells (setAll cur o vs) T fr)
  | [], _, _, _, h => h
  | v :: r, w, cur, o, h => by rw [World.setCells, setAll]; exact setCells_block r _ _ _ (set_block h o v)
theorem setCells_other {g k : Nat} (h : k ≠ g) : ∀ (vs : List Value) (w : World) (o : Nat), (w.setCells g o vs).heap[k]? = w.heap[k]?
  | [], _, _ => rfl
  | v :: r, w, o => by rw [World.setCells, setCells_other h r, set_other o v h]
theorem setCells_size {g : Nat} : ∀ (vs : List Value) (w : World) (o : Nat), (w.setCells g o vs).heap.size = w.heap.size
  | [], _, _ => rfl
  | v :: r, w, o => by rw [World.setCells, setCells_size r, set_size]

/-- of the blocks that were there, only those of L may have turned -/
structure Turned (L : List Nat) (w w' : World) : Prop where
  os : w'.os = w.os
  tape : w'.tape = w.tape
  output : w'.output = w.output
  size : w.heap.size ≤ w'.heap.size
  block : ∀ k, k < w.heap.size → k ∉ L → w'.heap[k]? = w.heap[k]?
theorem Turned.refl (L : List Nat) (w : World) : Turned L w w := ⟨rfl, rfl, rfl, Nat.le_refl _, fun _ _ _ => rfl⟩
theorem Turned.of_below {L : List Nat} {a b : World} (h : Below a.heap.size a b) : Turned L a b := ⟨h.os, h.tape, h.output, h.size, fun k hk _ => h.block k hk⟩
theorem Turned.trans {L M : List Nat} {a b c : World} (h : Turned L a b) (k : Turned M b c) (hL : ∀ i ∈ M, i ∈ L ∨ a.heap.size ≤ i) : Turned L a c :=
  ⟨k.os.trans h.os, k.tape.trans h.tape, k.output.trans h.output, Nat.le_trans h.size k.size, fun i hi hn =>
    (k.block i (Nat.lt_of_lt_of_le hi h.size) (fun hm => (hL i hm).elim hn (fun h' => by omega))).trans (h.block i hi hn)⟩
theorem Turned.mono {L M : List Nat} {a b : World} (h : Turned L a b) (hL : ∀ i ∈ L, i ∈ M) : Turned M a b := ⟨h.os, h.tape, h.output, h.size, fun k hk hn => h.block k hk (fun hm => hn (hL k hm))⟩
theorem Turned.drewN {L : List Nat} {a b : World} (h : Turned L a b) (n : Nat) : Turned L a (b.drewN n) := ⟨h.os, h.tape, h.output, h.size, h.block⟩
theorem Turned.drew {L : List Nat} {a b : World} (h : Turned L a b) : Turned L a b.drew := ⟨h.os, h.tape, h.output, h.size, h.block⟩
theorem Turned.alloc {L : List Nat} {a b : World} (h : Turned L a b) (o : Obj) : Turned L a (b.alloc o) :=
  h.trans (Turned.of_below (L := []) ((Below.refl _ _).alloc (Nat.le_refl _) o)) (fun i hi => by cases hi)
theorem Turned.setCell {L : List Nat} {a b : World} (h : Turned L a b) {g : Nat} (hg : g ∈ L ∨ a.heap.size ≤ g) (o : Nat) (v : Value) : Turned L a (b.setCell ⟨g, o, none⟩ v) :=
  h.trans (M := [g]) ⟨rfl, rfl, rfl, by rw [set_size]; exact Nat.le_refl _, fun k _ hn => set_other o v (fun e => hn (by simp [e]))⟩ (fun i hi => by simp at hi; subst hi; exact hg)
theorem setCells_os {g : Nat} : ∀ (vs : List Value) (w : World) (o : Nat), (w.setCells g o vs).os = w.os ∧ (w.setCells g o vs).tape = w.tape ∧ (w.setCells g o vs).output = w.output
  | [], _, _ => ⟨rfl, rfl, rfl⟩
  | v :: r, w, o => by rw [World.setCells]; exact setCells_os r _ _
theorem Turned.setCells {L : List Nat} {a b : World} (h : Turned L a b) {g : Nat} (hg : g ∈ L ∨ a.heap.size ≤ g) (o : Nat) (vs : List Value) : Turned L a (b.setCells g o vs) :=
  h.trans (M := [g]) ⟨(setCells_os vs b o).1, (setCells_os vs b o).2.1, (setCells_os vs b o).2.2, by rw [setCells_size]; exact Nat.le_refl _, fun k _ hn => setCells_other (fun e => hn (by simp [e])) vs b o⟩ (fun i hi => by simp at hi; subst hi; exact hg)
theorem Turned.below {L : List Nat} {B : Nat} {a b c : World} (h : Below B a b) (k : Turned L b c) (hL : ∀ i ∈ L, B ≤ i) (hB : B ≤ b.heap.size) : Below B a c :=
  h.trans ⟨k.os, k.tape, k.output, k.size, fun i hi => k.block i (by omega) (fun hm => by have := hL i hm; omega)⟩
theorem Turned.at_ {L : List Nat} {a b : World} (h : Turned L a b) {k : Nat} {o : Obj} (hk : a.heap[k]? = some o) (hn : k ∉ L) : b.heap[k]? = some o := (h.block k (block_lt hk) hn).trans hk

/-- the row's block is the one that it was, or a new one -/
def Next (w : World) (G G' : Option Nat) : Prop := G' = G ∨ ∃ g, G' = some g ∧ w.heap.size ≤ g
theorem Next.refl (w : World) (G : Option Nat) : Next w G G := .inl rfl
theorem Next.list {w : World} {G G' : Option Nat} (h : Next w G G') : ∀ i ∈ G'.toList, i ∈ G.toList ∨ w.heap.size ≤ i := by
  rcases h with rfl | ⟨g, rfl, hg⟩
  · exact fun i hi => .inl hi
  · intro i hi; simp at hi; subst hi; exact .inr hg
theorem Next.trans {w w' : World} {G G' G'' : Option Nat} (h : Next w G G') (k : Next w' G' G'') (hs : w.heap.size ≤ w'.heap.size) : Next w G G'' := by
  rcases k with rfl | ⟨g, rfl, hg⟩
  · exact h
  · exact .inr ⟨g, rfl, by omega⟩

/-- a slice of pointers to blocks: its row lies in block G, from some cell on -/
structure PRow (TP : TypeId) (w : World) (G : Option Nat) (A : Option Addr) (c : Nat) (ps : List Nat) : Prop where
  ex : (G = none ∧ A = none ∧ c = 0 ∧ ps = []) ∨ ∃ g o cur, G = some g ∧ A = some ⟨g, o, none⟩ ∧ w.heap[g]? = some (.cells cur TP (0, 0)) ∧ o + c ≤ cur.size ∧ ps.length ≤ c ∧
    ∀ k p, ps[k]? = some p → cur[o + k]? = some (ptr p)
section
variable {TP : TypeId} {w w' : World} {G : Option Nat} {A : Option Addr} {c : Nat} {ps : List Nat}
theorem PRow.nil (TP : TypeId) (w : World) : PRow TP w none none 0 [] := ⟨.inl ⟨rfl, rfl, rfl, rfl⟩⟩
theorem PRow.keep (h : PRow TP w G A c ps) (hk : ∀ g, G = some g → w'.heap[g]? = w.heap[g]?) : PRow TP w' G A c ps := by
  rcases h.ex with h0 | ⟨g, o, cur, h1, h2, h3, h4⟩
  · exact ⟨.inl h0⟩
  · exact ⟨.inr ⟨g, o, cur, h1, h2, (hk g h1).trans h3, h4⟩⟩
theorem PRow.lt (h : PRow TP w G A c ps) {g : Nat} (hg : G = some g) : ∃ cur, w.heap[g]? = some (.cells cur TP (0, 0)) := by
  rcases h.ex with ⟨h0, _⟩ | ⟨g', o, cur, h1, h2, h3, h4⟩
  · rw [h0] at hg; cases hg
  · rw [h1] at hg; cases hg; exact ⟨cur, h3⟩
theorem PRow.cap (h : PRow TP w G A c ps) : ps.length ≤ c := by
  rcases h.ex with ⟨_, _, rfl, rfl⟩ | ⟨g, o, cur, h1, h2, h3, h4, h5, h6⟩
  · exact Nat.le_refl _
  · exact h5
theorem PRow.cell (h : PRow TP w G A c ps) {k p : Nat} (hk : ps[k]? = some p) : ∃ g o, G = some g ∧ A = some ⟨g, o, none⟩ ∧ w.cell? ⟨g, o + k, none⟩ = some (ptr p) := by
  rcases h.ex with ⟨_, _, _, rfl⟩ | ⟨g, o, cur, h1, h2, h3, h4, h5, h6⟩
  · cases hk
  · exact ⟨g, o, h1, h2, by rw [cell_of_row w g _ cur TP (0, 0) h3]; exact h6 k p hk⟩
theorem PRow.other {L : List Nat} (h : PRow TP w G A c ps) (hT : Turned L w w') (hn : ∀ g, G = some g → g ∉ L) : PRow TP w' G A c ps :=
  h.keep fun g hg => by obtain ⟨cur, hc⟩ := h.lt hg; exact (hT.at_ hc (hn g hg)).trans hc.symm
theorem PRow.none_ (h : PRow TP w none A c ps) : A = none ∧ c = 0 ∧ ps = [] := by
  rcases h.ex with ⟨_, h2, h3, h4⟩ | ⟨g, o, cur, h1, _⟩
  · exact ⟨h2, h3, h4⟩
  · cases h1
end

theorem add_off (g o k : Nat) : (⟨g, o, none⟩ : Addr).add k = ⟨g, o + k, none⟩ := by unfold Addr.add; split <;> simp_all

/-- one more behind the row: in its room, or in a new row -/
theorem append_prow {P : Program} {w : World} {TS TP : TypeId} {i : TypeInfo} (ht : P.underlying TS = some (.slice TP)) (hi : P.info? TP = some i) (hz : i.zero = some (.pointer none)) (hs : i.size = 1) (hb : i.bytes = 8)
    {G : Option Nat} {A : Option Addr} {c : Nat} {ps : List Nat} (h : PRow TP w G A c ps) {v p : Nat} (hv : w.cell? ⟨v, 0, none⟩ = some (ptr p)) (hbig : (ps.length + 1) * 8 ≤ 140737488355328) :
    ∃ A' c' G' w', (∀ ty, (Builtin.append_ #[TS, TS] ty #[.slice A ps.length c, .slice (some ⟨v, 0, none⟩) 1 1]).run P w = .ok (.slice A' (ps.length + 1) c') w') ∧ PRow TP w' G' A' c' (ps ++ [p]) ∧ Turned G.toList w w' ∧ Next w G G' := by
  have hsrc : Src P i.size TS (.slice (some ⟨v, 0, none⟩) 1 1) 1 [ptr p] w := by
    rw [hs]
    exact Src.ofSlice w ht ⟨v, 0, none⟩ 1 1 [ptr p] rfl (fun j u hj => by
      rcases j with _ | j
      · simp at hj; subst hj; rw [add_off]; exact hv
      · simp at hj) (by intro u hu; simp at hu; subst hu; rfl)
  have hgrow : c < ps.length + 1 → ∀ (olds : List Value), (Builtin.firstCells i.size ps.length (.slice A ps.length c)).run P w.drew = .ok olds.toArray w.drew → olds = ps.map ptr →
      ∃ A' c' G' w', (∀ ty, (Builtin.append_ #[TS, TS] ty #[.slice A ps.length c, .slice (some ⟨v, 0, none⟩) 1 1]).run P w = .ok (.slice A' (ps.length + 1) c') w') ∧ PRow TP w' G' A' c' (ps ++ [p]) ∧ Turned G.toList w w' ∧ Next w G G' := by
    intro hc olds hold ho
    have hrun := fun ty => run_append_grow_src w TS TS ty TP i _ ht hi hz A ps.length c olds hold _ 1 [ptr p] hsrc hc (by omega) (by rw [hb]; exact growslice_fits hc hbig)
    have hge := grownCap_ge w (ps.length + 1) c TP
    refine ⟨_, _, some w.heap.size, _, hrun, ⟨.inr ⟨w.heap.size, 0, _, rfl, rfl, heap_alloc_new w.drew _, ?_, ?_, ?_⟩⟩, (Turned.refl _ _).drew.alloc _, .inr ⟨_, rfl, Nat.le_refl _⟩⟩
    · subst ho; simp [Builtin.zeroCells, Value.cells]; omega
    · simpa using hge
    · subst ho
      intro k q hk
      obtain ⟨hlt, hkq⟩ := List.getElem?_eq_some_iff.1 hk
      rw [Nat.zero_add, Array.getElem?_append_left (by simpa using hlt)]
      rw [← List.map_singleton (f := ptr), ← List.map_append]
      simp only [List.getElem?_toArray, List.getElem?_map, hk, Option.map_some]
  rcases h.ex with ⟨rfl, rfl, rfl, rfl⟩ | ⟨g, o, cur, rfl, rfl, hcur, hsz, hle, hat⟩
  · refine hgrow (by simp) [] ?_ rfl
    exact run_firstCells_none w.drew i.size 0 0 0
  · by_cases hroom : ps.length + 1 ≤ c
    · have hc0 : (w.cell? ⟨g, o + ps.length, none⟩).isSome = true := by
        rw [cell_of_row w g _ cur TP (0, 0) hcur, Array.getElem?_eq_getElem (by omega)]; rfl
      have hf0 : w.frozen? ⟨g, o + ps.length, none⟩ = false := by simp [World.frozen?, hcur]
      have hrun := fun ty => run_append_room_src w TS TS ty TP i ht hi g o ps.length c _ 1 [ptr p] hsrc hroom
        (fun j hj => by simp at hj; subst hj; rw [hs]; simpa using hc0) (fun j hj => by simp at hj; subst hj; rw [hs]; simpa using hf0)
      refine ⟨_, _, some g, _, hrun, ⟨.inr ⟨g, o, _, rfl, rfl, setCells_block _ _ _ _ hcur, ?_, ?_, ?_⟩⟩, (Turned.refl _ _).setCells (.inl (by simp)) _ _, .inl rfl⟩
      · rw [setAll_size]; exact hsz
      · simpa using hroom
      · intro k q hk
        rw [hs, Nat.mul_one]
        by_cases hkl : k < ps.length
        · rw [List.getElem?_append_left hkl] at hk
          rw [setAll_out _ _ _ _ (by omega)]
          exact hat k q hk
        · obtain ⟨hlt, _⟩ := List.getElem?_eq_some_iff.1 hk
          obtain rfl : k = ps.length := by simp at hlt; omega
          simp at hk
          subst hk
          have := setAll_in [ptr p] cur (o + ps.length) 0 (by simp; omega) (by simp)
          simpa using this
    · refine hgrow (by omega) (ps.map ptr) ?_ rfl
      rw [hs]
      refine run_firstCells_some w.drew 1 ps.length ⟨g, o, none⟩ ps.length c _ (by simp) (fun j u hj => ?_)
      rw [List.getElem?_map] at hj
      obtain ⟨q, hq, rfl⟩ := Option.map_eq_some_iff.1 hj
      rw [add_off]
      show w.cell? _ = _
      rw [cell_of_row w g _ cur TP (0, 0) hcur]
      exact hat j q hq

/-- a queue at block q: its row in block G, its cells ps with the items xs -/
structure QIn (TQ TP TC : TypeId) (w : World) (q : Nat) (G : Option Nat) (m : Int) (ps : List Nat) (xs : List Value) : Prop where
  ex : ∃ A c, w.heap[q]? = some (.cells #[.int .i64 m, .slice A ps.length c] TQ (0, 0)) ∧ PRow TP w G A c ps
  len : ps.length = xs.length
  cells : ∀ (k p : Nat) (x : Value), ps[k]? = some p → xs[k]? = some x → w.heap[p]? = some (Obj.cells #[x, .bool false] TC (0, 0))
  nd : ps.Nodup
section
variable {TQ TP TC : TypeId} {w w' : World} {q : Nat} {G : Option Nat} {m : Int} {ps : List Nat} {xs : List Value} {L : List Nat}
theorem QIn.lt (h : QIn TQ TP TC w q G m ps xs) : q < w.heap.size := by obtain ⟨A, c, hh, _⟩ := h.ex; exact block_lt hh
theorem QIn.cellOf (h : QIn TQ TP TC w q G m ps xs) {p : Nat} (hp : p ∈ ps) : ∃ x, w.heap[p]? = some (.cells #[x, .bool false] TC (0, 0)) := by
  obtain ⟨k, hk⟩ := List.mem_iff_getElem?.1 hp
  obtain ⟨hlt, _⟩ := List.getElem?_eq_some_iff.1 hk
  exact ⟨_, h.cells k p _ hk (List.getElem?_eq_getElem (by rw [← h.len]; exact hlt))⟩
theorem QIn.keep (h : QIn TQ TP TC w q G m ps xs) (hk : ∀ k, k = q ∨ G = some k ∨ k ∈ ps → w'.heap[k]? = w.heap[k]?) : QIn TQ TP TC w' q G m ps xs := by
  obtain ⟨A, c, hh, hr⟩ := h.ex
  refine ⟨⟨A, c, (hk q (.inl rfl)).trans hh, hr.keep fun g hg => hk g (.inr (.inl hg))⟩, h.len, fun k p x h1 h2 => ?_, h.nd⟩
  exact (hk p (.inr (.inr (List.mem_of_getElem? h1)))).trans (h.cells k p x h1 h2)
theorem QIn.inSize (h : QIn TQ TP TC w q G m ps xs) {k : Nat} (hk : k = q ∨ G = some k ∨ k ∈ ps) : k < w.heap.size := by
  rcases hk with rfl | hg | hp
  · exact h.lt
  · obtain ⟨A, c, hh, hr⟩ := h.ex; obtain ⟨cur, hc⟩ := hr.lt hg; exact block_lt hc
  · obtain ⟨x, hx⟩ := h.cellOf hp; exact block_lt hx
theorem QIn.turned (h : QIn TQ TP TC w q G m ps xs) (hT : Turned L w w') (hn : ∀ k, k = q ∨ G = some k ∨ k ∈ ps → k ∉ L) : QIn TQ TP TC w' q G m ps xs :=
  h.keep fun k hk => hT.block k (h.inSize hk) (hn k hk)
theorem QIn.below (h : QIn TQ TP TC w q G m ps xs) (hb : Below w.heap.size w w') : QIn TQ TP TC w' q G m ps xs := h.keep fun k hk => hb.block k (h.inSize hk)
theorem QIn.drewN (h : QIn TQ TP TC w q G m ps xs) (n : Nat) : QIn TQ TP TC (w.drewN n) q G m ps xs := h.keep fun _ _ => rfl
end
theorem type_ne {w : World} {a b : Nat} {c d : Array Value} {S T : TypeId} {f g : Nat × Nat} (h : w.heap[a]? = some (.cells c S f)) (k : w.heap[b]? = some (.cells d T g)) (hne : S ≠ T) : a ≠ b := fun e => by
  subst e; rw [h] at k; injection k with k; injection k with _ kt; exact hne kt

/-- all that a queue holds lies from block B on -/
structure OwnQ (B q : Nat) (G : Option Nat) (ps : List Nat) : Prop where
  q_le : B ≤ q
  g_le : ∀ g, G = some g → B ≤ g
  p_le : ∀ p ∈ ps, B ≤ p
theorem OwnQ.next {B q : Nat} {w : World} {G G' : Option Nat} {ps : List Nat} {p : Nat} (h : OwnQ B q G ps) (hN : Next w G G') (hB : B ≤ w.heap.size) (hp : w.heap.size ≤ p) : OwnQ B q G' (ps ++ [p]) :=
  ⟨h.q_le, fun g hg => by
    rcases hN with rfl | ⟨g', rfl, hg'⟩
    · exact h.g_le g hg
    · injection hg with hg; omega, fun x hx => by
    rcases List.mem_append.1 hx with hx | hx
    · exact h.p_le x hx
    · simp at hx; omega⟩
theorem OwnQ.drop {B q : Nat} {G : Option Nat} {ps : List Nat} (h : OwnQ B q G ps) (k : Nat) : OwnQ B q G (ps.drop k) := ⟨h.q_le, h.g_le, fun p hp => h.p_le p (List.mem_of_mem_drop hp)⟩

/-- what lay below block B, and whatever is of none of these types, lies as it lay -/
structure Spare (ts : List TypeId) (B : Nat) (w w' : World) : Prop where
  os : w'.os = w.os
  tape : w'.tape = w.tape
  output : w'.output = w.output
  size : w.heap.size ≤ w'.heap.size
  block : ∀ (k : Nat) (o : Obj), w.heap[k]? = some o → (k < B ∨ ∀ c T f, o = .cells c T f → T ∉ ts) → w'.heap[k]? = some o
theorem Spare.refl (ts : List TypeId) (B : Nat) (w : World) : Spare ts B w w := ⟨rfl, rfl, rfl, Nat.le_refl _, fun _ _ h _ => h⟩
theorem Spare.trans {ts : List TypeId} {B : Nat} {a b c : World} (h : Spare ts B a b) (k : Spare ts B b c) : Spare ts B a c :=
  ⟨k.os.trans h.os, k.tape.trans h.tape, k.output.trans h.output, Nat.le_trans h.size k.size, fun i o hi ho => k.block i o (h.block i o hi ho) ho⟩
theorem Spare.of_below {ts : List TypeId} {B : Nat} {a b : World} (h : Below a.heap.size a b) : Spare ts B a b := ⟨h.os, h.tape, h.output, h.size, fun k _ hk _ => (h.block k (block_lt hk)).trans hk⟩
theorem Spare.below {ts : List TypeId} {B : Nat} {a b : World} (h : Spare ts B a b) (hB : B ≤ a.heap.size) : Below B a b :=
  ⟨h.os, h.tape, h.output, h.size, fun k hk => by
    rw [h.block k _ (Array.getElem?_eq_getElem (by omega)) (.inl hk), Array.getElem?_eq_getElem (by omega)]⟩
theorem Spare.of_turned {TQ TP TC : TypeId} {B : Nat} {w w' : World} {q : Nat} {G : Option Nat} {m : Int} {ps : List Nat} {xs : List Value} {L : List Nat} (h : QIn TQ TP TC w q G m ps xs) (hO : OwnQ B q G ps) (hT : Turned L w w') (hL : ∀ k ∈ L, k = q ∨ G = some k ∨ k ∈ ps) : Spare [TQ, TP, TC] B w w' :=
  ⟨hT.os, hT.tape, hT.output, hT.size, fun k o hk ho => by
    refine hT.at_ hk (fun hm => ?_)
    have h1 : B ≤ k := by
      rcases hL k hm with rfl | h1 | h1
      · exact hO.q_le
      · exact hO.g_le k h1
      · exact hO.p_le k h1
    rcases ho with ho | ho
    · omega
    · obtain ⟨A, c, hh, hr⟩ := h.ex
      rcases hL k hm with rfl | h1 | h1
      · rw [hh] at hk; injection hk with hk; exact ho _ _ _ hk.symm (by simp)
      · obtain ⟨cur, hc⟩ := hr.lt h1; rw [hc] at hk; injection hk with hk; exact ho _ _ _ hk.symm (by simp)
      · obtain ⟨x, hx⟩ := h.cellOf h1; rw [hx] at hk; injection hk with hk; exact ho _ _ _ hk.symm (by simp)⟩
end Go.Proofs.Ytefbmhkchlhgnaa
