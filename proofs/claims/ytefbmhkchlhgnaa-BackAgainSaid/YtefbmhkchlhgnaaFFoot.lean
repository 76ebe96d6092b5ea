/- What a call owns, and what it may have turned of what there was. -/
import Derived.Test.YtefbmhkchlhgnaaFMem
namespace Go.Proofs.Ytefbmhkchlhgnaa
open Go.RowKit

/-- blocks that somebody owns -/
abbrev Foot := Nat → Prop
/-- a call that owned S has turned, of what there was, S alone; what it owns now is of S, or new -/
structure Moves (S S' : Foot) (w w' : World) : Prop where
  os : w'.os = w.os
  tape : w'.tape = w.tape
  output : w'.output = w.output
  size : w.heap.size ≤ w'.heap.size
  block : ∀ k, k < w.heap.size → ¬ S k → w'.heap[k]? = w.heap[k]?
  own : ∀ k, S' k → S k ∨ w.heap.size ≤ k
section
variable {S S' S'' T : Foot} {a b c w w' : World}
theorem Moves.refl (S : Foot) (w : World) : Moves S S w w := ⟨rfl, rfl, rfl, Nat.le_refl _, fun _ _ _ => rfl, fun _ h => .inl h⟩
theorem Moves.of_below (S : Foot) (h : Below a.heap.size a b) : Moves S S a b := ⟨h.os, h.tape, h.output, h.size, fun k hk _ => h.block k hk, fun _ h => .inl h⟩
theorem Moves.trans (h : Moves S S' a b) (k : Moves S' S'' b c) : Moves S S'' a c :=
  ⟨k.os.trans h.os, k.tape.trans h.tape, k.output.trans h.output, Nat.le_trans h.size k.size, fun i hi hn =>
    (k.block i (Nat.lt_of_lt_of_le hi h.size) (fun h' => (h.own i h').elim hn (fun h'' => by omega))).trans (h.block i hi hn), fun i hi => by
    rcases k.own i hi with h1 | h1
    · exact h.own i h1
    · exact .inr (Nat.le_trans h.size h1)⟩
theorem Moves.more (h : Moves S S' a b) (hT : ∀ k, S k → T k) : Moves T S' a b := ⟨h.os, h.tape, h.output, h.size, fun k hk hn => h.block k hk (fun h' => hn (hT k h')), fun k hk => (h.own k hk).imp (hT k) id⟩
theorem Moves.less (h : Moves S S' a b) (hT : ∀ k, T k → S' k) : Moves S T a b := ⟨h.os, h.tape, h.output, h.size, h.block, fun k hk => h.own k (hT k hk)⟩
theorem Moves.below {B : Nat} (h : Below B a b) (k : Moves S S' b c) (hS : ∀ i, S i → B ≤ i) (hB : B ≤ b.heap.size) : Below B a c :=
  h.trans ⟨k.os, k.tape, k.output, k.size, fun i hi => k.block i (by omega) (fun hm => by have := hS i hm; omega)⟩
theorem Moves.at_ (h : Moves S S' w w') {k : Nat} {o : Obj} (hk : w.heap[k]? = some o) (hn : ¬ S k) : w'.heap[k]? = some o := (h.block k (block_lt hk) hn).trans hk
/-- what was made on the way is the call's own too -/
theorem Moves.born (h : Below a.heap.size a b) (k : Moves (fun i => S i ∨ a.heap.size ≤ i) S' b c) : Moves S S' a c :=
  ⟨k.os.trans h.os, k.tape.trans h.tape, k.output.trans h.output, Nat.le_trans h.size k.size, fun i hi hn =>
    (k.block i (Nat.lt_of_lt_of_le hi h.size) (fun h' => h'.elim hn (fun h'' => by omega))).trans (h.block i hi), fun i hi => by
    rcases k.own i hi with h1 | h1
    · exact h1
    · exact .inr (Nat.le_trans h.size h1)⟩
theorem Moves.setCell (h : Moves S S' a b) {g : Nat} (hg : S g ∨ a.heap.size ≤ g) (o : Nat) (v : Value) : Moves S S' a (b.setCell ⟨g, o, none⟩ v) :=
  ⟨h.os, h.tape, h.output, by rw [set_size]; exact h.size, fun k hk hn => (set_other o v (fun e => by subst e; exact hg.elim hn (fun h' => by omega))).trans (h.block k hk hn), h.own⟩
theorem Moves.drewN (h : Moves S S' a b) (n : Nat) : Moves S S' a (b.drewN n) := ⟨h.os, h.tape, h.output, h.size, h.block, h.own⟩
theorem Moves.then_below (h : Moves S S' a b) (k : Below b.heap.size b c) : Moves S S' a c := h.trans (Moves.of_below S' k)
theorem Moves.after (h : Below a.heap.size a b) (k : Moves S S' b c) : Moves S S' a c := (Moves.of_below S h).trans k
theorem Moves.of_turned {L : List Nat} (h : Turned L a b) (hL : ∀ k ∈ L, S k) (hS : ∀ k, S' k → S k ∨ a.heap.size ≤ k) : Moves S S' a b :=
  ⟨h.os, h.tape, h.output, h.size, fun k hk hn => h.block k hk (fun hm => hn (hL k hm)), hS⟩
/-- somebody else's is apart from it still -/
theorem Moves.apart (h : Moves S S' a b) (hT : ∀ k, T k → k < a.heap.size ∧ ¬ S k) : ∀ k, T k → k < b.heap.size ∧ ¬ S' k := fun k hk => by
  obtain ⟨h1, h2⟩ := hT k hk
  refine ⟨Nat.lt_of_lt_of_le h1 h.size, fun h3 => ?_⟩
  rcases h.own k h3 with h4 | h4
  · exact h2 h4
  · omega
end

/-- a frame in a row: where its bytes lie, its bytes, when it was sent -/
structure FV where
  A : Option Addr
  c : Nat
  l : List Int
  born : Int
abbrev FV.val (v : FV) : Value := .slice v.A v.l.length v.c
abbrev FV.item (v : FV) : Array Value := #[.slice v.A v.l.length v.c, .int .i64 v.born]
abbrev FV.blk (v : FV) : Option Nat := v.val.ownBlock
def qfoot (q : Nat) (G : Option Nat) (ps : List Nat) (vs : List FV) : Foot := fun k => k = q ∨ G = some k ∨ k ∈ ps ∨ ∃ v ∈ vs, v.blk = some k
theorem own_blk {w : World} {v : FV} {B : Nat} (h : OwnB w B v.val v.l) {g : Nat} (hg : v.blk = some g) : B ≤ g ∧ ∃ cur, w.heap[g]? = some (.cells cur 5 (0, 0)) := by
  rcases h.2 with ⟨hv, h0⟩ | ⟨g', cap, cur, hv, hb, hh, _⟩
  · unfold FV.blk at hg; rw [hv] at hg; simp [Value.ownBlock] at hg
  · unfold FV.blk at hg; rw [hv] at hg
    have : g' = g := by simpa [Value.ownBlock] using hg
    subst this
    exact ⟨hb, cur, hh⟩
theorem own_keep {w w' : World} {v : FV} {B : Nat} (h : OwnB w B v.val v.l) (hk : ∀ g, v.blk = some g → w'.heap[g]? = w.heap[g]?) : OwnB w' B v.val v.l := by
  refine ⟨h.1, ?_⟩
  rcases h.2 with h0 | ⟨g, cap, cur, hv, hb, hh, hr⟩
  · exact .inl h0
  · exact .inr ⟨g, cap, cur, hv, hb, (hk g (by unfold FV.blk; rw [hv]; rfl)).trans hh, hr⟩
end Go.Proofs.Ytefbmhkchlhgnaa
