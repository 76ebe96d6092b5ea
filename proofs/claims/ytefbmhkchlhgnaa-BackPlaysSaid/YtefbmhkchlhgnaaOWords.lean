/- Own words for memory: a slice value that reads as a row of bytes; a block that is known whole; what a call may have turned. -/
import Derived.WalkKit
import Derived.WalkSpells
import Derived.WalkLawsBesides
import Derived.Deep.Draws
import Derived.Laws.OwnMore
import Derived.Laws.AppendOwnNone
import Derived.Test.YtefbmhkchlhgnaaOMath
namespace Go.Proofs.Ytefbmhkchlhgnaa
open Go.RowKit

theorem addr_add_block (a : Addr) (n : Nat) : (a.add n).block = a.block := by unfold Addr.add; split <;> rfl
theorem addr_add_add (a : Addr) (i j : Nat) : (a.add i).add j = a.add (i + j) := by
  unfold Addr.add
  by_cases hi : i = 0 <;> by_cases hj : j = 0 <;> simp [hi, hj, Nat.add_assoc]

/-- the slice value '.slice A n _' reads as the numbers l of one kind; its cells lie below block B -/
structure RowK (κ : IntKind) (w : World) (B : Nat) (A : Option Addr) (n : Nat) (l : List Int) : Prop where
  len : l.length = n
  cells : ∀ k (h : k < l.length), ∃ ad, A = some ad ∧ ad.block < B ∧ w.cell? (ad.add k) = some (.int κ l[k])

section
variable {κ : IntKind} {w w' : World} {B B' n : Nat} {A : Option Addr} {l : List Int}
theorem RowK.none_ : RowK κ w B A 0 [] := ⟨rfl, fun k h => by simp at h⟩
theorem RowK.at_ (h : RowK κ w B A n l) {k : Nat} (hk : k < n) : ∃ ad x, A = some ad ∧ ad.block < B ∧ w.cell? (ad.add k) = some (.int κ x) ∧ Hid (l[k]? = some x) := by
  obtain ⟨ad, e, hb, hc⟩ := h.cells k (by rw [h.len]; exact hk)
  exact ⟨ad, _, e, hb, hc, List.getElem?_eq_getElem _⟩
theorem RowK.news {ad : Addr} (h : RowK κ w B (some ad) n l) : ∀ j u, (l.map (Value.int κ))[j]? = some u → w.cell? (ad.add j) = some u := by
  intro j u hu
  rw [List.getElem?_map] at hu
  obtain ⟨x, hx, rfl⟩ := Option.map_eq_some_iff.1 hu
  obtain ⟨hj, rfl⟩ := List.getElem?_eq_some_iff.1 hx
  obtain ⟨ad', e, _, hc⟩ := h.cells j hj
  injection e with e; subst e; exact hc
theorem RowK.keep (h : RowK κ w B A n l) (hk : ∀ p : Addr, p.block < B → w'.cell? p = w.cell? p) : RowK κ w' B A n l :=
  ⟨h.len, fun k hl => by
    obtain ⟨ad, e, hb, hc⟩ := h.cells k hl
    exact ⟨ad, e, hb, (hk _ (by rw [addr_add_block]; exact hb)).trans hc⟩⟩
theorem RowK.more (h : RowK κ w B A n l) (hB : B ≤ B') : RowK κ w B' A n l :=
  ⟨h.len, fun k hl => by
    obtain ⟨ad, e, hb, hc⟩ := h.cells k hl
    exact ⟨ad, e, by omega, hc⟩⟩
theorem RowK.below (h : RowK κ w B A n l) (hb : Below B w w') : RowK κ w' B A n l := h.keep fun _ hp => hb.cell hp
theorem RowK.drewN (h : RowK κ w B A n l) (k : Nat) : RowK κ (w.drewN k) B A n l := ⟨h.len, h.cells⟩
theorem RowK.alloc (h : RowK κ w B A n l) (hB : B ≤ w.heap.size) (o : Obj) : RowK κ (w.alloc o) B A n l :=
  h.keep fun p hp => World.cell?_alloc_lt w o p (by omega)
theorem RowK.setCell (h : RowK κ w B A n l) {p : Addr} (hB : B ≤ p.block) (u : Value) : RowK κ (w.setCell p u) B A n l :=
  h.keep fun q hq => World.cell?_setCell_other w p q u (fun e => by subst e; omega)
theorem RowK.grown (h : RowK κ w B A n l) {g : Nat} (hg : w.grownBy w' (some g)) (hB : B ≤ w.heap.size) (hr : B ≤ g) : RowK κ w' B A n l :=
  h.keep fun p hp => World.cell?_of_block (hg.block p.block (by omega) (fun e => by injection e; omega))
theorem RowK.take (h : RowK κ w B A n l) {k : Nat} (hk : k ≤ n) : RowK κ w B A k (l.take k) :=
  ⟨by rw [List.length_take, h.len]; omega, fun j hj => by
    rw [List.length_take] at hj
    obtain ⟨ad, e, hb, hc⟩ := h.cells j (by omega)
    exact ⟨ad, e, hb, by rw [hc, List.getElem_take]⟩⟩
theorem RowK.cut (h : RowK κ w B A n l) {k cap : Nat} (hk : k ≤ n) (hc : n ≤ cap) :
    RowK κ w B (if cap = k then A else A.map (·.add k)) (n - k) (l.drop k) := by
  refine ⟨by rw [List.length_drop, h.len], fun j hj => ?_⟩
  rw [List.length_drop, h.len] at hj
  obtain ⟨ad, rfl, hb, hcell⟩ := h.cells (k + j) (by rw [h.len]; omega)
  rw [if_neg (by omega)]
  exact ⟨ad.add k, rfl, by rw [addr_add_block]; exact hb, by rw [addr_add_add, hcell, List.getElem_drop]⟩
/-- a literal row of bytes -/
theorem RowK.madeF {κ : IntKind} (w : World) (l : List Int) (cs : Array Value) (t : TypeId) (fr : Nat × Nat) (h : cs = (l.map (Value.int κ)).toArray) : RowK κ (w.alloc (.cells cs t fr)) (w.heap.size + 1) (some ⟨w.heap.size, 0, none⟩) l.length l := by
  refine ⟨rfl, fun k hk => ⟨_, rfl, by simp, ?_⟩⟩
  have ha : (⟨w.heap.size, 0, none⟩ : Addr).add k = ⟨w.heap.size, k, none⟩ := by
    unfold Addr.add; split <;> simp_all
  subst h
  rw [ha, cell_of_row _ _ k _ _ fr (heap_alloc_new w _)]
  simp [hk]
theorem RowK.made {κ : IntKind} (w : World) (l : List Int) (cs : Array Value) (t : TypeId) (h : cs = (l.map (Value.int κ)).toArray) : RowK κ (w.alloc (.cells cs t)) (w.heap.size + 1) (some ⟨w.heap.size, 0, none⟩) l.length l := RowK.madeF w l cs t (0, 0) h
theorem RowK.made_at {κ : IntKind} (w : World) (g : Nat) (l : List Int) (cs : Array Value) (t : TypeId) (h : cs = (l.map (Value.int κ)).toArray) (hg : w.heap.size = g) : RowK κ (w.alloc (.cells cs t)) (g + 1) (some ⟨g, 0, none⟩) l.length l := by
  subst hg; exact RowK.made w l cs t h
/-- out of a row of the call's own -/
theorem RowK.of_own {base : Nat} {e : TypeId} {c : Nat} (h : w.ownsRow base e 1 (.slice A n c) n (l.map (Value.int κ))) (hl : l.length = n) : RowK κ w w.heap.size A n l := by
  refine ⟨hl, fun k hk => ?_⟩
  rcases h.2 with ⟨hv, h0⟩ | ⟨g, cap, cur, hv, _, hh, _, _, _, htk⟩
  · omega
  · have hA : A = some ⟨g, 0, none⟩ := by injection hv
    subst hA
    have hlt : g < w.heap.size := by
      rcases Nat.lt_or_ge g w.heap.size with h1 | h1
      · exact h1
      · rw [Array.getElem?_eq_none h1] at hh; cases hh
    have e : (List.take (n * 1) cur.toList)[k]? = some (.int κ l[k]) := by
      rw [htk, List.getElem?_map, List.getElem?_eq_getElem hk]; rfl
    rw [List.getElem?_take_of_lt (by omega)] at e
    refine ⟨_, rfl, hlt, ?_⟩
    have ha : (⟨g, 0, none⟩ : Addr).add k = ⟨g, k, none⟩ := by
      unfold Addr.add; split <;> simp_all
    rw [ha, cell_of_row w g k cur _ (0, 0) hh]
    simpa using e
end

/-- bytes -/
abbrev Row := RowK IntKind.u8
theorem cover {p : Prop} (h : p) : Hid p := h
/-- a slice value that owns a row of bytes -/
def OwnB (w : World) (base : Nat) (v : Value) (l : List Int) : Prop := w.ownsRow base 5 1 v l.length (l.map (Value.int .u8))
/-- a call hands back new bytes; nothing that was there has turned -/
def GivesB (w : World) (l : List Int) (e : Ending) (w' : World) : Prop :=
  ∃ A c, e = .returned (.slice A l.length c) ∧ OwnB w' w.heap.size (.slice A l.length c) l ∧ Below w.heap.size w w'
theorem OwnB.row {w : World} {base : Nat} {A : Option Addr} {c : Nat} {l : List Int} (h : OwnB w base (.slice A l.length c) l) : Row w w.heap.size A l.length l := RowK.of_own h rfl
theorem OwnB.nil (w : World) (base : Nat) : OwnB w base (.slice none 0 0) [] := World.ownsRow_nil _ _ _ _

theorem own_base {w : World} {base base' e size n : Nat} {v : Value} {xs : List Value} (h : w.ownsRow base e size v n xs) (hb : base' ≤ base) : w.ownsRow base' e size v n xs := by
  refine ⟨h.1, ?_⟩
  rcases h.2 with h0 | ⟨g, cap, cur, hv, hg, hr⟩
  · exact .inl h0
  · exact .inr ⟨g, cap, cur, hv, by omega, hr⟩
theorem OwnB.mono {w : World} {base base' : Nat} {v : Value} {l : List Int} (h : OwnB w base v l) (hb : base' ≤ base) : OwnB w base' v l := own_base h hb
theorem own_shape {w : World} {base e size n : Nat} {v : Value} {xs : List Value} (h : w.ownsRow base e size v n xs) : ∃ A c, v = .slice A n c ∧ (A = none ∨ ∃ g, A = some ⟨g, 0, none⟩ ∧ base ≤ g ∧ g < w.heap.size) := by
  rcases h.2 with ⟨hv, h0⟩ | ⟨g, cap, cur, hv, hb, hh, _⟩
  · subst h0; exact ⟨none, 0, hv, .inl rfl⟩
  · refine ⟨some ⟨g, 0, none⟩, cap, hv, .inr ⟨g, rfl, hb, ?_⟩⟩
    rcases Nat.lt_or_ge g w.heap.size with h1 | h1
    · exact h1
    · rw [Array.getElem?_eq_none h1] at hh; cases hh

theorem own_cap {w : World} {base e size n c : Nat} {A : Option Addr} {xs : List Value} (h : w.ownsRow base e size (.slice A n c) n xs) : n ≤ c := by
  rcases h.2 with ⟨_, h0⟩ | ⟨g, cap, cur, hv, _, _, hnc, _⟩
  · omega
  · injection hv with _ _ hc; omega
/-- a reader (of type T) at block g: what is left, and whether it failed; its bytes lie below block B -/
structure Rd (T : TypeId) (w : World) (B g : Nat) (l : List Int) (f : Bool) : Prop where
  ex : ∃ A c, w.heap[g]? = some (.cells #[.slice A l.length c, .bool f] T (0, 0)) ∧ l.length ≤ c ∧ Row w B A l.length l
  le : B ≤ g
theorem block_lt {w : World} {g : Nat} {o : Obj} (h : w.heap[g]? = some o) : g < w.heap.size := by
  rcases Nat.lt_or_ge g w.heap.size with h1 | h1
  · exact h1
  · rw [Array.getElem?_eq_none h1] at h; cases h
section
variable {T : TypeId} {w w' : World} {B g : Nat} {l : List Int} {f : Bool}
theorem Rd.lt (h : Rd T w B g l f) : g < w.heap.size := by
  obtain ⟨A, c, hh, _⟩ := h.ex; exact block_lt hh
theorem Rd.keep (h : Rd T w B g l f) (hb : w'.heap[g]? = w.heap[g]?) (hk : ∀ p : Addr, p.block < B → w'.cell? p = w.cell? p) : Rd T w' B g l f := by
  obtain ⟨A, c, hh, hc, hr⟩ := h.ex
  exact ⟨⟨A, c, hb.trans hh, hc, hr.keep hk⟩, h.le⟩
theorem Rd.drewN (h : Rd T w B g l f) (k : Nat) : Rd T (w.drewN k) B g l f := h.keep rfl (fun _ _ => rfl)
theorem Rd.below {C : Nat} (h : Rd T w B g l f) (hb : Below C w w') (hg : g < C) : Rd T w' B g l f :=
  h.keep (hb.block g hg) (fun p hp => hb.cell (by have := h.le; omega))
theorem Rd.grown {k : Nat} (h : Rd T w B g l f) (hb : w.grownBy w' (some k)) (hne : g ≠ k) (hk : B ≤ k) : Rd T w' B g l f :=
  h.keep (hb.block g h.lt (fun e => hne (by injection e))) (fun p hp => World.cell?_of_block (hb.block p.block (by have := h.le; have := h.lt; omega) (fun e => by injection e with e; omega)))
end
/-- a call has turned block g alone, of what there was -/
def OnlyB (g : Nat) (w w' : World) : Prop := w.grownBy w' (some g)
theorem OnlyB.refl (g : Nat) (w : World) : OnlyB g w w := ⟨rfl, rfl, rfl, Nat.le_refl _, fun _ _ _ => rfl⟩
theorem OnlyB.trans {g : Nat} {a b c : World} (h : OnlyB g a b) (k : OnlyB g b c) : OnlyB g a c :=
  ⟨k.os.trans h.os, k.tape.trans h.tape, k.output.trans h.output, Nat.le_trans h.size k.size, fun i hi hne => (k.block i (Nat.lt_of_lt_of_le hi h.size) hne).trans (h.block i hi hne)⟩
theorem OnlyB.drewN {g : Nat} {a b : World} (h : OnlyB g a b) (n : Nat) : OnlyB g a (b.drewN n) := ⟨h.os, h.tape, h.output, h.size, h.block⟩
theorem OnlyB.of_below {g : Nat} {a b : World} (h : Below a.heap.size a b) : OnlyB g a b := ⟨h.os, h.tape, h.output, h.size, fun i hi _ => h.block i hi⟩
theorem OnlyB.setCell {g : Nat} {a b : World} (h : OnlyB g a b) (o : Nat) (u : Value) : OnlyB g a (b.setCell ⟨g, o, none⟩ u) :=
  ⟨h.os, h.tape, h.output, by simpa [World.setCell] using h.size, fun i hi hne => (Below.heap_setCell b ⟨g, o, none⟩ u i (fun e => hne (by rw [e]))).trans (h.block i hi hne)⟩
theorem below_only {B g : Nat} {a b c : World} (h : Below B a b) (k : OnlyB g b c) (hg : B ≤ g) (hB : B ≤ b.heap.size) : Below B a c := h.grown k hB (fun i e => by injection e with e; omega)
theorem below_drewN {B : Nat} {a w : World} (h : Below B a w) (n : Nat) : Below B a (w.drewN n) := ⟨h.os, h.tape, h.output, h.size, h.block⟩

/-- an operation whose run is known: what it yields, and the world that it leaves -/
theorem run_to {P : Program} {ops : Array Oper} {rest : List Oper} {o : Oper} {a : Act} {w : World} {Q : Exit → Act → World → Prop} (hg : o.guard = none)
    (v : Value) (w' : World) (hrun : (execOp a.eval o).run P w = .ok (.value v) w')
    (h : wpList P ops Q rest (a.put o.dst v) w') : wpList P ops Q (o :: rest) a w := by
  refine wpList_plain hg fun K hK => ?_
  unfold Oper.wp
  rw [hrun, Oper.upon_value]
  exact hK _ _ h

/-- a new variable, whose run is known -/
theorem new_var {P : Program} {ops : Array Oper} {rest : List Oper} {o : Oper} {a : Act} {w : World} {Q : Exit → Act → World → Prop} (hg : o.guard = none) (t : TypeId) (ho : o.op = .alloc t)
    (v : Value) (w' : World) (hrun : (Instr.alloc t true (.tuple #[])).run P w = .ok v w')
    (h : wpList P ops Q rest (a.put o.dst v) w') : wpList P ops Q (o :: rest) a w := by
  refine run_to hg v w' ?_ h
  simp only [execOp, ho, Sem.run_bind, hrun, Result.andThen_ok, Sem.run_pure]

/-- append of a row of numbers, wherever it lies, onto a row of the call's own -/
theorem append_row {P : Program} {κ : IntKind} {w : World} {ops : Array Oper} {rest : List Oper} {o : Oper} {a : Act} {Q : Exit → Act → World → Prop} (hgd : o.guard = none) (s x : Operand) (t : TypeId)
    (ho : o.op = .call { callee := .builtin .append, args := #[s, x], argTypes := #[t, t] })
    (base : Nat) (e : TypeId) (i : TypeInfo) (z : Value) (bytes : Nat) (ht : P.underlying t = some (.slice e)) (hi : P.info? e = some i) (hz : i.zero = some z) (hsize : i.size = 1) (hby : i.bytes = bytes) (hzs : z.cells.size = 1)
    (v : Value) (n : Nat) (xs : List Value) (hs : a.eval s = v) (hown : w.ownsRow base e 1 v n xs)
    (B : Nat) (A : Option Addr) (m c : Nat) (l : List Int) (hx : a.eval x = .slice A m c) (hr : RowK κ w B A m l) (hnil : A = none → c = 0)
    (h63 : n + m ≤ maxLen) (hbytes : (n + m) * bytes ≤ 140737488355328) (hbase : base ≤ w.heap.size)
    (h : ∀ v' w', w'.ownsRow base e 1 v' (n + m) (xs ++ l.map (Value.int κ)) → w.grownBy w' v.ownBlock → wpList P ops Q rest (a.put o.dst v') w') : wpList P ops Q (o :: rest) a w := by
  rcases A with _ | ad
  · have hl : l = [] := by
      rcases l with _ | ⟨y, l⟩
      · rfl
      · obtain ⟨ad, e, _⟩ := hr.cells 0 (by simp); cases e
    subst hl
    have hm : m = 0 := by rw [← hr.len]; rfl
    subst hm
    exact wpList_append_own_none hgd s x t ho base e i 1 ht hi v n xs hs hown (by rw [hx, hnil rfl]) (h v w (by simpa using hown) ⟨rfl, rfl, rfl, Nat.le_refl _, fun _ _ _ => rfl⟩)
  · exact wpList_append_own w hgd s x t ho base e i z 1 bytes ht hi hz hsize hby hzs (by decide) v n xs hs hown ad m c (l.map (Value.int κ)) hx (by simp [hr.len]) hr.news
      (fun u hu => by obtain ⟨y, _, rfl⟩ := List.mem_map.1 hu; rfl) h63 hbytes hbase (fun v' w' h1 h2 _ => h v' w' h1 h2)
theorem own_nil_cap {w : World} {base e size n c : Nat} {A : Option Addr} {xs : List Value} (h : w.ownsRow base e size (.slice A n c) n xs) : A = none → c = 0 := by
  rintro rfl
  rcases h.2 with ⟨hv, _⟩ | ⟨g, cap, cur, hv, _⟩
  · injection hv
  · injection hv with hv; cases hv
/-- an owned row of bytes is no reader's block -/
theorem own_ne_rd {T : TypeId} {w : World} {B g base n : Nat} {l : List Int} {f : Bool} {v : Value} {xs : List Value} {e : TypeId} (h : Rd T w B g l f) (ho : w.ownsRow base e 1 v n xs) (hne : e ≠ T) : v.ownBlock ≠ some g := by
  obtain ⟨A, c, hh, _⟩ := h.ex
  rcases ho.2 with ⟨rfl, _⟩ | ⟨g', cap, cur, rfl, _, hg, _⟩
  · simp [Value.ownBlock]
  · intro he
    have : g' = g := by simpa [Value.ownBlock] using he
    subst this
    rw [hg] at hh
    injection hh with hh
    injection hh with _ ht
    exact hne ht
theorem Rd.grown_own {T : TypeId} {w w' : World} {B g base n : Nat} {l : List Int} {f : Bool} {v : Value} {xs : List Value} {e : TypeId} (h : Rd T w B g l f) (ho : w.ownsRow base e 1 v n xs) (hb : w.grownBy w' v.ownBlock) (hbase : g < base) : Rd T w' B g l f := by
  have hle := h.le
  have hlt := h.lt
  refine h.keep (hb.block g hlt (fun e => by have := (ho.lt g e.symm).1; omega)) (fun p hp => World.cell?_of_block (hb.block p.block (by omega) (fun e => by have := (ho.lt p.block e.symm).1; omega)))

/-- a byte set in below a number -/
theorem or_byte (m x : Int) (h0 : 0 ≤ m) (h1 : m < 36028797018963968) (hx : 0 ≤ x ∧ x ≤ 255) :
    bits BinOp.or IntKind.i64 (wrap64 (m * 256)) (wrap64 x) = m * 256 + x := by
  obtain ⟨a, rfl⟩ : ∃ a : Nat, (a : Int) = m := ⟨m.toNat, by omega⟩
  obtain ⟨b, rfl⟩ : ∃ b : Nat, (b : Int) = x := ⟨x.toNat, by omega⟩
  have e1 : wrap64 ((a : Int) * 256) = ((a * 256 : Nat) : Int) := by
    rw [IntWalk.wrap64_in _ ⟨by omega, by omega⟩]; omega
  have e2 : wrap64 (b : Int) = (b : Int) := IntWalk.wrap64_in _ ⟨by omega, by omega⟩
  have e3 : (a * 256) ||| b = a * 256 + b := by
    have := Nat.shiftLeft_add_eq_or_of_lt (a := a) (b := b) (i := 8) (by omega)
    rw [Nat.shiftLeft_eq] at this
    exact this.symm
  have f1 : (BitVec.ofInt 64 ((a * 256 : Nat) : Int)).toNat = a * 256 := by
    rw [BitVec.ofInt_natCast, BitVec.toNat_ofNat]; exact Nat.mod_eq_of_lt (by omega)
  have f2 : (BitVec.ofInt 64 (b : Int)).toNat = b := by
    rw [BitVec.ofInt_natCast, BitVec.toNat_ofNat]; exact Nat.mod_eq_of_lt (by omega)
  rw [e1, e2]
  show IntKind.i64.wrap ((BitVec.ofInt 64 ((a * 256 : Nat) : Int) ||| BitVec.ofInt 64 (b : Int)).toNat : Int) = _
  rw [BitVec.toNat_or, f1, f2, e3, IntKind.wrap_i64]
  omega

theorem ret_int {k : IntKind} {a b : Int} (h : a = b) : Ending.returned (.int k a) = .returned (.int k b) := by rw [h]
theorem ret_slice {A : Option Addr} {n m c : Nat} (h : n = m) : Ending.returned (.slice A n c) = .returned (.slice A m c) := by rw [h]
theorem ret_bool {a b : Bool} (h : a = b) : Ending.returned (.bool a) = .returned (.bool b) := by rw [h]
end Go.Proofs.Ytefbmhkchlhgnaa
