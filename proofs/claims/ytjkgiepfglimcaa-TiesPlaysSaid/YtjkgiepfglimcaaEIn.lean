/- How keys, rows of keys, and deeds come in. -/
import Derived.Deep.Slices
import Derived.Test.YtjkgiepfglimcaaORowsIn
import Derived.Test.YtjkgiepfglimcaaEKey
namespace Go.Proofs.Ytjkgiepfglimcaa
open Go.RowKit
set_option linter.unusedVariables false

section
variable {H : Type} {enc : TypeId × Value → H} {P : Program} {w : World} {base : Nat} {spare : Nat → Bool} {held : Bool}
theorem trod_array6 {t e : TypeId} {fuel : Nat} {c0 c1 c2 c3 c4 c5 : Value} {x : DataW H × List MemPlace} (ht : P.underlying t = some (.array 6 e)) (hce : P.cellsOf e = 1)
    (h : DataW.trod enc P w base spare held fuel t [c0, c1, c2, c3, c4, c5] = some x) :
    ∃ y0 y1 y2 y3 y4 y5 n, DataW.trod enc P w base spare held n e [c0] = some y0 ∧ DataW.trod enc P w base spare held n e [c1] = some y1 ∧ DataW.trod enc P w base spare held n e [c2] = some y2 ∧ DataW.trod enc P w base spare held n e [c3] = some y3 ∧ DataW.trod enc P w base spare held n e [c4] = some y4 ∧ DataW.trod enc P w base spare held n e [c5] = some y5 := by
  cases fuel with
  | zero => simp [DataW.trod] at h
  | succ n =>
    unfold DataW.trod at h
    rw [ht] at h
    have r6 : List.range 6 = [0, 1, 2, 3, 4, 5] := rfl
    simp [r6, hce] at h
    obtain ⟨_, h⟩ := h
    cases h0 : DataW.trod enc P w base spare held n e [c0] with
    | none => simp [h0] at h
    | some y0 =>
      cases h1 : DataW.trod enc P w base spare held n e [c1] with
      | none => simp [h0, h1] at h
      | some y1 =>
        cases h2 : DataW.trod enc P w base spare held n e [c2] with
        | none => simp [h0, h1, h2] at h
        | some y2 =>
          cases h3 : DataW.trod enc P w base spare held n e [c3] with
          | none => simp [h0, h1, h2, h3] at h
          | some y3 =>
            cases h4 : DataW.trod enc P w base spare held n e [c4] with
            | none => simp [h0, h1, h2, h3, h4] at h
            | some y4 =>
              cases h5 : DataW.trod enc P w base spare held n e [c5] with
              | none => simp [h0, h1, h2, h3, h4, h5] at h
              | some y5 => exact ⟨y0, y1, y2, y3, y4, y5, n, h0, h1, h2, h3, h4, h5⟩
theorem okWide_array {r : Reach} {b0 : Nat} {t e : TypeId} {n : Nat} {v : Value} (ht : P.underlying t = some (.array n e)) (h : Value.okWide P w r b0 t v) : ∃ cs, v = .agg cs ∧ cs.size = P.cellsOf t := by
  simp only [Value.okWide, ht] at h
  obtain ⟨cs, h1, h2, _⟩ := h
  exact ⟨cs, h1, h2⟩
end
section
variable {H : Type} {enc : TypeId × Value → H} {W : World} {base : Nat} {spare : Nat → Bool} {held : Bool}
theorem trod_far {fuel : Nat} {cs : List Value} {x : DataW H × List MemPlace} (hl : cs.length = 6) (h : DataW.trod enc Try.prog W base spare held fuel 26 cs = some x) : ∃ a0 a1 a2 a3 a4 a5 : Int, cs = [.int .u8 a0, .int .u8 a1, .int .u8 a2, .int .u8 a3, .int .u8 a4, .int .u8 a5] ∧ U8 a0 ∧ U8 a1 ∧ U8 a2 ∧ U8 a3 ∧ U8 a4 ∧ U8 a5 := by
  match cs, hl with
  | [c0, c1, c2, c3, c4, c5], _ =>
    obtain ⟨y0, y1, y2, y3, y4, y5, n, h0, h1, h2, h3, h4, h5⟩ := trod_array6 Try.underlying26 (by kernel_rfl) h
    obtain ⟨a0, e0, _, w0⟩ := DataW.trod_int Try.underlying5 h0
    obtain ⟨a1, e1, _, w1⟩ := DataW.trod_int Try.underlying5 h1
    obtain ⟨a2, e2, _, w2⟩ := DataW.trod_int Try.underlying5 h2
    obtain ⟨a3, e3, _, w3⟩ := DataW.trod_int Try.underlying5 h3
    obtain ⟨a4, e4, _, w4⟩ := DataW.trod_int Try.underlying5 h4
    obtain ⟨a5, e5, _, w5⟩ := DataW.trod_int Try.underlying5 h5
    injection e0 with e0; injection e1 with e1; injection e2 with e2; injection e3 with e3; injection e4 with e4; injection e5 with e5
    subst e0 e1 e2 e3 e4 e5
    exact ⟨a0, a1, a2, a3, a4, a5, rfl, w0, w1, w2, w3, w4, w5⟩
set_option maxRecDepth 100000 in
theorem trod_key {fuel : Nat} {cs : List Value} {x : DataW H × List MemPlace} (hl : cs.length = 8) (h : DataW.trod enc Try.prog W base spare held fuel 40 cs = some x) : ∃ k : EK, cs = cellsE k ∧ OkE k := by
  have h6 : Try.prog.cellsOf 26 = 6 := by kernel_rfl
  have h1 : Try.prog.cellsOf 3 = 1 := by kernel_rfl
  obtain ⟨xs, n, _, _, _, hlen, hg⟩ := DataW.trod_struct Try.underlying40 h
  match cs, hl with
  | [c0, c1, c2, c3, c4, c5, c6, c7], _ =>
    match xs, hlen with
    | [y0, y1, y2], _ =>
      have g0 := hg 0 _ rfl
      have g1 := hg 1 _ rfl
      have g2 := hg 2 _ rfl
      simp [h6, h1] at g0 g1 g2
      obtain ⟨a0, a1, a2, a3, a4, a5, e0, w0, w1, w2, w3, w4, w5⟩ := trod_far rfl g0
      obtain ⟨a6, e6, _, w6⟩ := DataW.trod_int Try.underlying3 g1
      obtain ⟨a7, e7, _, w7⟩ := DataW.trod_int Try.underlying3 g2
      simp only [List.cons.injEq, and_true] at e0 e6 e7
      obtain ⟨rfl, rfl, rfl, rfl, rfl, rfl⟩ := e0
      subst e6 e7
      exact ⟨⟨a0, a1, a2, a3, a4, a5, a6, a7⟩, rfl, w0, w1, w2, w3, w4, w5, w6, w7⟩
end
/-- from an address on, a key's eight cells -/
abbrev KeyAt (w : World) (p : Addr) (k : EK) : Prop := w.cell? p = some (.int .u8 k.a0) ∧ w.cell? ⟨p.block, p.off + 1, none⟩ = some (.int .u8 k.a1) ∧ w.cell? ⟨p.block, p.off + 2, none⟩ = some (.int .u8 k.a2) ∧ w.cell? ⟨p.block, p.off + 3, none⟩ = some (.int .u8 k.a3) ∧ w.cell? ⟨p.block, p.off + 4, none⟩ = some (.int .u8 k.a4) ∧ w.cell? ⟨p.block, p.off + 5, none⟩ = some (.int .u8 k.a5) ∧ w.cell? ⟨p.block, p.off + 6, none⟩ = some (.int .i64 k.near) ∧ w.cell? ⟨p.block, p.off + 7, none⟩ = some (.int .i64 k.there_)
theorem KeyAt.below {w w' : World} {p : Addr} {k : EK} {B : Nat} (h : KeyAt w p k) (hp : p.block < B) (hb : Below B w w') : KeyAt w' p k := by
  have hx : ∀ q : Addr, q.block = p.block → w'.cell? q = w.cell? q := fun q hq => hb.cell (by rw [hq]; exact hp)
  obtain ⟨h0, h1, h2, h3, h4, h5, h6, h7⟩ := h
  exact ⟨(hx _ rfl).trans h0, (hx ⟨p.block, p.off + 1, none⟩ rfl).trans h1, (hx ⟨p.block, p.off + 2, none⟩ rfl).trans h2, (hx ⟨p.block, p.off + 3, none⟩ rfl).trans h3, (hx ⟨p.block, p.off + 4, none⟩ rfl).trans h4, (hx ⟨p.block, p.off + 5, none⟩ rfl).trans h5, (hx ⟨p.block, p.off + 6, none⟩ rfl).trans h6, (hx ⟨p.block, p.off + 7, none⟩ rfl).trans h7⟩
/-- a row of keys that came in -/
structure KeysB (w : World) (B : Nat) (A : Option Addr) (n : Nat) (ks : List EK) : Prop where
  len : ks.length = n
  at_ : ∀ i k, ks[i]? = some k → ∃ ad, A = some ad ∧ ad.block < B ∧ KeyAt w (ad.add (i * 8)) k
theorem KeysB.below {w w' : World} {B n : Nat} {A : Option Addr} {ks : List EK} (h : KeysB w B A n ks) (hb : Below B w w') : KeysB w' B A n ks :=
  ⟨h.len, fun i k hk => by obtain ⟨ad, e, hlt, hc⟩ := h.at_ i k hk; exact ⟨ad, e, hlt, hc.below (by rw [addr_add_block]; exact hlt) hb⟩⟩
/-- a deed: what is done, a number, a key -/
structure DT where
  what : Int
  x : Int
  k : EK
/-- from an address on, a deed's ten cells -/
structure DeedAt (w : World) (p : Addr) (d : DT) : Prop where
  c0 : w.cell? p = some (.int .i64 d.what)
  c1 : w.cell? ⟨p.block, p.off + 1, none⟩ = some (.int .i64 d.x)
  c2 : w.cell? ⟨p.block, p.off + 2, none⟩ = some (.int .u8 d.k.a0)
  c3 : w.cell? ⟨p.block, p.off + 3, none⟩ = some (.int .u8 d.k.a1)
  c4 : w.cell? ⟨p.block, p.off + 4, none⟩ = some (.int .u8 d.k.a2)
  c5 : w.cell? ⟨p.block, p.off + 5, none⟩ = some (.int .u8 d.k.a3)
  c6 : w.cell? ⟨p.block, p.off + 6, none⟩ = some (.int .u8 d.k.a4)
  c7 : w.cell? ⟨p.block, p.off + 7, none⟩ = some (.int .u8 d.k.a5)
  c8 : w.cell? ⟨p.block, p.off + 8, none⟩ = some (.int .i64 d.k.near)
  c9 : w.cell? ⟨p.block, p.off + 9, none⟩ = some (.int .i64 d.k.there_)
theorem DeedAt.below {w w' : World} {p : Addr} {d : DT} {B : Nat} (h : DeedAt w p d) (hp : p.block < B) (hb : Below B w w') : DeedAt w' p d := by
  have hx : ∀ q : Addr, q.block = p.block → w'.cell? q = w.cell? q := fun q hq => hb.cell (by rw [hq]; exact hp)
  exact ⟨(hx _ rfl).trans h.c0, (hx ⟨p.block, p.off + 1, none⟩ rfl).trans h.c1, (hx ⟨p.block, p.off + 2, none⟩ rfl).trans h.c2, (hx ⟨p.block, p.off + 3, none⟩ rfl).trans h.c3, (hx ⟨p.block, p.off + 4, none⟩ rfl).trans h.c4, (hx ⟨p.block, p.off + 5, none⟩ rfl).trans h.c5, (hx ⟨p.block, p.off + 6, none⟩ rfl).trans h.c6, (hx ⟨p.block, p.off + 7, none⟩ rfl).trans h.c7, (hx ⟨p.block, p.off + 8, none⟩ rfl).trans h.c8, (hx ⟨p.block, p.off + 9, none⟩ rfl).trans h.c9⟩
structure DeedsT (w : World) (B : Nat) (A : Option Addr) (n : Nat) (ds : List DT) : Prop where
  len : ds.length = n
  at_ : ∀ i d, ds[i]? = some d → ∃ ad, A = some ad ∧ ad.block < B ∧ DeedAt w (ad.add (i * 10)) d
theorem DeedsT.below {w w' : World} {B n : Nat} {A : Option Addr} {ds : List DT} (h : DeedsT w B A n ds) (hb : Below B w w') : DeedsT w' B A n ds :=
  ⟨h.len, fun i k hk => by obtain ⟨ad, e, hlt, hc⟩ := h.at_ i k hk; exact ⟨ad, e, hlt, hc.below (by rw [addr_add_block]; exact hlt) hb⟩⟩
/-- what is known of a deed that came in -/
def DtOk (d : DT) : Prop := I64 d.what ∧ I64 d.x ∧ OkE d.k
section
variable {H : Type} {enc : TypeId × Value → H} {W : World} {r : Reach} {base : Nat} {v : Value} {d : DataW H} {p : List MemPlace}
set_option maxRecDepth 100000 in
open Go.ChangeShapes Go.WideShapes Go.ChangeAt in
theorem key_in (hv : Value.okWide Try.prog W r base 40 v) (h : DataW.Trod enc Try.prog W 0 (fun _ => true) true 40 v d p) : ∃ k : EK, v = keyV k ∧ OkE k := by
  obtain ⟨cs, rfl, hsz⟩ := okWide_struct Try.underlying40 hv
  obtain ⟨fuel, hf⟩ := h
  have h8 : Try.prog.cellsOf 40 = 8 := by kernel_rfl
  obtain ⟨k, e, hk⟩ := trod_key (cs := cs.toList) (by rw [Array.length_toList, hsz, h8]) hf
  obtain ⟨l⟩ := cs
  simp only at e
  subst e
  exact ⟨k, rfl, hk⟩
set_option maxRecDepth 100000 in
open Go.ChangeShapes Go.WideShapes Go.ChangeAt in
theorem keys_in (hv : Value.okWide Try.prog W r base 54 v) (h : DataW.Trod enc Try.prog W 0 (fun _ => true) true 54 v d p) :
    ∃ A len cap ks, v = .slice A len cap ∧ len ≤ cap ∧ cap ≤ maxLen ∧ KeysB W W.heap.size A len ks ∧ ∀ k ∈ ks, OkE k := by
  obtain ⟨a, len, cap, rfl⟩ := okWide_slice Try.underlying54 hv
  obtain ⟨fuel, hf⟩ := h
  have h8 : Try.prog.cellsOf 40 = 8 := by kernel_rfl
  rcases Go.Deep.open_slice Try.underlying54 hf with ⟨hcs, _⟩ | ⟨a', len', cap', m, n, D, Pl, hcs, _, hl, hm, hmm, _, hi⟩
  · simp [Value.cells] at hcs
    obtain ⟨rfl, rfl, rfl⟩ := hcs
    exact ⟨none, 0, 0, [], rfl, Nat.le_refl _, Nat.zero_le _, ⟨rfl, fun i k hk => by simp at hk⟩, fun k hk => by cases hk⟩
  · simp [Value.cells] at hcs
    obtain ⟨rfl, rfl, rfl⟩ := hcs
    have hlm : len ≤ m := by rw [hmm]; split <;> omega
    obtain ⟨ks, hkl, hks⟩ := list_of (n := len) (P := fun i (k : EK) => KeyAt W (a'.add (i * 8)) k ∧ OkE k) (fun i hil => by
      obtain ⟨cs', h1, h2⟩ := hi i (by omega)
      rw [h8] at h1
      obtain ⟨_, hlen, hat⟩ := World.cells?_some h1
      obtain ⟨k, rfl, hk⟩ := trod_key hlen h2
      exact ⟨k, ⟨hat 0 (by omega), hat 1 (by omega), hat 2 (by omega), hat 3 (by omega), hat 4 (by omega), hat 5 (by omega), hat 6 (by omega), hat 7 (by omega)⟩, hk⟩)
    refine ⟨some a', len, cap, ks, rfl, hl, hm, ⟨hkl, fun i k hk => ?_⟩, fun k hk => ?_⟩
    · obtain ⟨hil, rfl⟩ := List.getElem?_eq_some_iff.1 hk
      have h1 := (hks i hil).1
      refine ⟨a', rfl, ?_, h1⟩
      have := cell_in h1.1; rw [addr_add_block] at this; exact this
    · obtain ⟨i, hil, rfl⟩ := List.mem_iff_getElem.1 hk
      exact (hks i hil).2
set_option maxRecDepth 100000 in
open Go.ChangeShapes Go.WideShapes Go.ChangeAt in
theorem deedt_in (hv : Value.okWide Try.prog W r base 36 v) (h : DataW.Trod enc Try.prog W 0 (fun _ => true) true 36 v d p) :
    ∃ A len cap ds, v = .slice A len cap ∧ len ≤ cap ∧ cap ≤ maxLen ∧ DeedsT W W.heap.size A len ds ∧ ∀ q ∈ ds, DtOk q := by
  obtain ⟨a, len, cap, rfl⟩ := okWide_slice Try.underlying36 hv
  obtain ⟨fuel, hf⟩ := h
  have h10 : Try.prog.cellsOf 42 = 10 := by kernel_rfl
  have h8 : Try.prog.cellsOf 40 = 8 := by kernel_rfl
  have h1' : Try.prog.cellsOf 3 = 1 := by kernel_rfl
  rcases Go.Deep.open_slice Try.underlying36 hf with ⟨hcs, _⟩ | ⟨a', len', cap', m, n, D, Pl, hcs, _, hl, hm, hmm, _, hi⟩
  · simp [Value.cells] at hcs
    obtain ⟨rfl, rfl, rfl⟩ := hcs
    exact ⟨none, 0, 0, [], rfl, Nat.le_refl _, Nat.zero_le _, ⟨rfl, fun i k hk => by simp at hk⟩, fun k hk => by cases hk⟩
  · simp [Value.cells] at hcs
    obtain ⟨rfl, rfl, rfl⟩ := hcs
    have hlm : len ≤ m := by rw [hmm]; split <;> omega
    obtain ⟨ds, hkl, hks⟩ := list_of (n := len) (P := fun i (q : DT) => DeedAt W (a'.add (i * 10)) q ∧ DtOk q) (fun i hil => by
      obtain ⟨cs', h1, h2⟩ := hi i (by omega)
      rw [h10] at h1
      obtain ⟨_, hlen, hat⟩ := World.cells?_some h1
      obtain ⟨xs, n', _, _, _, hxl, hg⟩ := DataW.trod_struct Try.underlying42 h2
      match cs', hlen with
      | [c0, c1, c2, c3, c4, c5, c6, c7, c8, c9], _ =>
        match xs, hxl with
        | [y0, y1, y2], _ =>
          have g0 := hg 0 _ rfl
          have g1 := hg 1 _ rfl
          have g2 := hg 2 _ rfl
          simp [h8, h1'] at g0 g1 g2
          obtain ⟨x, e0, _, wx⟩ := DataW.trod_int Try.underlying3 g0
          obtain ⟨y, e1, _, wy⟩ := DataW.trod_int Try.underlying3 g1
          obtain ⟨k, e2, hk⟩ := trod_key rfl g2
          simp only [List.cons.injEq, and_true] at e0 e1 e2
          obtain ⟨rfl, rfl, rfl, rfl, rfl, rfl, rfl, rfl⟩ := e2
          subst e0 e1
          exact ⟨⟨x, y, k⟩, ⟨hat 0 (by omega), hat 1 (by omega), hat 2 (by omega), hat 3 (by omega), hat 4 (by omega), hat 5 (by omega), hat 6 (by omega), hat 7 (by omega), hat 8 (by omega), hat 9 (by omega)⟩, wx, wy, hk⟩)
    refine ⟨some a', len, cap, ds, rfl, hl, hm, ⟨hkl, fun i k hk => ?_⟩, fun k hk => ?_⟩
    · obtain ⟨hil, rfl⟩ := List.getElem?_eq_some_iff.1 hk
      have h1 := (hks i hil).1
      refine ⟨a', rfl, ?_, h1⟩
      have := cell_in h1.c0; rw [addr_add_block] at this; exact this
    · obtain ⟨i, hil, rfl⟩ := List.mem_iff_getElem.1 hk
      exact (hks i hil).2
end
end Go.Proofs.Ytjkgiepfglimcaa
