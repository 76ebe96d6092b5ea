/- Deeds that came in. -/
import Derived.Deep.Slices
import Derived.Test.YtefbmhkchlhgnaaUTrod
namespace Go.Proofs.Ytefbmhkchlhgnaa
open Go.RowKit
set_option linter.unusedVariables false

/-- a deed -/
structure LDDV where
  what : Int
  num : Int
  b_A : Option Addr
  b_c : Nat
  b : List Int
structure LDDAt (w : World) (B : Nat) (ad : Addr) (k : Nat) (q : LDDV) : Prop where
  blk : (ad.add (k * 3)).block < B
  c0 : w.cell? (ad.add (k * 3)) = some (.int .i64 q.what)
  c1 : w.cell? ⟨(ad.add (k * 3)).block, (ad.add (k * 3)).off + 1, none⟩ = some (.int .i64 q.num)
  c2 : w.cell? ⟨(ad.add (k * 3)).block, (ad.add (k * 3)).off + 2, none⟩ = some (.slice q.b_A q.b.length q.b_c)
  row_b : Row w B q.b_A q.b.length q.b
  cap_b : q.b.length ≤ q.b_c
  nil_b : q.b_A = none → q.b_c = 0
theorem LDDAt.below {w w' : World} {B : Nat} {ad : Addr} {k : Nat} {q : LDDV} (h : LDDAt w B ad k q) (hb : Below B w w') : LDDAt w' B ad k q where
  blk := h.blk
  c0 := (hb.cell (p := (ad.add (k * 3))) h.blk).trans h.c0
  c1 := (hb.cell (p := ⟨(ad.add (k * 3)).block, (ad.add (k * 3)).off + 1, none⟩) h.blk).trans h.c1
  c2 := (hb.cell (p := ⟨(ad.add (k * 3)).block, (ad.add (k * 3)).off + 2, none⟩) h.blk).trans h.c2
  row_b := h.row_b.below hb
  cap_b := h.cap_b
  nil_b := h.nil_b
structure LDDs (w : World) (B : Nat) (A : Option Addr) (n : Nat) (ds : List LDDV) : Prop where
  len : ds.length = n
  at_ : ∀ k q, ds[k]? = some q → ∃ ad, A = some ad ∧ LDDAt w B ad k q
theorem LDDs.below {w w' : World} {B n : Nat} {A : Option Addr} {ds : List LDDV} (h : LDDs w B A n ds) (hb : Below B w w') : LDDs w' B A n ds :=
  ⟨h.len, fun k q hk => by obtain ⟨ad, e, hc⟩ := h.at_ k q hk; exact ⟨ad, e, hc.below hb⟩⟩
/-- what is known of each deed -/
def LDDOk (q : LDDV) : Prop := wide64 q.what ∧ wide64 q.num ∧ Bts q.b ∧ q.b.length ≤ maxLen
set_option maxRecDepth 100000 in
set_option maxHeartbeats 1600000 in
open Go.ChangeShapes Go.WideShapes Go.ChangeAt in
theorem ldd_in {H : Type} {enc : TypeId × Value → H} {W : World} {r : Reach} {base : Nat} {v : Value} {d : DataW H} {p : List MemPlace}
    (hv : Value.okWide Try.prog W r base 31 v) (h : DataW.Trod enc Try.prog W 0 (fun _ => true) true 31 v d p) :
    ∃ A len cap ds, v = .slice A len cap ∧ len ≤ cap ∧ cap ≤ maxLen ∧ LDDs W W.heap.size A len ds ∧ ∀ q ∈ ds, LDDOk q := by
  obtain ⟨a, len, cap, rfl⟩ := okWide_slice Try.underlying31 hv
  obtain ⟨fuel, hf⟩ := h
  rcases Go.Deep.open_slice Try.underlying31 hf with ⟨hcs, _⟩ | ⟨a', len', cap', m, n, D, Pl, hcs, _, hl, hm, hmm, _, hi⟩
  · simp [Value.cells] at hcs
    obtain ⟨rfl, rfl, rfl⟩ := hcs
    exact ⟨none, 0, 0, [], rfl, Nat.le_refl _, Nat.zero_le _, ⟨rfl, fun k q hk => by simp at hk⟩, fun q hq => by cases hq⟩
  · simp [Value.cells] at hcs
    obtain ⟨rfl, rfl, rfl⟩ := hcs
    have hcS : Try.prog.cellsOf 38 = 3 := by kernel_rfl
    have hc_bytes : Try.prog.cellsOf 26 = 1 := by kernel_rfl
    have hc_int : Try.prog.cellsOf 3 = 1 := by kernel_rfl
    have hlm : len ≤ m := by rw [hmm]; split <;> omega
    obtain ⟨ds, hdl, hds⟩ := list_of (n := len) (P := fun i (q : LDDV) => LDDAt W W.heap.size a' i q ∧ LDDOk q) (fun i hil => by
      obtain ⟨cs', h1, h2⟩ := hi i (by omega)
      rw [hcS] at h1
      obtain ⟨_, hlen, hat⟩ := World.cells?_some h1
      obtain ⟨ys, n', _, _, _, hyl, hfi⟩ := DataW.trod_struct Try.underlying38 h2
      have g0 := hfi 0 _ rfl
      have g1 := hfi 1 _ rfl
      have g2 := hfi 2 _ rfl
      match cs', hlen with
      | [x0, x1, x2], _ =>
        simp [hc_bytes, hc_int] at g0 g1 g2
        simp at hyl
        rw [List.getElem?_eq_getElem (by omega)] at g0 g1 g2
        have hblk : a'.block < W.heap.size := by have := cell_in (hat 0 (by omega)); rw [addr_add_block, addr_add_block] at this; exact this
        obtain ⟨y0, e0, _, w0⟩ := DataW.trod_int Try.underlying3 g0
        simp at e0
        subst e0
        obtain ⟨y1, e1, _, w1⟩ := DataW.trod_int Try.underlying3 g1
        simp at e1
        subst e1
        obtain ⟨A2, n2, c2, l2, e2, k2_1, k2_2, k2_3, k2_4, k2_5⟩ := row_of_trod_u g2
        subst e2
        obtain rfl : l2.length = n2 := k2_3.len
        exact ⟨⟨y0, y1, A2, c2, l2⟩, ⟨by rw [addr_add_block]; exact hblk, hat 0 (by omega), hat 1 (by omega), hat 2 (by omega), k2_3, k2_1, k2_5⟩, i64_of_wf w0, i64_of_wf w1, k2_4, Nat.le_trans k2_1 k2_2⟩)
    refine ⟨some a', len, cap, ds, rfl, hl, hm, ⟨hdl, fun k q hk => ?_⟩, fun q hq => ?_⟩
    · obtain ⟨hk', rfl⟩ := List.getElem?_eq_some_iff.1 hk
      exact ⟨a', rfl, (hds k hk').1⟩
    · obtain ⟨k, hk, rfl⟩ := List.mem_iff_getElem.1 hq
      exact (hds k hk).2
end Go.Proofs.Ytefbmhkchlhgnaa
