/- Deeds that came in. -/
import Derived.Deep.Slices
import Derived.Test.YtbhdncbnjlgigaaUTrod
namespace Go.Proofs.Ytbhdncbnjlgigaa
open Go.RowKit
set_option linter.unusedVariables false

/-- a deed -/
structure BDV where
  what : Int
  p : PV
  p_A : Option Addr
  p_c : Nat
structure BDAt (w : World) (B : Nat) (ad : Addr) (k : Nat) (q : BDV) : Prop where
  blk : (ad.add (k * 10)).block < B
  c0 : w.cell? (ad.add (k * 10)) = some (.int .i64 q.what)
  c1 : w.cell? ⟨(ad.add (k * 10)).block, (ad.add (k * 10)).off + 1, none⟩ = some (.int .i64 q.p.to)
  c2 : w.cell? ⟨(ad.add (k * 10)).block, (ad.add (k * 10)).off + 2, none⟩ = some (.int .i64 q.p.frm)
  c3 : w.cell? ⟨(ad.add (k * 10)).block, (ad.add (k * 10)).off + 3, none⟩ = some (.bool q.p.resp)
  c4 : w.cell? ⟨(ad.add (k * 10)).block, (ad.add (k * 10)).off + 4, none⟩ = some (.int .i64 q.p.form)
  c5 : w.cell? ⟨(ad.add (k * 10)).block, (ad.add (k * 10)).off + 5, none⟩ = some (.int .i64 q.p.kind)
  c6 : w.cell? ⟨(ad.add (k * 10)).block, (ad.add (k * 10)).off + 6, none⟩ = some (.int .i64 q.p.ns)
  c7 : w.cell? ⟨(ad.add (k * 10)).block, (ad.add (k * 10)).off + 7, none⟩ = some (.int .i64 q.p.nr)
  c8 : w.cell? ⟨(ad.add (k * 10)).block, (ad.add (k * 10)).off + 8, none⟩ = some (.bool q.p.poll)
  c9 : w.cell? ⟨(ad.add (k * 10)).block, (ad.add (k * 10)).off + 9, none⟩ = some (.slice q.p_A q.p.info.length q.p_c)
  row_p : Row w B q.p_A q.p.info.length q.p.info
  cap_p : q.p.info.length ≤ q.p_c
  nil_p : q.p_A = none → q.p_c = 0
theorem BDAt.below {w w' : World} {B : Nat} {ad : Addr} {k : Nat} {q : BDV} (h : BDAt w B ad k q) (hb : Below B w w') : BDAt w' B ad k q where
  blk := h.blk
  c0 := (hb.cell (p := (ad.add (k * 10))) h.blk).trans h.c0
  c1 := (hb.cell (p := ⟨(ad.add (k * 10)).block, (ad.add (k * 10)).off + 1, none⟩) h.blk).trans h.c1
  c2 := (hb.cell (p := ⟨(ad.add (k * 10)).block, (ad.add (k * 10)).off + 2, none⟩) h.blk).trans h.c2
  c3 := (hb.cell (p := ⟨(ad.add (k * 10)).block, (ad.add (k * 10)).off + 3, none⟩) h.blk).trans h.c3
  c4 := (hb.cell (p := ⟨(ad.add (k * 10)).block, (ad.add (k * 10)).off + 4, none⟩) h.blk).trans h.c4
  c5 := (hb.cell (p := ⟨(ad.add (k * 10)).block, (ad.add (k * 10)).off + 5, none⟩) h.blk).trans h.c5
  c6 := (hb.cell (p := ⟨(ad.add (k * 10)).block, (ad.add (k * 10)).off + 6, none⟩) h.blk).trans h.c6
  c7 := (hb.cell (p := ⟨(ad.add (k * 10)).block, (ad.add (k * 10)).off + 7, none⟩) h.blk).trans h.c7
  c8 := (hb.cell (p := ⟨(ad.add (k * 10)).block, (ad.add (k * 10)).off + 8, none⟩) h.blk).trans h.c8
  c9 := (hb.cell (p := ⟨(ad.add (k * 10)).block, (ad.add (k * 10)).off + 9, none⟩) h.blk).trans h.c9
  row_p := h.row_p.below hb
  cap_p := h.cap_p
  nil_p := h.nil_p
structure BDs (w : World) (B : Nat) (A : Option Addr) (n : Nat) (ds : List BDV) : Prop where
  len : ds.length = n
  at_ : ∀ k q, ds[k]? = some q → ∃ ad, A = some ad ∧ BDAt w B ad k q
theorem BDs.below {w w' : World} {B n : Nat} {A : Option Addr} {ds : List BDV} (h : BDs w B A n ds) (hb : Below B w w') : BDs w' B A n ds :=
  ⟨h.len, fun k q hk => by obtain ⟨ad, e, hc⟩ := h.at_ k q hk; exact ⟨ad, e, hc.below hb⟩⟩
/-- what is known of each deed -/
def BDOk (q : BDV) : Prop := wide64 q.what ∧ Bts q.p.info ∧ q.p.info.length ≤ maxLen ∧ PWide q.p
set_option maxRecDepth 100000 in
set_option maxHeartbeats 1600000 in
open Go.ChangeShapes Go.WideShapes Go.ChangeAt in
theorem bd_in {H : Type} {enc : TypeId × Value → H} {W : World} {r : Reach} {base : Nat} {v : Value} {d : DataW H} {p : List MemPlace}
    (hv : Value.okWide Try.prog W r base 34 v) (h : DataW.Trod enc Try.prog W 0 (fun _ => true) true 34 v d p) :
    ∃ A len cap ds, v = .slice A len cap ∧ len ≤ cap ∧ cap ≤ maxLen ∧ BDs W W.heap.size A len ds ∧ ∀ q ∈ ds, BDOk q := by
  obtain ⟨a, len, cap, rfl⟩ := okWide_slice Try.underlying34 hv
  obtain ⟨fuel, hf⟩ := h
  rcases Go.Deep.open_slice Try.underlying34 hf with ⟨hcs, _⟩ | ⟨a', len', cap', m, n, D, Pl, hcs, _, hl, hm, hmm, _, hi⟩
  · simp [Value.cells] at hcs
    obtain ⟨rfl, rfl, rfl⟩ := hcs
    exact ⟨none, 0, 0, [], rfl, Nat.le_refl _, Nat.zero_le _, ⟨rfl, fun k q hk => by simp at hk⟩, fun q hq => by cases hq⟩
  · simp [Value.cells] at hcs
    obtain ⟨rfl, rfl, rfl⟩ := hcs
    have hcS : Try.prog.cellsOf 39 = 10 := by kernel_rfl
    have hc_int : Try.prog.cellsOf 3 = 1 := by kernel_rfl
    have hc_pdu : Try.prog.cellsOf 30 = 9 := by kernel_rfl
    have hlm : len ≤ m := by rw [hmm]; split <;> omega
    obtain ⟨ds, hdl, hds⟩ := list_of (n := len) (P := fun i (q : BDV) => BDAt W W.heap.size a' i q ∧ BDOk q) (fun i hil => by
      obtain ⟨cs', h1, h2⟩ := hi i (by omega)
      rw [hcS] at h1
      obtain ⟨_, hlen, hat⟩ := World.cells?_some h1
      obtain ⟨ys, n', _, _, _, hyl, hfi⟩ := DataW.trod_struct Try.underlying39 h2
      have g0 := hfi 0 _ rfl
      have g1 := hfi 1 _ rfl
      match cs', hlen with
      | [x0, x1, x2, x3, x4, x5, x6, x7, x8, x9], _ =>
        simp [hc_int, hc_pdu] at g0 g1
        simp at hyl
        rw [List.getElem?_eq_getElem (by omega)] at g0 g1
        have hblk : a'.block < W.heap.size := by have := cell_in (hat 0 (by omega)); rw [addr_add_block, addr_add_block] at this; exact this
        obtain ⟨y0, e0, _, w0⟩ := DataW.trod_int Try.underlying3 g0
        simp at e0
        subst e0
        obtain ⟨q1, A1, c1, e1, k1_1, k1_2, k1_3, k1_4, k1_5, k1_6⟩ := pdu_of_trod rfl g1
        simp only [List.cons.injEq, and_true] at e1
        obtain ⟨rfl, rfl, rfl, rfl, rfl, rfl, rfl, rfl, rfl⟩ := e1
        exact ⟨⟨y0, q1, A1, c1⟩, ⟨by rw [addr_add_block]; exact hblk, hat 0 (by omega), hat 1 (by omega), hat 2 (by omega), hat 3 (by omega), hat 4 (by omega), hat 5 (by omega), hat 6 (by omega), hat 7 (by omega), hat 8 (by omega), hat 9 (by omega), k1_3, k1_1, k1_5⟩, i64_of_wf w0, k1_4, Nat.le_trans k1_1 k1_2, k1_6⟩)
    refine ⟨some a', len, cap, ds, rfl, hl, hm, ⟨hdl, fun k q hk => ?_⟩, fun q hq => ?_⟩
    · obtain ⟨hk', rfl⟩ := List.getElem?_eq_some_iff.1 hk
      exact ⟨a', rfl, (hds k hk').1⟩
    · obtain ⟨k, hk, rfl⟩ := List.mem_iff_getElem.1 hq
      exact (hds k hk).2
end Go.Proofs.Ytbhdncbnjlgigaa
