/- Deeds that came in. -/
import Derived.Deep.Slices
import Derived.Test.YtdjfnhplbhhgiaaUTrod
namespace Go.Proofs.Ytdjfnhplbhhgiaa
open Go.RowKit
set_option linter.unusedVariables false

/-- a deed -/
structure IDV where
  what : Int
  num : Int
structure IDAt (w : World) (B : Nat) (ad : Addr) (k : Nat) (q : IDV) : Prop where
  blk : (ad.add (k * 2)).block < B
  c0 : w.cell? (ad.add (k * 2)) = some (.int .i64 q.what)
  c1 : w.cell? ⟨(ad.add (k * 2)).block, (ad.add (k * 2)).off + 1, none⟩ = some (.int .i64 q.num)
theorem IDAt.below {w w' : World} {B : Nat} {ad : Addr} {k : Nat} {q : IDV} (h : IDAt w B ad k q) (hb : Below B w w') : IDAt w' B ad k q where
  blk := h.blk
  c0 := (hb.cell (p := (ad.add (k * 2))) h.blk).trans h.c0
  c1 := (hb.cell (p := ⟨(ad.add (k * 2)).block, (ad.add (k * 2)).off + 1, none⟩) h.blk).trans h.c1
structure IDs (w : World) (B : Nat) (A : Option Addr) (n : Nat) (ds : List IDV) : Prop where
  len : ds.length = n
  at_ : ∀ k q, ds[k]? = some q → ∃ ad, A = some ad ∧ IDAt w B ad k q
theorem IDs.below {w w' : World} {B n : Nat} {A : Option Addr} {ds : List IDV} (h : IDs w B A n ds) (hb : Below B w w') : IDs w' B A n ds :=
  ⟨h.len, fun k q hk => by obtain ⟨ad, e, hc⟩ := h.at_ k q hk; exact ⟨ad, e, hc.below hb⟩⟩
/-- what is known of each deed -/
def IDOk (q : IDV) : Prop := wide64 q.what ∧ wide64 q.num
set_option maxRecDepth 100000 in
set_option maxHeartbeats 1600000 in
open Go.ChangeShapes Go.WideShapes Go.ChangeAt in
theorem id_in {H : Type} {enc : TypeId × Value → H} {W : World} {r : Reach} {base : Nat} {v : Value} {d : DataW H} {p : List MemPlace}
    (hv : Value.okWide Try.prog W r base 29 v) (h : DataW.Trod enc Try.prog W 0 (fun _ => true) true 29 v d p) :
    ∃ A len cap ds, v = .slice A len cap ∧ len ≤ cap ∧ cap ≤ maxLen ∧ IDs W W.heap.size A len ds ∧ ∀ q ∈ ds, IDOk q := by
  obtain ⟨a, len, cap, rfl⟩ := okWide_slice Try.underlying29 hv
  obtain ⟨fuel, hf⟩ := h
  rcases Go.Deep.open_slice Try.underlying29 hf with ⟨hcs, _⟩ | ⟨a', len', cap', m, n, D, Pl, hcs, _, hl, hm, hmm, _, hi⟩
  · simp [Value.cells] at hcs
    obtain ⟨rfl, rfl, rfl⟩ := hcs
    exact ⟨none, 0, 0, [], rfl, Nat.le_refl _, Nat.zero_le _, ⟨rfl, fun k q hk => by simp at hk⟩, fun q hq => by cases hq⟩
  · simp [Value.cells] at hcs
    obtain ⟨rfl, rfl, rfl⟩ := hcs
    have hcS : Try.prog.cellsOf 34 = 2 := by kernel_rfl
    have hc_int : Try.prog.cellsOf 3 = 1 := by kernel_rfl
    have hlm : len ≤ m := by rw [hmm]; split <;> omega
    obtain ⟨ds, hdl, hds⟩ := list_of (n := len) (P := fun i (q : IDV) => IDAt W W.heap.size a' i q ∧ IDOk q) (fun i hil => by
      obtain ⟨cs', h1, h2⟩ := hi i (by omega)
      rw [hcS] at h1
      obtain ⟨_, hlen, hat⟩ := World.cells?_some h1
      obtain ⟨ys, n', _, _, _, hyl, hfi⟩ := DataW.trod_struct Try.underlying34 h2
      have g0 := hfi 0 _ rfl
      have g1 := hfi 1 _ rfl
      match cs', hlen with
      | [x0, x1], _ =>
        simp [hc_int] at g0 g1
        simp at hyl
        rw [List.getElem?_eq_getElem (by omega)] at g0 g1
        have hblk : a'.block < W.heap.size := by have := cell_in (hat 0 (by omega)); rw [addr_add_block, addr_add_block] at this; exact this
        obtain ⟨y0, e0, _, w0⟩ := DataW.trod_int Try.underlying3 g0
        simp at e0
        subst e0
        obtain ⟨y1, e1, _, w1⟩ := DataW.trod_int Try.underlying3 g1
        simp at e1
        subst e1
        exact ⟨⟨y0, y1⟩, ⟨by rw [addr_add_block]; exact hblk, hat 0 (by omega), hat 1 (by omega)⟩, i64_of_wf w0, i64_of_wf w1⟩)
    refine ⟨some a', len, cap, ds, rfl, hl, hm, ⟨hdl, fun k q hk => ?_⟩, fun q hq => ?_⟩
    · obtain ⟨hk', rfl⟩ := List.getElem?_eq_some_iff.1 hk
      exact ⟨a', rfl, (hds k hk').1⟩
    · obtain ⟨k, hk, rfl⟩ := List.mem_iff_getElem.1 hq
      exact (hds k hk).2
end Go.Proofs.Ytdjfnhplbhhgiaa
