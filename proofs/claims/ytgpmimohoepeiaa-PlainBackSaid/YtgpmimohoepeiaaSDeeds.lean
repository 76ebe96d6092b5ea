/- The deeds that come in. -/
import Derived.Deep.Slices
import Derived.Deep.Strs
import Derived.Test.YtgpmimohoepeiaaSHas
import Derived.Test.YtgpmimohoepeiaaOFrame
namespace Go.Proofs.Ytgpmimohoepeiaa
open Go.RowKit
set_option linter.unusedVariables false

/-- a slice of deeds that came in: of each its three numbers -/
structure Deeds (w : World) (B : Nat) (A : Option Addr) (n : Nat) (ds : List (Int × Int × Int)) : Prop where
  len : ds.length = n
  cells : ∀ k (h : k < ds.length), ∃ ad, A = some ad ∧ ad.block < B ∧ w.cell? (ad.add (k * 3)) = some (.int .i64 ds[k].1) ∧ w.cell? ⟨(ad.add (k * 3)).block, (ad.add (k * 3)).off + 1, none⟩ = some (.int .i64 ds[k].2.1) ∧ w.cell? ⟨(ad.add (k * 3)).block, (ad.add (k * 3)).off + 2, none⟩ = some (.int .i64 ds[k].2.2)
theorem Deeds.below {w w' : World} {B n : Nat} {A : Option Addr} {ds : List (Int × Int × Int)} (h : Deeds w B A n ds) (hb : Below B w w') : Deeds w' B A n ds :=
  ⟨h.len, fun k hk => by
    obtain ⟨ad, e, hlt, h0, h1, h2⟩ := h.cells k hk
    have hx : ∀ q : Addr, q.block = (ad.add (k * 3)).block → w'.cell? q = w.cell? q := fun q hq => hb.cell (by rw [hq, addr_add_block]; exact hlt)
    exact ⟨ad, e, hlt, (hx _ rfl).trans h0, (hx ⟨(ad.add (k * 3)).block, (ad.add (k * 3)).off + 1, none⟩ rfl).trans h1, (hx ⟨(ad.add (k * 3)).block, (ad.add (k * 3)).off + 2, none⟩ rfl).trans h2⟩⟩
set_option maxRecDepth 100000 in
open Go.ChangeShapes Go.WideShapes Go.ChangeAt in
theorem deeds_in {H : Type} {enc : TypeId × Value → H} {W : World} {r : Reach} {base : Nat} {v : Value} {d : DataW H} {p : List MemPlace}
    (hv : Value.okWide Try.prog W r base 45 v) (h : DataW.Trod enc Try.prog W 0 (fun _ => true) true 45 v d p) :
    ∃ A len cap ds, v = .slice A len cap ∧ len ≤ cap ∧ cap ≤ maxLen ∧ Deeds W W.heap.size A len ds ∧ ∀ q ∈ ds, (-9223372036854775808 ≤ q.1 ∧ q.1 ≤ 9223372036854775807) ∧ (-9223372036854775808 ≤ q.2.1 ∧ q.2.1 ≤ 9223372036854775807) ∧ (-9223372036854775808 ≤ q.2.2 ∧ q.2.2 ≤ 9223372036854775807) := by
  obtain ⟨a, len, cap, rfl⟩ := okWide_slice Try.underlying45 hv
  obtain ⟨fuel, hf⟩ := h
  rcases Go.Deep.open_slice Try.underlying45 hf with ⟨hcs, _⟩ | ⟨a', len', cap', m, n, D, Pl, hcs, _, hl, hm, hmm, _, hi⟩
  · simp [Value.cells] at hcs
    obtain ⟨rfl, rfl, rfl⟩ := hcs
    exact ⟨none, 0, 0, [], rfl, Nat.le_refl _, Nat.zero_le _, ⟨rfl, fun k hk => by simp at hk⟩, fun q hq => by cases hq⟩
  · simp [Value.cells] at hcs
    obtain ⟨rfl, rfl, rfl⟩ := hcs
    have hc3 : Try.prog.cellsOf 93 = 3 := by kernel_rfl
    have hci : Try.prog.cellsOf 3 = 1 := by kernel_rfl
    have hlm : len ≤ m := by rw [hmm]; split <;> omega
    obtain ⟨ds, hdl, hds⟩ := list_of (n := len) (P := fun i (q : Int × Int × Int) => W.cell? (a'.add (i * 3)) = some (.int .i64 q.1) ∧ W.cell? ⟨(a'.add (i * 3)).block, (a'.add (i * 3)).off + 1, none⟩ = some (.int .i64 q.2.1) ∧ W.cell? ⟨(a'.add (i * 3)).block, (a'.add (i * 3)).off + 2, none⟩ = some (.int .i64 q.2.2) ∧ (Lit.int .i64 q.1).wf = true ∧ (Lit.int .i64 q.2.1).wf = true ∧ (Lit.int .i64 q.2.2).wf = true) (fun i hil => by
      obtain ⟨cs', h1, h2⟩ := hi i (by omega)
      rw [hc3] at h1
      obtain ⟨_, hlen, hat⟩ := World.cells?_some h1
      obtain ⟨y0, y1, y2, n', _, _, h3, h4, h5⟩ := Go.Deep.trod_struct3 Try.underlying93 h2
      match cs', hlen with
      | [c0, c1, c2], _ =>
        simp [hci] at h3 h4 h5
        obtain ⟨x, e0, _, wx⟩ := DataW.trod_int Try.underlying3 h3
        obtain ⟨y, e1, _, wy⟩ := DataW.trod_int Try.underlying3 h4
        obtain ⟨z, e2, _, wz⟩ := DataW.trod_int Try.underlying3 h5
        simp at e0 e1 e2
        subst e0 e1 e2
        exact ⟨(x, y, z), hat 0 (by omega), hat 1 (by omega), hat 2 (by omega), wx, wy, wz⟩)
    refine ⟨some a', len, cap, ds, rfl, hl, hm, ⟨hdl, fun k hk => ⟨a', rfl, by
      have := cell_in (hds k hk).1; rw [addr_add_block] at this; exact this, (hds k hk).1, (hds k hk).2.1, (hds k hk).2.2.1⟩⟩, fun q hq => ?_⟩
    obtain ⟨k, hk, rfl⟩ := List.mem_iff_getElem.1 hq
    have hw := (hds k hk).2.2.2
    simp only [Lit.wf, Bool.and_eq_true, decide_eq_true_eq] at hw
    exact hw
end Go.Proofs.Ytgpmimohoepeiaa
