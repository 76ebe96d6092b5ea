/- The deeds that came in; the law's question whether they are few and small. -/
import Derived.Deep.Slices
import Derived.Deep.Strs
import Derived.Test.YtjidhpmjdhjciaaOFrame
import Derived.Test.YtjidhpmjdhjciaaFAwake
namespace Go.Proofs.Ytjidhpmjdhjciaa
open Go.RowKit
set_option linter.unusedVariables false

/-- a deed: what, from whom, to whom, which bit, which bytes -/
structure DV where
  what : Int
  f : Int
  t : Int
  bit : Int
  A : Option Addr
  c : Nat
  b : List Int
def wide (x : Int) : Prop := -9223372036854775808 ≤ x ∧ x ≤ 9223372036854775807
/-- the place of a deed's i-th cell -/
abbrev dcell (ad : Addr) (k i : Nat) : Addr := ⟨(ad.add (k * 5)).block, (ad.add (k * 5)).off + i, none⟩
structure DCells (w : World) (B : Nat) (ad : Addr) (k : Nat) (q : DV) : Prop where
  blk : ad.block < B
  c0 : w.cell? (ad.add (k * 5)) = some (.int .i64 q.what)
  c1 : w.cell? (dcell ad k 1) = some (.int .i64 q.f)
  c2 : w.cell? (dcell ad k 2) = some (.int .i64 q.t)
  c3 : w.cell? (dcell ad k 3) = some (.int .i64 q.bit)
  c4 : w.cell? (dcell ad k 4) = some (.slice q.A q.b.length q.c)
  row : Row w B q.A q.b.length q.b
  cap : q.b.length ≤ q.c
structure DeedsL (w : World) (B : Nat) (A : Option Addr) (n : Nat) (ds : List DV) : Prop where
  len : ds.length = n
  at_ : ∀ k q, ds[k]? = some q → ∃ ad, A = some ad ∧ DCells w B ad k q
theorem DCells.below {w w' : World} {B : Nat} {ad : Addr} {k : Nat} {q : DV} (h : DCells w B ad k q) (hb : Below B w w') : DCells w' B ad k q := by
  have hx : ∀ p : Addr, p.block = (ad.add (k * 5)).block → w'.cell? p = w.cell? p := fun p hp => hb.cell (by rw [hp, addr_add_block]; exact h.blk)
  exact ⟨h.blk, (hx _ rfl).trans h.c0, (hx (dcell ad k 1) rfl).trans h.c1, (hx (dcell ad k 2) rfl).trans h.c2, (hx (dcell ad k 3) rfl).trans h.c3, (hx (dcell ad k 4) rfl).trans h.c4, h.row.below hb, h.cap⟩
theorem DeedsL.below {w w' : World} {B n : Nat} {A : Option Addr} {ds : List DV} (h : DeedsL w B A n ds) (hb : Below B w w') : DeedsL w' B A n ds :=
  ⟨h.len, fun k q hk => by obtain ⟨ad, e, hc⟩ := h.at_ k q hk; exact ⟨ad, e, hc.below hb⟩⟩
/-- what is known of each deed -/
def DOk (q : DV) : Prop := wide q.what ∧ wide q.f ∧ wide q.t ∧ wide q.bit ∧ Bts q.b ∧ q.b.length ≤ maxLen
set_option maxRecDepth 100000 in
open Go.ChangeShapes Go.WideShapes Go.ChangeAt in
theorem deedl_in {H : Type} {enc : TypeId × Value → H} {W : World} {r : Reach} {base : Nat} {v : Value} {d : DataW H} {p : List MemPlace}
    (hv : Value.okWide Try.prog W r base 35 v) (h : DataW.Trod enc Try.prog W 0 (fun _ => true) true 35 v d p) :
    ∃ A len cap ds, v = .slice A len cap ∧ len ≤ cap ∧ cap ≤ maxLen ∧ DeedsL W W.heap.size A len ds ∧ ∀ q ∈ ds, DOk q := by
  obtain ⟨a, len, cap, rfl⟩ := okWide_slice Try.underlying35 hv
  obtain ⟨fuel, hf⟩ := h
  rcases Go.Deep.open_slice Try.underlying35 hf with ⟨hcs, _⟩ | ⟨a', len', cap', m, n, D, Pl, hcs, _, hl, hm, hmm, _, hi⟩
  · simp [Value.cells] at hcs
    obtain ⟨rfl, rfl, rfl⟩ := hcs
    exact ⟨none, 0, 0, [], rfl, Nat.le_refl _, Nat.zero_le _, ⟨rfl, fun k q hk => by simp at hk⟩, fun q hq => by cases hq⟩
  · simp [Value.cells] at hcs
    obtain ⟨rfl, rfl, rfl⟩ := hcs
    have hc5 : Try.prog.cellsOf 42 = 5 := by kernel_rfl
    have hci : Try.prog.cellsOf 3 = 1 := by kernel_rfl
    have hcb : Try.prog.cellsOf 28 = 1 := by kernel_rfl
    have hlm : len ≤ m := by rw [hmm]; split <;> omega
    obtain ⟨ds, hdl, hds⟩ := list_of (n := len) (P := fun i (q : DV) => DCells W W.heap.size a' i q ∧ DOk q) (fun i hil => by
      obtain ⟨cs', h1, h2⟩ := hi i (by omega)
      rw [hc5] at h1
      obtain ⟨_, hlen, hat⟩ := World.cells?_some h1
      obtain ⟨ys, n', _, _, _, hyl, hfi⟩ := DataW.trod_struct Try.underlying42 h2
      have g0 := hfi 0 _ rfl
      have g1 := hfi 1 _ rfl
      have g2 := hfi 2 _ rfl
      have g3 := hfi 3 _ rfl
      have g4 := hfi 4 _ rfl
      match cs', hlen with
      | [x0, x1, x2, x3, x4], _ =>
        simp [hci, hcb] at g0 g1 g2 g3 g4
        simp at hyl
        rw [List.getElem?_eq_getElem (by omega)] at g0 g1 g2 g3 g4
        obtain ⟨y0, e0, _, w0⟩ := DataW.trod_int Try.underlying3 g0
        obtain ⟨y1, e1, _, w1⟩ := DataW.trod_int Try.underlying3 g1
        obtain ⟨y2, e2, _, w2⟩ := DataW.trod_int Try.underlying3 g2
        obtain ⟨y3, e3, _, w3⟩ := DataW.trod_int Try.underlying3 g3
        simp at e0 e1 e2 e3
        subst e0 e1 e2 e3
        have hblk : a'.block < W.heap.size := by have := cell_in (hat 0 (by omega)); rw [addr_add_block, addr_add_block] at this; exact this
        rcases open_ints Try.underlying28 Try.underlying5 (by kernel_rfl) g4 with ⟨hcs, _⟩ | ⟨x, l, c, zs, hcs, _, hl2, hm2, hz, _, hcell, hwz⟩
        · simp at hcs
          subst hcs
          exact ⟨⟨y0, y1, y2, y3, none, 0, []⟩, ⟨hblk, hat 0 (by omega), hat 1 (by omega), hat 2 (by omega), hat 3 (by omega), hat 4 (by omega), RowK.none_, Nat.zero_le _⟩, i64_of_wf w0, i64_of_wf w1, i64_of_wf w2, i64_of_wf w3, Bts.nil, Nat.zero_le _⟩
        · simp at hcs
          subst hcs
          have hzl : zs.length = c := by simpa using hz
          have hll : (zs.take l).length = l := by rw [List.length_take]; omega
          refine ⟨⟨y0, y1, y2, y3, some x, c, zs.take l⟩, ⟨hblk, hat 0 (by omega), hat 1 (by omega), hat 2 (by omega), hat 3 (by omega), ?_, ⟨rfl, fun k hk => ?_⟩, by show (zs.take l).length ≤ c; omega⟩, i64_of_wf w0, i64_of_wf w1, i64_of_wf w2, i64_of_wf w3, bts_of_wf fun y hy => hwz y (List.mem_of_mem_take hy), by show (zs.take l).length ≤ _; omega⟩
          · show W.cell? (dcell a' i 4) = some (.slice (some x) (zs.take l).length c)
            rw [hll]; exact hat 4 (by omega)
          · have hk' : k < l := by have : k < (zs.take l).length := hk; omega
            have h9 := hcell k (by omega)
            refine ⟨x, rfl, ?_, ?_⟩
            · have := cell_in h9; rw [addr_add_block] at this; exact this
            · rw [h9]; show some (Value.int .u8 (zs.getD k 0)) = some (.int .u8 (zs.take l)[k]); rw [List.getElem_take, List.getD_eq_getElem?_getD, List.getElem?_eq_getElem (by omega)]; rfl)
    refine ⟨some a', len, cap, ds, rfl, hl, hm, ⟨hdl, fun k q hk => ?_⟩, fun q hq => ?_⟩
    · obtain ⟨hk', rfl⟩ := List.getElem?_eq_some_iff.1 hk
      exact ⟨a', rfl, (hds k hk').1⟩
    · obtain ⟨k, hk, rfl⟩ := List.mem_iff_getElem.1 hq
      exact (hds k hk).2
end Go.Proofs.Ytjidhpmjdhjciaa
