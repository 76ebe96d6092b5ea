/- A unit that a law keeps in a variable of its own. -/
import Derived.Test.YtgpmimohoepeiaaHAsk2
namespace Go.Proofs.Ytgpmimohoepeiaa
open Go.RowKit
set_option linter.unusedVariables false
set_option linter.unusedSimpArgs false

theorem askP_len (q : PV) (lo : Int) (b : List Int) : (askP q lo b).1.info.length ≤ 1024 := by
  unfold askP
  split
  · split
    · simp [zPV]
    · simp only; omega
  · simp [zPV]
theorem askX_len (a b c : Int) : (askX a b c).1.info.length ≤ 1024 := by
  unfold askX
  split
  · exact askP_len _ _ _
  · simp [zPV]
/-- the unit at block g -/
structure VarP (w : World) (g : Nat) (p : PV) (A : Option Addr) (c : Nat) : Prop where
  hd : w.heap[g]? = some (.cells #[.int .i64 p.to, .int .i64 p.frm, .bool p.resp, .int .i64 p.form, .int .i64 p.kind, .int .i64 p.ns, .int .i64 p.nr, .bool p.poll, .slice A p.info.length c] 29 (0, 0))
  inf : OwnB w 0 (.slice A p.info.length c) p.info
theorem VarP.below {w w' : World} {g : Nat} {p : PV} {A : Option Addr} {c : Nat} (h : VarP w g p A c) (hb : Below w.heap.size w w') : VarP w' g p A c :=
  ⟨(hb.block _ (block_lt h.hd)).trans h.hd, ownB_below h.inf hb⟩
theorem VarP.row {w : World} {g : Nat} {p : PV} {A : Option Addr} {c : Nat} (h : VarP w g p A c) : Row w w.heap.size A p.info.length p.info := OwnB.row h.inf
/-- what a call handed back is stored -/
theorem var_new {w w' : World} {r : PV × Int} {A : Option Addr} {c : Nat} (ho : OwnB w' w.heap.size (.slice A r.1.info.length c) r.1.info) (hb : Below w.heap.size w w') : ∃ X, Hid (X = (w'.alloc (.cells zp 29)).setRow w'.heap.size #[.int .i64 r.1.to, .int .i64 r.1.frm, .bool r.1.resp, .int .i64 r.1.form, .int .i64 r.1.kind, .int .i64 r.1.ns, .int .i64 r.1.nr, .bool r.1.poll, .slice A r.1.info.length c]) ∧ Hid (VarP X w'.heap.size r.1 A c) ∧ Hid (Below w.heap.size w X) := by
  have h1 : Below w'.heap.size w' ((w'.alloc (.cells zp 29)).setRow w'.heap.size #[.int .i64 r.1.to, .int .i64 r.1.frm, .bool r.1.resp, .int .i64 r.1.form, .int .i64 r.1.kind, .int .i64 r.1.ns, .int .i64 r.1.nr, .bool r.1.poll, .slice A r.1.info.length c]) := Go.below_setRow ((Below.refl _ _).alloc (Nat.le_refl _) _) (Nat.le_refl _) _
  exact ⟨_, cover rfl, cover ⟨setRow_heap _ _ _ _ _ _ (heap_alloc_new _ _), OwnB.mono (ownB_below ho h1) (Nat.zero_le _)⟩, cover (hb.trans (h1.mono hb.size))⟩
end Go.Proofs.Ytgpmimohoepeiaa
