/- A frame stored whole into a variable of its own, inside a region that draws its order. -/
import Derived.Test.YtbpmhfekjihhhaaMUse
namespace Go.Proofs.Ytbpmhfekjihhhaa
open Go.RowKit
set_option linter.unusedVariables false

/-- does block g hold thirteen cells that may be written? -/
def zfAt (w : World) (g : Nat) : Bool := match w.heap[g]? with | some (.cells c _ (0, 0)) => c.size == 13 | _ => false
theorem zfAt_heap {w : World} {g : Nat} (h : zfAt w g = true) : ∃ c t, w.heap[g]? = some (.cells c t (0, 0)) ∧ c.size = 13 := by
  unfold zfAt at h
  split at h
  · rename_i c t hg
    exact ⟨c, t, hg, by simpa using h⟩
  · cases h
theorem zfAt_new (w : World) : zfAt (w.alloc (.cells zf 36)) w.heap.size = true := by unfold zfAt; rw [heap_alloc_new]; rfl
theorem zfAt_newD (w : World) : zfAt (w.alloc (.cells zf 36)).drew w.heap.size = true := zfAt_new w
theorem zfAt_below {B g : Nat} {w w' : World} (h : zfAt w g = true) (hb : Below B w w') (hg : g < B) : zfAt w' g = true := by unfold zfAt at h ⊢; rw [hb.block g hg]; exact h
theorem zfAt_grown {w w' : World} {g : Nat} {row : Option Nat} (h : zfAt w g = true) (hg : w.grownBy w' row) (hne : some g = row → False) : zfAt w' g = true := by
  obtain ⟨c, t, hc, hs⟩ := zfAt_heap h
  unfold zfAt at h ⊢
  rw [hg.block g (block_lt hc) hne]; exact h
/-- the store of a frame, kept whole -/
def stFrm (P : Program) (a v : Value) (w : World) : Result Next := ((Instr.storeAt 36 a v).run P w).andThen fun _ w' => .ok .skip w'
theorem stFrm_fold (ρ : Operand → Value) (d : Option Tmp) (x y : Operand) (ty : TypeId) (ps : String) (af : Array Edge) (gd : Option (Nat × Bool)) (w : World) :
    (execOp ρ ⟨d, .store 36 x y, ty, ps, af, gd⟩).run Try.prog w = stFrm Try.prog (ρ x) (ρ y) w := by
  unfold stFrm execOp
  simp only [Sem.run_bind, Sem.run_pure]
theorem stFrm_at (w : World) (g : Nat) (t0 t1 t2 t3 t4 t5 f0 f1 f2 f3 f4 f5 : Int) (A : Option Addr) (n c : Nat) (h : zfAt w g = true) :
    stFrm Try.prog (.pointer (some ⟨g, 0, none⟩)) (.agg #[.int .u8 t0, .int .u8 t1, .int .u8 t2, .int .u8 t3, .int .u8 t4, .int .u8 t5, .int .u8 f0, .int .u8 f1, .int .u8 f2, .int .u8 f3, .int .u8 f4, .int .u8 f5, .slice A n c]) w = .ok .skip (w.setRow g #[.int .u8 t0, .int .u8 t1, .int .u8 t2, .int .u8 t3, .int .u8 t4, .int .u8 t5, .int .u8 f0, .int .u8 f1, .int .u8 f2, .int .u8 f3, .int .u8 f4, .int .u8 f5, .slice A n c]) := by
  obtain ⟨cs, t, hg, hs⟩ := zfAt_heap h
  unfold stFrm Instr.storeAt Instr.sureAddr
  simp only [Sem.run_bind, Sem.run_pure, Result.andThen_ok]
  rw [run_storeVar_row w g t 36 cs _ hg frm_size (by rw [hs]; rfl) (frm_one t0 t1 t2 t3 t4 t5 f0 f1 f2 f3 f4 f5 A n c)]
  rfl
end Go.Proofs.Ytbpmhfekjihhhaa
