/- What the functions of vars do: the numbers of a connection at a block of their own. -/
import Derived.Deep.CutBlock
import Derived.Deep.DeepCutAuto
import Derived.Deep.RegionHeld3
import Derived.Laws.Bits128
import Derived.Test.YteobanbcjnahaaaQMem
import Derived.Test.YteobanbcjnahaaaOMore
import Derived.Test.YteobanbcjnahaaaNFun
import Derived.Test.YteobanbcjnahaaaVMath
namespace Go.Proofs.Yteobanbcjnahaaa
open Go.RowKit
set_option linter.unusedVariables false
set_option linter.unusedSimpArgs false

/-- the three cells of a Vars -/
abbrev vC (a b c : Int) : Array Value := #[.int .i64 a, .int .i64 b, .int .i64 c]
theorem three_cells {w : World} {g : Nat} {v0 v1 v2 : Value} {T : TypeId} {fr : Nat × Nat} (h : w.heap[g]? = some (.cells #[v0, v1, v2] T fr)) :
    w.cell? ⟨g, 0, none⟩ = some v0 ∧ w.cell? ⟨g, 1, none⟩ = some v1 ∧ w.cell? ⟨g, 2, none⟩ = some v2 := by
  refine ⟨?_, ?_, ?_⟩
  all_goals (rw [cell_of_row w g _ _ _ _ h]; rfl)
theorem vars_size : (Try.prog.info? 26).map (fun x => x.size) = some 3 := by kernel_rfl
theorem vC_one (a b c : Int) : ((vC a b c).all fun x => x.oneCell') = true := by simp [Value.oneCell']
/-- a Vars of the program's at block t that stands so -/
structure VaP (W : World) (t : Nat) (v : VV) : Prop where
  ok : VOk v
  hd : W.heap[t]? = some (.cells (vC v.vs v.vr v.va) 26 (0, 0))
theorem VaP.lt {W : World} {t : Nat} {v : VV} (h : VaP W t v) : t < W.heap.size := block_lt h.hd
theorem VaP.keep {W W' : World} {t : Nat} {v : VV} (h : VaP W t v) (hk : W'.heap[t]? = W.heap[t]?) : VaP W' t v := ⟨h.ok, hk.trans h.hd⟩
theorem VaP.below {W W' : World} {t : Nat} {v : VV} (h : VaP W t v) (hb : Below W.heap.size W W') : VaP W' t v := h.keep (hb.block t h.lt)
theorem VaP.only {W W' : World} {t g : Nat} {v : VV} (h : VaP W t v) (hb : OnlyB g W W') (hne : t ≠ g) : VaP W' t v := h.keep (hb.block t h.lt (fun e => hne (by injection e)))

theorem now_any {W : World} {t : Nat} {v : VV} (h : VaP W t v) :
    Calls Try.prog 26 #[ptr t] W fun e W' => e = .returned (.agg (vC v.vs v.vr v.va)) ∧ Below W.heap.size W W' := by
  obtain ⟨w1, hw1⟩ : ∃ w1, w1 = W.alloc (.cells (vC 0 0 0) 26) := ⟨_, rfl⟩
  obtain ⟨g, hg⟩ : ∃ g, g = W.heap.size := ⟨_, rfl⟩
  have hb1 : Below W.heap.size W w1 := by rw [hw1]; exact (Below.refl _ _).alloc (Nat.le_refl _) _
  have T1 := cover (h.below hb1).hd
  have G1 : Hid (w1.heap[g]? = some (.cells (vC 0 0 0) 26 (0, 0))) := cover (by rw [hw1, hg]; exact heap_alloc_new _ _)
  have HG := cover hg
  have H1 : Hid (Below W.heap.size W w1) := cover hb1
  clear hb1 h
  go_enter Try.func26, Try.ntmps26
  go_upto_region 1 with fail
  rw [← hw1, ← hg]
  clear hw1 hg
  go_wp2_with (first
    | (refine wpList_load_row rfl _ _ rfl t rfl 26 (vC v.vs v.vr v.va) (0, 0) _ T1.out Try.underlying26 rfl vars_size ?_)
    | (refine wpList_store_row rfl _ _ _ rfl g (vC v.vs v.vr v.va) rfl rfl 26 (vC 0 0 0) G1.out vars_size rfl (vC_one _ _ _) ?_))
  exact bodyPost_ret (v := .agg (vC v.vs v.vr v.va)) (results_cell_row (by rfl) _ _ g _ (vC v.vs v.vr v.va) (0, 0) _ rfl (setRow_heap _ _ _ _ _ _ G1.out) Try.underlying26 rfl vars_size) rfl ⟨rfl, Go.below_setRow H1.out (by rw [HG.out]; exact Nat.le_refl _) _⟩

theorem vs_any {W : World} {t : Nat} {v : VV} (h : VaP W t v) :
    Calls Try.prog 11 #[ptr t] W fun e W' => e = .returned (.int .i64 v.vs) ∧ Below W.heap.size W W' := by
  have hfd : ∀ w, (Instr.field 26 (.agg (vC v.vs v.vr v.va)) 0).run Try.prog w = .ok (.int .i64 v.vs) w := fun _ => by kernel_rfl
  go_enter Try.func11, Try.ntmps11
  go_wp2_with fail
  refine (now_any h).mono ?_
  rintro e w1 ⟨rfl, hb⟩
  have HB := cover hb
  clear hb
  go_wp2
  go_ret
  exact ⟨rfl, HB.out⟩
theorem vr_any {W : World} {t : Nat} {v : VV} (h : VaP W t v) :
    Calls Try.prog 13 #[ptr t] W fun e W' => e = .returned (.int .i64 v.vr) ∧ Below W.heap.size W W' := by
  have hfd : ∀ w, (Instr.field 26 (.agg (vC v.vs v.vr v.va)) 1).run Try.prog w = .ok (.int .i64 v.vr) w := fun _ => by kernel_rfl
  go_enter Try.func13, Try.ntmps13
  go_wp2_with fail
  refine (now_any h).mono ?_
  rintro e w1 ⟨rfl, hb⟩
  have HB := cover hb
  clear hb
  go_wp2
  go_ret
  exact ⟨rfl, HB.out⟩
theorem va_any {W : World} {t : Nat} {v : VV} (h : VaP W t v) :
    Calls Try.prog 20 #[ptr t] W fun e W' => e = .returned (.int .i64 v.va) ∧ Below W.heap.size W W' := by
  have hfd : ∀ w, (Instr.field 26 (.agg (vC v.vs v.vr v.va)) 2).run Try.prog w = .ok (.int .i64 v.va) w := fun _ => by kernel_rfl
  go_enter Try.func20, Try.ntmps20
  go_wp2_with fail
  refine (now_any h).mono ?_
  rintro e w1 ⟨rfl, hb⟩
  have HB := cover hb
  clear hb
  go_wp2
  go_ret
  exact ⟨rfl, HB.out⟩
theorem out_any {W : World} {t : Nat} {v : VV} (h : VaP W t v) :
    Calls Try.prog 21 #[ptr t] W fun e W' => e = .returned (.int .i64 (outV v)) ∧ Below W.heap.size W W' := by
  have HV := cover h
  have HO : Hid (dist v.va v.vs = outV v) := cover rfl
  clear h
  go_enter Try.func21, Try.ntmps21
  go_wp2_with fail
  refine (va_any HV.out).mono ?_
  rintro e w1 ⟨rfl, hb⟩
  have HB := cover hb
  have H1 := cover (HV.out.below hb)
  clear hb
  go_wp2_with fail
  refine (vs_any H1.out).mono ?_
  rintro e w2 ⟨rfl, hb⟩
  have HB2 := cover (HB.out.trans (hb.mono HB.out.size))
  clear hb
  go_wp2_with fail
  refine (sDist_any v.va v.vs w2).mono ?_
  rintro e w3 ⟨rfl, rfl⟩
  go_wp2
  go_ret
  exact ⟨ret_int HO.out, HB2.out⟩

/-- one of the numbers goes up -/
theorem up_any {W : World} {t o : Nat} {n : Int} (h : W.cell? ⟨t, o, none⟩ = some (.int .i64 n)) (hf : W.frozen? ⟨t, o, none⟩ = false) :
    Calls Try.prog 23 #[.pointer (some ⟨t, o, none⟩)] W fun e W' => e = .returned (.int .i64 n) ∧ W' = W.setCell ⟨t, o, none⟩ (.int .i64 (addI n 1)) := by
  go_enter Try.func23, Try.ntmps23
  go_wp2_with fail
  refine (sAdd_any n 1 W).mono ?_
  rintro e w1 ⟨rfl, rfl⟩
  go_wp2
  go_ret
  exact ⟨rfl, rfl⟩
abbrev upF (t o : Nat) : Value := .func (.func 23) #[.pointer (some ⟨t, o, none⟩)] #[]
theorem take_no {W : World} (f : Value) :
    Calls Try.prog 22 #[.bool false, f] W fun e W' => e = .returned (.int .i64 (-1)) ∧ W' = W := by
  go_enter Try.func22, Try.ntmps22
  go_wp2
  go_ret
  exact ⟨rfl, rfl⟩
theorem take_yes {W : World} {t o : Nat} {n : Int} (h : W.cell? ⟨t, o, none⟩ = some (.int .i64 n)) (hf : W.frozen? ⟨t, o, none⟩ = false) :
    Calls Try.prog 22 #[.bool true, upF t o] W fun e W' => e = .returned (.int .i64 n) ∧ W' = W.setCell ⟨t, o, none⟩ (.int .i64 (addI n 1)) := by
  have HC := cover (up_any h hf)
  clear h hf
  go_enter Try.func22, Try.ntmps22
  go_wp2_with fail
  refine HC.out.mono ?_
  rintro e w1 ⟨rfl, h1⟩
  have H1 := cover h1
  clear h1
  go_wp2
  go_ret
  exact ⟨rfl, H1.out⟩
end Go.Proofs.Yteobanbcjnahaaa
