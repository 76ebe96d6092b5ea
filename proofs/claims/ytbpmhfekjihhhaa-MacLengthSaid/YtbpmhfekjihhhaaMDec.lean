/- What Decode hands back. -/
import Derived.Test.YtbpmhfekjihhhaaMRd
import Derived.Test.YtbpmhfekjihhhaaCTab
namespace Go.Proofs.Ytbpmhfekjihhhaa
open Go.RowKit
set_option linter.unusedVariables false

/-- Decode has answered -/
def DecD (l : List Int) (w : World) (e : Ending) (w' : World) : Prop :=
  ∃ (t0 t1 t2 t3 t4 t5 f0 f1 f2 f3 f4 f5 : Int) (A : Option Addr) (c : Nat) (dd : List Int), e = .returned (.tuple #[.agg #[.int .u8 t0, .int .u8 t1, .int .u8 t2, .int .u8 t3, .int .u8 t4, .int .u8 t5, .int .u8 f0, .int .u8 f1, .int .u8 f2, .int .u8 f3, .int .u8 f4, .int .u8 f5, .slice A dd.length c], .int .i64 (errD l)]) ∧ Hid ([t0, t1, t2, t3, t4, t5] = toD l ∧ [f0, f1, f2, f3, f4, f5] = frD l ∧ dd = daD l) ∧ OwnB w' w.heap.size (.slice A dd.length c) dd ∧ Below w.heap.size w w'
theorem DecD.no {l : List Int} {w w' : World} {k : Int} (h : errD l = k) (hk : k ≠ 0) (hb : Below w.heap.size w w') : DecD l w (.returned (.tuple #[.agg zf, .int .i64 k])) w' :=
  ⟨0, 0, 0, 0, 0, 0, 0, 0, 0, 0, 0, 0, none, 0, [], by rw [h]; rfl, cover ⟨by simp [toD, h, hk], by simp [frD, h, hk], by simp [daD, h, hk]⟩, OwnB.nil _ _, hb⟩

set_option maxRecDepth 100000 in
set_option maxHeartbeats 3200000 in
theorem dec_any (T : Array Value) (A : Option Addr) (n c B : Nat) (l : List Int) (w : World) (ht : Made T) (hr : Row w B A n l) (hB : B ≤ w.heap.size) (hb : Bts l) (hc : n ≤ c) (hmax : n ≤ 140737488355328) (hcm : c ≤ 9223372036854775807) :
    Calls Try.prog 16 #[.agg T, .slice A n c] w (DecD l w) := by
  obtain rfl : l.length = n := hr.len
  obtain ⟨w1, hw1⟩ : ∃ w1, Hid (w1 = (w.alloc (.cells T 26)).alloc (.cells zf 36)) := ⟨_, cover rfl⟩
  have hs1 : w1.heap.size = w.heap.size + 2 := by rw [hw1.out]; simp
  have H1 : Hid (Below w.heap.size w w1) := cover (by rw [hw1.out]; exact ((Below.refl _ _).alloc (Nat.le_refl _) _).alloc (by simp) _)
  have T1 : Hid (TabIn w1 w.heap.size T tabRow) := cover (by
    rw [hw1.out]
    exact TabIn.alloc ⟨heap_alloc_new _ _, ht⟩ _)
  have G1 : Hid (w1.heap[w.heap.size + 1]? = some (.cells zf 36 (0, 0))) := cover (by
    rw [hw1.out]
    have h := heap_alloc_new (w.alloc (.cells T 26)) (.cells zf 36)
    simpa using h)
  have hr1 : Row w1 B A l.length l := hr.below (H1.out.mono hB)
  have HR := cover hr1
  have HB := cover hb
  have HTT := cover ht
  have hs1' : w.heap.size + 2 ≤ w1.heap.size := by omega
  clear hr hr1 hb ht hs1
  by_cases h64 : l.length < 64
  · have h64I : (l.length : Int) < 64 := by omega
    have hE := cover (errD_short h64)
    go_enter Try.func16, Try.ntmps16
    go_wp2_with fail
    rw [← hw1.out]
    exact bodyPost_ret (v := .tuple #[.agg zf, .int .i64 2]) (results_cell_two (by rfl) _ _ (w.heap.size + 1) _ zf (0, 0) _ (.int .i64 2) rfl G1.out rfl Try.underlying36 rfl frm_size) rfl (DecD.no hE.out (by decide) H1.out)
  · have h64I : ¬ (l.length : Int) < 64 := by omega
    go_enter Try.func16, Try.ntmps16
    go_wp2_with (rw [← hw1.out]; refine load_tab rfl _ rfl _ _ _ T1.out rfl ?_)
    refine (open_made T A l.length c B l w1 HTT.out HR.out (by omega) HB.out hc hmax hcm).mono ?_
    rintro e w2 ⟨A2, c2, rfl, ho2, hb2⟩
    have hs2 := hb2.size
    have H2 := cover (H1.out.trans (hb2.mono (by omega)))
    have G2 := cover ((hb2.block (w.heap.size + 1) (by omega)).trans G1.out)
    have HO2 := cover ho2
    have hcap2 := own_cap ho2
    clear hb2 ho2
    rcases hok : okOpen l with _ | _
    · have hE := cover (errD_sum h64 hok)
      go_wp2_with (refine wpList_store_row rfl _ _ _ rfl (w.heap.size + 1) zf rfl rfl 36 zf G2.out frm_size rfl zf_one ?_)
      exact bodyPost_ret (v := .tuple #[.agg zf, .int .i64 5]) (results_cell_two (by rfl) _ _ (w.heap.size + 1) _ zf (0, 0) _ (.int .i64 5) rfl (setRow_heap _ _ _ _ _ _ G2.out) rfl Try.underlying36 rfl frm_size) rfl (DecD.no hE.out (by decide) (Go.below_setRow H2.out (by omega) _))
    · obtain ⟨x, hx⟩ : ∃ x, Hid (openB l = x) := ⟨_, cover rfl⟩
      have hxb : Hid (Bts x) := cover (by rw [← hx.out]; exact openB_bts HB.out)
      have hxl : x.length = l.length - 4 := by rw [← hx.out]; exact openB_length hok
      have HOK := cover hok
      rw [hx.out] at HO2 hcap2 ⊢
      have HXL := cover hxl
      have h60 : 60 ≤ x.length := by omega
      have hxm : x.length ≤ 140737488355328 := by omega
      clear hok hxl
      go_wp2_with fail
      refine (read_any A2 c2 w2.heap.size x w2 HO2.out.row (Nat.le_refl _) hxb h60 hxm).mono ?_
      rintro e w3 ⟨t0, t1, t2, t3, t4, t5, f0, f1, f2, f3, f4, f5, A3, c3, dd, he, hfr, ho3, hb3⟩
      have hs3 := hb3.size
      have H3 := cover (H2.out.trans (hb3.mono (by omega)))
      have G3 := cover ((hb3.block (w.heap.size + 1) (by omega)).trans G2.out)
      have HO3 := cover ho3
      clear hb3 ho3
      obtain ⟨w4, hw4⟩ : ∃ w4, Hid (w4 = w3.alloc (.cells #[.int .u8 t0, .int .u8 t1, .int .u8 t2, .int .u8 t3, .int .u8 t4, .int .u8 t5, .int .u8 f0, .int .u8 f1, .int .u8 f2, .int .u8 f3, .int .u8 f4, .int .u8 f5, .slice A3 dd.length c3] 36)) := ⟨_, cover rfl⟩
      have hb34 : Below w3.heap.size w3 w4 := by rw [hw4.out]; exact (Below.refl _ _).alloc (Nat.le_refl _) _
      have H4 := cover (H3.out.trans (hb34.mono (by omega)))
      have G4 := cover ((hb34.block (w.heap.size + 1) (by omega)).trans G3.out)
      have N4 : Hid (w4.heap[w3.heap.size]? = some (.cells #[.int .u8 t0, .int .u8 t1, .int .u8 t2, .int .u8 t3, .int .u8 t4, .int .u8 t5, .int .u8 f0, .int .u8 f1, .int .u8 f2, .int .u8 f3, .int .u8 f4, .int .u8 f5, .slice A3 dd.length c3] 36 (0, 0))) := cover (by rw [hw4.out]; exact heap_alloc_new _ _)
      have HO4 := cover (own_below HO3.out hb34)
      clear hb34
      rcases hf : okF x with _ | _
      · rw [hf] at he
        subst he
        have hE := cover (errD_form h64 HOK.out (by rw [hx.out]; exact hf))
        clear hf
        go_wp2_with (rw [← hw4.out]; refine wpList_store_row rfl _ _ _ rfl (w.heap.size + 1) zf rfl rfl 36 zf G4.out frm_size rfl zf_one ?_)
        exact bodyPost_ret (v := .tuple #[.agg zf, .int .i64 4]) (results_cell_two (by rfl) _ _ (w.heap.size + 1) _ zf (0, 0) _ (.int .i64 4) rfl (setRow_heap _ _ _ _ _ _ G4.out) rfl Try.underlying36 rfl frm_size) rfl (DecD.no hE.out (by decide) (Go.below_setRow H4.out (by omega) _))
      · rw [hf] at he
        subst he
        have hE := cover (errD_ok h64 HOK.out (by rw [hx.out]; exact hf))
        clear hf
        go_wp2_with (first
          | (rw [← hw4.out]; refine wpList_load_row rfl _ _ rfl w3.heap.size rfl 36 #[.int .u8 t0, .int .u8 t1, .int .u8 t2, .int .u8 t3, .int .u8 t4, .int .u8 t5, .int .u8 f0, .int .u8 f1, .int .u8 f2, .int .u8 f3, .int .u8 f4, .int .u8 f5, .slice A3 dd.length c3] (0, 0) _ N4.out Try.underlying36 rfl frm_size ?_)
          | (refine wpList_store_row rfl _ _ _ rfl (w.heap.size + 1) #[.int .u8 t0, .int .u8 t1, .int .u8 t2, .int .u8 t3, .int .u8 t4, .int .u8 t5, .int .u8 f0, .int .u8 f1, .int .u8 f2, .int .u8 f3, .int .u8 f4, .int .u8 f5, .slice A3 dd.length c3] rfl rfl 36 zf G4.out frm_size rfl (frm_one t0 t1 t2 t3 t4 t5 f0 f1 f2 f3 f4 f5 A3 dd.length c3) ?_))
        exact bodyPost_ret (v := .tuple #[.agg #[.int .u8 t0, .int .u8 t1, .int .u8 t2, .int .u8 t3, .int .u8 t4, .int .u8 t5, .int .u8 f0, .int .u8 f1, .int .u8 f2, .int .u8 f3, .int .u8 f4, .int .u8 f5, .slice A3 dd.length c3], .int .i64 0]) (results_cell_two (by rfl) _ _ (w.heap.size + 1) _ #[.int .u8 t0, .int .u8 t1, .int .u8 t2, .int .u8 t3, .int .u8 t4, .int .u8 t5, .int .u8 f0, .int .u8 f1, .int .u8 f2, .int .u8 f3, .int .u8 f4, .int .u8 f5, .slice A3 dd.length c3] (0, 0) _ (.int .i64 0) rfl (setRow_heap _ _ _ _ _ _ G4.out) rfl Try.underlying36 rfl frm_size) rfl
          ⟨t0, t1, t2, t3, t4, t5, f0, f1, f2, f3, f4, f5, A3, c3, dd, by rw [hE.out], cover ⟨by unfold toD; rw [if_pos hE.out, hx.out, hfr.out.1], by unfold frD; rw [if_pos hE.out, hx.out, hfr.out.2.1], by unfold daD; rw [if_pos hE.out, hx.out, hfr.out.2.2]⟩,
            by
              have h1 := own_base HO4.out (show w.heap.size + 2 ≤ w2.heap.size by omega)
              have h2 := World.ownsRow.kept h1 (setRow_only w4 (w.heap.size + 1) #[.int .u8 t0, .int .u8 t1, .int .u8 t2, .int .u8 t3, .int .u8 t4, .int .u8 t5, .int .u8 f0, .int .u8 f1, .int .u8 f2, .int .u8 f3, .int .u8 f4, .int .u8 f5, .slice A3 dd.length c3]) (.inr (fun e => by have := (h1.lt (w.heap.size + 1) e).1; omega))
              exact own_base h2 (by omega), Go.below_setRow H4.out (by omega) _⟩
end Go.Proofs.Ytbpmhfekjihhhaa
