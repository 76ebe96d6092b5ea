/- The walk of MacFrames. -/
import Derived.Deep.CutRange
import Derived.Test.YtbpmhfekjihhhaaMAwake
import Derived.Test.YtbpmhfekjihhhaaMREnc
import Derived.Test.YtbpmhfekjihhhaaMRDec
namespace Go.Proofs.Ytbpmhfekjihhhaa
open Go.RowKit
set_option linter.unusedVariables false

/-- Decode, the program's or the document's, as one word: the frame's letters are the row's own -/
theorem same_letters {t0 t1 t2 t3 t4 t5 f0 f1 f2 f3 f4 f5 x0 x1 x2 x3 x4 x5 y0 y1 y2 y3 y4 y5 : Int} {d dd L M D : List Int} (h1 : [t0, t1, t2, t3, t4, t5] = L ∧ [f0, f1, f2, f3, f4, f5] = M ∧ d = D) (h2 : [x0, x1, x2, x3, x4, x5] = L ∧ [y0, y1, y2, y3, y4, y5] = M ∧ dd = D) :
    x0 = t0 ∧ x1 = t1 ∧ x2 = t2 ∧ x3 = t3 ∧ x4 = t4 ∧ x5 = t5 ∧ y0 = f0 ∧ y1 = f1 ∧ y2 = f2 ∧ y3 = f3 ∧ y4 = f4 ∧ y5 = f5 ∧ dd = d := by
  obtain ⟨a1, a2, a3⟩ := h1
  obtain ⟨b1, b2, b3⟩ := h2
  rw [← b1] at a1
  rw [← b2] at a2
  rw [← b3] at a3
  simp only [List.cons.injEq, and_true] at a1 a2
  obtain ⟨c0, c1, c2, c3, c4, c5⟩ := a1
  obtain ⟨e0, e1, e2, e3, e4, e5⟩ := a2
  exact ⟨c0.symm, c1.symm, c2.symm, c3.symm, c4.symm, c5.symm, e0.symm, e1.symm, e2.symm, e3.symm, e4.symm, e5.symm, a3.symm⟩

set_option maxRecDepth 100000 in
set_option maxHeartbeats 3200000 in
theorem frames_in (t0 t1 t2 t3 t4 t5 f0 f1 f2 f3 f4 f5 : Int) (A : Option Addr) (n c : Nat) (d : List Int) (A' : Option Addr) (n' c' : Nat) (l : List Int) (w w2 : World) (h1 : Bts [t0, t1, t2, t3, t4, t5]) (h2 : Bts [f0, f1, f2, f3, f4, f5]) (hc : n ≤ c) (hcm : c ≤ maxLen) (hr : Row w2 w.heap.size A n d) (hd : Bts d) (hnil : A = none → c = 0)
    (hc' : n' ≤ c') (hcm' : c' ≤ maxLen) (hr' : Row w2 w.heap.size A' n' l) (hl : Bts l) (hn : n ≤ 2000) (hn' : n' ≤ 2000)
    (hw2 : Hid (w2 = w.alloc (.cells #[.int .u8 t0, .int .u8 t1, .int .u8 t2, .int .u8 t3, .int .u8 t4, .int .u8 t5, .int .u8 f0, .int .u8 f1, .int .u8 f2, .int .u8 f3, .int .u8 f4, .int .u8 f5, .slice A n c] 36))) :
    Calls Try.prog 4 #[.agg #[.int .u8 t0, .int .u8 t1, .int .u8 t2, .int .u8 t3, .int .u8 t4, .int .u8 t5, .int .u8 f0, .int .u8 f1, .int .u8 f2, .int .u8 f3, .int .u8 f4, .int .u8 f5, .slice A n c], .slice A' n' c'] w fun e w' => e = .returned (.bool true) ∧ Below w.heap.size w w' := by
  unfold maxLen at hcm hcm'
  have i1 : ¬ ((2000 : Int) < (n : Int)) := by omega
  have i2 : ¬ ((2000 : Int) < (n' : Int)) := by omega
  have HH1 := cover (And.intro h1 (And.intro h2 (And.intro hd (And.intro hl hnil))))
  have H2 : Hid (Below w.heap.size w w2) := cover (by rw [hw2.out]; exact (Below.refl _ _).alloc (Nat.le_refl _) _)
  have G2 : Hid (w2.heap[w.heap.size]? = some (.cells #[.int .u8 t0, .int .u8 t1, .int .u8 t2, .int .u8 t3, .int .u8 t4, .int .u8 t5, .int .u8 f0, .int .u8 f1, .int .u8 f2, .int .u8 f3, .int .u8 f4, .int .u8 f5, .slice A n c] 36 (0, 0))) := cover (by rw [hw2.out]; exact heap_alloc_new _ _)
  have hs2 : w.heap.size < w2.heap.size := block_lt G2.out
  have R2 := cover hr
  have S2 := cover hr'
  clear hr hr' h1 h2 hd hl hnil
  go_enter Try.func4, Try.ntmps4
  go_wp2_with fail
  rw [← hw2.out]
  refine (awake_any w2).mono ?_
  rintro e w3 ⟨rfl, hb3⟩
  have hs3 := hb3.size
  have H3 := cover (H2.out.trans (hb3.mono (by omega)))
  have g3 := (hb3.block w.heap.size hs2).trans G2.out
  have G3 := cover g3
  have R3 := cover (R2.out.below (hb3.mono (by omega)))
  have S3 := cover (S2.out.below (hb3.mono (by omega)))
  have k3 := (FrmIn.ofHeap g3).dat
  clear hb3 g3
  go_wp2_with fail
  refine (make_any _).mono ?_
  rintro e w4 ⟨T, rfl, hT, hb4⟩
  have hs4 := hb4.size
  have hbel4 := H3.out.trans (hb4.mono (by omega))
  have hs04 := hbel4.size
  have G4 := cover ((hb4.block w.heap.size (by omega)).trans G3.out)
  have R4 := cover (R3.out.below (hb4.mono (by omega)))
  have S4 := cover (S3.out.below (hb4.mono (by omega)))
  clear k3
  go_wp2_with (first
    | (refine new_var rfl _ rfl _ _ (alloc_tab _) ?_)
    | (refine store_tab (w0 := w4) rfl _ _ rfl w4.heap.size w4.heap.size T tabRow rfl rfl hT (heap_alloc_new _ _) ((Below.refl _ _).alloc (Nat.le_refl _) _) (Nat.le_refl _) ?_; intro w5 ht5 hb5; have hs5 := hb5.size; have hlt5 := ht5.lt; have H5 := cover (hbel4.trans (hb5.mono hs04)); have G5 := cover ((hb5.block w.heap.size (by omega)).trans G4.out); have R5 := cover (R4.out.below (hb5.mono (by omega))); have S5 := cover (S4.out.below (hb5.mono (by omega))); have T5 := cover ht5; clear ht5 hb5)
    | (refine load_tab rfl _ rfl _ _ _ T5.out rfl ?_)
    | (refine wpList_load_row rfl _ _ rfl w.heap.size rfl 36 #[.int .u8 t0, .int .u8 t1, .int .u8 t2, .int .u8 t3, .int .u8 t4, .int .u8 t5, .int .u8 f0, .int .u8 f1, .int .u8 f2, .int .u8 f3, .int .u8 f4, .int .u8 f5, .slice A n c] (0, 0) _ G5.out Try.underlying36 rfl frm_size ?_))
  refine (enc_any T t0 t1 t2 t3 t4 t5 f0 f1 f2 f3 f4 f5 A n c w.heap.size d w5 hT R5.out (by omega) hc HH1.out.2.2.2.2 HH1.out.1 HH1.out.2.1 HH1.out.2.2.1).mono ?_
  rintro e w6 ⟨A6, c6, he, ho6, hb6⟩
  obtain ⟨E, hE⟩ : ∃ E, Hid (encE f0 d = E) := ⟨_, cover rfl⟩
  obtain ⟨O, hO⟩ : ∃ O, Hid (encO [t0, t1, t2, t3, t4, t5] [f0, f1, f2, f3, f4, f5] d f0 = O) := ⟨_, cover rfl⟩
  rw [hE.out, hO.out] at he
  rw [hO.out] at ho6
  subst he
  have hs6 := hb6.size
  have H6 := cover (H5.out.trans (hb6.mono (by omega)))
  have G6 := cover ((hb6.block w.heap.size (by omega)).trans G5.out)
  have R6 := cover (R5.out.below (hb6.mono (by omega)))
  have S6 := cover (S5.out.below (hb6.mono (by omega)))
  have T6 := cover (T5.out.below hb6 T5.out.lt)
  have P6 : Hid (Row w6 w6.heap.size A6 O.length O) := cover ho6.row
  clear hb6 ho6
  go_wp2_with (refine wpList_load_row rfl _ _ rfl w.heap.size rfl 36 #[.int .u8 t0, .int .u8 t1, .int .u8 t2, .int .u8 t3, .int .u8 t4, .int .u8 t5, .int .u8 f0, .int .u8 f1, .int .u8 f2, .int .u8 f3, .int .u8 f4, .int .u8 f5, .slice A n c] (0, 0) _ G6.out Try.underlying36 rfl frm_size ?_)
  refine (ref_enc_any t0 t1 t2 t3 t4 t5 f0 f1 f2 f3 f4 f5 A n c w.heap.size d w6 R6.out (by omega) hc HH1.out.2.2.2.2 HH1.out.1 HH1.out.2.1 HH1.out.2.2.1).mono ?_
  rintro e w7 ⟨A7, c7, he, ho7, hb7⟩
  rw [hE.out, hO.out] at he
  rw [hO.out] at ho7
  subst he
  have hs7 := hb7.size
  have H7 := cover (H6.out.trans (hb7.mono (by omega)))
  have S7 := cover (S6.out.below (hb7.mono (by omega)))
  have T7 := cover (T6.out.below hb7 T6.out.lt)
  have P7 := cover (P6.out.below hb7)
  have Q7 : Hid (Row w7 w7.heap.size A7 O.length O) := cover ho7.row
  clear hb7 ho7
  go_wp2_with (refine load_tab rfl _ rfl _ _ _ T7.out rfl ?_)
  refine (dec_any T A' n' c' w.heap.size l w7 hT S7.out (by omega) HH1.out.2.2.2.1 hc' (by omega) (by omega)).mono ?_
  rintro e w8 ⟨p0, p1, p2, p3, p4, p5, q0, q1, q2, q3, q4, q5, A8, c8, dd, he, hp, ho8, hb8⟩
  obtain ⟨D, hD⟩ : ∃ D, Hid (errD l = D) := ⟨_, cover rfl⟩
  rw [hD.out] at he
  subst he
  have hs8 := hb8.size
  have H8 := cover (H7.out.trans (hb8.mono (by omega)))
  have S8 := cover (S7.out.below (hb8.mono (by omega)))
  have P8 := cover (P7.out.below (hb8.mono (by omega)))
  have Q8 := cover (Q7.out.below hb8)
  have V8 : Hid (Row w8 w8.heap.size A8 dd.length dd) := cover ho8.row
  obtain ⟨w9, hw9⟩ : ∃ w9, Hid (w9 = w8.alloc (.cells #[.int .u8 p0, .int .u8 p1, .int .u8 p2, .int .u8 p3, .int .u8 p4, .int .u8 p5, .int .u8 q0, .int .u8 q1, .int .u8 q2, .int .u8 q3, .int .u8 q4, .int .u8 q5, .slice A8 dd.length c8] 36)) := ⟨_, cover rfl⟩
  have hb89 : Below w8.heap.size w8 w9 := by rw [hw9.out]; exact (Below.refl _ _).alloc (Nat.le_refl _) _
  have hs9 : w9.heap.size = w8.heap.size + 1 := by rw [hw9.out]; simp
  have H9 := cover (H8.out.trans (hb89.mono (by omega)))
  have S9 := cover (S8.out.below (hb89.mono (by omega)))
  have P9 := cover (P8.out.below (hb89.mono (by omega)))
  have Q9 := cover (Q8.out.below (hb89.mono (by omega)))
  have V9 := cover (V8.out.below hb89)
  have M9 : Hid (w9.heap[w8.heap.size]? = some (.cells #[.int .u8 p0, .int .u8 p1, .int .u8 p2, .int .u8 p3, .int .u8 p4, .int .u8 p5, .int .u8 q0, .int .u8 q1, .int .u8 q2, .int .u8 q3, .int .u8 q4, .int .u8 q5, .slice A8 dd.length c8] 36 (0, 0))) := cover (by rw [hw9.out]; exact heap_alloc_new _ _)
  clear hb8 ho8 hb89
  go_wp2_with fail
  rw [← hw9.out]
  refine (ref_dec_any A' n' c' w.heap.size l w9 S9.out (by omega) HH1.out.2.2.2.1 hc' (by omega) (by omega)).mono ?_
  rintro e w10 ⟨x0, x1, x2, x3, x4, x5, y0, y1, y2, y3, y4, y5, A10, c10, dd2, he, hp2, ho10, hb10⟩
  rw [hD.out] at he
  obtain ⟨rfl, rfl, rfl, rfl, rfl, rfl, rfl, rfl, rfl, rfl, rfl, rfl, rfl⟩ := same_letters hp.out hp2.out
  subst he
  have hs10 := hb10.size
  have H10 := cover (H9.out.trans (hb10.mono (by omega)))
  have P10 := cover (P9.out.below (hb10.mono (by omega)))
  have Q10 := cover (Q9.out.below (hb10.mono (by omega)))
  have V10 := cover (V9.out.below (hb10.mono (by omega)))
  have M10 := cover ((hb10.block w8.heap.size (by omega)).trans M9.out)
  have U10 : Hid (Row w10 w10.heap.size A10 dd2.length dd2) := cover ho10.row
  obtain ⟨w11, hw11⟩ : ∃ w11, Hid (w11 = w10.alloc (.cells #[.int .u8 x0, .int .u8 x1, .int .u8 x2, .int .u8 x3, .int .u8 x4, .int .u8 x5, .int .u8 y0, .int .u8 y1, .int .u8 y2, .int .u8 y3, .int .u8 y4, .int .u8 y5, .slice A10 dd2.length c10] 36)) := ⟨_, cover rfl⟩
  have hb11 : Below w10.heap.size w10 w11 := by rw [hw11.out]; exact (Below.refl _ _).alloc (Nat.le_refl _) _
  have hs11 : w11.heap.size = w10.heap.size + 1 := by rw [hw11.out]; simp
  have H11 := cover (H10.out.trans (hb11.mono (by omega)))
  have P11 := cover (P10.out.below (hb11.mono (by omega)))
  have Q11 := cover (Q10.out.below (hb11.mono (by omega)))
  have V11 := cover (V10.out.below (hb11.mono (by omega)))
  have U11 := cover (U10.out.below hb11)
  have M11 := cover ((hb11.block w8.heap.size (by omega)).trans M10.out)
  have N11 : Hid (w11.heap[w10.heap.size]? = some (.cells #[.int .u8 x0, .int .u8 x1, .int .u8 x2, .int .u8 x3, .int .u8 x4, .int .u8 x5, .int .u8 y0, .int .u8 y1, .int .u8 y2, .int .u8 y3, .int .u8 y4, .int .u8 y5, .slice A10 dd2.length c10] 36 (0, 0))) := cover (by rw [hw11.out]; exact heap_alloc_new _ _)
  have HOL : Hid (O.length ≤ 9223372036854775807) := cover (by
    rw [← hO.out]; unfold encO; split
    · rw [enc_length rfl rfl]; have := R6.out.len; omega
    · simp)
  have HDL : Hid (dd2.length ≤ 9223372036854775807) := cover (by
    obtain ⟨_, _, h3⟩ := hp2.out
    rw [h3]; unfold daD; split
    · unfold daF; split
      · rw [List.length_take, List.length_drop]; unfold openB; split
        · rw [List.length_take]; have := S9.out.len; omega
        · simp
      · simp
    · simp)
  clear hb10 ho10 hb11
  go_upto_region 10 with fail
  rw [← hw11.out]
  have hn8 := FrmIn.ofHeap M11.out
  have hm8 := FrmIn.ofHeap N11.out
  have c1 := hn8.to.all
  have c2 := hn8.fr.all6
  have c3 := hn8.dat
  have c4 := hm8.to.all
  have c5 := hm8.fr.all6
  have c6' := hm8.dat
  clear hn8 hm8
  go_wp2_with fail
  refine (same_any A6 A7 O.length c6 c7 _ _ O O w11 P11.out Q11.out HOL.out).mono ?_
  rintro e w12 ⟨he, dn, rfl⟩
  rw [decide_eq_true rfl] at he
  subst he
  go_wp2_with fail
  refine (sameF_any x0 x1 x2 x3 x4 x5 y0 y1 y2 y3 y4 y5 A8 A10 dd2.length c8 c10 _ _ dd2 (w11.drewN dn) (V11.out.drewN dn) (U11.out.drewN dn) (by show _ ≤ w11.heap.size; omega) (by show _ ≤ w11.heap.size; omega) HDL.out).mono ?_
  rintro e w13 ⟨rfl, hb13⟩
  go_wp2
  go_ret
  exact ⟨rfl, (below_drewN H11.out dn).trans (hb13.mono (by show _ ≤ w11.heap.size; have := H11.out.size; omega))⟩
end Go.Proofs.Ytbpmhfekjihhhaa
