/- The walk of FieldClasses. -/
import Derived.Test.YtkidacfodpoapaaGAwake
import Derived.Test.YtkidacfodpoapaaOFrame
namespace Go.Proofs.Ytkidacfodpoapaa
open Go.RowKit
set_option linter.unusedVariables false
set_option linter.unusedSimpArgs false

theorem putC_le (c : CV) : (putC c).1.length ≤ 3 := by unfold putC; split <;> simp [encC]
theorem putS_le (s : Int) (l : List Int) : (putS s l).1.length ≤ l.length + 1 := by unfold putS; split <;> simp
theorem getS_le (l : List Int) : (getS l).2.1.length ≤ l.length := by cases l <;> simp [getS]

set_option maxRecDepth 100000 in
set_option maxHeartbeats 6400000 in
theorem walk_FieldClasses (q : CV) (s : Int) (A : Option Addr) (n c : Nat) (l : List Int) (w : World) (hs : (Lit.int .i64 s).wf = true) (hlc : n ≤ c) (hcm : c ≤ maxLen) (hr : Row w w.heap.size A n l ∧ Bts l ∧ (A = none → c = 0)) :
    Calls Try.prog 5 #[.agg #[.int .i64 q.fm, .int .i64 q.ty, .int .i64 q.wd], .int .i64 s, .slice A n c] w fun e w' => e = .returned (.bool true) ∧ Below w.heap.size w w' := by
  obtain ⟨hrow, hb, hnil⟩ := hr
  obtain rfl : l.length = n := hrow.len
  have HR := cover hrow
  have HB := cover hb
  have HN := cover hnil
  have hs63 : Hid (s ≤ 9223372036854775807) := cover (by have := i64_of_wf hs; omega)
  clear hrow hb hnil hs
  obtain ⟨w1, hw1⟩ : ∃ w1, Hid (w1 = w.alloc (.cells #[.int .i64 q.fm, .int .i64 q.ty, .int .i64 q.wd] 48)) := ⟨_, cover rfl⟩
  have H1 : Hid (Below w.heap.size w w1) := cover (by rw [hw1.out]; exact (Below.refl _ _).alloc (Nat.le_refl _) _)
  have G1 : Hid (w1.heap[w.heap.size]? = some (.cells #[.int .i64 q.fm, .int .i64 q.ty, .int .i64 q.wd] 48 (0, 0))) := cover (by rw [hw1.out]; exact heap_alloc_new _ _)
  have hs1 : w.heap.size < w1.heap.size := block_lt G1.out
  go_enter Try.func5, Try.ntmps5
  go_wp2_with fail
  rw [← hw1.out]
  refine (awake_any w1).mono ?_
  rintro e w2 ⟨rfl, hb2⟩
  have H2 := cover (H1.out.trans (hb2.mono (by omega)))
  have G2 := cover ((hb2.block _ hs1).trans G1.out)
  have hs2 : w.heap.size < w2.heap.size := block_lt G2.out
  clear hb2 G1 H1
  by_cases hbig : 100 < l.length
  · have hbig' : (100 : Int) < (l.length : Int) := by omega
    go_wp2
    go_ret
    exact ⟨rfl, H2.out⟩
  have hbig' : ¬ (100 : Int) < (l.length : Int) := by omega
  have hmax : l.length ≤ 100 := by omega
  obtain ⟨c0, c1, c2⟩ := class_cells G2.out
  go_wp2_with fail
  refine (putClass_any q w2).mono ?_
  obtain ⟨⟨x, e1⟩, hx⟩ : ∃ y, Hid (putC q = y) := ⟨_, cover rfl⟩
  have hxl : x.length ≤ 3 := by have := putC_le q; rw [hx.out] at this; exact this
  rw [hx.out]
  rintro e w3 ⟨A3, c3, rfl, ho3, hb3⟩
  have H3 := cover (H2.out.trans (hb3.mono (by omega)))
  have G3 := cover ((hb3.block _ hs2).trans G2.out)
  have O3 := cover ho3
  have hs3 : w.heap.size < w3.heap.size := block_lt G3.out
  clear hb3 ho3 c0 c1 c2 G2 H2
  go_wp2_with (refine wpList_load_row rfl _ _ rfl w.heap.size rfl 48 #[.int .i64 q.fm, .int .i64 q.ty, .int .i64 q.wd] (0, 0) _ G3.out Try.underlying48 rfl ref_class_size ?_)
  refine (ref_putClass_any q w3).mono ?_
  rw [hx.out]
  rintro e w4 ⟨A4, c4, rfl, ho4, hb4⟩
  have H4 := cover (H3.out.trans (hb4.mono (by omega)))
  have O34 := cover (ownB_below O3.out hb4)
  have O4 := cover ho4
  have hs4 := hb4.size
  clear hb4 ho4 G3 O3 H3
  go_wp2_with fail
  refine (getClass_any A l.length c w.heap.size l w4 (HR.out.below H4.out) (by omega) HB.out (by omega)).mono ?_
  obtain ⟨⟨p, e2⟩, hp⟩ : ∃ y, Hid (getC l = y) := ⟨_, cover rfl⟩
  rw [hp.out]
  rintro e w5 ⟨rfl, hb5⟩
  obtain ⟨w6, hw6⟩ : ∃ w6, Hid (w6 = (w5.alloc (.cells zc 28)).setRow w5.heap.size #[.int .i64 p.fm, .int .i64 p.ty, .int .i64 p.wd]) := ⟨_, cover rfl⟩
  have P6 : Hid (w6.heap[w5.heap.size]? = some (.cells #[.int .i64 p.fm, .int .i64 p.ty, .int .i64 p.wd] 28 (0, 0))) := cover (by rw [hw6.out]; exact setRow_heap _ _ _ _ _ _ (heap_alloc_new _ _))
  have hb6 : Below w5.heap.size w5 w6 := by rw [hw6.out]; exact Go.below_setRow ((Below.refl _ _).alloc (Nat.le_refl _) _) (Nat.le_refl _) _
  have hs5 := hb5.size
  have hb46 := hb5.trans (hb6.mono hs5)
  have H6 := cover (H4.out.trans (hb46.mono (by omega)))
  have O36 := cover (ownB_below O34.out hb46)
  have O46 := cover (ownB_below O4.out hb46)
  have hs6 : w5.heap.size < w6.heap.size := block_lt P6.out
  clear hb5 hb6 hb46 O34 O4 H4
  go_wp2_with (refine wpList_store_row rfl _ _ _ rfl w5.heap.size #[.int .i64 p.fm, .int .i64 p.ty, .int .i64 p.wd] rfl rfl 28 zc (heap_alloc_new _ _) class_size rfl (class_one _ _ _) ?_; rw [← hw6.out])
  refine (ref_getClass_any A l.length c w.heap.size l w6 (HR.out.below H6.out) (by omega) HB.out (by omega)).mono ?_
  rw [hp.out]
  rintro e w7 ⟨rfl, hb7⟩
  obtain ⟨w8, hw8⟩ : ∃ w8, Hid (w8 = (w7.alloc (.cells zc 48)).setRow w7.heap.size #[.int .i64 p.fm, .int .i64 p.ty, .int .i64 p.wd]) := ⟨_, cover rfl⟩
  have Q8 : Hid (w8.heap[w7.heap.size]? = some (.cells #[.int .i64 p.fm, .int .i64 p.ty, .int .i64 p.wd] 48 (0, 0))) := cover (by rw [hw8.out]; exact setRow_heap _ _ _ _ _ _ (heap_alloc_new _ _))
  have hb8 : Below w7.heap.size w7 w8 := by rw [hw8.out]; exact Go.below_setRow ((Below.refl _ _).alloc (Nat.le_refl _) _) (Nat.le_refl _) _
  have hs7 := hb7.size
  have hb68 := hb7.trans (hb8.mono hs7)
  have H8 := cover (H6.out.trans (hb68.mono (by omega)))
  have P8 := cover ((hb68.block _ hs6).trans P6.out)
  have O38 := cover (ownB_below O36.out hb68)
  have O48 := cover (ownB_below O46.out hb68)
  have hs8 : w7.heap.size < w8.heap.size := block_lt Q8.out
  clear hb7 hb8 hb68 O36 O46 H6 P6
  go_wp2_with (refine wpList_store_row rfl _ _ _ rfl w7.heap.size #[.int .i64 p.fm, .int .i64 p.ty, .int .i64 p.wd] rfl rfl 48 zc (heap_alloc_new _ _) ref_class_size rfl (class_one _ _ _) ?_; rw [← hw8.out])
  refine (same_any A3 A4 x.length c3 c4 _ _ x x w8 O38.out.row O48.out.row (by omega)).mono ?_
  rintro e w9 ⟨rfl, d9, hw9⟩
  rw [decide_eq_true rfl]
  have hb9 : Below w8.heap.size w8 w9 := by rw [hw9]; exact below_drewN (Below.refl _ _) d9
  have H9 := cover (H8.out.trans (hb9.mono (by omega)))
  have P9 := cover ((hb9.block _ (by omega)).trans P8.out)
  have Q9 := cover ((hb9.block _ hs8).trans Q8.out)
  have hs9 := hb9.size
  clear hw9 hb9 O38 O48 H8 P8 Q8
  obtain ⟨p0, p1, p2⟩ := class_cells P9.out
  obtain ⟨q0, q1, q2⟩ := class_cells Q9.out
  go_upto_region 11 with fail
  go_wp2_with fail
  clear p0 p1 p2 q0 q1 q2 P9 Q9
  refine (putStatus_any s A c w.heap.size l w9 (HR.out.below H9.out) (by omega) hlc HN.out (by omega)).mono ?_
  obtain ⟨⟨u, e3⟩, hu⟩ : ∃ y, Hid (putS s l = y) := ⟨_, cover rfl⟩
  have hul : u.length ≤ 101 := by have := putS_le s l; rw [hu.out] at this; exact Nat.le_trans this (by omega)
  rw [hu.out]
  rintro e w10 ⟨A10, c10, rfl, ho10, hb10⟩
  have H10 := cover (H9.out.trans (hb10.mono (by omega)))
  have O10 := cover ho10
  have hs10 := hb10.size
  clear hb10 ho10 H9
  go_wp2_with fail
  refine (ref_putStatus_any s A c w.heap.size l w10 (HR.out.below H10.out) (by omega) hlc HN.out (by omega)).mono ?_
  rw [hu.out]
  rintro e w11 ⟨A11, c11, rfl, ho11, hb11⟩
  have H11 := cover (H10.out.trans (hb11.mono (by omega)))
  have O10' := cover (ownB_below O10.out hb11)
  have O11 := cover ho11
  have hs11 := hb11.size
  clear hb11 ho11 H10 O10
  go_wp2_with fail
  refine (getStatus_any A c w.heap.size l w11 (HR.out.below H11.out) (by omega) HB.out (by omega)).mono ?_
  obtain ⟨⟨a, m, k⟩, hg⟩ : ∃ y, Hid (getS l = y) := ⟨_, cover rfl⟩
  have hml : m.length ≤ 100 := by have := getS_le l; rw [hg.out] at this; exact Nat.le_trans this (by omega)
  rw [hg.out]
  rintro e w12 ⟨A12, c12, rfl, ho12, hb12⟩
  have H12 := cover (H11.out.trans (hb12.mono (by omega)))
  have O10a := cover (ownB_below O10'.out hb12)
  have O11a := cover (ownB_below O11.out hb12)
  have O12 := cover ho12
  have hs12 := hb12.size
  clear hb12 ho12 H11 O10' O11
  go_wp2_with fail
  refine (ref_getStatus_any A c w.heap.size l w12 (HR.out.below H12.out) (by omega) hlc HB.out (by omega)).mono ?_
  rw [hg.out]
  rintro e w13 ⟨A13, c13, rfl, ho13, hb13⟩
  have H13 := cover (H12.out.trans (hb13.mono (by omega)))
  have O10b := cover (ownB_below O10a.out hb13)
  have O11b := cover (ownB_below O11a.out hb13)
  have O12b := cover (ownB_below O12.out hb13)
  have O13 := cover ho13
  have hs13 := hb13.size
  clear hb13 ho13 H12 O10a O11a O12
  go_wp2_with fail
  refine (same_any A10 A11 u.length c10 c11 _ _ u u w13 O10b.out.row O11b.out.row (by omega)).mono ?_
  rintro e w14 ⟨rfl, d14, hw14⟩
  rw [decide_eq_true rfl]
  have hb14 : Below w13.heap.size w13 w14 := by rw [hw14]; exact below_drewN (Below.refl _ _) d14
  have H14 := cover (H13.out.trans (hb14.mono (by omega)))
  have O12c := cover (ownB_below O12b.out hb14)
  have O13c := cover (ownB_below O13.out hb14)
  have hs14 := hb14.size
  clear hw14 hb14 O10b O11b O12b O13 H13
  go_wp2_with fail
  refine (same_any A12 A13 m.length c12 c13 _ _ m m w14 O12c.out.row O13c.out.row (by omega)).mono ?_
  rintro e w15 ⟨rfl, d15, hw15⟩
  rw [decide_eq_true rfl]
  have hb15 : Below w14.heap.size w14 w15 := by rw [hw15]; exact below_drewN (Below.refl _ _) d15
  have H15 := cover (H14.out.trans (hb15.mono (by omega)))
  have hs15 := hb15.size
  clear hw15 hb15 O12c O13c H14
  go_wp2_with fail
  refine (readNumber_any A l.length c w.heap.size l w15 (HR.out.below H15.out) HB.out).mono ?_
  obtain ⟨⟨v, ok⟩, hv⟩ : ∃ y, Hid (readN l = y) := ⟨_, cover rfl⟩
  rw [hv.out]
  rintro e w' ⟨rfl, rfl⟩
  go_wp2_with fail
  refine (ref_readNumber_any A l.length c w.heap.size l w15 (HR.out.below H15.out) HB.out).mono ?_
  rw [hv.out]
  rintro e w' ⟨rfl, rfl⟩
  go_wp2_with fail
  refine (number_any s w15 hs63.out).mono ?_
  rintro e w16 ⟨A16, c16, rfl, ho16, hb16⟩
  have H16 := cover (H15.out.trans (hb16.mono (by omega)))
  have O16 := cover ho16
  have hs16 := hb16.size
  clear hb16 ho16 H15
  go_wp2_with fail
  refine (ref_number_any s w16 hs63.out).mono ?_
  rintro e w17 ⟨A17, c17, rfl, ho17, hb17⟩
  have H17 := cover (H16.out.trans (hb17.mono (by omega)))
  have O16a := cover (ownB_below O16.out hb17)
  have O17 := cover ho17
  clear hb17 ho17 H16 O16
  go_wp2_with fail
  refine (same_any A16 A17 (numB s).length c16 c17 _ _ (numB s) (numB s) w17 O16a.out.row O17.out.row (by rw [numB_len]; decide)).mono ?_
  rintro e w18 ⟨rfl, d18, hw18⟩
  rw [decide_eq_true rfl]
  have H18 : Hid (Below w.heap.size w w18) := cover (by rw [hw18]; exact below_drewN H17.out d18)
  clear hw18 H17
  go_wp2
  go_ret
  exact ⟨rfl, H18.out⟩
end Go.Proofs.Ytkidacfodpoapaa
