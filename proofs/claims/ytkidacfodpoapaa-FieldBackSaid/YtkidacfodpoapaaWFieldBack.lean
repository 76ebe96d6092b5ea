/- The walk of FieldBack. -/
import Derived.Test.YtkidacfodpoapaaGAwake
import Derived.Test.YtkidacfodpoapaaOFrame
namespace Go.Proofs.Ytkidacfodpoapaa
open Go.RowKit
set_option linter.unusedVariables false
set_option linter.unusedSimpArgs false

theorem u32_of_wf {x : Int} (h : (Lit.int .u32 x).wf = true) : 0 ≤ x ∧ x ≤ 4294967295 := by
  simp only [Lit.wf, Bool.and_eq_true, decide_eq_true_eq] at h
  exact h
theorem putS_yes {s : Int} (h : 0 ≤ s ∧ s ≤ 255) (l : List Int) : putS s l = (s :: l, 0) := if_pos h
theorem putC_yes {c : CV} (h : OkC c) : putC c = (encC c, 0) := if_pos h
theorem getC_more (c : CV) (x : Int) : getC (encC c ++ [x]) = (zCV, 3) := rfl

set_option maxRecDepth 100000 in
set_option maxHeartbeats 6400000 in
theorem walk_FieldBack (n s : Int) (A : Option Addr) (len c : Nat) (l : List Int) (w : World) (hn : (Lit.int .u32 n).wf = true) (hs : (Lit.int .u8 s).wf = true) (hlc : len ≤ c) (hcm : c ≤ maxLen) (hr : Row w w.heap.size A len l ∧ Bts l ∧ (A = none → c = 0)) :
    Calls Try.prog 6 #[.int .u32 n, .int .u8 s, .slice A len c] w fun e w' => e = .returned (.bool true) ∧ Below w.heap.size w w' := by
  obtain ⟨hrow, hb, hnil⟩ := hr
  obtain rfl : l.length = len := hrow.len
  obtain ⟨i0, hi, hz0, hz1, hz2⟩ := info_parts u8_info
  have HR := cover hrow
  have HB := cover hb
  have HN := cover hnil
  have bn : 0 ≤ n ∧ n ≤ 4294967295 := u32_of_wf hn
  have bs : 0 ≤ s ∧ s ≤ 255 := bts_of_wf (l := [s]) (by simpa using hs) s (by simp)
  clear hrow hb hnil hs hn
  have v0 : IntKind.i64.wrap n = n := by rw [IntKind.wrap_i64]; omega
  have v1 := w64 bs
  have m1 := and_31 bn.1 (by omega)
  have m2 := and_127 (n := n / 32) (by omega) (by omega)
  have HK : Hid (OkC (CV.mk s (n % 32) (n / 32 % 128))) := cover ⟨bs, ⟨by show 0 ≤ n % 32; omega, by show n % 32 ≤ 31; omega⟩, ⟨by show 0 ≤ n / 32 % 128; omega, by show n / 32 % 128 ≤ 127; omega⟩⟩
  go_enter Try.func6, Try.ntmps6
  go_wp2_with fail
  refine (awake_any w).mono ?_
  rintro e w2 ⟨rfl, hb2⟩
  have H2 := cover hb2
  have hs2 := hb2.size
  clear hb2
  by_cases hbig : 100 < l.length
  · have hbig' : (100 : Int) < (l.length : Int) := by omega
    go_wp2
    go_ret
    exact ⟨rfl, H2.out⟩
  have hbig' : ¬ (100 : Int) < (l.length : Int) := by omega
  have hmax : l.length ≤ 100 := by omega
  go_wp2_with fail
  refine (number_any n w2 (by omega)).mono ?_
  rintro e w3 ⟨A3, c3, rfl, ho3, hb3⟩
  have H3 := cover (H2.out.trans (hb3.mono (by omega)))
  have O3 := cover ho3
  have hs3 := hb3.size
  clear hb3 ho3 H2
  go_wp2_with fail
  refine (readNumber_any A3 (numB n).length c3 _ (numB n) w3 O3.out.row (numB_bts n)).mono ?_
  rw [readN_num bn.1 (by omega)]
  rintro e w' ⟨rfl, rfl⟩
  go_wp2_with fail
  refine (putStatus_any s A c w.heap.size l w3 (HR.out.below H3.out) (by omega) hlc HN.out (by omega)).mono ?_
  rw [putS_yes bs]
  rintro e w4 ⟨A4, c4, rfl, ho4, hb4⟩
  have H4 := cover (H3.out.trans (hb4.mono (by omega)))
  have O4 := cover ho4
  have hs4 := hb4.size
  clear hb4 ho4 H3 O3
  go_wp2_with fail
  refine (getStatus_any A4 c4 _ (s :: l) w4 O4.out.row (Nat.le_refl _) (Bts.cons bs HB.out) (by simp; omega)).mono ?_
  rw [show getS (s :: l) = (s, l, 0) from rfl]
  rintro e w5 ⟨A5, c5, rfl, ho5, hb5⟩
  have H5 := cover (H4.out.trans (hb5.mono (by omega)))
  have O5 := cover ho5
  have hs5 := hb5.size
  clear hb5 ho5 H4 O4
  go_wp2_with fail
  refine (putClass_any (CV.mk s (n % 32) (n / 32 % 128)) w5).mono ?_
  rw [putC_yes HK.out]
  rintro e w6 ⟨A6, c6, rfl, ho6, hb6⟩
  have H6 := cover (H5.out.trans (hb6.mono (by omega)))
  have O56 := cover (ownB_below O5.out hb6)
  have O6 := cover ho6
  have hs6 := hb6.size
  clear hb6 ho6 H5 O5
  go_wp2_with fail
  refine (getClass_any A6 3 c6 _ (encC (CV.mk s (n % 32) (n / 32 % 128))) w6 O6.out.row (Nat.le_refl _) (encC_bts HK.out) (by decide)).mono ?_
  rw [getC_enc HK.out]
  rintro e w7 ⟨rfl, hb7⟩
  obtain ⟨w8, hw8⟩ : ∃ w8, Hid (w8 = (w7.alloc (.cells zc 28)).setRow w7.heap.size #[.int .i64 s, .int .i64 (n % 32), .int .i64 (n / 32 % 128)]) := ⟨_, cover rfl⟩
  have P8 : Hid (w8.heap[w7.heap.size]? = some (.cells #[.int .i64 s, .int .i64 (n % 32), .int .i64 (n / 32 % 128)] 28 (0, 0))) := cover (by rw [hw8.out]; exact setRow_heap _ _ _ _ _ _ (heap_alloc_new _ _))
  have hb8 : Below w7.heap.size w7 w8 := by rw [hw8.out]; exact Go.below_setRow ((Below.refl _ _).alloc (Nat.le_refl _) _) (Nat.le_refl _) _
  have hs7 := hb7.size
  have hb68 := hb7.trans (hb8.mono hs7)
  have H8 := cover (H6.out.trans (hb68.mono (by omega)))
  have O58 := cover (ownB_below O56.out hb68)
  have O68 := cover (ownB_below O6.out hb68)
  have hs8 : w7.heap.size < w8.heap.size := block_lt P8.out
  clear hb7 hb8 hb68 H6 O56 O6
  go_wp2_with (refine wpList_store_row rfl _ _ _ rfl w7.heap.size #[.int .i64 s, .int .i64 (n % 32), .int .i64 (n / 32 % 128)] rfl rfl 28 zc (heap_alloc_new _ _) class_size rfl (class_one _ _ _) ?_; rw [← hw8.out])
  refine (copy_any A6 3 c6 _ (encC (CV.mk s (n % 32) (n / 32 % 128))) w8 O68.out.row (Nat.le_refl _) (by decide)).mono ?_
  rintro e w9 ⟨A9, c9, rfl, ho9, hb9⟩
  have H9 := cover (H8.out.trans (hb9.mono (by omega)))
  have P9 := cover ((hb9.block _ hs8).trans P8.out)
  have R9 := cover (O58.out.row.below hb9)
  have hs9 := hb9.size
  obtain ⟨w10, hw10⟩ : ∃ w10, Hid (w10 = w9.alloc (.cells #[.int .u8 0] 5)) := ⟨_, cover rfl⟩
  have hb10 : Below w9.heap.size w9 w10 := by rw [hw10.out]; exact (Below.refl _ _).alloc (Nat.le_refl _) _
  have R10 : Hid (Row w10 (w9.heap.size + 1) (some ⟨w9.heap.size, 0, none⟩) 1 [0]) := cover (by rw [hw10.out]; exact RowK.made w9 [0] _ _ rfl)
  have hs10 : w10.heap.size = w9.heap.size + 1 := by rw [hw10.out]; simp
  have O10 := cover (ownB_below ho9 hb10)
  have H10 := cover (H9.out.trans (hb10.mono (by omega)))
  have P10 := cover ((hb10.block _ (by omega)).trans P9.out)
  have R10b := cover (R9.out.below (hb10.mono hs9))
  clear hb9 hb10 ho9 H8 P8 O58 O68 H9 P9 R9
  go_wp2_with (at_builtin; rw [← hw10.out]; refine append_row rfl _ _ 23 rfl w8.heap.size 5 i0 (.int .u8 0) 1 Try.underlying23 hi hz0 hz1 hz2 rfl _ _ _ rfl O10.out (w9.heap.size + 1) (some ⟨w9.heap.size, 0, none⟩) 1 1 [0] rfl R10.out (by intro h; cases h) (by show 3 + 1 ≤ maxLen; unfold maxLen; decide) (by show (3 + 1) * 1 ≤ 140737488355328; decide) (by omega) ?_)
  intro v11 w11 hown11 hg11
  have hbl11 := (Below.refl w8.heap.size w10).grown hg11 (by omega) (fun k hk => (O10.out.lt k hk).1)
  have H11 := cover (below_grown H10.out (by omega) (own_base O10.out (show w.heap.size ≤ w8.heap.size by omega)) hg11)
  have P11 := cover ((hbl11.block _ hs8).trans P10.out)
  have R11 := cover (R10b.out.below hbl11)
  have O11 : Hid (OwnB w11 w8.heap.size v11 (encC (CV.mk s (n % 32) (n / 32 % 128)) ++ [0])) := cover (by
    unfold OwnB
    rw [List.length_append, List.map_append]
    exact hown11)
  have hs11 := hbl11.size
  have hg11s := hg11.size
  obtain ⟨A11, c11, e11, _⟩ := own_shape O11.out
  have e3 : List.length (encC (CV.mk s (n % 32) (n / 32 % 128)) ++ [(0 : Int)]) = 4 := rfl
  rw [e3] at e11
  subst e11
  clear hown11 hg11 hbl11 O10 R10 R10b H10 P10
  go_wp2_with fail
  refine (getClass_any A11 4 c11 _ (encC (CV.mk s (n % 32) (n / 32 % 128)) ++ [0]) w11 O11.out.row (Nat.le_refl _) (Bts.append (encC_bts HK.out) (by intro x hx; simp at hx; omega)) (by decide)).mono ?_
  rw [getC_more]
  rintro e w12 ⟨rfl, hb12⟩
  obtain ⟨w13, hw13⟩ : ∃ w13, Hid (w13 = (w12.alloc (.cells zc 28)).setRow w12.heap.size zc) := ⟨_, cover rfl⟩
  have hb13 : Below w12.heap.size w12 w13 := by rw [hw13.out]; exact Go.below_setRow ((Below.refl _ _).alloc (Nat.le_refl _) _) (Nat.le_refl _) _
  have hs12 := hb12.size
  have hb113 := hb12.trans (hb13.mono hs12)
  have H13 := cover (H11.out.trans (hb113.mono (by omega)))
  have P13 := cover ((hb113.block _ (by omega)).trans P11.out)
  have R13 := cover (R11.out.below (hb113.mono (by omega)))
  have hs13 := hb113.size
  clear hb12 hb13 hb113 H11 P11 R11 O11
  go_wp2_with (refine wpList_store_row rfl _ _ _ rfl w12.heap.size zc rfl rfl 28 zc (heap_alloc_new _ _) class_size rfl (class_one _ _ _) ?_; rw [← hw13.out])
  refine (number_any n w13 (by omega)).mono ?_
  rintro e w14 ⟨A14, c14, rfl, ho14, hb14⟩
  have H14 := cover (H13.out.trans (hb14.mono (by omega)))
  have P14 := cover ((hb14.block _ (by omega)).trans P13.out)
  have R14 := cover (R13.out.below (hb14.mono (by omega)))
  have hs14 := hb14.size
  obtain ⟨w15, hw15⟩ : ∃ w15, Hid (w15 = w14.alloc (.cells #[.int .u8 0] 5)) := ⟨_, cover rfl⟩
  have hb15 : Below w14.heap.size w14 w15 := by rw [hw15.out]; exact (Below.refl _ _).alloc (Nat.le_refl _) _
  have R15z : Hid (Row w15 (w14.heap.size + 1) (some ⟨w14.heap.size, 0, none⟩) 1 [0]) := cover (by rw [hw15.out]; exact RowK.made w14 [0] _ _ rfl)
  have hs15 : w15.heap.size = w14.heap.size + 1 := by rw [hw15.out]; simp
  have O15 := cover (ownB_below ho14 hb15)
  have H15 := cover (H14.out.trans (hb15.mono (by omega)))
  have P15 := cover ((hb15.block _ (by omega)).trans P14.out)
  have R15 := cover (R14.out.below (hb15.mono (by omega)))
  clear hb14 hb15 ho14 H13 P13 R13 H14 P14 R14
  go_wp2_with (at_builtin; rw [← hw15.out]; refine append_row rfl _ _ 23 rfl w13.heap.size 5 i0 (.int .u8 0) 1 Try.underlying23 hi hz0 hz1 hz2 rfl _ _ _ rfl O15.out (w14.heap.size + 1) (some ⟨w14.heap.size, 0, none⟩) 1 1 [0] rfl R15z.out (by intro h; cases h) (by rw [numB_len]; unfold maxLen; decide) (by rw [numB_len]; decide) (by omega) ?_)
  intro v16 w16 hown16 hg16
  have hbl16 := (Below.refl w13.heap.size w15).grown hg16 (by omega) (fun k hk => (O15.out.lt k hk).1)
  have H16 := cover (H15.out.trans (hbl16.mono (by omega)))
  have P16 := cover ((hbl16.block _ (by omega)).trans P15.out)
  have R16 := cover (R15.out.below (hbl16.mono (by omega)))
  have O16 : Hid (OwnB w16 w13.heap.size v16 (numB n ++ [0])) := cover (by
    unfold OwnB
    rw [List.length_append, List.map_append]
    exact hown16)
  obtain ⟨A16, c16, e16, _⟩ := own_shape O16.out
  have e5 : List.length (numB n ++ [(0 : Int)]) = 5 := by simp [numB_len]
  rw [e5] at e16
  subst e16
  have O16r : Hid (Row w16 w16.heap.size A16 5 (numB n ++ [0])) := cover (by
    have h := O16.out
    unfold OwnB at h
    rw [e5] at h
    exact RowK.of_own h e5)
  clear hown16 hg16 hbl16 O15 R15 R15z H15 P15 O16
  go_wp2_with fail
  refine (readNumber_any A16 5 c16 _ (numB n ++ [0]) w16 O16r.out (Bts.append (numB_bts n) (by intro x hx; simp at hx; omega))).mono ?_
  rw [readN_longer]
  rintro e w' ⟨rfl, rfl⟩
  obtain ⟨p0, p1, p2⟩ := class_cells P16.out
  go_wp2_with fail
  refine (same_any A5 A l.length c5 c _ _ l l w16 R16.out (HR.out.below H16.out) (by omega)).mono ?_
  rintro e w17 ⟨rfl, d17, hw17⟩
  rw [decide_eq_true rfl]
  have H17 : Hid (Below w.heap.size w w17) := cover (by rw [hw17]; exact below_drewN H16.out d17)
  have P17 : Hid (w17.heap[w7.heap.size]? = some (.cells #[.int .i64 s, .int .i64 (n % 32), .int .i64 (n / 32 % 128)] 28 (0, 0))) := cover (by rw [hw17]; exact P16.out)
  clear p0 p1 p2 hw17
  obtain ⟨p0, p1, p2⟩ := class_cells P17.out
  go_wp2
  go_ret
  exact ⟨rfl, H17.out⟩
end Go.Proofs.Ytkidacfodpoapaa
