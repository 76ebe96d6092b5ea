/- The walk of MacBack. -/
import Derived.Deep.CutRange
import Derived.Test.YtbpmhfekjihhhaaMAwake
import Derived.Test.YtbpmhfekjihhhaaMHit
import Derived.Test.YtbpmhfekjihhhaaMStore
import Derived.Deep.RegionHeld3
namespace Go.Proofs.Ytbpmhfekjihhhaa
open Go.RowKit
set_option linter.unusedVariables false
attribute [local go_sem ↓] ldTab_fold stFrm_fold
attribute [local go_sem] ldTab_at stFrm_at zfAt_new zfAt_newD

set_option maxRecDepth 100000 in
set_option maxHeartbeats 3200000 in
theorem back_in (t0 t1 t2 t3 t4 t5 f0 f1 f2 f3 f4 f5 : Int) (A : Option Addr) (n c : Nat) (d s : List Int) (bit : Int) (k : Nat) (w w2 : World) (h1 : Bts [t0, t1, t2, t3, t4, t5]) (h2 : Bts [f0, f1, f2, f3, f4, f5]) (hc : n ≤ c) (hcm : c ≤ maxLen) (hr : Row w2 w.heap.size A n d) (hd : Bts d) (hnil : A = none → c = 0) (hn : n ≤ 1500) (hg : Hid (grp f0 = false)) (hs : Hid (SealOf [t0, t1, t2, t3, t4, t5] [f0, f1, f2, f3, f4, f5] d s)) (hk : k < 8 * s.length) (ek : Hid ((wrap64 (bit.tmod ((8 * s.length : Nat) : Int) + ((8 * s.length : Nat) : Int))).tmod ((8 * s.length : Nat) : Int) = (k : Int))) (kmax : Hid (n + (46 - n) = max n 46))
    (hw2 : Hid (w2 = w.alloc (.cells #[.int .u8 t0, .int .u8 t1, .int .u8 t2, .int .u8 t3, .int .u8 t4, .int .u8 t5, .int .u8 f0, .int .u8 f1, .int .u8 f2, .int .u8 f3, .int .u8 f4, .int .u8 f5, .slice A n c] 36))) :
    Calls Try.prog 5 #[.agg #[.int .u8 t0, .int .u8 t1, .int .u8 t2, .int .u8 t3, .int .u8 t4, .int .u8 t5, .int .u8 f0, .int .u8 f1, .int .u8 f2, .int .u8 f3, .int .u8 f4, .int .u8 f5, .slice A n c], .int .i64 bit] w fun e w' => e = .returned (.bool true) ∧ Below w.heap.size w w' := by
  unfold maxLen at hcm
  have i1 : ¬ ((1500 : Int) < (n : Int)) := by omega
  have HH1 := cover (And.intro h1 (And.intro h2 (And.intro hd hnil)))
  have H2 : Hid (Below w.heap.size w w2) := cover (by rw [hw2.out]; exact (Below.refl _ _).alloc (Nat.le_refl _) _)
  have G2 : Hid (w2.heap[w.heap.size]? = some (.cells #[.int .u8 t0, .int .u8 t1, .int .u8 t2, .int .u8 t3, .int .u8 t4, .int .u8 t5, .int .u8 f0, .int .u8 f1, .int .u8 f2, .int .u8 f3, .int .u8 f4, .int .u8 f5, .slice A n c] 36 (0, 0))) := cover (by rw [hw2.out]; exact heap_alloc_new _ _)
  have hs2 : w.heap.size < w2.heap.size := block_lt G2.out
  have R2 := cover hr
  clear hr h1 h2 hd hnil
  go_enter Try.func5, Try.ntmps5
  go_wp2_with fail
  rw [← hw2.out]
  refine (awake_any w2).mono ?_
  rintro e w3 ⟨rfl, hb3⟩
  have hs3 := hb3.size
  have H3 := cover (H2.out.trans (hb3.mono (by omega)))
  have g3 := (hb3.block w.heap.size hs2).trans G2.out
  have G3 := cover g3
  have R3 := cover (R2.out.below (hb3.mono (by omega)))
  have k3 := (FrmIn.ofHeap g3).dat
  have k4 := (FrmIn.ofHeap g3).fr.all6
  clear hb3 g3
  go_wp2_with fail
  refine (group_any f0 f1 f2 f3 f4 f5 w3).mono ?_
  rintro e wg ⟨he, hbg⟩
  rw [hg.out] at he
  subst he
  have hsg := hbg.size
  have Hg := cover (H3.out.trans (hbg.mono (by omega)))
  have Gg := cover ((hbg.block w.heap.size (by omega)).trans G3.out)
  have Rg := cover (R3.out.below (hbg.mono (by omega)))
  clear hbg k3 k4
  go_wp2_with fail
  refine (make_any _).mono ?_
  rintro e w4 ⟨T, rfl, hT, hb4⟩
  have hs4 := hb4.size
  have hbel4 := Hg.out.trans (hb4.mono (by omega))
  have hs04 := hbel4.size
  have G4 := cover ((hb4.block w.heap.size (by omega)).trans Gg.out)
  have R4 := cover (Rg.out.below (hb4.mono (by omega)))
  go_wp2_with (first
    | (refine new_var rfl _ rfl _ _ (alloc_tab _) ?_)
    | (refine store_tab (w0 := w4) rfl _ _ rfl w4.heap.size w4.heap.size T tabRow rfl rfl hT (heap_alloc_new _ _) ((Below.refl _ _).alloc (Nat.le_refl _) _) (Nat.le_refl _) ?_; intro w5 ht5 hb5; have hs5 := hb5.size; have hlt5 := ht5.lt; have H5 := cover (hbel4.trans (hb5.mono hs04)); have G5 := cover ((hb5.block w.heap.size (by omega)).trans G4.out); have R5 := cover (R4.out.below (hb5.mono (by omega))); have T5 := cover ht5; clear ht5 hb5)
    | (refine load_tab rfl _ rfl _ _ _ T5.out rfl ?_)
    | (refine wpList_load_row rfl _ _ rfl w.heap.size rfl 36 #[.int .u8 t0, .int .u8 t1, .int .u8 t2, .int .u8 t3, .int .u8 t4, .int .u8 t5, .int .u8 f0, .int .u8 f1, .int .u8 f2, .int .u8 f3, .int .u8 f4, .int .u8 f5, .slice A n c] (0, 0) _ G5.out Try.underlying36 rfl frm_size ?_))
  refine (enc_ok T t0 t1 t2 t3 t4 t5 f0 f1 f2 f3 f4 f5 A n c w.heap.size d s w5 hT R5.out (by omega) hc HH1.out.2.2.2 HH1.out.1 HH1.out.2.1 HH1.out.2.2.1 hg.out (by have := R5.out.len; omega) hs.out).mono ?_
  rintro e w6 ⟨A6, c6, rfl, ho6, hb6⟩
  have hs6 := hb6.size
  have H6 := cover (H5.out.trans (hb6.mono (by omega)))
  have G6 := cover ((hb6.block w.heap.size (by omega)).trans G5.out)
  have R6 := cover (R5.out.below (hb6.mono (by omega)))
  have T6 := cover (T5.out.below hb6 T5.out.lt)
  have O6 := cover ho6
  have hcap6 := own_cap ho6
  have hmax6 := own_max ho6
  obtain ⟨gs, rfl, hgs6, hgsl6⟩ := own_some ho6 (by have := hs.out.len; omega)
  have hsl := hs.out.len
  have HSL := cover hsl
  have hs0 : 64 ≤ s.length := by omega
  have hs1 : s.length ≤ 1518 := by have := R6.out.len; omega
  have hgt := T6.out.lt
  obtain ⟨g, hgdef⟩ : ∃ g, g = w4.heap.size := ⟨_, rfl⟩
  rw [← hgdef] at T6 hgt ⊢
  have hgw : w.heap.size ≤ g := by omega
  have hgg5 : g < w5.heap.size := by omega
  clear hb6 ho6 hsl hgdef hlt5
  go_wp2_with (refine load_tab rfl _ rfl _ _ _ T6.out rfl ?_)
  refine (dec_ok T t0 t1 t2 t3 t4 t5 f0 f1 f2 f3 f4 f5 (some ⟨gs, 0, none⟩) c6 w6.heap.size d s w6 hT O6.out.row (Nat.le_refl _) hcap6 hmax6 hg.out (by have := R6.out.len; omega) hs.out).mono ?_
  rintro e w7 ⟨A7, c7, rfl, ho7, hb7⟩
  have hs7 := hb7.size
  have H7 := cover (H6.out.trans (hb7.mono (by omega)))
  have G7 := cover ((hb7.block w.heap.size (by omega)).trans G6.out)
  have R7 := cover (R6.out.below (hb7.mono (by omega)))
  have T7 := cover (T6.out.below hb7 T6.out.lt)
  have O7 := cover (own_below O6.out hb7)
  have D7 : Hid (Row w7 w7.heap.size A7 d.length d) := cover ho7.row
  obtain ⟨w8, hw8⟩ : ∃ w8, Hid (w8 = (w7.alloc (.cells zf 36)).setRow w7.heap.size #[.int .u8 t0, .int .u8 t1, .int .u8 t2, .int .u8 t3, .int .u8 t4, .int .u8 t5, .int .u8 f0, .int .u8 f1, .int .u8 f2, .int .u8 f3, .int .u8 f4, .int .u8 f5, .slice A7 d.length c7]) := ⟨_, cover rfl⟩
  have hb8 : Below w7.heap.size w7 w8 := by rw [hw8.out]; exact Go.below_setRow ((Below.refl _ _).alloc (Nat.le_refl _) _) (Nat.le_refl _) _
  have hs8 : w8.heap.size = w7.heap.size + 1 := by rw [hw8.out]; simp
  have H8 := cover (H7.out.trans (hb8.mono (by omega)))
  have G8 := cover ((hb8.block w.heap.size (by omega)).trans G7.out)
  have M8 : Hid (w8.heap[w7.heap.size]? = some (.cells #[.int .u8 t0, .int .u8 t1, .int .u8 t2, .int .u8 t3, .int .u8 t4, .int .u8 t5, .int .u8 f0, .int .u8 f1, .int .u8 f2, .int .u8 f3, .int .u8 f4, .int .u8 f5, .slice A7 d.length c7] 36 (0, 0))) := cover (by rw [hw8.out]; exact setRow_heap _ _ _ _ _ _ (heap_alloc_new _ _))
  have R8 := cover (R7.out.below (hb8.mono (by omega)))
  have T8 := cover (T7.out.below hb8 T7.out.lt)
  have O8 := cover (own_below O7.out hb8)
  have D8 := cover (D7.out.below hb8)
  have hdn : Hid (d.length = n) := cover R8.out.len
  clear hb7 ho7 hb8
  go_upto_region 8 with fail
  rw [← hw8.out]
  have hn8 := FrmIn.ofHeap G8.out
  have hm8 := FrmIn.ofHeap M8.out
  have q1 := hn8.to.all
  have q2 := hn8.fr.all6
  have q3 := hn8.dat
  have q4 := hm8.to.all
  have q5 := hm8.fr.all6
  have q6 := hm8.dat
  clear hn8 hm8
  go_wp2_with fail
  rw [hdn.out]
  refine (sameF_any t0 t1 t2 t3 t4 t5 f0 f1 f2 f3 f4 f5 A A7 n c c7 w.heap.size w7.heap.size d w8 R8.out (by have := D8.out; rw [hdn.out] at this; exact this) (by omega) (by omega) (by omega)).mono ?_
  rintro e w9 ⟨rfl, hb9⟩
  have hs9 := hb9.size
  have H9 := cover (H8.out.trans (hb9.mono (by omega)))
  have q3' := (FrmIn.ofHeap ((hb9.block w.heap.size (by omega)).trans G8.out)).dat
  have T9 := cover (T8.out.below hb9 T8.out.lt)
  have O9 := cover (own_below O8.out hb9)
  have hcl := HSL.out
  have hbt := hs.out.bts
  have HHit0 := cover (fun W' (hb : Below w9.heap.size w9 W') => hit_any (some ⟨gs, 0, none⟩) c6 w9.heap.size (8 * s.length) k s bit W' ((RowK.of_own O9.out rfl : Row w9 w9.heap.size (some ⟨gs, 0, none⟩) s.length s).below hb) hb.size hbt (by omega) (by omega) (cover rfl) hk ek.out)
  obtain ⟨u, hu⟩ : ∃ u, Hid (turnAt s (k / 8) (k % 8) = u) := ⟨_, cover rfl⟩
  have hul : Hid (u.length = s.length) := cover (by rw [← hu.out, turnAt_length])
  have hub : Hid (Bts u) := cover (by rw [← hu.out]; exact turnAt_bts hbt _ (by omega))
  have hue : Hid (errD u = 5) := cover (by
    rw [← hu.out, ← hs.out.eq]
    refine errD_turn (bodyB_bts HH1.out.1 HH1.out.2.1 HH1.out.2.2.1) ?_ (by rw [hs.out.eq]; exact hk)
    rw [bodyB_length _ rfl rfl]; omega)
  rw [hu.out] at HHit0
  have hts9 := T9.out.of
  have hT256 := hT.size
  have hg9 := T9.out.lt
  clear hbt hk
  have hdl := hdn.out
  rcases Nat.lt_or_ge n 46 with h46 | h46
  all_goals
   first
    | (have hI : (n : Int) < 46 := by omega)
    | (have hI : ¬ ((n : Int) < 46) := by omega)
   first
    | (have hne : ((s.length : Int) != 64) = false := by (have : (s.length : Int) = 64 := by omega); rw [this]; rfl)
    | (have hne : ((s.length : Int) != 18 + (n : Int)) = false := by (have : (s.length : Int) = 18 + (n : Int) := by omega); rw [this]; simp)
   clear hcl hdl h46
   go_wp2_with fail
   have hZ0 : Below w9.heap.size w9 (w9.alloc (.cells zf 36)).drew := ((Below.refl _ _).alloc (Nat.le_refl _) _).drew
   go_region_held3 (fun w' => tabOf w' g = T ∧ Below w9.heap.size w9 w')
    (first
      | exact ⟨(tabOf_below hbX hg9).trans hts9, hbX⟩
      | exact ⟨hts9, (Below.refl _ _).drew⟩
      | exact ⟨(tabOf_below hZ0 hg9).trans hts9, hZ0⟩
      | exact ⟨(tabOf_below (hbX.alloc hbX.size _) hg9).trans hts9, hbX.alloc hbX.size _⟩
      | exact ⟨(tabOf_below (Go.below_setRow hbX hzb _) hg9).trans hts9, Go.below_setRow hbX hzb _⟩
      | exact ⟨(tabOf_below (Go.below_setRow (hbX.alloc hbX.size _) hbX.size _) hg9).trans hts9, Go.below_setRow (hbX.alloc hbX.size _) hbX.size _⟩)
    (first
      | (go_at_call 24; (first
          | (refine (HHit0.out w9.drew (Below.refl _ _).drew).mono ?_; rintro e w10 ⟨A10, c10, rfl, ho10, hb10⟩; have hbX : Below w9.heap.size w9 w10 := ((Below.refl w9.heap.size w9).drew).trans (hb10.mono (by simp)); clear hb10)
          | (refine (HHit0.out _ hZ0).mono ?_; rintro e w10 ⟨A10, c10, rfl, ho10, hb10⟩; have hbX : Below w9.heap.size w9 w10 := hZ0.trans (hb10.mono (by simp)); have hz0 : zfAt w10 w9.heap.size = true := zfAt_below (zfAt_newD w9) hb10 (by simp); clear hb10)))
      | (go_at_call 16; (first
          | (refine (dec_err T A10 u.length c10 w10.heap.size u w10 hT ho10.row (Nat.le_refl _) hub.out (own_cap ho10) (by rw [hul.out]; omega) (own_max ho10)).mono ?_; rintro e w11 ⟨⟨p0, p1, p2, p3, p4, p5, q0, q1, q2, q3, q4, q5, A11, m11, c11, he⟩, hb11⟩; rw [hue.out] at he; subst he; have hs10 := hbX.size; (try (have hz1 := zfAt_below hz0 hb11 (by have := hbX.size; have := block_lt (zfAt_heap hz0).choose_spec.choose_spec.1; omega); have hzb : w9.heap.size ≤ w9.heap.size := Nat.le_refl _)); have hbX : Below w9.heap.size w9 w11 := hbX.trans (hb11.mono hs10); clear hb11)
          | (refine (dec_err T A10 u.length c10 w10.heap.size u (w10.alloc (.cells zf 36)) hT (ho10.row.alloc (Nat.le_refl _) _) (by simp) hub.out (own_cap ho10) (by rw [hul.out]; omega) (own_max ho10)).mono ?_; rintro e w11 ⟨⟨p0, p1, p2, p3, p4, p5, q0, q1, q2, q3, q4, q5, A11, m11, c11, he⟩, hb11⟩; rw [hue.out] at he; subst he; have hzb := hbX.size; have hz1 : zfAt w11 w10.heap.size = true := zfAt_below (zfAt_new w10) hb11 (by simp); have hbX : Below w9.heap.size w9 w11 := (hbX.alloc hzb _).trans (hb11.mono (by simp; omega)); clear hb11))))
   all_goals
    go_wp2
    go_ret
    first
      | exact ⟨rfl, H9.out.trans ((Go.below_setRow hbX hzb _).mono H9.out.size)⟩
      | exact ⟨rfl, H9.out.trans ((Go.below_setRow (hbX.alloc hbX.size _) hbX.size _).mono H9.out.size)⟩
end Go.Proofs.Ytbpmhfekjihhhaa
