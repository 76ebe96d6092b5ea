/- The walk of MacCuts. -/
import Derived.Deep.CutRange
import Derived.Deep.DeepCutAuto
import Derived.Deep.AppendLies
import Derived.Test.YtbpmhfekjihhhaaMAwake
import Derived.Test.YtbpmhfekjihhhaaMStore
import Derived.Deep.RegionHeld3
namespace Go.Proofs.Ytbpmhfekjihhhaa
open Go.RowKit
set_option linter.unusedVariables false
attribute [local go_sem ↓] ldTab_fold stFrm_fold
attribute [local go_sem] ldTab_at stFrm_at zfAt_new zfAt_newD

set_option maxRecDepth 100000 in
set_option maxHeartbeats 3200000 in
theorem cuts_in (t0 t1 t2 t3 t4 t5 f0 f1 f2 f3 f4 f5 : Int) (A : Option Addr) (n c : Nat) (d s : List Int) (cut : Int) (kc : Nat) (ad : Addr) (m c' : Nat) (l : List Int) (w w2 : World) (h1 : Bts [t0, t1, t2, t3, t4, t5]) (h2 : Bts [f0, f1, f2, f3, f4, f5]) (hc : n ≤ c) (hcm : c ≤ maxLen) (hr : Row w2 w.heap.size A n d) (hd : Bts d) (hnil : A = none → c = 0) (hn : n ≤ 1500) (hg : Hid (grp f0 = false)) (hs : Hid (SealOf [t0, t1, t2, t3, t4, t5] [f0, f1, f2, f3, f4, f5] d s)) (hm0 : 0 < m) (hm20 : m ≤ 20) (hr' : Row w2 w.heap.size (some ad) m l) (hl : Bts l) (hkc : kc < s.length) (hcx : cut.tmod (s.length : Int) = (kc : Int)) (hcut0 : 0 ≤ cut) (hcut1 : cut ≤ 65535)
    (hw2 : Hid (w2 = w.alloc (.cells #[.int .u8 t0, .int .u8 t1, .int .u8 t2, .int .u8 t3, .int .u8 t4, .int .u8 t5, .int .u8 f0, .int .u8 f1, .int .u8 f2, .int .u8 f3, .int .u8 f4, .int .u8 f5, .slice A n c] 36))) :
    Calls Try.prog 8 #[.agg #[.int .u8 t0, .int .u8 t1, .int .u8 t2, .int .u8 t3, .int .u8 t4, .int .u8 t5, .int .u8 f0, .int .u8 f1, .int .u8 f2, .int .u8 f3, .int .u8 f4, .int .u8 f5, .slice A n c], .int .u16 cut, .slice (some ad) m c'] w fun e w' => e = .returned (.bool true) ∧ Below w.heap.size w w' := by
  unfold maxLen at hcm
  have i1 : ¬ ((1500 : Int) < (n : Int)) := by omega
  have HH1 := cover (And.intro h1 (And.intro h2 (And.intro hd hnil)))
  have H2 : Hid (Below w.heap.size w w2) := cover (by rw [hw2.out]; exact (Below.refl _ _).alloc (Nat.le_refl _) _)
  have G2 : Hid (w2.heap[w.heap.size]? = some (.cells #[.int .u8 t0, .int .u8 t1, .int .u8 t2, .int .u8 t3, .int .u8 t4, .int .u8 t5, .int .u8 f0, .int .u8 f1, .int .u8 f2, .int .u8 f3, .int .u8 f4, .int .u8 f5, .slice A n c] 36 (0, 0))) := cover (by rw [hw2.out]; exact heap_alloc_new _ _)
  have hs2 : w.heap.size < w2.heap.size := block_lt G2.out
  have R2 := cover hr
  clear hr h1 h2 hd hnil
  have i2 : ¬ ((m : Int) = 0) := by omega
  have i3 : ¬ ((20 : Int) < (m : Int)) := by omega
  have i4 : ((m : Int) == 0) = false := by simpa using i2
  have S2 := cover hr'
  have HL := cover hl
  clear hr' hl
  go_enter Try.func8, Try.ntmps8
  go_wp2_with fail
  rw [← hw2.out]
  refine (awake_any w2).mono ?_
  rintro e w3 ⟨rfl, hb3⟩
  have hs3 := hb3.size
  have H3 := cover (H2.out.trans (hb3.mono (by omega)))
  have g3 := (hb3.block w.heap.size hs2).trans G2.out
  have G3 := cover g3
  have R3 := cover (R2.out.below (hb3.mono (by omega)))
  have S3 := cover (S2.out.below (hb3.mono (by omega)))
  have k3 := (FrmIn.ofHeap g3).dat
  have k4 := (FrmIn.ofHeap g3).fr.all6
  clear hb3 g3
  go_wp2_with fail
  refine (group_any f0 f1 f2 f3 f4 f5 w3).mono ?_
  rintro e wg ⟨he, hbg⟩
  rw [hg.out] at he
  subst he
  have hsg := hbg.size
  have Hg := cover (H3.out.trans (hbg.mono (by omega)))
  have Gg := cover ((hbg.block w.heap.size (by omega)).trans G3.out)
  have Rg := cover (R3.out.below (hbg.mono (by omega)))
  have Sg := cover (S3.out.below (hbg.mono (by omega)))
  clear hbg k3 k4
  go_wp2_with fail
  refine (make_any _).mono ?_
  rintro e w4 ⟨T, rfl, hT, hb4⟩
  have hs4 := hb4.size
  have hbel4 := Hg.out.trans (hb4.mono (by omega))
  have hs04 := hbel4.size
  have G4 := cover ((hb4.block w.heap.size (by omega)).trans Gg.out)
  have R4 := cover (Rg.out.below (hb4.mono (by omega)))
  have S4 := cover (Sg.out.below (hb4.mono (by omega)))
  go_wp2_with (first
    | (refine new_var rfl _ rfl _ _ (alloc_tab _) ?_)
    | (refine store_tab (w0 := w4) rfl _ _ rfl w4.heap.size w4.heap.size T tabRow rfl rfl hT (heap_alloc_new _ _) ((Below.refl _ _).alloc (Nat.le_refl _) _) (Nat.le_refl _) ?_; intro w5 ht5 hb5; have hs5 := hb5.size; have hlt5 := ht5.lt; have H5 := cover (hbel4.trans (hb5.mono hs04)); have G5 := cover ((hb5.block w.heap.size (by omega)).trans G4.out); have R5 := cover (R4.out.below (hb5.mono (by omega))); have S5 := cover (S4.out.below (hb5.mono (by omega))); have T5 := cover ht5; clear ht5 hb5)
    | (refine load_tab rfl _ rfl _ _ _ T5.out rfl ?_)
    | (refine wpList_load_row rfl _ _ rfl w.heap.size rfl 36 #[.int .u8 t0, .int .u8 t1, .int .u8 t2, .int .u8 t3, .int .u8 t4, .int .u8 t5, .int .u8 f0, .int .u8 f1, .int .u8 f2, .int .u8 f3, .int .u8 f4, .int .u8 f5, .slice A n c] (0, 0) _ G5.out Try.underlying36 rfl frm_size ?_))
  refine (enc_ok T t0 t1 t2 t3 t4 t5 f0 f1 f2 f3 f4 f5 A n c w.heap.size d s w5 hT R5.out (by omega) hc HH1.out.2.2.2 HH1.out.1 HH1.out.2.1 HH1.out.2.2.1 hg.out (by have := R5.out.len; omega) hs.out).mono ?_
  rintro e w6 ⟨A6, c6, rfl, ho6, hb6⟩
  have hs6 := hb6.size
  have H6 := cover (H5.out.trans (hb6.mono (by omega)))
  have G6 := cover ((hb6.block w.heap.size (by omega)).trans G5.out)
  have R6 := cover (R5.out.below (hb6.mono (by omega)))
  have S6 := cover (S5.out.below (hb6.mono (by omega)))
  have T6 := cover (T5.out.below hb6 T5.out.lt)
  have O6 := cover ho6
  have hcap6 := own_cap ho6
  have hmax6 := own_max ho6
  obtain ⟨gs, rfl, hgs6, hgsl6⟩ := own_some ho6 (by have := hs.out.len; omega)
  have hsl := hs.out.len
  have HSL := cover hsl
  have hs0 : 64 ≤ s.length := by omega
  have hs1 : s.length ≤ 1518 := by have := R6.out.len; omega
  have hgt := T6.out.lt
  obtain ⟨g, hgdef⟩ : ∃ g, g = w4.heap.size := ⟨_, rfl⟩
  rw [← hgdef] at T6 hgt ⊢
  have hgw : w.heap.size ≤ g := by omega
  have hgg5 : g < w5.heap.size := by omega
  clear hb6 ho6 hsl hgdef hlt5
  have hcutE : Hid (cut.tmod (s.length : Int) = (kc : Int)) := cover hcx
  have hcut2 : cut % (s.length : Int) = (kc : Int) := by rw [← hcutE.out, Int.tmod_eq_emod_of_nonneg hcut0]
  have e1n : Hid (errD (s.take kc) ≠ 0) := cover (by
    have h := errD_cut (f0 := f0) (l := [f1, f2, f3, f4, f5]) (d := d) (show [t0, t1, t2, t3, t4, t5].length = 6 from rfl) rfl (by have := R6.out.len; omega) (k := kc) (by rw [hs.out.eq]; exact hkc)
    rw [hs.out.eq] at h; exact h)
  have e2n : Hid (errD (s ++ l) ≠ 0) := cover (by
    have h := errD_more (f0 := f0) (l := [f1, f2, f3, f4, f5]) (d := d) (show [t0, t1, t2, t3, t4, t5].length = 6 from rfl) rfl (by have := R6.out.len; omega) (m := l) (by have := S6.out.len; omega)
    rw [hs.out.eq] at h; exact h)
  obtain ⟨E1, hE1⟩ : ∃ E, Hid (errD (s.take kc) = E) := ⟨_, cover rfl⟩
  obtain ⟨E2, hE2⟩ : ∃ E, Hid (errD (s ++ l) = E) := ⟨_, cover rfl⟩
  rw [hE1.out] at e1n
  rw [hE2.out] at e2n
  have hsn1 : ¬ s.length = 0 := by omega
  have hsn2 : ¬ (s.length : Int) = 0 := by omega
  have hsn3 : ¬ s = [] := fun e => hsn1 (by rw [e]; rfl)
  have hwc : IntKind.i64.wrap cut = cut := by rw [IntKind.wrap_i64]; omega
  have hwk : IntKind.i64.wrap (kc : Int) = (kc : Int) := by rw [IntKind.wrap_i64]; omega
  have hkc6 : (kc : Int) ≤ (c6 : Int) := by omega
  have hkc0 : (0 : Int) ≤ (kc : Int) := by omega
  have hbt := cover hs.out.bts
  have hts6 := T6.out.of
  have hT256 := hT.size
  have hg6 := T6.out.lt
  have K6 : Hid (Row w6 w6.heap.size (some ⟨gs, 0, none⟩) kc (s.take kc)) := cover ((O6.out.row).take (by omega))
  have hZ0 : Below w6.heap.size w6 (w6.alloc (.cells zf 36)).drew := ((Below.refl _ _).alloc (Nat.le_refl _) _).drew
  go_upto_region 9 with fail
  go_cut [11] (fun v wx => v = .int .i64 E1 ∧ Hid (Below w6.heap.size w6 wx))
  case first =>
    go_region_held3 (fun w' => tabOf w' g = T ∧ Below w6.heap.size w6 w')
      (first
        | exact ⟨(tabOf_below hbX hg6).trans hts6, hbX⟩
        | exact ⟨hts6, (Below.refl _ _).drew⟩
        | exact ⟨(tabOf_below hZ0 hg6).trans hts6, hZ0⟩
        | exact ⟨(tabOf_below (hbX.alloc hbX.size _) hg6).trans hts6, hbX.alloc hbX.size _⟩
        | exact ⟨(tabOf_below (Go.below_setRow hbX hzb _) hg6).trans hts6, Go.below_setRow hbX hzb _⟩
        | exact ⟨(tabOf_below (Go.below_setRow (hbX.alloc hbX.size _) hbX.size _) hg6).trans hts6, Go.below_setRow (hbX.alloc hbX.size _) hbX.size _⟩)
      (first
        | (go_at_call 16; (first
            | (refine (dec_err T (some ⟨gs, 0, none⟩) kc c6 w6.heap.size (s.take kc) w6.drew hT (K6.out.drewN 1) (Nat.le_refl _) (hbt.out.take _) (by omega) (by omega) hmax6).mono ?_; rintro e w11 ⟨⟨p0, p1, p2, p3, p4, p5, q0, q1, q2, q3, q4, q5, A11, m11, c11, he⟩, hb11⟩; rw [hE1.out] at he; subst he; have hbX : Below w6.heap.size w6 w11 := ((Below.refl w6.heap.size w6).drew).trans (hb11.mono (by simp)); clear hb11)
            | (refine (dec_err T (some ⟨gs, 0, none⟩) kc c6 w6.heap.size (s.take kc) (w6.alloc (.cells zf 36)).drew hT (K6.out.below hZ0) (by simp) (hbt.out.take _) (by omega) (by omega) hmax6).mono ?_; rintro e w11 ⟨⟨p0, p1, p2, p3, p4, p5, q0, q1, q2, q3, q4, q5, A11, m11, c11, he⟩, hb11⟩; rw [hE1.out] at he; subst he; have hz1 : zfAt w11 w6.heap.size = true := zfAt_below (zfAt_newD w6) hb11 (by simp); have hzb : w6.heap.size ≤ w6.heap.size := Nat.le_refl _; have hbX : Below w6.heap.size w6 w11 := hZ0.trans (hb11.mono (by simp)); clear hb11))))
    all_goals
      go_wp2_with fail
      go_meet
      first
        | exact ⟨rfl, cover (Go.below_setRow hbX hzb _)⟩
        | exact ⟨rfl, cover (Go.below_setRow (hbX.alloc hbX.size _) hbX.size _)⟩
  case rest =>
    obtain ⟨rfl, hbc0⟩ := hcut
    have hbc := hbc0.out
    have hsc := hbc.size
    have hgc : g < wc.heap.size := by omega
    have htsc := (tabOf_below hbc hg6).trans hts6
    have Hc := cover (H6.out.trans (hbc.mono (by omega)))
    have Oc : Hid (Row wc w6.heap.size (some ⟨gs, 0, none⟩) s.length s) := cover ((show Row w6 w6.heap.size (some ⟨gs, 0, none⟩) s.length s from O6.out.row).below hbc)
    have Sc := cover (S6.out.below (hbc.mono (by omega)))
    have hlm : Hid (l.length = m) := cover S6.out.len
    obtain ⟨i0, hi, hz0, hz1, hz2⟩ := info_parts u8_info
    have hone : Hid (∀ u ∈ l.map (Value.int .u8), u.oneCell' = true) := cover (fun u hu => by obtain ⟨y, _, rfl⟩ := List.mem_map.1 hu; rfl)
    have hZc : Below wc.heap.size wc (wc.alloc (.cells zf 36)).drew := ((Below.refl _ _).alloc (Nat.le_refl _) _).drew
    have e2b := e2n.out
    have e2c : (E2 == 0) = false := by simpa using e2b
    have e2d : (E2 != 0) = true := by simpa using e2b
    have e1c : (E1 != 0) = true := by simpa using e1n.out
    clear hbc hts6 hg6 hZ0 hbc0
    go_wp2_with fail
    go_region_held3 (fun w' => tabOf w' g = T ∧ Below wc.heap.size wc w')
      (first
        | exact ⟨(tabOf_below hbX hgc).trans htsc, hbX⟩
        | exact ⟨htsc, (Below.refl _ _).drew⟩
        | exact ⟨(tabOf_below hZc hgc).trans htsc, hZc⟩
        | exact ⟨(tabOf_below (hbX.alloc hbX.size _) hgc).trans htsc, hbX.alloc hbX.size _⟩
        | exact ⟨(tabOf_below (Go.below_setRow hbX hzb _) hgc).trans htsc, Go.below_setRow hbX hzb _⟩
        | exact ⟨(tabOf_below (Go.below_setRow (hbX.alloc hbX.size _) hbX.size _) hgc).trans htsc, Go.below_setRow (hbX.alloc hbX.size _) hbX.size _⟩)
      (first
        | (refine step_append_lies w10 (by rfl) _ _ _ (by rfl) _ 5 i0 (.int .u8 0) 1 1 Try.underlying28 hi hz0 hz1 hz2 rfl (by decide) _ s.length _ (by rfl) ho10 ad m c' (l.map (Value.int .u8)) (by rfl) (by rw [List.length_map, hlm.out, Nat.mul_one]) (RowK.news (Sc.out.below (hbX.mono (by omega)))) hone.out hm0 (by unfold maxLen; omega) (by omega) hbs10 _ rfl ?_; intro g11 cap11 w11 hown11 hgrow11 hat11 hlt11; (try (have hzB : zfAt w11 wc.heap.size = true := zfAt_grown hzA hgrow11 (fun e => by have := (ho10.lt _ e.symm).1; omega))); have hbX : Below wc.heap.size wc w11 := hbX.grown hgrow11 (by omega) (fun k hk => by have := (ho10.lt k hk).1; omega); have hrow11 : Row w11 w11.heap.size (some ⟨g11, 0, none⟩) (s.length + m) (s ++ l) := RowK.of_own (by rw [List.map_append]; exact hown11) (by rw [List.length_append, hlm.out]))
        | (refine step_append_lies (w10.alloc (.cells zf 36)) (by rfl) _ _ _ (by rfl) _ 5 i0 (.int .u8 0) 1 1 Try.underlying28 hi hz0 hz1 hz2 rfl (by decide) _ s.length _ (by rfl) (ho10.alloc _) ad m c' (l.map (Value.int .u8)) (by rfl) (by rw [List.length_map, hlm.out, Nat.mul_one]) (RowK.news ((Sc.out.below (hbX.mono (by omega))).alloc (by omega) _)) hone.out hm0 (by unfold maxLen; omega) (by omega) (by simp; omega) _ rfl ?_; intro g11 cap11 w11 hown11 hgrow11 hat11 hlt11; have hzB : zfAt w11 w10.heap.size = true := zfAt_grown (zfAt_new w10) hgrow11 (fun e => by have := (ho10.lt _ e.symm).2; omega); have hzb : wc.heap.size ≤ w10.heap.size := hbX.size; have hbX : Below wc.heap.size wc w11 := (hbX.alloc hbX.size _).grown hgrow11 (by simp; omega) (fun k hk => by have := (ho10.lt k hk).1; omega); have hrow11 : Row w11 w11.heap.size (some ⟨g11, 0, none⟩) (s.length + m) (s ++ l) := RowK.of_own (by rw [List.map_append]; exact hown11) (by rw [List.length_append, hlm.out]))
        | (go_at_call 32; (first
            | (refine (copy_any (some ⟨gs, 0, none⟩) s.length c6 w6.heap.size s wc.drew (Oc.out.drewN 1) (by simp; omega) (by omega)).mono ?_; rintro e w10 ⟨A10, c10, rfl, ho10', hb10⟩; have ho10 : w10.ownsRow wc.heap.size 5 1 (.slice A10 s.length c10) s.length (s.map (Value.int .u8)) := ho10'; have hbX : Below wc.heap.size wc w10 := ((Below.refl wc.heap.size wc).drew).trans (hb10.mono (by simp)); have hbs10 : wc.heap.size ≤ w10.heap.size := hbX.size; clear hb10 ho10')
            | (refine (copy_any (some ⟨gs, 0, none⟩) s.length c6 w6.heap.size s (wc.alloc (.cells zf 36)).drew (Oc.out.below (hZc.mono (by omega))) (by simp; omega) (by omega)).mono ?_; rintro e w10 ⟨A10, c10, rfl, ho10', hb10⟩; have ho10 : w10.ownsRow (wc.heap.size + 1) 5 1 (.slice A10 s.length c10) s.length (s.map (Value.int .u8)) := own_base ho10' (by simp); have hzA : zfAt w10 wc.heap.size = true := zfAt_below (zfAt_newD wc) hb10 (by simp); have hzb : wc.heap.size ≤ wc.heap.size := Nat.le_refl _; have hbX : Below wc.heap.size wc w10 := hZc.trans (hb10.mono (by simp)); have hbs10 : wc.heap.size + 1 ≤ w10.heap.size := by (have := hb10.size); simp at this; omega)))
        | (go_at_call 16; (first
            | (refine (dec_err T (some ⟨g11, 0, none⟩) (s.length + m) cap11 w11.heap.size (s ++ l) w11 hT hrow11 (Nat.le_refl _) (hbt.out.append HL.out) (own_cap hown11) (by omega) (own_max hown11)).mono ?_; rintro e w12 ⟨⟨p0, p1, p2, p3, p4, p5, q0, q1, q2, q3, q4, q5, A12, m12, c12, he⟩, hb12⟩; rw [hE2.out] at he; subst he; (try (have hzC := zfAt_below hzB hb12 (block_lt (zfAt_heap hzB).choose_spec.choose_spec.1))); have hs11 := hbX.size; have hbX : Below wc.heap.size wc w12 := hbX.trans (hb12.mono hs11); clear hb12)
            | (refine (dec_err T (some ⟨g11, 0, none⟩) (s.length + m) cap11 w11.heap.size (s ++ l) (w11.alloc (.cells zf 36)) hT (hrow11.alloc (Nat.le_refl _) _) (by simp) (hbt.out.append HL.out) (own_cap hown11) (by omega) (own_max hown11)).mono ?_; rintro e w12 ⟨⟨p0, p1, p2, p3, p4, p5, q0, q1, q2, q3, q4, q5, A12, m12, c12, he⟩, hb12⟩; rw [hE2.out] at he; subst he; have hzb := hbX.size; have hzC : zfAt w12 w11.heap.size = true := zfAt_below (zfAt_new w11) hb12 (by simp); have hbX : Below wc.heap.size wc w12 := (hbX.alloc hzb _).trans (hb12.mono (by simp; omega)); clear hb12))))
    all_goals
      go_wp2
      go_ret
      first
        | exact ⟨ret_bool (by simp), Hc.out.trans ((Go.below_setRow hbX hzb _).mono Hc.out.size)⟩
        | exact ⟨ret_bool (by simp), Hc.out.trans ((Go.below_setRow (hbX.alloc hbX.size _) hbX.size _).mono Hc.out.size)⟩
end Go.Proofs.Ytbpmhfekjihhhaa
