/- The walk of MacLength's lengths, of a frame that may be. -/
import Derived.BigQuiet
import Derived.Deep.QuietTactic
import Derived.Deep.CutRange
import Derived.Deep.CutBlock
import Derived.Deep.DeepCutAuto
import Derived.Test.YtbpmhfekjihhhaaMAwake
import Derived.Test.YtbpmhfekjihhhaaMStore
import Derived.Test.YtbpmhfekjihhhaaMLen
import Derived.Deep.RegionHeld3
namespace Go.Proofs.Ytbpmhfekjihhhaa
open Go.RowKit
set_option linter.unusedVariables false
attribute [local go_sem ↓] ldTab_fold stFrm_fold
attribute [local go_sem] ldTab_at stFrm_at zfAt_new zfAt_newD

theorem allZ_take_false {r : Bool} {l : List Int} {k : Nat} (h : (r && allZ (l.take k)) = false) : (r && allZ l) = false := by
  cases r with
  | false => rfl
  | true =>
    simp only [Bool.true_and] at h ⊢
    unfold allZ at h ⊢
    rw [List.all_eq_false] at h ⊢
    obtain ⟨x, hx, hx2⟩ := h
    exact ⟨x, List.mem_of_mem_take hx, hx2⟩
theorem bts_set {l : List Int} (h : Bts l) (k : Nat) {x : Int} (hx : 0 ≤ x ∧ x ≤ 255) : Bts (l.set k x) := fun y hy => by
  rcases List.mem_or_eq_of_mem_set hy with h1 | rfl
  · exact h y h1
  · exact hx
set_option maxRecDepth 100000 in
set_option maxHeartbeats 3200000 in
theorem len_in (t0 t1 t2 t3 t4 t5 f0 f1 f2 f3 f4 f5 : Int) (A : Option Addr) (n c : Nat) (d s : List Int) (N q : Nat) (x : Int) (w w2 : World) (h1 : Bts [t0, t1, t2, t3, t4, t5]) (h2 : Bts [f0, f1, f2, f3, f4, f5]) (hc : n ≤ c) (hcm : c ≤ maxLen) (hr : Row w2 w.heap.size A n d) (hd : Bts d) (hnil : A = none → c = 0) (hn : n ≤ 1500) (hg : Hid (grp f0 = false)) (hs : Hid (SealOf [t0, t1, t2, t3, t4, t5] [f0, f1, f2, f3, f4, f5] d s)) (hN : N < 65536) (hq : q < 65536) (hx : 0 ≤ x ∧ x ≤ 255)
    (hw2 : Hid (w2 = w.alloc (.cells #[.int .u8 t0, .int .u8 t1, .int .u8 t2, .int .u8 t3, .int .u8 t4, .int .u8 t5, .int .u8 f0, .int .u8 f1, .int .u8 f2, .int .u8 f3, .int .u8 f4, .int .u8 f5, .slice A n c] 36))) :
    Calls Try.prog 33 #[.agg #[.int .u8 t0, .int .u8 t1, .int .u8 t2, .int .u8 t3, .int .u8 t4, .int .u8 t5, .int .u8 f0, .int .u8 f1, .int .u8 f2, .int .u8 f3, .int .u8 f4, .int .u8 f5, .slice A n c], .int .u16 (N : Int), .int .u16 (q : Int), .int .u8 x] w fun e w' => e = .returned (.bool true) ∧ Below w.heap.size w w' := by
  unfold maxLen at hcm
  have i1 : ¬ ((1500 : Int) < (n : Int)) := by omega
  have HH1 := cover (And.intro h1 (And.intro h2 (And.intro hd hnil)))
  have H2 : Hid (Below w.heap.size w w2) := cover (by rw [hw2.out]; exact (Below.refl _ _).alloc (Nat.le_refl _) _)
  have G2 : Hid (w2.heap[w.heap.size]? = some (.cells #[.int .u8 t0, .int .u8 t1, .int .u8 t2, .int .u8 t3, .int .u8 t4, .int .u8 t5, .int .u8 f0, .int .u8 f1, .int .u8 f2, .int .u8 f3, .int .u8 f4, .int .u8 f5, .slice A n c] 36 (0, 0))) := cover (by rw [hw2.out]; exact heap_alloc_new _ _)
  have hs2 : w.heap.size < w2.heap.size := block_lt G2.out
  have R2 := cover hr
  clear hr h1 h2 hd hnil
  go_enter Try.func33, Try.ntmps33
  obtain ⟨w3, hw3⟩ : ∃ w3, w3 = w2 := ⟨_, rfl⟩
  have hs3 : w2.heap.size ≤ w3.heap.size := by rw [hw3]; exact Nat.le_refl _
  have H3 : Hid (Below w.heap.size w w3) := cover (by rw [hw3]; exact H2.out)
  have G3 : Hid (w3.heap[w.heap.size]? = some (.cells #[.int .u8 t0, .int .u8 t1, .int .u8 t2, .int .u8 t3, .int .u8 t4, .int .u8 t5, .int .u8 f0, .int .u8 f1, .int .u8 f2, .int .u8 f3, .int .u8 f4, .int .u8 f5, .slice A n c] 36 (0, 0))) := cover (by rw [hw3]; exact G2.out)
  have R3 : Hid (Row w3 w.heap.size A n d) := cover (by rw [hw3]; exact R2.out)
  rw [← hw3] at hw2
  clear hw3
  go_wp2_with fail
  rw [← hw2.out]
  refine (group_any f0 f1 f2 f3 f4 f5 w3).mono ?_
  rintro e wg ⟨he, hbg⟩
  rw [hg.out] at he
  subst he
  have hsg := hbg.size
  have Hg := cover (H3.out.trans (hbg.mono (by omega)))
  have Gg := cover ((hbg.block w.heap.size (by omega)).trans G3.out)
  have Rg := cover (R3.out.below (hbg.mono (by omega)))
  clear hbg
  go_wp2_with fail
  refine (make_any _).mono ?_
  rintro e w4 ⟨T, rfl, hT, hb4⟩
  have hs4 := hb4.size
  have hbel4 := Hg.out.trans (hb4.mono (by omega))
  have hs04 := hbel4.size
  have G4 := cover ((hb4.block w.heap.size (by omega)).trans Gg.out)
  have R4 := cover (Rg.out.below (hb4.mono (by omega)))
  go_wp2_with (first
    | (refine new_var rfl _ rfl _ _ (alloc_tab _) ?_)
    | (refine store_tab (w0 := w4) rfl _ _ rfl w4.heap.size w4.heap.size T tabRow rfl rfl hT (heap_alloc_new _ _) ((Below.refl _ _).alloc (Nat.le_refl _) _) (Nat.le_refl _) ?_; intro w5 ht5 hb5; have hs5 := hb5.size; have hlt5 := ht5.lt; have H5 := cover (hbel4.trans (hb5.mono hs04)); have G5 := cover ((hb5.block w.heap.size (by omega)).trans G4.out); have R5 := cover (R4.out.below (hb5.mono (by omega))); have T5 := cover ht5; clear ht5 hb5)
    | (refine load_tab rfl _ rfl _ _ _ T5.out rfl ?_)
    | (refine wpList_load_row rfl _ _ rfl w.heap.size rfl 36 #[.int .u8 t0, .int .u8 t1, .int .u8 t2, .int .u8 t3, .int .u8 t4, .int .u8 t5, .int .u8 f0, .int .u8 f1, .int .u8 f2, .int .u8 f3, .int .u8 f4, .int .u8 f5, .slice A n c] (0, 0) _ G5.out Try.underlying36 rfl frm_size ?_))
  refine (enc_ok T t0 t1 t2 t3 t4 t5 f0 f1 f2 f3 f4 f5 A n c w.heap.size d s w5 hT R5.out (by omega) hc HH1.out.2.2.2 HH1.out.1 HH1.out.2.1 HH1.out.2.2.1 hg.out (by have := R5.out.len; omega) hs.out).mono ?_
  rintro e w6 ⟨A6, c6, rfl, ho6, hb6⟩
  have hs6 := hb6.size
  have H6 := cover (H5.out.trans (hb6.mono (by omega)))
  have G6 := cover ((hb6.block w.heap.size (by omega)).trans G5.out)
  have R6 := cover (R5.out.below (hb6.mono (by omega)))
  have T6 := cover (T5.out.below hb6 T5.out.lt)
  have O6 := cover ho6
  have hcap6 := own_cap ho6
  have hmax6 := own_max ho6
  obtain ⟨gs, rfl, hgs6, hgsl6⟩ := own_some ho6 (by have := hs.out.len; omega)
  have hsl := hs.out.len
  have HSL := cover hsl
  have hs0 : 64 ≤ s.length := by omega
  have hs1 : s.length ≤ 1518 := by have := R6.out.len; omega
  have hgt := T6.out.lt
  obtain ⟨g, hgdef⟩ : ∃ g, g = w4.heap.size := ⟨_, rfl⟩
  rw [← hgdef] at T6 hgt ⊢
  have hgw : w.heap.size ≤ g := by omega
  have hgg5 : g < w5.heap.size := by omega
  clear hb6 ho6 hsl hgdef hlt5
  obtain ⟨p4, hp4⟩ : ∃ p, Hid (s.length - 4 = p) := ⟨_, cover rfl⟩
  have q4 : (s.length : Int) - 4 = (p4 : Int) := by have := hp4.out; omega
  have s5 : (p4 : Int) ≤ (c6 : Int) := by have := hp4.out; omega
  have hp60 : 60 ≤ p4 := by have := hp4.out; omega
  have hp15 : p4 ≤ 1514 := by have := hp4.out; omega
  obtain ⟨b, hb⟩ : ∃ b, Hid (bodyB [t0, t1, t2, t3, t4, t5] [f0, f1, f2, f3, f4, f5] d = b) := ⟨_, cover rfl⟩
  have hbt : Hid (s.take p4 = b) := cover (by
    rw [← hb.out, ← hp4.out, ← hs.out.body]
    conv => lhs; rw [← hs.out.eq]
    exact List.take_left)
  have hbl : Hid (b.length = p4) := cover (by rw [← hb.out, hs.out.body, hp4.out])
  have hbb : Hid (Bts b) := cover (by rw [← hb.out]; exact bodyB_bts HH1.out.1 HH1.out.2.1 HH1.out.2.2.1)
  have P6 : Hid (Row w6 w6.heap.size (some ⟨gs, 0, none⟩) p4 b) := cover (by rw [← hbt.out]; exact (O6.out.row).take (by have := hp4.out; omega))
  have i12 : (12 : Int) < (p4 : Int) := by omega
  have i13 : (13 : Int) < (p4 : Int) := by omega
  go_wp2_with fail
  refine (copy_any (some ⟨gs, 0, none⟩) p4 c6 w6.heap.size b w6 P6.out (by first | exact Nat.le_refl _ | omega) (by omega)).mono ?_
  rintro e w7 ⟨A7, c7, rfl, ho70, hb7⟩
  rw [hbl.out]
  have ho7 : w7.ownsRow w6.heap.size 5 1 (.slice A7 p4 c7) p4 (b.map (Value.int .u8)) := by
    have h := ho70; unfold OwnB at h; rw [hbl.out] at h; exact h
  obtain ⟨g7, rfl, hg7, hgl7⟩ := own_some ho7 (by omega)
  have hs7 := hb7.size
  have hcap7 := own_cap ho7
  have hmax7 := own_max ho7
  have H7 := cover (H6.out.trans (hb7.mono (by omega)))
  have G7 := cover ((hb7.block w.heap.size (by omega)).trans G6.out)
  have T7 := cover (T6.out.below hb7 T6.out.lt)
  have O7 := cover ho7
  obtain ⟨y12, hy12⟩ : ∃ y, Hid (b[12]? = some y) := ⟨_, cover (List.getElem?_eq_getElem (by rw [hbl.out]; omega))⟩
  obtain ⟨y13, hy13⟩ : ∃ y, Hid (b[13]? = some y) := ⟨_, cover (List.getElem?_eq_getElem (by rw [hbl.out]; omega))⟩
  have k12 : w7.cell? ⟨g7, 12, none⟩ = some (.int .u8 y12) := by rw [ho7.cellAt _ (by omega), List.getElem?_map, hy12.out]; rfl
  have k13 : w7.cell? ⟨g7, 13, none⟩ = some (.int .u8 y13) := by rw [ho7.cellAt _ (by omega), List.getElem?_map, hy13.out]; rfl
  have z12 : w7.frozen? ⟨g7, 12, none⟩ = false := ho7.frozenAt _
  have z13 : w7.frozen? ⟨g7, 13, none⟩ = false := ho7.frozenAt _
  have HB7 := cover hb7
  clear ho70 ho7 hb7
  obtain ⟨cc, hcc⟩ : ∃ cc, Hid ((b.set 12 ((N : Int) / 256)).set 13 ((N : Int) % 256) = cc) := ⟨_, cover rfl⟩
  have hccl : Hid (cc.length = p4) := cover (by rw [← hcc.out]; simp [hbl.out])
  have hccb : Hid (Bts cc) := cover (by rw [← hcc.out]; exact bts_set (bts_set hbb.out _ (by omega)) _ (by omega))
  obtain ⟨w8, hw8⟩ : ∃ w8, Hid (w8 = (w7.setCell ⟨g7, 12, none⟩ (.int .u8 ((N : Int) / 256))).setCell ⟨g7, 13, none⟩ (.int .u8 ((N : Int) % 256))) := ⟨_, cover rfl⟩
  have ho8 : w8.ownsRow w6.heap.size 5 1 (.slice (some ⟨g7, 0, none⟩) p4 c7) p4 (cc.map (Value.int .u8)) := by
    have h := ((O7.out.stored 12 (.int .u8 ((N : Int) / 256))).1.stored 13 (.int .u8 ((N : Int) % 256))).1
    rw [← List.map_set, ← List.map_set, hcc.out, ← hw8.out] at h
    exact h
  have hs8 : w7.heap.size ≤ w8.heap.size := by rw [hw8.out]; simp [World.setCell]
  have hb68 : Below w6.heap.size w6 w8 := by rw [hw8.out]; exact (HB7.out.setCell (p := ⟨g7, 12, none⟩) hg7 _).setCell (p := ⟨g7, 13, none⟩) hg7 _
  have H8 := cover (H6.out.trans (hb68.mono (by omega)))
  have G8 := cover ((hb68.block w.heap.size (by omega)).trans G6.out)
  have T8 := cover (T6.out.below hb68 T6.out.lt)
  have P8 := cover (P6.out.below hb68)
  have hts8 := T8.out.of
  have hg8 := T8.out.lt
  have hT256 := hT.size
  obtain ⟨u, hu⟩ : ∃ u, Hid (sealB cc = u) := ⟨_, cover rfl⟩
  have hul : Hid (u.length = p4 + 4) := cover (by rw [← hu.out, sealB_length, hccl.out])
  have hub : Hid (Bts u) := cover (by rw [← hu.out]; exact sealB_bts hccb.out)
  obtain ⟨ρ, hρ⟩ : ∃ ρ, Hid (okF cc = ρ) := ⟨_, cover rfl⟩
  obtain ⟨E1, hE1⟩ : ∃ E1 : Int, Hid (errD u = E1) := ⟨_, cover rfl⟩
  have hE1ρ : Hid (E1 = if ρ = true then 0 else 4) := cover (by rw [← hE1.out, ← hu.out, errD_seal (by rw [hccl.out]; omega), hρ.out])
  have HSeal0 := cover (fun W' (hb : Below w8.heap.size w8 W') => seal_made T (some ⟨g7, 0, none⟩) p4 c7 w8.heap.size cc W' hT ((RowK.of_own ho8 hccl.out : Row w8 w8.heap.size (some ⟨g7, 0, none⟩) p4 cc).below hb) hb.size hccb.out hcap7 (fun e => by cases e) (by omega))
  rw [hu.out] at HSeal0
  have hZ0 : Below w8.heap.size w8 (w8.alloc (.cells zf 36)).drew := ((Below.refl _ _).alloc (Nat.le_refl _) _).drew
  clear hb68
  go_upto_region 9 with fail
  rw [← hw8.out]
  go_cut [14] (fun v wx => v = .int .i64 E1 ∧ Hid (Below w8.heap.size w8 wx))
  case first =>
   go_region_held3 (fun w' => tabOf w' g = T ∧ Below w8.heap.size w8 w')
    (first
      | exact ⟨(tabOf_below hbX hg8).trans hts8, hbX⟩
      | exact ⟨hts8, (Below.refl _ _).drew⟩
      | exact ⟨(tabOf_below hZ0 hg8).trans hts8, hZ0⟩
      | exact ⟨(tabOf_below (hbX.alloc hbX.size _) hg8).trans hts8, hbX.alloc hbX.size _⟩
      | exact ⟨(tabOf_below (Go.below_setRow hbX hzb _) hg8).trans hts8, Go.below_setRow hbX hzb _⟩
      | exact ⟨(tabOf_below (Go.below_setRow (hbX.alloc hbX.size _) hbX.size _) hg8).trans hts8, Go.below_setRow (hbX.alloc hbX.size _) hbX.size _⟩)
    (first
      | (go_at_call 36; (first
          | (refine (HSeal0.out w8.drew (Below.refl _ _).drew).mono ?_; rintro e w10 ⟨A10, c10, rfl, ho10, hb10⟩; have hbX : Below w8.heap.size w8 w10 := ((Below.refl w8.heap.size w8).drew).trans (hb10.mono (by simp)); clear hb10)
          | (refine (HSeal0.out _ hZ0).mono ?_; rintro e w10 ⟨A10, c10, rfl, ho10, hb10⟩; have hbX : Below w8.heap.size w8 w10 := hZ0.trans (hb10.mono (by simp)); have hz0 : zfAt w10 w8.heap.size = true := zfAt_below (zfAt_newD w8) hb10 (by simp); clear hb10)))
      | (go_at_call 16; (first
          | (refine (dec_err T A10 u.length c10 w10.heap.size u w10 hT ho10.row (Nat.le_refl _) hub.out (own_cap ho10) (by rw [hul.out]; omega) (own_max ho10)).mono ?_; rintro e w11 ⟨⟨v0, v1, v2, v3, v4, v5, x0, x1, x2, x3, x4, x5, A11, m11, c11, he⟩, hb11⟩; rw [hE1.out] at he; subst he; have hs10 := hbX.size; (try (have hz1 := zfAt_below hz0 hb11 (by have := hbX.size; have := block_lt (zfAt_heap hz0).choose_spec.choose_spec.1; omega); have hzb : w8.heap.size ≤ w8.heap.size := Nat.le_refl _)); have hbX : Below w8.heap.size w8 w11 := hbX.trans (hb11.mono hs10); clear hb11)
          | (refine (dec_err T A10 u.length c10 w10.heap.size u (w10.alloc (.cells zf 36)) hT (ho10.row.alloc (Nat.le_refl _) _) (by simp) hub.out (own_cap ho10) (by rw [hul.out]; omega) (own_max ho10)).mono ?_; rintro e w11 ⟨⟨v0, v1, v2, v3, v4, v5, x0, x1, x2, x3, x4, x5, A11, m11, c11, he⟩, hb11⟩; rw [hE1.out] at he; subst he; have hzb := hbX.size; have hz1 : zfAt w11 w10.heap.size = true := zfAt_below (zfAt_new w10) hb11 (by simp); have hbX : Below w8.heap.size w8 w11 := (hbX.alloc hzb _).trans (hb11.mono (by simp; omega)); clear hb11))))
   all_goals
     go_wp2_with fail
     go_meet
     first
       | exact ⟨rfl, cover (Go.below_setRow hbX hzb _)⟩
       | exact ⟨rfl, cover (Go.below_setRow (hbX.alloc hbX.size _) hbX.size _)⟩
  case rest =>
    obtain ⟨rfl, hbc0⟩ := hcut
    obtain ⟨w9, hw9⟩ : ∃ w9, w9 = wc := ⟨_, rfl⟩
    subst hw9
    have hbc := hbc0.out
    have hsc := hbc.size
    have H9 := cover (H8.out.trans (hbc.mono (by omega)))
    have G9 := cover ((hbc.block w.heap.size (by omega)).trans G8.out)
    have T9 := cover (T8.out.below hbc hg8)
    have P9 := cover (P8.out.below (hbc.mono (by omega)))
    have C9 : Hid (Row w9 w9.heap.size (some ⟨g7, 0, none⟩) p4 cc) := cover (((RowK.of_own ho8 hccl.out : Row w8 w8.heap.size (some ⟨g7, 0, none⟩) p4 cc).below hbc).more hsc)
    clear hbc hbc0 ho8 hts8 hg8 hZ0 hT256
    go_upto_region 10 with fail
    have wN : IntKind.i64.wrap (N : Int) = (N : Int) := by rw [IntKind.wrap_i64]; omega
    obtain ⟨r0, hr0⟩ : ∃ r0 : Bool, Hid ((decide (N ≤ 1500) && decide (14 + max N 46 = p4)) = r0) := ⟨_, cover rfl⟩
    have hρ2 : Hid (ρ = (r0 && allZ (cc.drop (14 + N)))) := cover (by rw [← hρ.out, ← hr0.out, @okF_set [t0, t1, t2, t3, t4, t5] d [f1, f2, f3, f4, f5] b f0 rfl rfl hg.out N hb.out cc hcc.out, hbl.out])
    go_cut [15] (fun v wx => v = .bool r0 ∧ Hid (w9 = wx))
    case first =>
      rcases Nat.lt_or_ge 1500 N with h1 | h1
      · have hI : ¬ ((N : Int) ≤ 1500) := by omega
        have e1 : r0 = false := by rw [← hr0.out]; simp; omega
        subst e1
        go_wp2_with fail
        go_meet
        exact ⟨rfl, cover rfl⟩
      · have hI : (N : Int) ≤ 1500 := by omega
        rcases Nat.lt_or_ge N 46 with h2 | h2
        · have hJ : (N : Int) < 46 := by omega
          have e1 : Hid (((60 : Int) == (p4 : Int)) = r0) := cover (by rw [← hr0.out, Bool.eq_iff_iff]; simp; omega)
          go_wp2_with fail
          go_meet
          exact ⟨by rw [e1.out], cover rfl⟩
        · have hJ : ¬ ((N : Int) < 46) := by omega
          have e1 : Hid (((14 : Int) + (N : Int) == (p4 : Int)) = r0) := cover (by rw [← hr0.out, Bool.eq_iff_iff]; simp; omega)
          go_wp2_with fail
          go_meet
          exact ⟨by rw [e1.out], cover rfl⟩
    case rest =>
      obtain ⟨rfl, hwc⟩ := hcut
      have hwc := hwc.out
      subst hwc
      have hr1 : Hid (r0 = true → 14 + N ≤ p4 ∧ N ≤ 1500) := cover (fun h => by
        have h2 := hr0.out
        rw [h] at h2
        simp at h2
        omega)
      go_upto_block 0 with fail
      go_cut [15] (fun v wx => v = .bool ρ ∧ Hid (w9 = wx))
      case first =>
        go_wp2_with fail
        go_loop [15, 16] (fun r i => ∃ k : Nat, i = .int .i64 ((14 : Int) + (N : Int) + (k : Int)) ∧ r = .bool (r0 && allZ ((cc.drop (14 + N)).take k)) ∧ (r0 = true → 14 + N + k ≤ p4) ∧ k ≤ 1600) (fun _ i => 70000 - (intOf i).toNat)
        case atStart => exact ⟨0, by simp, by simp [allZ], fun h => (hr1.out h).1, by decide⟩
        case round =>
          obtain ⟨k, rfl, rfl, hk, hk2⟩ := hrel
          cases hρk : (r0 && allZ ((cc.drop (14 + N)).take k)) with
          | false =>
            have HK := cover hρk
            clear hρk hk
            go_wp2_with fail
            go_meet
            exact ⟨by rw [hρ2.out, allZ_take_false HK.out], cover rfl⟩
          | true =>
            obtain ⟨e1, e2⟩ : r0 = true ∧ allZ ((cc.drop (14 + N)).take k) = true := by simpa using hρk
            have hk3 := hk e1
            have HK := cover e2
            have HR := cover e1
            clear hρk hk e1 e2
            by_cases hlt : 14 + N + k < p4
            · have hltI : (14 : Int) + (N : Int) + (k : Int) < (p4 : Int) := by omega
              obtain ⟨y, hy⟩ : ∃ y, Hid (cc[14 + N + k]? = some y) := ⟨_, cover (List.getElem?_eq_getElem (by rw [hccl.out]; exact hlt))⟩
              have htn : ((14 : Int) + (N : Int) + (k : Int)).toNat = 14 + N + k := by omega
              have cy : w9.cell? ⟨g7, 14 + N + k, none⟩ = some (.int .u8 y) := by
                obtain ⟨ad, z, e, _, hc, hz⟩ := C9.out.at_ hlt
                injection e with e
                rw [← e, addr0] at hc
                have h2 := hy.out
                rw [hz.out] at h2
                injection h2 with h2
                rw [← h2]; exact hc
              have hnext : Hid ((r0 && allZ ((cc.drop (14 + N)).take (k + 1))) = (y == 0)) := cover (by
                rw [allZ_next (x := y) (by rw [List.getElem?_drop]; exact hy.out), HR.out, HK.out]; simp)
              go_wp2
              go_round
              case rel => exact ⟨k + 1, by first | go_num | (congr 1; omega), by rw [hnext.out], fun _ => by omega, by omega⟩
              case measure => simp [intOf]; omega
            · have hltI : ¬ ((14 : Int) + (N : Int) + (k : Int) < (p4 : Int)) := by omega
              go_wp2_with fail
              go_meet
              exact ⟨by rw [hρ2.out, HR.out, ← List.take_of_length_le (l := cc.drop (14 + N)) (i := k) (by rw [List.length_drop, hccl.out]; omega), HK.out]; rfl, cover rfl⟩
      case rest =>
        obtain ⟨rfl, hwc⟩ := hcut
        have hwc := hwc.out
        subst hwc
        have hE3 : (E1 == 0) = ρ := by rw [hE1ρ.out]; cases ρ <;> rfl
        go_wp2_with fail
        refine (copy_any (some ⟨gs, 0, none⟩) p4 c6 w6.heap.size b w9 P9.out (by first | exact Nat.le_refl _ | omega) (by omega)).mono ?_
        rintro e w20 ⟨A20, c20, rfl, ho200, hb20⟩
        rw [hbl.out]
        have ho20 : w20.ownsRow w9.heap.size 5 1 (.slice A20 p4 c20) p4 (b.map (Value.int .u8)) := by
          have h := ho200; unfold OwnB at h; rw [hbl.out] at h; exact h
        obtain ⟨g20, rfl, hg20, hgl20⟩ := own_some ho20 (by omega)
        have hs20 := hb20.size
        have hcap20 := own_cap ho20
        have hmax20 := own_max ho20
        have H20 := cover (H9.out.trans (hb20.mono (by omega)))
        have G20 := cover ((hb20.block w.heap.size (by omega)).trans G9.out)
        have T20 := cover (T9.out.below hb20 T9.out.lt)
        have O20 := cover ho20
        have kd := (FrmIn.ofHeap G20.out).dat
        have hdn : Hid (d.length = n) := cover R6.out.len
        have hp20 : Hid (14 + max n 46 = p4) := cover (by have := hp4.out; have := HSL.out; have := hdn.out; omega)
        have HB20 := cover hb20
        clear ho20 ho200 hb20
        go_upto_region 18 with fail
        rcases Nat.lt_or_ge n 46 with h46 | h46
        rotate_left
        · have hI : (46 : Int) ≤ (n : Int) := by omega
          go_wp2_with fail
          refine (awake_any w20).mono ?_
          rintro e w30 ⟨rfl, hb30⟩
          have H30 := cover (H20.out.trans (hb30.mono (by omega)))
          clear hb30
          go_wp2
          go_ret
          exact ⟨rfl, H30.out⟩
        have hI : ¬ ((46 : Int) ≤ (n : Int)) := by omega
        by_cases hx0 : x = 0
        · have hxb : (x == 0) = true := by simpa using hx0
          have HX := cover hx0
          clear hx0
          go_wp2_with fail
          refine (awake_any w20).mono ?_
          rintro e w30 ⟨rfl, hb30⟩
          have H30 := cover (H20.out.trans (hb30.mono (by omega)))
          clear hb30
          go_wp2
          go_ret
          exact ⟨rfl, H30.out⟩
        have hxb : (x == 0) = false := by simpa using hx0
        have HX := cover hx0
        clear hx0
        obtain ⟨m, hm⟩ : ∃ m, Hid (46 - n = m) := ⟨_, cover rfl⟩
        have hm1 : (46 : Int) - (n : Int) = (m : Int) := by have := hm.out; omega
        have hm0 : 0 < m := by have := hm.out; omega
        have hm46 : m ≤ 46 := by have := hm.out; omega
        obtain ⟨r, hr⟩ : ∃ r, Hid (q % m = r) := ⟨_, cover rfl⟩
        have hrm : r < m := by rw [← hr.out]; exact Nat.mod_lt _ hm0
        have hri : (q : Int).tmod (m : Int) = (r : Int) := by rw [← hr.out]; exact (Int.tmod_eq_emod_of_nonneg (by omega)).trans (by omega)
        have hp60b : p4 = 60 := by have := hp20.out; omega
        obtain ⟨ix, hix⟩ : ∃ ix, Hid (14 + n + r = ix) := ⟨_, cover rfl⟩
        have hixp : ix < p4 := by have := hix.out; have := hm.out; omega
        have hixi : (14 : Int) + (n : Int) + (r : Int) = (ix : Int) := by have := hix.out; omega
        have hHp := cover hp60b
        clear hp60b
        obtain ⟨y, hy⟩ : ∃ y, Hid (b[ix]? = some y) := ⟨_, cover (List.getElem?_eq_getElem (by rw [hbl.out]; exact hixp))⟩
        have cy : w20.cell? ⟨g20, ix, none⟩ = some (.int .u8 y) := by rw [O20.out.cellAt _ (by omega), List.getElem?_map, hy.out]; rfl
        have zy : w20.frozen? ⟨g20, ix, none⟩ = false := O20.out.frozenAt _
        have hixI : (ix : Int) < (p4 : Int) := by omega
        have v1 : IntKind.i64.wrap (14 + (n : Int)) = 14 + (n : Int) := by rw [IntKind.wrap_i64]; omega
        have v2 : IntKind.i64.wrap (m : Int) = (m : Int) := by rw [IntKind.wrap_i64]; omega
        have v3 : IntKind.i64.wrap (ix : Int) = (ix : Int) := by rw [IntKind.wrap_i64]; omega
        have v4 : IntKind.i64.wrap (q : Int) = (q : Int) := by rw [IntKind.wrap_i64]; omega
        have v5 : ¬ (m : Int) = 0 := by omega
        have v6 : ¬ m = 0 := by omega
        go_upto_region 20 with fail
        go_region
        obtain ⟨w22, hw22⟩ : ∃ w22, Hid (w22 = (w20.setCell ⟨g20, ix, none⟩ (.int .u8 x)).drew) := ⟨_, cover rfl⟩
        obtain ⟨c2, hc2⟩ : ∃ c2, Hid (b.set ix x = c2) := ⟨_, cover rfl⟩
        have hc2l : Hid (c2.length = p4) := cover (by rw [← hc2.out]; simp [hbl.out])
        have hc2b : Hid (Bts c2) := cover (by rw [← hc2.out]; exact bts_set hbb.out _ hx)
        have ho22 : w22.ownsRow w9.heap.size 5 1 (.slice (some ⟨g20, 0, none⟩) p4 c20) p4 (c2.map (Value.int .u8)) := by
          have h := (O20.out.stored ix (.int .u8 x)).1
          rw [← List.map_set, hc2.out] at h
          rw [hw22.out]
          exact h
        have hs22 : w20.heap.size ≤ w22.heap.size := by rw [hw22.out]; simp [World.setCell]
        have hb22 : Below w9.heap.size w9 w22 := by rw [hw22.out]; exact (HB20.out.setCell (p := ⟨g20, ix, none⟩) hg20 _).drew
        have H22 := cover (H9.out.trans (hb22.mono (by omega)))
        have T22 := cover (T9.out.below hb22 T9.out.lt)
        have hts22 := T22.out.of
        have hg22 := T22.out.lt
        have hT256 := hT.size
        obtain ⟨u2, hu2⟩ : ∃ u, Hid (sealB c2 = u) := ⟨_, cover rfl⟩
        have hul2 : Hid (u2.length = p4 + 4) := cover (by rw [← hu2.out, sealB_length, hc2l.out])
        have hub2 : Hid (Bts u2) := cover (by rw [← hu2.out]; exact sealB_bts hc2b.out)
        have hE2 : Hid (errD u2 = 4) := cover (by
          rw [← hu2.out, errD_seal (by rw [hc2l.out]; omega), ← hc2.out, ← hix.out, ← hdn.out]
          rw [@okF_pad [t0, t1, t2, t3, t4, t5] d [f1, f2, f3, f4, f5] b f0 rfl rfl (by rw [hdn.out]; omega) r x HX.out hb.out (by rw [hdn.out, hm.out]; exact hrm)]
          rfl)
        have HSeal2 := cover (fun W' (hb : Below w22.heap.size w22 W') => seal_made T (some ⟨g20, 0, none⟩) p4 c20 w22.heap.size c2 W' hT ((RowK.of_own ho22 hc2l.out : Row w22 w22.heap.size (some ⟨g20, 0, none⟩) p4 c2).below hb) hb.size hc2b.out hcap20 (fun e => by cases e) (by omega))
        rw [hu2.out] at HSeal2
        have hZ2 : Below w22.heap.size w22 (w22.alloc (.cells zf 36)).drew := ((Below.refl _ _).alloc (Nat.le_refl _) _).drew
        clear hb22 ho22
        rw [← hw22.out]
        clear v1 v2 v3 v4 v5 v6 cy zy hri hixi hm1
        go_upto_region 21 with fail
        go_cut [19] (fun v wx => v = .int .i64 4 ∧ Hid (Below w22.heap.size w22 wx))
        case first =>
         go_region_held3 (fun w' => tabOf w' g = T ∧ Below w22.heap.size w22 w')
          (first
            | exact ⟨(tabOf_below hbX hg22).trans hts22, hbX⟩
            | exact ⟨hts22, (Below.refl _ _).drew⟩
            | exact ⟨(tabOf_below hZ2 hg22).trans hts22, hZ2⟩
            | exact ⟨(tabOf_below (hbX.alloc hbX.size _) hg22).trans hts22, hbX.alloc hbX.size _⟩
            | exact ⟨(tabOf_below (Go.below_setRow hbX hzb _) hg22).trans hts22, Go.below_setRow hbX hzb _⟩
            | exact ⟨(tabOf_below (Go.below_setRow (hbX.alloc hbX.size _) hbX.size _) hg22).trans hts22, Go.below_setRow (hbX.alloc hbX.size _) hbX.size _⟩)
          (first
            | (go_at_call 36; (first
                | (refine (HSeal2.out w22.drew (Below.refl _ _).drew).mono ?_; rintro e w10 ⟨A10, c10, rfl, ho10, hb10⟩; have hbX : Below w22.heap.size w22 w10 := ((Below.refl w22.heap.size w22).drew).trans (hb10.mono (by simp)); clear hb10)
                | (refine (HSeal2.out _ hZ2).mono ?_; rintro e w10 ⟨A10, c10, rfl, ho10, hb10⟩; have hbX : Below w22.heap.size w22 w10 := hZ2.trans (hb10.mono (by simp)); have hz0 : zfAt w10 w22.heap.size = true := zfAt_below (zfAt_newD w22) hb10 (by simp); clear hb10)))
            | (go_at_call 16; (first
                | (refine (dec_err T A10 u2.length c10 w10.heap.size u2 w10 hT ho10.row (Nat.le_refl _) hub2.out (own_cap ho10) (by rw [hul2.out]; omega) (own_max ho10)).mono ?_; rintro e w11 ⟨⟨v0, v1, v2, v3, v4, v5, x0, x1, x2, x3, x4, x5, A11, m11, c11, he⟩, hb11⟩; rw [hE2.out] at he; subst he; have hs10 := hbX.size; (try (have hz1 := zfAt_below hz0 hb11 (by have := hbX.size; have := block_lt (zfAt_heap hz0).choose_spec.choose_spec.1; omega); have hzb : w22.heap.size ≤ w22.heap.size := Nat.le_refl _)); have hbX : Below w22.heap.size w22 w11 := hbX.trans (hb11.mono hs10); clear hb11)
                | (refine (dec_err T A10 u2.length c10 w10.heap.size u2 (w10.alloc (.cells zf 36)) hT (ho10.row.alloc (Nat.le_refl _) _) (by simp) hub2.out (own_cap ho10) (by rw [hul2.out]; omega) (own_max ho10)).mono ?_; rintro e w11 ⟨⟨v0, v1, v2, v3, v4, v5, x0, x1, x2, x3, x4, x5, A11, m11, c11, he⟩, hb11⟩; rw [hE2.out] at he; subst he; have hzb := hbX.size; have hz1 : zfAt w11 w10.heap.size = true := zfAt_below (zfAt_new w10) hb11 (by simp); have hbX : Below w22.heap.size w22 w11 := (hbX.alloc hzb _).trans (hb11.mono (by simp; omega)); clear hb11))))
         all_goals
           go_wp2_with fail
           go_meet
           first
             | exact ⟨rfl, cover (Go.below_setRow hbX hzb _)⟩
             | exact ⟨rfl, cover (Go.below_setRow (hbX.alloc hbX.size _) hbX.size _)⟩
        case rest =>
          obtain ⟨rfl, hbd⟩ := hcut
          have Hd := cover (H22.out.trans (hbd.out.mono (by omega)))
          clear hbd hts22 hg22
          go_wp2_with fail
          refine (awake_any wc).mono ?_
          rintro e w30 ⟨rfl, hb30⟩
          have hsd := Hd.out.size
          have H30 := cover (Hd.out.trans (hb30.mono hsd))
          clear hb30
          go_wp2
          go_ret
          exact ⟨rfl, H30.out⟩
end Go.Proofs.Ytbpmhfekjihhhaa
