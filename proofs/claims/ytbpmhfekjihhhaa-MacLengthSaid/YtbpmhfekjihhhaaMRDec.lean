/- What the document's own Decode hands back. -/
import Derived.Test.YtbpmhfekjihhhaaMDec
import Derived.Test.YtbpmhfekjihhhaaCRef
import Derived.Test.YtbpmhfekjihhhaaOGet
import Derived.Test.YtbpmhfekjihhhaaCTurn
import Derived.Test.YtbpmhfekjihhhaaORef
namespace Go.Proofs.Ytbpmhfekjihhhaa
open Go.RowKit
set_option linter.unusedVariables false

/-- a frame's cells, so far filled -/
def fillL (M L : List Int) (i : Nat) : Array Value := (((M.take i ++ List.replicate (6 - i) 0) ++ (L.take i ++ List.replicate (6 - i) 0)).map (Value.int .u8) ++ [Value.slice none 0 0]).toArray
theorem fill_step (t0 t1 t2 t3 t4 t5 f0 f1 f2 f3 f4 f5 : Int) (i : Nat) (hi : i < 6) (a b : Int) (ha : [t0, t1, t2, t3, t4, t5][i]? = some a) (hb : [f0, f1, f2, f3, f4, f5][i]? = some b) :
    ((fillL [t0, t1, t2, t3, t4, t5] [f0, f1, f2, f3, f4, f5] i).setIfInBounds i (.int .u8 a)).setIfInBounds (6 + i) (.int .u8 b) = fillL [t0, t1, t2, t3, t4, t5] [f0, f1, f2, f3, f4, f5] (i + 1) ∧ (fillL [t0, t1, t2, t3, t4, t5] [f0, f1, f2, f3, f4, f5] i)[i]? = some (.int .u8 0) ∧ ((fillL [t0, t1, t2, t3, t4, t5] [f0, f1, f2, f3, f4, f5] i).setIfInBounds i (.int .u8 a))[6 + i]? = some (.int .u8 0) := by
  rcases lt6 hi with rfl | rfl | rfl | rfl | rfl | rfl <;> (injection ha with ha; injection hb with hb; subst ha hb; exact ⟨rfl, rfl, rfl⟩)
/-- at the head of a round -/
def FillAt (w0 : World) (g : Nat) (M L : List Int) (i : Nat) (wr : World) : Prop :=
  wr.heap[g]? = some (.cells (fillL M L i) 36 (0, 0)) ∧ Below g w0 wr
theorem FillAt.step {w0 wr : World} {g i : Nat} {t0 t1 t2 t3 t4 t5 f0 f1 f2 f3 f4 f5 : Int} (h : FillAt w0 g [t0, t1, t2, t3, t4, t5] [f0, f1, f2, f3, f4, f5] i wr) (hi : i < 6) (a b : Int) (ha : [t0, t1, t2, t3, t4, t5][i]? = some a) (hb : [f0, f1, f2, f3, f4, f5][i]? = some b) :
    wr.cell? ⟨g, i, none⟩ = some (.int .u8 0) ∧ wr.frozen? ⟨g, i, none⟩ = false ∧ (wr.setCell ⟨g, i, none⟩ (.int .u8 a)).cell? ⟨g, 6 + i, none⟩ = some (.int .u8 0) ∧ (wr.setCell ⟨g, i, none⟩ (.int .u8 a)).frozen? ⟨g, 6 + i, none⟩ = false ∧
    FillAt w0 g [t0, t1, t2, t3, t4, t5] [f0, f1, f2, f3, f4, f5] (i + 1) ((wr.setCell ⟨g, i, none⟩ (.int .u8 a)).setCell ⟨g, 6 + i, none⟩ (.int .u8 b)) := by
  obtain ⟨h1, h2⟩ := h
  obtain ⟨e1, e2, e3⟩ := fill_step t0 t1 t2 t3 t4 t5 f0 f1 f2 f3 f4 f5 i hi a b ha hb
  have k1 := heap_setCell_same wr g i _ _ (.int .u8 a) h1
  have k2 := heap_setCell_same _ g (6 + i) _ _ (.int .u8 b) k1
  rw [e1] at k2
  refine ⟨?_, frozen_of_row _ _ _ _ _ h1, ?_, frozen_of_row _ _ _ _ _ k1, k2, (h2.setCell (Nat.le_refl _) _).setCell (Nat.le_refl _) _⟩
  · rw [cell_of_row _ _ _ _ _ _ h1]; exact e2
  · rw [cell_of_row _ _ _ _ _ _ k1]; exact e3

theorem FrmIn.ofHeap {w : World} {g : Nat} {t0 t1 t2 t3 t4 t5 f0 f1 f2 f3 f4 f5 : Int} {v : Value} {T : TypeId} (h : w.heap[g]? = some (.cells #[.int .u8 t0, .int .u8 t1, .int .u8 t2, .int .u8 t3, .int .u8 t4, .int .u8 t5, .int .u8 f0, .int .u8 f1, .int .u8 f2, .int .u8 f3, .int .u8 f4, .int .u8 f5, v] T (0, 0))) : FrmIn w g [t0, t1, t2, t3, t4, t5] [f0, f1, f2, f3, f4, f5] v := by
  refine ⟨fun j hj => ?_, fun j hj => ?_, ?_⟩
  · rw [cell_of_row _ _ _ _ _ _ h]; rcases lt6 hj with rfl | rfl | rfl | rfl | rfl | rfl <;> rfl
  · rw [cell_of_row _ _ _ _ _ _ h]; rcases lt6 hj with rfl | rfl | rfl | rfl | rfl | rfl <;> rfl
  · rw [cell_of_row _ _ _ _ _ _ h]; rfl

theorem addr0 (g k : Nat) : (⟨g, 0, none⟩ : Addr).add k = ⟨g, k, none⟩ := by unfold Addr.add; split <;> simp_all
set_option maxRecDepth 100000 in
set_option maxHeartbeats 3200000 in
theorem ref_dec_any (A : Option Addr) (n c B : Nat) (l : List Int) (w : World) (hr : Row w B A n l) (hB : B ≤ w.heap.size) (hb : Bts l) (hc : n ≤ c) (hmax : n ≤ 70368744177664) (hcm : c ≤ 9223372036854775807) :
    Calls Try.prog 21 #[.slice A n c] w (DecD l w) := by
  obtain rfl : l.length = n := hr.len
  obtain ⟨w1, hw1⟩ : ∃ w1, Hid (w1 = w.alloc (.cells zf 36)) := ⟨_, cover rfl⟩
  have hs1 : w1.heap.size = w.heap.size + 1 := by rw [hw1.out]; simp
  have H1 : Hid (Below w.heap.size w w1) := cover (by rw [hw1.out]; exact (Below.refl _ _).alloc (Nat.le_refl _) _)
  have G1 : Hid (w1.heap[w.heap.size]? = some (.cells zf 36 (0, 0))) := cover (by rw [hw1.out]; exact heap_alloc_new _ _)
  have HR : Hid (Row w1 B A l.length l) := cover (hr.below (H1.out.mono hB))
  have HB := cover hb
  have hs1' : w.heap.size < w1.heap.size := by omega
  clear hr hb hs1
  by_cases h64 : l.length < 64
  · have h64I : (l.length : Int) < 64 := by omega
    have hE := cover (errD_short h64)
    go_enter Try.func21, Try.ntmps21
    go_wp2_with fail
    rw [← hw1.out]
    exact bodyPost_ret (v := .tuple #[.agg zf, .int .i64 2]) (results_cell_two (by rfl) _ _ w.heap.size _ zf (0, 0) _ (.int .i64 2) rfl G1.out rfl Try.underlying36 rfl frm_size) rfl (DecD.no hE.out (by decide) H1.out)
  · have h64I : ¬ (l.length : Int) < 64 := by omega
    go_enter Try.func21, Try.ntmps21
    go_wp2_with fail
    rw [← hw1.out]
    refine (ref_open_any A l.length c B l w1 HR.out (by omega) HB.out hc hmax hcm).mono ?_
    rintro e w2 ⟨A2, c2, rfl, ho2, hb2⟩
    have hs2 := hb2.size
    have H2 := cover (H1.out.trans (hb2.mono (by omega)))
    have G2 := cover ((hb2.block w.heap.size (by omega)).trans G1.out)
    have HO2 := cover ho2
    have hcap2 := own_cap ho2
    clear hb2 ho2
    rcases hok : okOpen l with _ | _
    · have hE := cover (errD_sum h64 hok)
      go_wp2_with (refine wpList_store_row rfl _ _ _ rfl w.heap.size zf rfl rfl 36 zf G2.out frm_size rfl zf_one ?_)
      exact bodyPost_ret (v := .tuple #[.agg zf, .int .i64 5]) (results_cell_two (by rfl) _ _ w.heap.size _ zf (0, 0) _ (.int .i64 5) rfl (setRow_heap _ _ _ _ _ _ G2.out) rfl Try.underlying36 rfl frm_size) rfl (DecD.no hE.out (by decide) (Go.below_setRow H2.out (Nat.le_refl _) _))
    · obtain ⟨x, hx⟩ : ∃ x, Hid (openB l = x) := ⟨_, cover rfl⟩
      have hxb : Hid (Bts x) := cover (by rw [← hx.out]; exact openB_bts HB.out)
      have hxl : x.length = l.length - 4 := by rw [← hx.out]; exact openB_length hok
      have HOK := cover hok
      rw [hx.out] at HO2 hcap2 ⊢
      have HXL := cover hxl
      have h60 : 60 ≤ x.length := by omega
      have hxm : x.length ≤ 70368744177664 := by omega
      clear hok hxl
      obtain ⟨g2, rfl, hg2, hgl2⟩ := own_some HO2.out (by omega)
      have hc12 : ¬ c2 = 12 := by omega
      have hc14 : (14 : Int) ≤ (c2 : Int) := by omega
      have hc14n : ¬ c2 = 14 := by omega
      have h14 : (14 : Int) ≤ (x.length : Int) := by omega
      obtain ⟨w3, hw3⟩ : ∃ w3, Hid (w3 = w2.alloc (.cells zf 36)) := ⟨_, cover rfl⟩
      obtain ⟨gf, hgf⟩ : ∃ gf, gf = w2.heap.size := ⟨_, rfl⟩
      obtain ⟨t0, t1, t2, t3, t4, t5, hT⟩ := six_list (L := x.take 6) (by rw [List.length_take]; omega)
      obtain ⟨f0, f1, f2, f3, f4, f5, hF⟩ := six_list (L := (x.drop 6).take 6) (by rw [List.length_take, List.length_drop]; omega)
      have HT := cover hT
      have HF := cover hF
      have hrow3 : Row w2 gf (some ⟨g2, 0, none⟩) x.length x := by rw [hgf]; exact HO2.out.row
      have HRow2 := cover hrow3
      have hst : Hid (FillAt w2 gf [t0, t1, t2, t3, t4, t5] [f0, f1, f2, f3, f4, f5] 0 w3) := cover (by
        refine ⟨?_, ?_⟩
        · rw [hw3.out, hgf]; exact heap_alloc_new _ _
        · rw [hw3.out, hgf]; exact (Below.refl _ _).alloc (Nat.le_refl _) _)
      clear hT hF hrow3
      go_wp2_with fail
      rw [← hw3.out, ← hgf]
      have hgf' : w2.heap.size = gf := hgf.symm
      clear hgf
      go_loopw [7] (fun i wr => ∃ j : Nat, j ≤ 6 ∧ i = .int .i64 j ∧ Hid (FillAt w2 gf [t0, t1, t2, t3, t4, t5] [f0, f1, f2, f3, f4, f5] j wr)) (fun i _ => 6 - (intOf i).toNat)
      case atStart => exact ⟨0, by decide, rfl, hst⟩
      case round =>
        clear hst
        obtain ⟨j, hj, rfl, hat⟩ := hrel
        have hrx := HRow2.out.below hat.out.2
        by_cases hlt : j < 6
        · have hltI : (j : Int) < 6 := by omega
          obtain ⟨ad1, a, e1, had1, hc1, hx1⟩ := hrx.at_ (show j < x.length by omega)
          obtain ⟨ad2, b, e2, had2, hc2, hx2⟩ := hrx.at_ (show 6 + j < x.length by omega)
          injection e1 with e1
          injection e2 with e2
          subst e1 e2
          rw [addr0] at hc1 hc2
          have ha : [t0, t1, t2, t3, t4, t5][j]? = some a := by rw [← HT.out, List.getElem?_take_of_lt hlt]; exact hx1.out
          have hbb : [f0, f1, f2, f3, f4, f5][j]? = some b := by rw [← HF.out, List.getElem?_take_of_lt hlt, List.getElem?_drop]; exact hx2.out
          obtain ⟨k1, k2, k3, k4, k5⟩ := hat.out.step hlt a b ha hbb
          have K5 := cover k5
          have hc3 : (wr.setCell ⟨gf, j, none⟩ (.int .u8 a)).cell? ⟨g2, 6 + j, none⟩ = some (.int .u8 b) := (World.cell?_setCell_other wr ⟨gf, j, none⟩ ⟨g2, 6 + j, none⟩ (.int .u8 a) (fun e => by injection e with e; omega)).trans hc2
          clear hc2
          clear ha hbb k5 hat
          go_wp2_with fail
          go_roundw
          case rel => exact ⟨j + 1, by omega, by go_num, K5⟩
          case measure => simp [intOf]; omega
        · obtain rfl : j = 6 := by omega
          have hfr : FrmIn wr gf [t0, t1, t2, t3, t4, t5] [f0, f1, f2, f3, f4, f5] (.slice none 0 0) := FrmIn.ofHeap hat.out.1
          have FR := cover hfr
          have hcf := hfr.fr.all6
          have hbw := hat.out.2
          have hsr := hbw.size
          have HH := cover hat.out.1
          have hgflt : gf < wr.heap.size := block_lt hat.out.1
          have H3 := cover (H2.out.trans (hbw.mono (by omega : w.heap.size ≤ gf)))
          have G3 := cover ((hbw.block w.heap.size (by omega)).trans G2.out)
          have hrow12 := (hrx.cut (k := 12) (cap := c2) (by omega) hcap2).take (k := 2) (by omega)
          rw [if_neg hc12] at hrow12
          simp only [Option.map_some, addr0] at hrow12
          have HRow12 := cover hrow12
          have HRow3 := cover hrx
          have hN := lenF_val hxb.out
          have hNlt := lenF_lt hxb.out
          obtain ⟨N, hNN⟩ : ∃ N, Hid (lenF x = N) := ⟨_, cover rfl⟩
          rw [hNN.out] at hN hNlt
          have hgB : Hid (getB ((x.drop 12).take 2) = (N : Int)) := cover (by
            unfold getB
            rw [if_pos (by rw [List.length_take, List.length_drop]; omega)]
            exact hN)
          clear hat hbw hrow12 hrx hN hfr
          go_wp2_with fail
          refine (ref_get_any (some ⟨g2, 12, none⟩) 2 (c2 - 12) gf ((x.drop 12).take 2) wr HRow12.out ((hxb.out.drop _).take _) (by decide)).mono ?_
          rintro e w' ⟨he, rfl⟩
          rw [hgB.out] at he
          subst he
          go_wp2_with fail
          refine (ref_group_any f0 f1 f2 f3 f4 f5 wr).mono ?_
          rintro e w5 ⟨he, hb5⟩
          have hs5 := hb5.size
          have H5 := cover (H3.out.trans (hb5.mono (by omega)))
          have G5 := cover ((hb5.block w.heap.size (by omega)).trans G3.out)
          have HH5 := cover ((hb5.block gf hgflt).trans HH.out)
          have HRow5 := cover (HRow3.out.below (hb5.mono (by omega)))
          have hx6 : Hid (x.getD 6 0 = f0) := cover (by
            have h := congrArg (fun l => l.getD 0 0) HF.out
            simpa [List.getD_eq_getElem?_getD, List.getElem?_take, List.getElem?_drop] using h)
          clear hb5 hcf
          rcases hq1 : grp f0 with _ | _
          · rw [hq1] at he
            subst he
            have HQ1 := cover hq1
            clear hq1
            by_cases h2 : N ≤ 1500
            · have h2I : ¬ ((1500 : Int) < (N : Int)) := by omega
              by_cases h46 : N < 46
              · have h46I : (N : Int) < 46 := by omega
                by_cases hm : x.length = 60
                · have hbne : ((x.length : Int) != 60) = false := by rw [hm]; rfl
                  have hmx := cover (show x.length = 14 + max N 46 by omega)
                  clear hm
                  go_wp2_with fail
                  go_loop [9] (fun i => ∃ k : Nat, 14 + N + k ≤ x.length ∧ i = .int .i64 ((14 : Int) + (N : Int) + (k : Int)) ∧ Hid (allZ ((x.drop (14 + N)).take k) = true)) (fun i => x.length - (intOf i).toNat)
                  case atStart => exact ⟨0, by have := hmx.out; omega, by simp, cover rfl⟩
                  case round =>
                    obtain ⟨k, hk, rfl, hz⟩ := hrel
                    by_cases hltk : 14 + N + k < x.length
                    · have hltkI : (14 : Int) + (N : Int) + (k : Int) < (x.length : Int) := by omega
                      have htn : ((14 : Int) + (N : Int) + (k : Int)).toNat = 14 + N + k := by omega
                      obtain ⟨ad3, b, e3, had3, hc3, hx3⟩ := HRow5.out.at_ hltk
                      injection e3 with e3
                      subst e3
                      rw [addr0] at hc3
                      have HX3 : Hid ((x.drop (14 + N))[k]? = some b) := cover (by rw [List.getElem?_drop]; exact hx3.out)
                      rcases hbz : (b != 0) with _ | _
                      · have HBZ := cover hbz
                        go_wp2
                        go_round
                        case rel => exact ⟨k + 1, by omega, by first | go_num | (congr 1; omega), cover (by rw [allZ_next HX3.out, hz.out]; have := HBZ.out; simpa using this)⟩
                        case measure => simp [intOf]; omega
                      · have hno : Hid (okF x = false) := cover (by
                          have h1 := allZ_no HX3.out (by simpa using hbz)
                          unfold okF; rw [hNN.out, List.drop_drop, h1]; simp)
                        go_wp2_with (refine wpList_store_row rfl _ _ _ rfl w.heap.size zf rfl rfl 36 zf G5.out frm_size rfl zf_one ?_)
                        exact bodyPost_ret (v := .tuple #[.agg zf, .int .i64 4]) (results_cell_two (by rfl) _ _ w.heap.size _ zf (0, 0) _ (.int .i64 4) rfl (setRow_heap _ _ _ _ _ _ G5.out) rfl Try.underlying36 rfl frm_size) rfl (DecD.no (errD_form h64 HOK.out (by rw [hx.out]; exact hno.out)) (by decide) (Go.below_setRow H5.out (Nat.le_refl _) _))
                    · have hkl : k = x.length - (14 + N) := by omega
                      have hyes : Hid (okF x = true) := cover (by
                        have h1 := hz.out
                        rw [List.take_of_length_le (by rw [List.length_drop]; omega)] at h1
                        unfold okF; rw [hNN.out, List.drop_drop, h1, hx6.out, HQ1.out]; simp; exact ⟨by omega, by have := hmx.out; omega⟩)
                      have hltkI : (x.length : Int) ≤ (14 : Int) + (N : Int) + (k : Int) := by omega
                      have hcN : (14 : Int) + (N : Int) ≤ (c2 : Int) := by omega
                      have h0N : (14 : Int) ≤ (14 : Int) + (N : Int) := by omega
                      have htn : ((14 : Int) + (N : Int)).toNat = 14 + N := by omega
                      have hE := cover (errD_ok h64 HOK.out (by rw [hx.out]; exact hyes.out))
                      have hrow14 := (HRow5.out.cut (k := 14) (cap := c2) (by omega) hcap2).take (k := N) (by omega)
                      rw [if_neg hc14n] at hrow14
                      simp only [Option.map_some, addr0] at hrow14
                      have HRow14 := cover hrow14
                      clear hkl hz hrow14
                      go_wp2_with fail
                      refine (copy_any (some ⟨g2, 14, none⟩) N (c2 - 14) gf ((x.drop 14).take N) w5 HRow14.out (by omega) (by omega)).mono ?_
                      rintro e w6 ⟨A6, c6, rfl, ho6, hb6⟩
                      have hdl : ((x.drop 14).take N).length = N := by rw [List.length_take, List.length_drop]; omega
                      have HDL := cover hdl
                      rw [hdl] at ho6 ⊢
                      have hgf5 : gf < w5.heap.size := by omega
                      have h6h := (hb6.block gf hgf5).trans HH5.out
                      have h6c : w6.cell? ⟨gf, 12, none⟩ = some (.slice none 0 0) := by rw [cell_of_row _ _ _ _ _ _ h6h]; rfl
                      have h6f : w6.frozen? ⟨gf, 12, none⟩ = false := frozen_of_row _ _ _ _ _ h6h
                      obtain ⟨w7, hw7⟩ : ∃ w7, Hid (w7 = w6.setCell ⟨gf, 12, none⟩ (.slice A6 N c6)) := ⟨_, cover rfl⟩
                      have hb7 : Below gf w6 w7 := by rw [hw7.out]; exact (Below.refl gf w6).setCell (p := ⟨gf, 12, none⟩) (Nat.le_refl gf) _
                      have HH7 : Hid (w7.heap[gf]? = some (.cells #[.int .u8 t0, .int .u8 t1, .int .u8 t2, .int .u8 t3, .int .u8 t4, .int .u8 t5, .int .u8 f0, .int .u8 f1, .int .u8 f2, .int .u8 f3, .int .u8 f4, .int .u8 f5, .slice A6 N c6] 36 (0, 0))) := cover (by rw [hw7.out]; exact heap_setCell_same w6 gf 12 _ _ (.slice A6 N c6) h6h)
                      have hs6 := hb6.size
                      have hs7 := hb7.size
                      have H7 := cover (H5.out.trans ((hb6.mono (by omega : w.heap.size ≤ w5.heap.size)).trans (hb7.mono (by omega))))
                      have G7 := cover ((hb7.block w.heap.size (by omega)).trans ((hb6.block w.heap.size (by omega)).trans G5.out))
                      have HO7 : Hid (w7.ownsRow w5.heap.size 5 1 (.slice A6 N c6) N (((x.drop 14).take N).map (Value.int .u8))) := cover (by
                        have h1 : w6.ownsRow w5.heap.size 5 1 (.slice A6 N c6) N (((x.drop 14).take N).map (Value.int .u8)) := by
                          unfold OwnB at ho6; rw [HDL.out] at ho6; exact ho6
                        rw [hw7.out]
                        exact World.ownsRow.kept h1 ((OnlyB.refl gf w6).setCell _ _) (.inr (fun e => by have := (h1.lt gf e).1; omega)))
                      clear ho6 hb6 hb7 h6h hdl
                      go_wp2_with (first
                        | (rw [← hw7.out]; refine wpList_load_row rfl _ _ rfl gf rfl 36 #[.int .u8 t0, .int .u8 t1, .int .u8 t2, .int .u8 t3, .int .u8 t4, .int .u8 t5, .int .u8 f0, .int .u8 f1, .int .u8 f2, .int .u8 f3, .int .u8 f4, .int .u8 f5, .slice A6 N c6] (0, 0) _ HH7.out Try.underlying36 rfl frm_size ?_)
                        | (refine wpList_store_row rfl _ _ _ rfl w.heap.size #[.int .u8 t0, .int .u8 t1, .int .u8 t2, .int .u8 t3, .int .u8 t4, .int .u8 t5, .int .u8 f0, .int .u8 f1, .int .u8 f2, .int .u8 f3, .int .u8 f4, .int .u8 f5, .slice A6 N c6] rfl rfl 36 zf G7.out frm_size rfl (frm_one t0 t1 t2 t3 t4 t5 f0 f1 f2 f3 f4 f5 A6 N c6) ?_))
                      exact bodyPost_ret (v := .tuple #[.agg #[.int .u8 t0, .int .u8 t1, .int .u8 t2, .int .u8 t3, .int .u8 t4, .int .u8 t5, .int .u8 f0, .int .u8 f1, .int .u8 f2, .int .u8 f3, .int .u8 f4, .int .u8 f5, .slice A6 N c6], .int .i64 0]) (results_cell_two (by rfl) _ _ w.heap.size _ #[.int .u8 t0, .int .u8 t1, .int .u8 t2, .int .u8 t3, .int .u8 t4, .int .u8 t5, .int .u8 f0, .int .u8 f1, .int .u8 f2, .int .u8 f3, .int .u8 f4, .int .u8 f5, .slice A6 N c6] (0, 0) _ (.int .i64 0) rfl (setRow_heap _ _ _ _ _ _ G7.out) rfl Try.underlying36 rfl frm_size) rfl
                        ⟨t0, t1, t2, t3, t4, t5, f0, f1, f2, f3, f4, f5, A6, c6, (x.drop 14).take N, by rw [hE.out, HDL.out], cover ⟨by unfold toD; rw [if_pos hE.out, hx.out]; unfold toF; rw [if_pos hyes.out, HT.out], by unfold frD; rw [if_pos hE.out, hx.out]; unfold frF; rw [if_pos hyes.out, HF.out], by unfold daD; rw [if_pos hE.out, hx.out]; unfold daF; rw [if_pos hyes.out, hNN.out]⟩,
                          by
                            have h2 := World.ownsRow.kept HO7.out (setRow_only w7 w.heap.size #[.int .u8 t0, .int .u8 t1, .int .u8 t2, .int .u8 t3, .int .u8 t4, .int .u8 t5, .int .u8 f0, .int .u8 f1, .int .u8 f2, .int .u8 f3, .int .u8 f4, .int .u8 f5, .slice A6 N c6]) (.inr (fun e => by have := (HO7.out.lt w.heap.size e).1; omega))
                            unfold OwnB; rw [HDL.out]; exact own_base h2 (by omega), Go.below_setRow H7.out (Nat.le_refl _) _⟩
                · have hbne : ((x.length : Int) != 60) = true := by simpa using (by omega : ¬ (x.length : Int) = 60)
                  have hno : Hid (okF x = false) := cover (by unfold okF; rw [hNN.out, decide_eq_false (by rw [List.length_drop]; omega : ¬ (x.drop 14).length = max N 46)]; simp)
                  clear hm
                  go_wp2_with (refine wpList_store_row rfl _ _ _ rfl w.heap.size zf rfl rfl 36 zf G5.out frm_size rfl zf_one ?_)
                  exact bodyPost_ret (v := .tuple #[.agg zf, .int .i64 4]) (results_cell_two (by rfl) _ _ w.heap.size _ zf (0, 0) _ (.int .i64 4) rfl (setRow_heap _ _ _ _ _ _ G5.out) rfl Try.underlying36 rfl frm_size) rfl (DecD.no (errD_form h64 HOK.out (by rw [hx.out]; exact hno.out)) (by decide) (Go.below_setRow H5.out (Nat.le_refl _) _))
              · have h46I : ¬ ((N : Int) < 46) := by omega
                by_cases hm : x.length = 14 + N
                · have hbne : ((x.length : Int) != 14 + (N : Int)) = false := by rw [hm]; simp
                  have hmx := cover (show x.length = 14 + max N 46 by omega)
                  clear hm
                  go_wp2_with fail
                  go_loop [9] (fun i => ∃ k : Nat, 14 + N + k ≤ x.length ∧ i = .int .i64 ((14 : Int) + (N : Int) + (k : Int)) ∧ Hid (allZ ((x.drop (14 + N)).take k) = true)) (fun i => x.length - (intOf i).toNat)
                  case atStart => exact ⟨0, by have := hmx.out; omega, by simp, cover rfl⟩
                  case round =>
                    obtain ⟨k, hk, rfl, hz⟩ := hrel
                    by_cases hltk : 14 + N + k < x.length
                    · have hltkI : (14 : Int) + (N : Int) + (k : Int) < (x.length : Int) := by omega
                      have htn : ((14 : Int) + (N : Int) + (k : Int)).toNat = 14 + N + k := by omega
                      obtain ⟨ad3, b, e3, had3, hc3, hx3⟩ := HRow5.out.at_ hltk
                      injection e3 with e3
                      subst e3
                      rw [addr0] at hc3
                      have HX3 : Hid ((x.drop (14 + N))[k]? = some b) := cover (by rw [List.getElem?_drop]; exact hx3.out)
                      rcases hbz : (b != 0) with _ | _
                      · have HBZ := cover hbz
                        go_wp2
                        go_round
                        case rel => exact ⟨k + 1, by omega, by first | go_num | (congr 1; omega), cover (by rw [allZ_next HX3.out, hz.out]; have := HBZ.out; simpa using this)⟩
                        case measure => simp [intOf]; omega
                      · have hno : Hid (okF x = false) := cover (by
                          have h1 := allZ_no HX3.out (by simpa using hbz)
                          unfold okF; rw [hNN.out, List.drop_drop, h1]; simp)
                        go_wp2_with (refine wpList_store_row rfl _ _ _ rfl w.heap.size zf rfl rfl 36 zf G5.out frm_size rfl zf_one ?_)
                        exact bodyPost_ret (v := .tuple #[.agg zf, .int .i64 4]) (results_cell_two (by rfl) _ _ w.heap.size _ zf (0, 0) _ (.int .i64 4) rfl (setRow_heap _ _ _ _ _ _ G5.out) rfl Try.underlying36 rfl frm_size) rfl (DecD.no (errD_form h64 HOK.out (by rw [hx.out]; exact hno.out)) (by decide) (Go.below_setRow H5.out (Nat.le_refl _) _))
                    · have hkl : k = x.length - (14 + N) := by omega
                      have hyes : Hid (okF x = true) := cover (by
                        have h1 := hz.out
                        rw [List.take_of_length_le (by rw [List.length_drop]; omega)] at h1
                        unfold okF; rw [hNN.out, List.drop_drop, h1, hx6.out, HQ1.out]; simp; exact ⟨by omega, by have := hmx.out; omega⟩)
                      have hltkI : (x.length : Int) ≤ (14 : Int) + (N : Int) + (k : Int) := by omega
                      have hcN : (14 : Int) + (N : Int) ≤ (c2 : Int) := by omega
                      have h0N : (14 : Int) ≤ (14 : Int) + (N : Int) := by omega
                      have htn : ((14 : Int) + (N : Int)).toNat = 14 + N := by omega
                      have hE := cover (errD_ok h64 HOK.out (by rw [hx.out]; exact hyes.out))
                      have hrow14 := (HRow5.out.cut (k := 14) (cap := c2) (by omega) hcap2).take (k := N) (by omega)
                      rw [if_neg hc14n] at hrow14
                      simp only [Option.map_some, addr0] at hrow14
                      have HRow14 := cover hrow14
                      clear hkl hz hrow14
                      go_wp2_with fail
                      refine (copy_any (some ⟨g2, 14, none⟩) N (c2 - 14) gf ((x.drop 14).take N) w5 HRow14.out (by omega) (by omega)).mono ?_
                      rintro e w6 ⟨A6, c6, rfl, ho6, hb6⟩
                      have hdl : ((x.drop 14).take N).length = N := by rw [List.length_take, List.length_drop]; omega
                      have HDL := cover hdl
                      rw [hdl] at ho6 ⊢
                      have hgf5 : gf < w5.heap.size := by omega
                      have h6h := (hb6.block gf hgf5).trans HH5.out
                      have h6c : w6.cell? ⟨gf, 12, none⟩ = some (.slice none 0 0) := by rw [cell_of_row _ _ _ _ _ _ h6h]; rfl
                      have h6f : w6.frozen? ⟨gf, 12, none⟩ = false := frozen_of_row _ _ _ _ _ h6h
                      obtain ⟨w7, hw7⟩ : ∃ w7, Hid (w7 = w6.setCell ⟨gf, 12, none⟩ (.slice A6 N c6)) := ⟨_, cover rfl⟩
                      have hb7 : Below gf w6 w7 := by rw [hw7.out]; exact (Below.refl gf w6).setCell (p := ⟨gf, 12, none⟩) (Nat.le_refl gf) _
                      have HH7 : Hid (w7.heap[gf]? = some (.cells #[.int .u8 t0, .int .u8 t1, .int .u8 t2, .int .u8 t3, .int .u8 t4, .int .u8 t5, .int .u8 f0, .int .u8 f1, .int .u8 f2, .int .u8 f3, .int .u8 f4, .int .u8 f5, .slice A6 N c6] 36 (0, 0))) := cover (by rw [hw7.out]; exact heap_setCell_same w6 gf 12 _ _ (.slice A6 N c6) h6h)
                      have hs6 := hb6.size
                      have hs7 := hb7.size
                      have H7 := cover (H5.out.trans ((hb6.mono (by omega : w.heap.size ≤ w5.heap.size)).trans (hb7.mono (by omega))))
                      have G7 := cover ((hb7.block w.heap.size (by omega)).trans ((hb6.block w.heap.size (by omega)).trans G5.out))
                      have HO7 : Hid (w7.ownsRow w5.heap.size 5 1 (.slice A6 N c6) N (((x.drop 14).take N).map (Value.int .u8))) := cover (by
                        have h1 : w6.ownsRow w5.heap.size 5 1 (.slice A6 N c6) N (((x.drop 14).take N).map (Value.int .u8)) := by
                          unfold OwnB at ho6; rw [HDL.out] at ho6; exact ho6
                        rw [hw7.out]
                        exact World.ownsRow.kept h1 ((OnlyB.refl gf w6).setCell _ _) (.inr (fun e => by have := (h1.lt gf e).1; omega)))
                      clear ho6 hb6 hb7 h6h hdl
                      go_wp2_with (first
                        | (rw [← hw7.out]; refine wpList_load_row rfl _ _ rfl gf rfl 36 #[.int .u8 t0, .int .u8 t1, .int .u8 t2, .int .u8 t3, .int .u8 t4, .int .u8 t5, .int .u8 f0, .int .u8 f1, .int .u8 f2, .int .u8 f3, .int .u8 f4, .int .u8 f5, .slice A6 N c6] (0, 0) _ HH7.out Try.underlying36 rfl frm_size ?_)
                        | (refine wpList_store_row rfl _ _ _ rfl w.heap.size #[.int .u8 t0, .int .u8 t1, .int .u8 t2, .int .u8 t3, .int .u8 t4, .int .u8 t5, .int .u8 f0, .int .u8 f1, .int .u8 f2, .int .u8 f3, .int .u8 f4, .int .u8 f5, .slice A6 N c6] rfl rfl 36 zf G7.out frm_size rfl (frm_one t0 t1 t2 t3 t4 t5 f0 f1 f2 f3 f4 f5 A6 N c6) ?_))
                      exact bodyPost_ret (v := .tuple #[.agg #[.int .u8 t0, .int .u8 t1, .int .u8 t2, .int .u8 t3, .int .u8 t4, .int .u8 t5, .int .u8 f0, .int .u8 f1, .int .u8 f2, .int .u8 f3, .int .u8 f4, .int .u8 f5, .slice A6 N c6], .int .i64 0]) (results_cell_two (by rfl) _ _ w.heap.size _ #[.int .u8 t0, .int .u8 t1, .int .u8 t2, .int .u8 t3, .int .u8 t4, .int .u8 t5, .int .u8 f0, .int .u8 f1, .int .u8 f2, .int .u8 f3, .int .u8 f4, .int .u8 f5, .slice A6 N c6] (0, 0) _ (.int .i64 0) rfl (setRow_heap _ _ _ _ _ _ G7.out) rfl Try.underlying36 rfl frm_size) rfl
                        ⟨t0, t1, t2, t3, t4, t5, f0, f1, f2, f3, f4, f5, A6, c6, (x.drop 14).take N, by rw [hE.out, HDL.out], cover ⟨by unfold toD; rw [if_pos hE.out, hx.out]; unfold toF; rw [if_pos hyes.out, HT.out], by unfold frD; rw [if_pos hE.out, hx.out]; unfold frF; rw [if_pos hyes.out, HF.out], by unfold daD; rw [if_pos hE.out, hx.out]; unfold daF; rw [if_pos hyes.out, hNN.out]⟩,
                          by
                            have h2 := World.ownsRow.kept HO7.out (setRow_only w7 w.heap.size #[.int .u8 t0, .int .u8 t1, .int .u8 t2, .int .u8 t3, .int .u8 t4, .int .u8 t5, .int .u8 f0, .int .u8 f1, .int .u8 f2, .int .u8 f3, .int .u8 f4, .int .u8 f5, .slice A6 N c6]) (.inr (fun e => by have := (HO7.out.lt w.heap.size e).1; omega))
                            unfold OwnB; rw [HDL.out]; exact own_base h2 (by omega), Go.below_setRow H7.out (Nat.le_refl _) _⟩
                · have hbne : ((x.length : Int) != 14 + (N : Int)) = true := by simpa using (by omega : ¬ (x.length : Int) = 14 + (N : Int))
                  have hno : Hid (okF x = false) := cover (by unfold okF; rw [hNN.out, decide_eq_false (by rw [List.length_drop]; omega : ¬ (x.drop 14).length = max N 46)]; simp)
                  clear hm
                  go_wp2_with (refine wpList_store_row rfl _ _ _ rfl w.heap.size zf rfl rfl 36 zf G5.out frm_size rfl zf_one ?_)
                  exact bodyPost_ret (v := .tuple #[.agg zf, .int .i64 4]) (results_cell_two (by rfl) _ _ w.heap.size _ zf (0, 0) _ (.int .i64 4) rfl (setRow_heap _ _ _ _ _ _ G5.out) rfl Try.underlying36 rfl frm_size) rfl (DecD.no (errD_form h64 HOK.out (by rw [hx.out]; exact hno.out)) (by decide) (Go.below_setRow H5.out (Nat.le_refl _) _))
            · have h2I : (1500 : Int) < (N : Int) := by omega
              have hno : Hid (okF x = false) := cover (by unfold okF; rw [hNN.out, decide_eq_false h2]; simp)
              go_wp2_with (refine wpList_store_row rfl _ _ _ rfl w.heap.size zf rfl rfl 36 zf G5.out frm_size rfl zf_one ?_)
              exact bodyPost_ret (v := .tuple #[.agg zf, .int .i64 4]) (results_cell_two (by rfl) _ _ w.heap.size _ zf (0, 0) _ (.int .i64 4) rfl (setRow_heap _ _ _ _ _ _ G5.out) rfl Try.underlying36 rfl frm_size) rfl (DecD.no (errD_form h64 HOK.out (by rw [hx.out]; exact hno.out)) (by decide) (Go.below_setRow H5.out (Nat.le_refl _) _))
          · rw [hq1] at he
            subst he
            have hno : Hid (okF x = false) := cover (by unfold okF; rw [hx6.out, hq1]; simp)
            clear hq1
            go_wp2_with (refine wpList_store_row rfl _ _ _ rfl w.heap.size zf rfl rfl 36 zf G5.out frm_size rfl zf_one ?_)
            exact bodyPost_ret (v := .tuple #[.agg zf, .int .i64 4]) (results_cell_two (by rfl) _ _ w.heap.size _ zf (0, 0) _ (.int .i64 4) rfl (setRow_heap _ _ _ _ _ _ G5.out) rfl Try.underlying36 rfl frm_size) rfl (DecD.no (errD_form h64 HOK.out (by rw [hx.out]; exact hno.out)) (by decide) (Go.below_setRow H5.out (Nat.le_refl _) _))
end Go.Proofs.Ytbpmhfekjihhhaa
