/- The walk of TellWindow. -/
import Derived.Test.YtihbnphgjpohpaaTAwake
import Derived.Test.YtihbnphgjpohpaaTArr
namespace Go.Proofs.Ytihbnphgjpohpaa
open Go.RowKit
set_option linter.unusedVariables false
set_option linter.unusedSimpArgs false

/-- the unit that is turned round the ring -/
def wP (f k : Int) : PV := ⟨4, 8, false, f, 0, 0, k, false, []⟩
theorem wrong_w {f : Int} (hf : f ≠ 2) (k a n : Int) (h0 : 0 ≤ n) (h1 : n ≤ 127) : wrongP (wP f k) a ((a + n) % 128) = decide (n < dist a k) := by
  rw [wrongP_n hf]
  have : dist a ((a + n) % 128) = n := by unfold dist; omega
  rw [this]; rfl
/-- the unit lies in block g -/
def WAt (w0 : World) (g : Nat) (f : Int) (w : World) : Prop := Below w0.heap.size w0 w ∧ ∃ k, w.heap[g]? = some (.cells #[.int .i64 (wP f k).to, .int .i64 (wP f k).frm, .bool (wP f k).resp, .int .i64 (wP f k).form, .int .i64 (wP f k).kind, .int .i64 (wP f k).ns, .int .i64 (wP f k).nr, .bool (wP f k).poll, .slice none 0 0] 26 (0, 0))

set_option maxRecDepth 100000 in
set_option maxHeartbeats 1600000 in
theorem walk_TellWindow (va out : Int) (form : Bool) (w : World) (ha : (Lit.int .u8 va).wf = true) (ho : (Lit.int .u8 out).wf = true) :
    Calls Try.prog 8 #[.int .u8 va, .int .u8 out, .bool form] w fun e w' => e = .returned (.bool true) ∧ Below w.heap.size w w' := by
  have hva := byte_wf ha
  have hout := byte_wf ho
  clear ha ho
  have E1 : bits BinOp.and IntKind.i64 va 127 = va % 128 := Go.i64_and127 va
  obtain ⟨a, hA⟩ : ∃ a, Hid (va % 128 = a) := ⟨_, cover rfl⟩
  obtain ⟨n, hN⟩ : ∃ n, Hid (out % 128 = n) := ⟨_, cover rfl⟩
  have ha : 0 ≤ a ∧ a ≤ 127 := by have := hA.out; omega
  have hn : 0 ≤ n ∧ n ≤ 127 := by have := hN.out; omega
  go_enter Try.func8, Try.ntmps8
  go_wp2_with fail
  refine (awake_any w).mono ?_
  rintro e w1 ⟨rfl, hb1⟩
  have hs1 := hb1.size
  have H1 := cover hb1
  clear hb1
  rcases form with _ | _
  · obtain ⟨w2, hw2⟩ : ∃ w2, Hid (w2 = w1.alloc (.cells #[.int .i64 (wP 1 0).to, .int .i64 (wP 1 0).frm, .bool (wP 1 0).resp, .int .i64 (wP 1 0).form, .int .i64 (wP 1 0).kind, .int .i64 (wP 1 0).ns, .int .i64 (wP 1 0).nr, .bool (wP 1 0).poll, .slice none 0 0] 26)) := ⟨_, cover rfl⟩
    have HST : Hid (WAt w1 w1.heap.size 1 w2) := cover (by rw [hw2.out]; exact ⟨(Below.refl _ _).alloc (Nat.le_refl _) _, 0, heap_alloc_new _ _⟩)
    have HC0 := cover (cntW_zero ha.1 ha.2 hn.1 hn.2)
    go_wp2_with fail
    simp only [hA.out, hN.out]
    go_loopw [10, 11] (fun r i wr => ∃ k : Nat, k ≤ 128 ∧ r = .int .i64 (cntW a n (k : Int)) ∧ i = .int .i64 k ∧ Hid (WAt w1 w1.heap.size 1 wr)) (fun _ i _ => 128 - (intOf i).toNat)
    case atStart => exact ⟨0, by decide, by rw [show ((0 : Nat) : Int) = 0 from rfl, HC0.out], rfl, cover (by have h := HST.out; rw [hw2.out] at h; exact h)⟩
    case round =>
      clear HST hw2
      obtain ⟨k, hk, rfl, rfl, hwr⟩ := hrel
      obtain ⟨hbr, k0, hgr⟩ := hwr.out
      have hsr := hbr.size
      have hlt : w1.heap.size < wr.heap.size := block_lt hgr
      by_cases hlk : k < 128
      · have hlkI : (k : Int) < 128 := by omega
        obtain ⟨w3, hw3⟩ : ∃ w3, w3 = wr.setCell ⟨w1.heap.size, 6, none⟩ (.int .i64 (k : Int)) := ⟨_, rfl⟩
        have G3 : Hid (w3.heap[w1.heap.size]? = some (.cells #[.int .i64 (wP 1 (k : Int)).to, .int .i64 (wP 1 (k : Int)).frm, .bool (wP 1 (k : Int)).resp, .int .i64 (wP 1 (k : Int)).form, .int .i64 (wP 1 (k : Int)).kind, .int .i64 (wP 1 (k : Int)).ns, .int .i64 (wP 1 (k : Int)).nr, .bool (wP 1 (k : Int)).poll, .slice none 0 0] 26 (0, 0))) := cover (by rw [hw3, heap_setCell_same _ _ _ _ _ _ hgr]; rfl)
        have H3 : Hid (Below w1.heap.size w1 w3) := cover (by rw [hw3]; exact hbr.setCell (Nat.le_refl _) _)
        have fz := frozen_of_row wr w1.heap.size 6 _ _ hgr
        have c6 : wr.cell? ⟨w1.heap.size, 6, none⟩ = some (.int .i64 k0) := by rw [cell_of_row _ _ _ _ _ _ hgr]; rfl
        have hcn := cntW_next ha.1 ha.2 hn.1 hn.2 (k := (k : Int)) (by omega) (by omega)
        have hdk : ((k : Int) - a + 128) % 128 = dist a (k : Int) := by unfold dist; omega
        have hdb := dist_bd a (k : Int)
        have hcb : 0 ≤ cntW a n (k : Int) ∧ cntW a n (k : Int) ≤ 200 := by unfold cntW; split <;> omega
        go_upto_region 13 with fail
        rw [← hw3]
        clear hw3 hbr hgr fz c6 hwr
        have hs3 := H3.out.size
        have hlt3 : w1.heap.size < w3.heap.size := block_lt G3.out
        obtain ⟨p0, p1, p2, p3, p4, p5, p6, p7, p8⟩ := pdu_cells G3.out
        go_wp2_with fail
        refine (wrong_any (wP 1 (k : Int)) a ((a + n) % 128) none 0 w3).mono ?_
        rw [wrong_w (by decide) _ _ _ hn.1 hn.2]
        rintro e w4 ⟨rfl, hb4⟩
        have H4 := cover (H3.out.trans (hb4.mono (by omega)))
        have G4 := cover ((hb4.block _ hlt3).trans G3.out)
        have HW4 : Hid (WAt w1 w1.heap.size 1 w4) := cover ⟨H4.out, (k : Int), G4.out⟩
        clear hb4 p0 p1 p2 p3 p4 p5 p6 p7 p8
        obtain ⟨D, hD⟩ : ∃ D, Hid (dist a (k : Int) = D) := ⟨_, cover rfl⟩
        rw [hD.out] at hdk hdb hcn ⊢
        obtain ⟨C, hC⟩ : ∃ C, Hid (cntW a n (k : Int) = C) := ⟨_, cover rfl⟩
        rw [hC.out] at hcb hcn ⊢
        have HCN := cover hcn
        clear hcn
        by_cases hnd : n < D
        · rw [decide_eq_true hnd]
          go_wp2
          go_roundw
          case rel => exact ⟨k + 1, by omega, by rw [show ((k + 1 : Nat) : Int) = (k : Int) + 1 from rfl, HCN.out, if_neg (by omega), Int.add_zero], by go_num, HW4⟩
          case measure => simp [intOf]; omega
        · rw [decide_eq_false hnd]
          go_wp2
          go_roundw
          case rel => exact ⟨k + 1, by omega, by rw [show ((k + 1 : Nat) : Int) = (k : Int) + 1 from rfl, HCN.out, if_pos (by omega)], by go_num, HW4⟩
          case measure => simp [intOf]; omega
      · obtain rfl : k = 128 := by omega
        have hca : cntW a n ((128 : Nat) : Int) = n + 1 := cntW_all ha.1 ha.2 hn.1 hn.2
        rw [hca]
        have H9 := cover (H1.out.trans (hbr.mono hs1))
        clear hbr hgr hwr hca
        go_wp2
        go_ret
        exact ⟨rfl, H9.out⟩
  · obtain ⟨w2, hw2⟩ : ∃ w2, Hid (w2 = w1.alloc (.cells #[.int .i64 (wP 0 0).to, .int .i64 (wP 0 0).frm, .bool (wP 0 0).resp, .int .i64 (wP 0 0).form, .int .i64 (wP 0 0).kind, .int .i64 (wP 0 0).ns, .int .i64 (wP 0 0).nr, .bool (wP 0 0).poll, .slice none 0 0] 26)) := ⟨_, cover rfl⟩
    have HST : Hid (WAt w1 w1.heap.size 0 w2) := cover (by rw [hw2.out]; exact ⟨(Below.refl _ _).alloc (Nat.le_refl _) _, 0, heap_alloc_new _ _⟩)
    have HC0 := cover (cntW_zero ha.1 ha.2 hn.1 hn.2)
    go_wp2_with fail
    simp only [hA.out, hN.out]
    go_loopw [10, 11] (fun r i wr => ∃ k : Nat, k ≤ 128 ∧ r = .int .i64 (cntW a n (k : Int)) ∧ i = .int .i64 k ∧ Hid (WAt w1 w1.heap.size 0 wr)) (fun _ i _ => 128 - (intOf i).toNat)
    case atStart => exact ⟨0, by decide, by rw [show ((0 : Nat) : Int) = 0 from rfl, HC0.out], rfl, cover (by have h := HST.out; rw [hw2.out] at h; exact h)⟩
    case round =>
      clear HST hw2
      obtain ⟨k, hk, rfl, rfl, hwr⟩ := hrel
      obtain ⟨hbr, k0, hgr⟩ := hwr.out
      have hsr := hbr.size
      have hlt : w1.heap.size < wr.heap.size := block_lt hgr
      by_cases hlk : k < 128
      · have hlkI : (k : Int) < 128 := by omega
        obtain ⟨w3, hw3⟩ : ∃ w3, w3 = wr.setCell ⟨w1.heap.size, 6, none⟩ (.int .i64 (k : Int)) := ⟨_, rfl⟩
        have G3 : Hid (w3.heap[w1.heap.size]? = some (.cells #[.int .i64 (wP 0 (k : Int)).to, .int .i64 (wP 0 (k : Int)).frm, .bool (wP 0 (k : Int)).resp, .int .i64 (wP 0 (k : Int)).form, .int .i64 (wP 0 (k : Int)).kind, .int .i64 (wP 0 (k : Int)).ns, .int .i64 (wP 0 (k : Int)).nr, .bool (wP 0 (k : Int)).poll, .slice none 0 0] 26 (0, 0))) := cover (by rw [hw3, heap_setCell_same _ _ _ _ _ _ hgr]; rfl)
        have H3 : Hid (Below w1.heap.size w1 w3) := cover (by rw [hw3]; exact hbr.setCell (Nat.le_refl _) _)
        have fz := frozen_of_row wr w1.heap.size 6 _ _ hgr
        have c6 : wr.cell? ⟨w1.heap.size, 6, none⟩ = some (.int .i64 k0) := by rw [cell_of_row _ _ _ _ _ _ hgr]; rfl
        have hcn := cntW_next ha.1 ha.2 hn.1 hn.2 (k := (k : Int)) (by omega) (by omega)
        have hdk : ((k : Int) - a + 128) % 128 = dist a (k : Int) := by unfold dist; omega
        have hdb := dist_bd a (k : Int)
        have hcb : 0 ≤ cntW a n (k : Int) ∧ cntW a n (k : Int) ≤ 200 := by unfold cntW; split <;> omega
        go_upto_region 13 with fail
        rw [← hw3]
        clear hw3 hbr hgr fz c6 hwr
        have hs3 := H3.out.size
        have hlt3 : w1.heap.size < w3.heap.size := block_lt G3.out
        obtain ⟨p0, p1, p2, p3, p4, p5, p6, p7, p8⟩ := pdu_cells G3.out
        go_wp2_with fail
        refine (wrong_any (wP 0 (k : Int)) a ((a + n) % 128) none 0 w3).mono ?_
        rw [wrong_w (by decide) _ _ _ hn.1 hn.2]
        rintro e w4 ⟨rfl, hb4⟩
        have H4 := cover (H3.out.trans (hb4.mono (by omega)))
        have G4 := cover ((hb4.block _ hlt3).trans G3.out)
        have HW4 : Hid (WAt w1 w1.heap.size 0 w4) := cover ⟨H4.out, (k : Int), G4.out⟩
        clear hb4 p0 p1 p2 p3 p4 p5 p6 p7 p8
        obtain ⟨D, hD⟩ : ∃ D, Hid (dist a (k : Int) = D) := ⟨_, cover rfl⟩
        rw [hD.out] at hdk hdb hcn ⊢
        obtain ⟨C, hC⟩ : ∃ C, Hid (cntW a n (k : Int) = C) := ⟨_, cover rfl⟩
        rw [hC.out] at hcb hcn ⊢
        have HCN := cover hcn
        clear hcn
        by_cases hnd : n < D
        · rw [decide_eq_true hnd]
          go_wp2
          go_roundw
          case rel => exact ⟨k + 1, by omega, by rw [show ((k + 1 : Nat) : Int) = (k : Int) + 1 from rfl, HCN.out, if_neg (by omega), Int.add_zero], by go_num, HW4⟩
          case measure => simp [intOf]; omega
        · rw [decide_eq_false hnd]
          go_wp2
          go_roundw
          case rel => exact ⟨k + 1, by omega, by rw [show ((k + 1 : Nat) : Int) = (k : Int) + 1 from rfl, HCN.out, if_pos (by omega)], by go_num, HW4⟩
          case measure => simp [intOf]; omega
      · obtain rfl : k = 128 := by omega
        have hca : cntW a n ((128 : Nat) : Int) = n + 1 := cntW_all ha.1 ha.2 hn.1 hn.2
        rw [hca]
        have H9 := cover (H1.out.trans (hbr.mono hs1))
        clear hbr hgr hwr hca
        go_wp2
        go_ret
        exact ⟨rfl, H9.out⟩
end Go.Proofs.Ytihbnphgjpohpaa
