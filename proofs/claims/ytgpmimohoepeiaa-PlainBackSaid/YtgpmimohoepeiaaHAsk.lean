/- What Unit, AskTest and AskXid hand back, the program's and the document's. -/
import Derived.Test.YtgpmimohoepeiaaUMay
import Derived.Test.YtgpmimohoepeiaaOCopy
import Derived.Test.YtgpmimohoepeiaaOClone
import Derived.Test.YtgpmimohoepeiaaGPClass
import Derived.Test.YtgpmimohoepeiaaHMem
namespace Go.Proofs.Ytgpmimohoepeiaa
open Go.RowKit
set_option linter.unusedVariables false
set_option linter.unusedSimpArgs false

/-- a unit has been made, or what may not be -/
def AskOut (r : PV × Int) (w : World) (e : Ending) (w' : World) : Prop :=
  ∃ A c, e = .returned (.tuple #[.agg #[.int .i64 r.1.to, .int .i64 r.1.frm, .bool r.1.resp, .int .i64 r.1.form, .int .i64 r.1.kind, .int .i64 r.1.ns, .int .i64 r.1.nr, .bool r.1.poll, .slice A r.1.info.length c], .int .i64 r.2]) ∧ Hid (OwnB w' w.heap.size (.slice A r.1.info.length c) r.1.info ∧ Below w.heap.size w w')
theorem AskOut.zero {w w' : World} {r : PV × Int} {k : Int} (h : r = (zPV, k)) (hb : Below w.heap.size w w') : AskOut r w (.returned (.tuple #[.agg zp, .int .i64 k])) w' := by
  subst h
  exact ⟨none, 0, rfl, cover ⟨OwnB.nil _ _, hb⟩⟩
theorem askOut_below {r : PV × Int} {w w0 : World} {e : Ending} {w' : World} (h : AskOut r w e w') (hb : Below w0.heap.size w0 w) : AskOut r w0 e w' := by
  obtain ⟨A, c, e1, H⟩ := h
  exact ⟨A, c, e1, cover ⟨H.out.1.mono hb.size, hb.trans (H.out.2.mono hb.size)⟩⟩
open Classical in
noncomputable def cmdP (q : PV) (b : List Int) : PV × Int := if q.frm = 0 ∨ ¬ MayP q then (zPV, 1) else if 1024 < b.length then (zPV, 3) else ({ q with info := b }, 0)
theorem cmdP_bare {q : PV} (hf : q.form = 2) (hk : 0 ≤ q.kind ∧ q.kind ≤ 2) (hr : q.resp = false) (hs : q.ns = 0) (hn : q.nr = 0) (hi : q.info = []) (b : List Int) : cmdP q b = askP q 0 b := by
  have hm := may_bare hf hk hr hs hn hi
  unfold cmdP askP
  by_cases h : OkSap q.frm ∧ 0 ≤ q.to ∧ q.to ≤ 255
  · have h1 : MayP q := hm.2 (by have := sap_bare.1 h.1; omega)
    have h0 := (sap_bare.1 h.1).1
    rw [if_neg (by rintro (e | e); exact h0 e; exact e h1), if_pos h]
  · have h1 : q.frm = 0 ∨ ¬ MayP q := by
      by_cases h0 : q.frm = 0
      · exact .inl h0
      · exact .inr (fun h2 => h (by have := hm.1 h2; exact ⟨sap_bare.2 ⟨h0, by omega⟩, by omega⟩))
    rw [if_pos h1, if_neg h]
/-- the result's block, a unit's box beside it -/
theorem two_pdus (w : World) (a : Array Value) : ∃ w1, w1 = (w.alloc (.cells a 29)).alloc (.cells zp 29) ∧ Hid (w1.heap[w.heap.size]? = some (.cells a 29 (0, 0))) ∧ Hid (w1.heap[w.heap.size + 1]? = some (.cells zp 29 (0, 0))) ∧ Hid (Below w.heap.size w w1) ∧ Hid (w1.heap.size = w.heap.size + 2) :=
  ⟨_, rfl, cover (heap_alloc2_old _ _ _), cover (heap_alloc2_new _ _ _), cover (((Below.refl _ _).alloc (Nat.le_refl _) _).alloc (by simp) _), cover (by simp)⟩
set_option maxHeartbeats 3200000 in
theorem command_any (q : PV) (hq : q.info = []) (A : Option Addr) (c B : Nat) (b : List Int) (w : World) (hr : Row w B A b.length b) (hB : B ≤ w.heap.size) (hmax : b.length ≤ 140737488355328) :
    Calls Try.prog 33 #[.agg #[.int .i64 q.to, .int .i64 q.frm, .bool q.resp, .int .i64 q.form, .int .i64 q.kind, .int .i64 q.ns, .int .i64 q.nr, .bool q.poll, .slice none 0 0], .slice A b.length c] w (AskOut (cmdP q b) w) := by
  obtain ⟨g, hg⟩ : ∃ g, g = w.heap.size := ⟨_, rfl⟩
  obtain ⟨w1, hw1, G0, G1, H1, hs1⟩ := two_pdus w #[.int .i64 q.to, .int .i64 q.frm, .bool q.resp, .int .i64 q.form, .int .i64 q.kind, .int .i64 q.ns, .int .i64 q.nr, .bool q.poll, .slice none 0 0]
  rw [← hg] at G0 G1 H1 hs1 hB
  obtain ⟨p0, p1, p2, p3, p4, p5, p6, p7, p8⟩ := pdu_cells G0.out
  have HM := cover (fun W => may_any q none 0 W)
  rw [show q.info.length = 0 by rw [hq]; rfl] at HM
  obtain ⟨n, hn⟩ : ∃ n, n = b.length := ⟨_, rfl⟩
  have HR := cover (hr.below (H1.out.mono hB))
  rw [← hn] at HR hmax ⊢
  have HN := cover hn
  have HZ : Hid (∀ k W, cmdP q b = (zPV, k) → Below g w W → AskOut (cmdP q b) w (.returned (.tuple #[.agg zp, .int .i64 k])) W) := cover fun k W h hb => AskOut.zero h (by rw [← hg]; exact hb)
  have HG := cover hg
  have HSZ : Hid (∀ W, Below g w W → g ≤ W.heap.size) := cover fun W hb => by rw [hg]; exact hb.size
  have HQ := cover hq
  clear hr hn hq
  by_cases h0 : q.frm = 0
  · have HE : Hid (cmdP q b = (zPV, 1)) := cover (by unfold cmdP; rw [if_pos (.inl h0)])
    have hb0 : (q.frm == 0) = true := by simpa using h0
    clear h0
    go_enter Try.func33, Try.ntmps33
    go_upto_region 1 with fail
    rw [← hw1, ← hg]
    clear hw1 hg
    go_wp2_with (refine wpList_store_row rfl _ _ _ rfl (g + 1) zp rfl rfl 29 zp G1.out pdu_size rfl zp_one ?_)
    exact bodyPost_ret (v := .tuple #[.agg zp, .int .i64 1]) (results_cell_and (by rfl) _ _ (g + 1) _ zp (0, 0) _ (.int .i64 1) rfl (setRow_heap _ _ _ _ _ _ G1.out) rfl Try.underlying29 rfl pdu_size) rfl (HZ.out _ _ HE.out (Go.below_setRow H1.out (by omega) _))
  have hb0 : (q.frm == 0) = false := by simpa using h0
  rcases hm : mayB q with _ | _
  · have HE : Hid (cmdP q b = (zPV, 1)) := cover (by unfold cmdP; rw [if_pos (.inr (fun h => by rw [mayB_yes h] at hm; cases hm))])
    clear h0
    rw [hm] at HM
    clear hm
    go_enter Try.func33, Try.ntmps33
    go_upto_region 1 with fail
    rw [← hw1, ← hg]
    clear hw1 hg
    go_wp2_with fail
    refine (HM.out w1).mono ?_
    rintro e w2 ⟨rfl, hb2⟩
    have G2 := cover ((hb2.block _ (block_lt G1.out)).trans G1.out)
    have H2 := cover (H1.out.trans (hb2.mono (HSZ.out _ H1.out)))
    clear hb2 p0 p1 p2 p3 p4 p5 p6 p7 p8
    go_wp2_with (refine wpList_store_row rfl _ _ _ rfl (g + 1) zp rfl rfl 29 zp G2.out pdu_size rfl zp_one ?_)
    exact bodyPost_ret (v := .tuple #[.agg zp, .int .i64 1]) (results_cell_and (by rfl) _ _ (g + 1) _ zp (0, 0) _ (.int .i64 1) rfl (setRow_heap _ _ _ _ _ _ G2.out) rfl Try.underlying29 rfl pdu_size) rfl (HZ.out _ _ HE.out (Go.below_setRow H2.out (by omega) _))
  have HE0 : Hid (cmdP q b = if 1024 < b.length then (zPV, 3) else ({ q with info := b }, 0)) := cover (by unfold cmdP; rw [if_neg (by rintro (e | e); exact h0 e; exact e (mayB_iff.1 hm))])
  rw [hm] at HM
  clear h0 hm
  by_cases hlong : 1024 < n
  · have HE : Hid (cmdP q b = (zPV, 3)) := cover (by rw [HE0.out, if_pos (by rw [← HN.out]; exact hlong)])
    have hl : (1024 : Int) < (n : Int) := by omega
    clear HE0
    go_enter Try.func33, Try.ntmps33
    go_upto_region 1 with fail
    rw [← hw1, ← hg]
    clear hw1 hg
    go_wp2_with fail
    refine (HM.out w1).mono ?_
    rintro e w2 ⟨rfl, hb2⟩
    have G2 := cover ((hb2.block _ (block_lt G1.out)).trans G1.out)
    have H2 := cover (H1.out.trans (hb2.mono (HSZ.out _ H1.out)))
    clear hb2 p0 p1 p2 p3 p4 p5 p6 p7 p8
    go_wp2_with (refine wpList_store_row rfl _ _ _ rfl (g + 1) zp rfl rfl 29 zp G2.out pdu_size rfl zp_one ?_)
    exact bodyPost_ret (v := .tuple #[.agg zp, .int .i64 3]) (results_cell_and (by rfl) _ _ (g + 1) _ zp (0, 0) _ (.int .i64 3) rfl (setRow_heap _ _ _ _ _ _ G2.out) rfl Try.underlying29 rfl pdu_size) rfl (HZ.out _ _ HE.out (Go.below_setRow H2.out (by omega) _))
  have HE : Hid (cmdP q b = ({ q with info := b }, 0)) := cover (by rw [HE0.out, if_neg (by rw [← HN.out]; exact hlong)])
  have hl : ¬ (1024 : Int) < (n : Int) := by omega
  clear HE0
  go_enter Try.func33, Try.ntmps33
  go_upto_region 1 with fail
  rw [← hw1, ← hg]
  clear hw1 hg
  go_wp2_with fail
  refine (HM.out w1).mono ?_
  rintro e w2 ⟨rfl, hb2⟩
  have G2a := cover ((hb2.block _ (block_lt G0.out)).trans G0.out)
  have G2 := cover ((hb2.block _ (block_lt G1.out)).trans G1.out)
  have H2 := cover (H1.out.trans (hb2.mono (HSZ.out _ H1.out)))
  have HR2 := cover (HR.out.below (hb2.mono (by have := hs1.out; omega)))
  clear hb2 p0 p1 p2 p3 p4 p5 p6 p7 p8 HR
  go_wp2_with fail
  refine (clone_any A n c B b w2 HR2.out (Nat.le_trans hB (HSZ.out _ H2.out)) hmax).mono ?_
  rintro e w3 ⟨A3, c3, rfl, ho3, hb3⟩
  rw [← HN.out] at ho3 ⊢
  have hs2 := block_lt G2.out
  have G3a := (hb3.block _ (block_lt G2a.out)).trans G2a.out
  have G3 := (hb3.block _ (block_lt G2.out)).trans G2.out
  have H3 := cover (H2.out.trans (hb3.mono (HSZ.out _ H2.out)))
  have HO3 := cover ho3
  clear ho3 hb3
  have k8 : w3.cell? ⟨g, 8, none⟩ = some (.slice none 0 0) := by rw [cell_of_row _ _ _ _ _ _ G3a]; rfl
  have f8 : w3.frozen? ⟨g, 8, none⟩ = false := by simp [World.frozen?, G3a]
  obtain ⟨w4, hw4⟩ : ∃ w4, Hid (w4 = w3.setCell ⟨g, 8, none⟩ (.slice A3 n c3)) := ⟨_, cover rfl⟩
  have G4a : Hid (w4.heap[g]? = some (.cells #[.int .i64 q.to, .int .i64 q.frm, .bool q.resp, .int .i64 q.form, .int .i64 q.kind, .int .i64 q.ns, .int .i64 q.nr, .bool q.poll, .slice A3 n c3] 29 (0, 0))) := cover (by rw [hw4.out, set_block G3a]; rfl)
  have G4 : Hid (w4.heap[g + 1]? = some (.cells zp 29 (0, 0))) := cover (by rw [hw4.out, set_other _ _ (by omega)]; exact G3)
  have H4 : Hid (Below g w w4) := cover (by rw [hw4.out]; exact H3.out.setCell (Nat.le_refl _) _)
  have HO4 : Hid (OwnB w4 w2.heap.size (.slice A3 n c3) b) := cover (by
    have h := HO3.out
    rw [HN.out] at h ⊢
    rw [hw4.out]
    exact ownB_keep h (fun i hi => set_other _ _ (by have := H2.out.size; have := block_lt G2.out; omega)))
  obtain ⟨w5, hw5⟩ : ∃ w5, Hid (w5 = w4.setRow (g + 1) #[.int .i64 q.to, .int .i64 q.frm, .bool q.resp, .int .i64 q.form, .int .i64 q.kind, .int .i64 q.ns, .int .i64 q.nr, .bool q.poll, .slice A3 n c3]) := ⟨_, cover rfl⟩
  have G5 : Hid (w5.heap[g + 1]? = some (.cells #[.int .i64 q.to, .int .i64 q.frm, .bool q.resp, .int .i64 q.form, .int .i64 q.kind, .int .i64 q.ns, .int .i64 q.nr, .bool q.poll, .slice A3 n c3] 29 (0, 0))) := cover (by rw [hw5.out]; exact setRow_heap _ _ _ _ _ _ G4.out)
  have H5 : Hid (Below g w w5) := cover (by rw [hw5.out]; exact Go.below_setRow H4.out (by omega) _)
  have HO5 : Hid (OwnB w5 g (.slice A3 n c3) b) := cover (by
    have h := HO4.out
    rw [hw5.out]
    have hb5 : Below w4.heap.size w4 w4 := Below.refl _ _
    refine OwnB.mono (base := w2.heap.size) ?_ (HSZ.out _ H2.out)
    refine ownB_keep h (fun i hi => ?_)
    exact setRow_other _ _ _ _ (by have := block_lt G2.out; omega))
  clear G3a G3 hs2
  go_wp2_with (first
    | (rw [← hw4.out])
    | (refine wpList_load_row rfl _ _ rfl g rfl 29 #[.int .i64 q.to, .int .i64 q.frm, .bool q.resp, .int .i64 q.form, .int .i64 q.kind, .int .i64 q.ns, .int .i64 q.nr, .bool q.poll, .slice A3 n c3] (0, 0) _ G4a.out Try.underlying29 rfl pdu_size ?_)
    | (refine wpList_store_row rfl _ _ _ rfl (g + 1) #[.int .i64 q.to, .int .i64 q.frm, .bool q.resp, .int .i64 q.form, .int .i64 q.kind, .int .i64 q.ns, .int .i64 q.nr, .bool q.poll, .slice A3 n c3] rfl rfl 29 zp G4.out pdu_size rfl (pdu_one _ _ _ _ _ _ _ _ _ _ _) ?_; rw [← hw5.out]))
  exact bodyPost_ret (v := .tuple #[.agg #[.int .i64 q.to, .int .i64 q.frm, .bool q.resp, .int .i64 q.form, .int .i64 q.kind, .int .i64 q.ns, .int .i64 q.nr, .bool q.poll, .slice A3 n c3], .int .i64 0]) (results_cell_and (by rfl) _ _ (g + 1) _ #[.int .i64 q.to, .int .i64 q.frm, .bool q.resp, .int .i64 q.form, .int .i64 q.kind, .int .i64 q.ns, .int .i64 q.nr, .bool q.poll, .slice A3 n c3] (0, 0) _ (.int .i64 0) rfl G5.out rfl Try.underlying29 rfl pdu_size) rfl ⟨A3, c3, by rw [HE.out, HN.out], cover (by rw [HE.out, ← HG.out]; have h := HO5.out; rw [HN.out] at h; exact ⟨h, H5.out⟩)⟩
end Go.Proofs.Ytgpmimohoepeiaa
