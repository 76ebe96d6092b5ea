/- What the document's own Encode hands back. -/
import Derived.Deep.RegionHeld3
import Derived.Test.YtohegiphdgihpaaURCtl
namespace Go.Proofs.Ytohegiphdgihpaa
open Go.RowKit
set_option linter.unusedVariables false
set_option linter.unusedSimpArgs false

/-- an own row, longer behind an append -/
theorem below_grown {w0 w w' : World} {base : Nat} {e size n : Nat} {v : Value} {xs : List Value} (hb : Below base w0 w) (hs : base ≤ w.heap.size) (ho : w.ownsRow base e size v n xs) (hg : w.grownBy w' v.ownBlock) : Below base w0 w' :=
  hb.grown hg hs (fun k hk => (ho.lt k hk).1)

set_option maxHeartbeats 1600000 in
theorem ref_enc_any (p : PV) (A : Option Addr) (c B : Nat) (w : World) (hr : Row w B A p.info.length p.info) (hB : B ≤ w.heap.size) (hc : p.info.length ≤ c) (hnil : A = none → c = 0) :
    Calls Try.prog 14 #[.agg #[.int .i64 p.to, .int .i64 p.frm, .bool p.resp, .int .i64 p.form, .int .i64 p.kind, .int .i64 p.ns, .int .i64 p.nr, .bool p.poll, .slice A p.info.length c]] w (EncU p w) := by
  obtain ⟨i0, hi, hz0, hz1, hz2⟩ := info_parts u8_info
  obtain ⟨w1, hw1⟩ : ∃ w1, Hid (w1 = w.alloc (.cells #[.int .i64 p.to, .int .i64 p.frm, .bool p.resp, .int .i64 p.form, .int .i64 p.kind, .int .i64 p.ns, .int .i64 p.nr, .bool p.poll, .slice A p.info.length c] 25)) := ⟨_, cover rfl⟩
  have H1 : Hid (Below w.heap.size w w1) := cover (by rw [hw1.out]; exact (Below.refl _ _).alloc (Nat.le_refl _) _)
  have hs1 : w.heap.size < w1.heap.size := by rw [hw1.out]; simp
  have hgp : w1.heap[w.heap.size]? = some (.cells #[.int .i64 p.to, .int .i64 p.frm, .bool p.resp, .int .i64 p.form, .int .i64 p.kind, .int .i64 p.ns, .int .i64 p.nr, .bool p.poll, .slice A p.info.length c] 25 (0, 0)) := by rw [hw1.out]; exact heap_alloc_new _ _
  have N1 := cover (pdu_cells hgp)
  have HROW := cover hr
  have HNIL := cover hnil
  clear hgp hr hnil
  rcases hm : mayB p with _ | _
  · have HM := cover hm
    clear hm
    go_enter Try.func14, Try.ntmps14
    go_wp2_with fail
    rw [← hw1.out]
    refine (ref_may_any p A c w1).mono ?_
    rw [HM.out]
    rintro e w2 ⟨rfl, hb2⟩
    have H2 := cover (H1.out.trans (hb2.mono (by omega)))
    clear hb2
    go_wp2
    go_ret2
    exact ⟨none, 0, by unfold encOu errE; rw [HM.out]; rfl, by unfold encOu; rw [HM.out]; exact OwnB.nil _ _, H2.out⟩
  · have HM := cover hm
    have HP := cover (mayB_iff.1 hm)
    clear hm
    obtain ⟨⟨⟨t0, t1⟩, ⟨m0, m1, m2⟩, _, _, hil⟩, _⟩ := HP.out
    have hf := fl_le p.resp
    have E : Hid (IntKind.u8.wrap p.to = p.to ∧ IntKind.u8.wrap (IntKind.i64.wrap (p.frm + fl p.resp)) = p.frm + fl p.resp) := cover ⟨by rw [w8 ⟨t0, t1⟩], by rw [w64 ⟨by omega, by omega⟩, w8 ⟨by omega, by omega⟩]⟩
    clear t0 t1 m0 m1 m2 hf
    go_enter Try.func14, Try.ntmps14
    go_wp2_with fail
    rw [← hw1.out]
    refine (ref_may_any p A c w1).mono ?_
    rw [HM.out]
    rintro e w2 ⟨rfl, hb2⟩
    have hs2 := hb2.size
    have hg2 : w.heap.size < w2.heap.size := by omega
    have H2 := cover (H1.out.trans (hb2.mono (by omega)))
    have N2 := cover (nine_below N1.out hb2 (by omega))
    clear hb2
    obtain ⟨p0, p1, p2, p3, p4, p5, p6, p7, p8⟩ := N2.out
    have HF : Hid (∀ W, Below w2.heap.size w2 W → Calls Try.prog 29 #[.bool p.resp] W fun e w' => e = .returned (.int .i64 (fl p.resp)) ∧ Below w2.heap.size w2 w') :=
      cover (fun W hb => (flag_any p.resp W).mono fun e w' h => ⟨h.1, by rw [h.2]; exact hb⟩)
    go_wp2_with fail
    go_region_held3 (fun w' => w'.cell? ⟨w.heap.size, 0, none⟩ = some (.int .i64 p.to) ∧ w'.cell? ⟨w.heap.size, 1, none⟩ = some (.int .i64 p.frm) ∧ w'.cell? ⟨w.heap.size, 2, none⟩ = some (.bool p.resp) ∧ Below w2.heap.size w2 w')
      (first | exact ⟨p0, p1, p2, (Below.refl _ _).drew⟩ | exact ⟨(hbX.cell (p := ⟨w.heap.size, 0, none⟩) hg2).trans p0, (hbX.cell (p := ⟨w.heap.size, 1, none⟩) hg2).trans p1, (hbX.cell (p := ⟨w.heap.size, 2, none⟩) hg2).trans p2, hbX⟩ | exact ⟨((hbX.alloc hbX.size _).cell (p := ⟨w.heap.size, 0, none⟩) hg2).trans p0, ((hbX.alloc hbX.size _).cell (p := ⟨w.heap.size, 1, none⟩) hg2).trans p1, ((hbX.alloc hbX.size _).cell (p := ⟨w.heap.size, 2, none⟩) hg2).trans p2, hbX.alloc hbX.size _⟩)
      ((go_at_call 29; refine (HF.out _ ?_).mono ?_; (go_split_ands; assumption); rintro e w3 ⟨rfl, hbX⟩))
    rw [E.out.1, E.out.2]
    have hs3 := hbX.size
    obtain ⟨w4, hw4⟩ : ∃ w4, Hid (w4 = w3.alloc (.cells #[.int .u8 p.to, .int .u8 (p.frm + fl p.resp)] 5)) := ⟨_, cover rfl⟩
    have hb4 : Below w2.heap.size w2 w4 := by rw [hw4.out]; exact hbX.alloc hs3 _
    have HO4 : Hid (OwnB w4 w3.heap.size (.slice (some ⟨w3.heap.size, 0, none⟩) 2 2) [p.to, p.frm + fl p.resp]) := cover (by rw [hw4.out]; exact ownB_made w3 [p.to, p.frm + fl p.resp] #[.int .u8 p.to, .int .u8 (p.frm + fl p.resp)] rfl (by simp))
    have hs34 : w3.heap.size ≤ w4.heap.size := by rw [hw4.out]; simp
    have hs4 := hb4.size
    have H4 := cover (H2.out.trans (hb4.mono (by omega)))
    have N4 := cover (nine_below N2.out hb4 (by omega))
    rw [← hw4.out]
    obtain ⟨V, hV⟩ : ∃ V, Value.slice (some ⟨w3.heap.size, 0, none⟩) 2 2 = V := ⟨_, rfl⟩
    rw [hV] at HO4 ⊢
    clear hV
    clear hb4 hbX p0 p1 p2 p3 p4 p5 p6 p7 p8 HF
    obtain ⟨p0, p1, p2, p3, p4, p5, p6, p7, p8⟩ := N4.out
    go_wp2_with fail
    refine (ref_control_any p A c w4 HP.out).mono ?_
    rintro e w5 ⟨A5, c5, rfl, ho5, hb5⟩
    have hs5 := hb5.size
    have H5 := cover (H4.out.trans (hb5.mono (by omega)))
    have N5 := cover (nine_below N4.out hb5 (by omega))
    have HO5 := cover (own_base (ownB_below HO4.out hb5) (show w3.heap.size ≤ w3.heap.size by omega))
    have HR5 := cover (And.intro ho5.row (own_nil_cap ho5))
    have h4 : Hid ((ctl p).length ≤ 4) := cover (by have h1 := head_len HP.out.fits; have h2 : headN p ≤ 4 := by unfold headN; split <;> omega
                                                    omega)
    clear hb5 ho5 p0 p1 p2 p3 p4 p5 p6 p7 p8
    go_wp2_with (at_builtin; refine append_row rfl _ _ 23 rfl w3.heap.size 5 i0 (.int .u8 0) 1 Try.underlying23 hi hz0 hz1 hz2 rfl _ _ _ rfl HO5.out w5.heap.size A5 (ctl p).length c5 (ctl p) rfl HR5.out.1 HR5.out.2 (by have := h4.out; rw [show [p.to, p.frm + fl p.resp].length = 2 from rfl]; unfold maxLen; omega) (by have := h4.out; rw [show [p.to, p.frm + fl p.resp].length = 2 from rfl]; omega) (by omega) ?_)
    intro v6 w6 hown6 hg6
    have hs6 := hg6.size
    have H6 := cover (below_grown (H5.out.mono (Nat.le_refl _)) (by omega) (own_base HO5.out (show w.heap.size ≤ w3.heap.size by omega)) hg6)
    have hlow : Hid (Below w3.heap.size w5 w6) := cover ((Below.refl w3.heap.size w5).grown hg6 (by omega) (fun k hk => (HO5.out.lt k hk).1))
    have N6 := cover (nine_below N5.out hlow.out (by omega))
    have HO6 := cover (own_base hown6 (show w.heap.size ≤ w3.heap.size by omega))
    have HR6 := cover (HROW.out.below (H6.out.mono hB))
    clear hown6 hg6
    obtain ⟨p0, p1, p2, p3, p4, p5, p6, p7, p8⟩ := N6.out
    have h63 : [p.to, p.frm + fl p.resp].length + (ctl p).length + p.info.length ≤ maxLen := by
      have := h4.out
      rw [show [p.to, p.frm + fl p.resp].length = 2 from rfl]; unfold maxLen; omega
    have hby : ([p.to, p.frm + fl p.resp].length + (ctl p).length + p.info.length) * 1 ≤ 140737488355328 := by
      have := h4.out
      rw [show [p.to, p.frm + fl p.resp].length = 2 from rfl]; omega
    have hbs : w.heap.size ≤ w6.heap.size := by omega
    go_wp2_with (at_builtin; refine append_row rfl _ _ 23 rfl w.heap.size 5 i0 (.int .u8 0) 1 Try.underlying23 hi hz0 hz1 hz2 rfl _ _ _ rfl HO6.out B A p.info.length c p.info rfl HR6.out HNIL.out h63 hby hbs ?_)
    intro v7 w7 hown7 hg7
    have H7 := cover (below_grown H6.out (by omega) HO6.out hg7)
    have HE : Hid (encOu p = encP p ∧ errE p = 0) := cover ⟨by unfold encOu; rw [HM.out]; rfl, by unfold errE; rw [HM.out]; rfl⟩
    obtain ⟨A7, c7, rfl, _⟩ := own_shape hown7
    have HO7 : Hid (OwnB w7 w.heap.size (.slice A7 (encP p).length c7) (encP p)) := cover (by
      have e : (encP p).length = [p.to, p.frm + fl p.resp].length + (ctl p).length + p.info.length := by simp [encP]; omega
      have e2 : (encP p).map (Value.int .u8) = List.map (Value.int .u8) [p.to, p.frm + fl p.resp] ++ List.map (Value.int .u8) (ctl p) ++ List.map (Value.int .u8) p.info := by simp [encP]
      unfold OwnB
      rw [e, e2]
      exact hown7)
    have HL : Hid (2 + (ctl p).length + p.info.length = (encP p).length) := cover (by simp [encP]; omega)
    clear hown7 hg7
    go_wp2
    go_ret2
    refine ⟨A7, c7, ?_, ?_, H7.out⟩
    · rw [HE.out.1, HE.out.2, ← HL.out]; first | rfl | simp
    · rw [HE.out.1]; exact HO7.out
end Go.Proofs.Ytohegiphdgihpaa
