/- What Encode hands back. -/
import Derived.Deep.RegionHeld3
import Derived.Test.YtohegiphdgihpaaUCtl
import Derived.Test.YtohegiphdgihpaaOConcat
namespace Go.Proofs.Ytohegiphdgihpaa
open Go.RowKit
set_option linter.unusedVariables false
set_option linter.unusedSimpArgs false

/-- what Encode answers, plainly -/
noncomputable def encOu (p : PV) : List Int := if mayB p then encP p else []
noncomputable def errE (p : PV) : Int := if mayB p then 0 else 1
/-- Encode has answered -/
def EncU (p : PV) (w : World) (e : Ending) (w' : World) : Prop :=
  ∃ A c, e = .returned (.tuple #[.slice A (encOu p).length c, .int .i64 (errE p)]) ∧ OwnB w' w.heap.size (.slice A (encOu p).length c) (encOu p) ∧ Below w.heap.size w w'
theorem nine_below {w w' : World} {B g : Nat} {p : PV} {v : Value} (h : (World.cell? w ⟨g, 0, none⟩ = some (.int .i64 p.to) ∧ World.cell? w ⟨g, 1, none⟩ = some (.int .i64 p.frm) ∧ World.cell? w ⟨g, 2, none⟩ = some (.bool p.resp) ∧ World.cell? w ⟨g, 3, none⟩ = some (.int .i64 p.form) ∧ World.cell? w ⟨g, 4, none⟩ = some (.int .i64 p.kind) ∧ World.cell? w ⟨g, 5, none⟩ = some (.int .i64 p.ns) ∧ World.cell? w ⟨g, 6, none⟩ = some (.int .i64 p.nr) ∧ World.cell? w ⟨g, 7, none⟩ = some (.bool p.poll) ∧ World.cell? w ⟨g, 8, none⟩ = some (v))) (hb : Below B w w') (hg : g < B) : (World.cell? w' ⟨g, 0, none⟩ = some (.int .i64 p.to) ∧ World.cell? w' ⟨g, 1, none⟩ = some (.int .i64 p.frm) ∧ World.cell? w' ⟨g, 2, none⟩ = some (.bool p.resp) ∧ World.cell? w' ⟨g, 3, none⟩ = some (.int .i64 p.form) ∧ World.cell? w' ⟨g, 4, none⟩ = some (.int .i64 p.kind) ∧ World.cell? w' ⟨g, 5, none⟩ = some (.int .i64 p.ns) ∧ World.cell? w' ⟨g, 6, none⟩ = some (.int .i64 p.nr) ∧ World.cell? w' ⟨g, 7, none⟩ = some (.bool p.poll) ∧ World.cell? w' ⟨g, 8, none⟩ = some (v)) := by
  obtain ⟨p0, p1, p2, p3, p4, p5, p6, p7, p8⟩ := h
  exact ⟨(hb.cell (p := ⟨g, 0, none⟩) hg).trans p0, (hb.cell (p := ⟨g, 1, none⟩) hg).trans p1, (hb.cell (p := ⟨g, 2, none⟩) hg).trans p2, (hb.cell (p := ⟨g, 3, none⟩) hg).trans p3, (hb.cell (p := ⟨g, 4, none⟩) hg).trans p4, (hb.cell (p := ⟨g, 5, none⟩) hg).trans p5, (hb.cell (p := ⟨g, 6, none⟩) hg).trans p6, (hb.cell (p := ⟨g, 7, none⟩) hg).trans p7, (hb.cell (p := ⟨g, 8, none⟩) hg).trans p8⟩
theorem ownB_below {w w' : World} {base : Nat} {v : Value} {l : List Int} (h : OwnB w base v l) (hb : Below w.heap.size w w') : OwnB w' base v l := by
  refine ⟨h.1, ?_⟩
  rcases h.2 with h0 | ⟨g, cap, cur, hv, hg, hh, hr⟩
  · exact .inl h0
  · exact .inr ⟨g, cap, cur, hv, hg, (hb.block g (block_lt hh)).trans hh, hr⟩
/-- a literal of four rows -/
theorem RowsB.four {B : Nat} {w : World} {A1 A2 A3 A4 : Option Addr} {c1 c2 c3 c4 : Nat} {l1 l2 l3 l4 : List Int} (t : TypeId) (hB : w.heap.size + 1 = B)
    (h1 : Row w w.heap.size A1 l1.length l1) (h2 : Row w w.heap.size A2 l2.length l2) (h3 : Row w w.heap.size A3 l3.length l3) (h4 : Row w w.heap.size A4 l4.length l4)
    (e1 : l1.length ≤ c1) (e2 : l2.length ≤ c2) (e3 : l3.length ≤ c3) (e4 : l4.length ≤ c4)
    (n1 : A1 = none → c1 = 0) (n2 : A2 = none → c2 = 0) (n3 : A3 = none → c3 = 0) (n4 : A4 = none → c4 = 0) :
    RowsB (w.alloc (.cells #[.slice A1 l1.length c1, .slice A2 l2.length c2, .slice A3 l3.length c3, .slice A4 l4.length c4] t)) B (some ⟨w.heap.size, 0, none⟩) 4 [l1, l2, l3, l4] := by
  subst hB
  refine ⟨rfl, fun k hk => ?_⟩
  have hk2 : k < 4 := hk
  have ha : ∀ j, (⟨w.heap.size, 0, none⟩ : Addr).add j = ⟨w.heap.size, j, none⟩ := by
    intro j; unfold Addr.add; split <;> simp_all
  rcases (show k = 0 ∨ k = 1 ∨ k = 2 ∨ k = 3 by omega) with rfl | rfl | rfl | rfl
  · exact ⟨_, A1, c1, rfl, by simp, by rw [ha, cell_of_row _ _ 0 _ _ (0, 0) (heap_alloc_new w _)]; rfl, e1, (h1.alloc (Nat.le_refl _) _).more (by omega), n1⟩
  · exact ⟨_, A2, c2, rfl, by simp, by rw [ha, cell_of_row _ _ 1 _ _ (0, 0) (heap_alloc_new w _)]; rfl, e2, (h2.alloc (Nat.le_refl _) _).more (by omega), n2⟩
  · exact ⟨_, A3, c3, rfl, by simp, by rw [ha, cell_of_row _ _ 2 _ _ (0, 0) (heap_alloc_new w _)]; rfl, e3, (h3.alloc (Nat.le_refl _) _).more (by omega), n3⟩
  · exact ⟨_, A4, c4, rfl, by simp, by rw [ha, cell_of_row _ _ 3 _ _ (0, 0) (heap_alloc_new w _)]; rfl, e4, (h4.alloc (Nat.le_refl _) _).more (by omega), n4⟩
theorem or_fl {x : Int} (b : Bool) (h0 : 0 ≤ x) (h1 : x ≤ 254) (h2 : x % 2 = 0) : bits BinOp.or IntKind.i64 x (fl b) = x + fl b := by
  have h : ∀ b : Bool, ∀ m : Nat, m < 255 → (m : Int) % 2 = 0 → bits BinOp.or IntKind.i64 (m : Int) (fl b) = (m : Int) + fl b := by decide +kernel
  obtain ⟨m, rfl⟩ : ∃ m : Nat, x = (m : Int) := ⟨x.toNat, by omega⟩
  exact h b m (by omega) h2

set_option maxHeartbeats 1600000 in
theorem enc_any (p : PV) (A : Option Addr) (c B : Nat) (w : World) (hr : Row w B A p.info.length p.info) (hB : B ≤ w.heap.size) (hc : p.info.length ≤ c) (hnil : A = none → c = 0) (hbt : Bts p.info) :
    Calls Try.prog 12 #[.agg #[.int .i64 p.to, .int .i64 p.frm, .bool p.resp, .int .i64 p.form, .int .i64 p.kind, .int .i64 p.ns, .int .i64 p.nr, .bool p.poll, .slice A p.info.length c]] w (EncU p w) := by
  obtain ⟨w1, hw1⟩ : ∃ w1, Hid (w1 = w.alloc (.cells #[.int .i64 p.to, .int .i64 p.frm, .bool p.resp, .int .i64 p.form, .int .i64 p.kind, .int .i64 p.ns, .int .i64 p.nr, .bool p.poll, .slice A p.info.length c] 25)) := ⟨_, cover rfl⟩
  have H1 : Hid (Below w.heap.size w w1) := cover (by rw [hw1.out]; exact (Below.refl _ _).alloc (Nat.le_refl _) _)
  have hs1 : w.heap.size < w1.heap.size := by rw [hw1.out]; simp
  have hgp : w1.heap[w.heap.size]? = some (.cells #[.int .i64 p.to, .int .i64 p.frm, .bool p.resp, .int .i64 p.form, .int .i64 p.kind, .int .i64 p.ns, .int .i64 p.nr, .bool p.poll, .slice A p.info.length c] 25 (0, 0)) := by rw [hw1.out]; exact heap_alloc_new _ _
  have N1 := cover (pdu_cells hgp)
  have HROW := cover hr
  clear hgp hr
  rcases hm : mayB p with _ | _
  · have HM := cover hm
    clear hm
    go_enter Try.func12, Try.ntmps12
    go_wp2_with fail
    rw [← hw1.out]
    refine (may_any p A c w1).mono ?_
    rw [HM.out]
    rintro e w2 ⟨rfl, hb2⟩
    have H2 := cover (H1.out.trans (hb2.mono (by omega)))
    clear hb2
    go_wp2
    go_ret2
    exact ⟨none, 0, by unfold encOu errE; rw [HM.out]; rfl, by unfold encOu; rw [HM.out]; exact OwnB.nil _ _, H2.out⟩
  · have HM := cover hm
    have HP := cover (mayB_iff.1 hm)
    clear hm
    obtain ⟨⟨⟨t0, t1⟩, ⟨m0, m1, m2⟩, _, _, hil⟩, _⟩ := HP.out
    go_enter Try.func12, Try.ntmps12
    go_wp2_with fail
    rw [← hw1.out]
    refine (may_any p A c w1).mono ?_
    rw [HM.out]
    rintro e w2 ⟨rfl, hb2⟩
    have hs2 := hb2.size
    have H2 := cover (H1.out.trans (hb2.mono (by omega)))
    have N2 := cover (nine_below N1.out hb2 (by omega))
    clear hb2
    obtain ⟨p0, p1, p2, p3, p4, p5, p6, p7, p8⟩ := N2.out
    go_wp2_with fail
    refine (put_yes p.to 1 w2 (by decide) (by decide) t0 (by simp; omega)).mono ?_
    rw [low_one ⟨t0, t1⟩]
    rintro e w3 ⟨A3, c3, rfl, ho3, hb3⟩
    have hs3 := hb3.size
    have H3 := cover (H2.out.trans (hb3.mono (by omega)))
    have N3 := cover (nine_below N2.out hb3 (by omega))
    have HO3 := cover ho3
    clear hb3 ho3 p0 p1 p2 p3 p4 p5 p6 p7 p8
    obtain ⟨p0, p1, p2, p3, p4, p5, p6, p7, p8⟩ := N3.out
    have hor := or_fl p.resp m0 m1 m2
    have hf := fl_le p.resp
    have HF : Hid (0 ≤ p.frm + fl p.resp ∧ p.frm + fl p.resp ≤ 255) := cover ⟨by omega, by omega⟩
    have HB1 : Hid (∀ W, Below w3.heap.size w3 W → Calls Try.prog 25 #[.bool p.resp, .int .i64 1] W fun e w' => e = .returned (.int .i64 (fl p.resp)) ∧ Below w3.heap.size w3 w') :=
      cover (fun W hb => (bit_one p.resp W).mono fun e w' h => ⟨h.1, by rw [h.2]; exact hb⟩)
    have HB2 : Hid (∀ W, Below w3.heap.size w3 W → Calls Try.prog 24 #[.int .i64 (p.frm + fl p.resp), .int .i64 1] W fun e w' => ∃ A c, e = .returned (.slice A 1 c) ∧ OwnB w' w3.heap.size (.slice A 1 c) [p.frm + fl p.resp] ∧ Below w3.heap.size w3 w') :=
      cover (fun W hb => (put_yes (p.frm + fl p.resp) 1 W (by decide) (by decide) HF.out.1 (by have := HF.out; simp; omega)).mono (by
        rw [low_one HF.out]
        rintro e w' ⟨A, c, he, ho, hb'⟩
        exact ⟨A, c, he, ho.mono hb.size, hb.trans (hb'.mono hb.size)⟩))
    clear hf
    go_wp2_with fail
    go_region_held3 (fun w' => w'.cell? ⟨w.heap.size, 1, none⟩ = some (.int .i64 p.frm) ∧ w'.cell? ⟨w.heap.size, 2, none⟩ = some (.bool p.resp) ∧ Below w3.heap.size w3 w')
      (first | exact ⟨p1, p2, (Below.refl _ _).drew⟩ | exact ⟨(nine_below N3.out hbX (by omega)).2.1, (nine_below N3.out hbX (by omega)).2.2.1, hbX⟩)
      (first
        | (go_at_call 25; refine (HB1.out _ ?_).mono ?_; (go_split_ands; assumption); rintro e w4 ⟨rfl, hbX⟩)
        | (go_at_call 24; refine (HB2.out _ ?_).mono ?_; (go_split_ands; assumption); rintro e w4 ⟨A4, c4, rfl, ho4, hbX⟩))
    have hs4 := hbX.size
    have H4 := cover (H3.out.trans (hbX.mono (by omega)))
    have N4 := cover (nine_below N3.out hbX (by omega))
    have HO3' := cover (ownB_below HO3.out hbX)
    have HO4 := cover ho4
    clear hbX ho4 p0 p1 p2 p3 p4 p5 p6 p7 p8 hor HB1 HB2
    obtain ⟨p0, p1, p2, p3, p4, p5, p6, p7, p8⟩ := N4.out
    have HB3 : Hid (∀ W, Below w4.heap.size w4 W → Calls Try.prog 27 #[.agg #[.int .i64 p.to, .int .i64 p.frm, .bool p.resp, .int .i64 p.form, .int .i64 p.kind, .int .i64 p.ns, .int .i64 p.nr, .bool p.poll, .slice A p.info.length c]] W fun e w' => ∃ A c, e = .returned (.slice A (ctl p).length c) ∧ OwnB w' w4.heap.size (.slice A (ctl p).length c) (ctl p) ∧ Below w4.heap.size w4 w') :=
      cover (fun W hb => (control_any p A c W HP.out).mono (by
        rintro e w' ⟨A, c, he, ho, hb'⟩
        exact ⟨A, c, he, ho.mono hb.size, hb.trans (hb'.mono hb.size)⟩))
    have HB4 : Hid (∀ W A5 c5, Below w4.heap.size w4 W → OwnB W w4.heap.size (.slice A5 (ctl p).length c5) (ctl p) → Calls Try.prog 26 #[.slice (some ⟨W.heap.size, 0, none⟩) 4 4] (W.alloc (.cells #[.slice A3 1 c3, .slice A4 1 c4, .slice A5 (ctl p).length c5, .slice A p.info.length c] 23)) fun e w' => ∃ A c, e = .returned (.slice A (encP p).length c) ∧ OwnB w' w4.heap.size (.slice A (encP p).length c) (encP p) ∧ Below w4.heap.size w4 w') :=
      cover (fun W A5 c5 hb ho5 => by
        have hsW := hb.size
        have o3 := ownB_below HO3'.out hb
        have o4 := ownB_below HO4.out hb
        have hrw := HROW.out.below ((H4.out.trans (hb.mono (by omega))).mono hB)
        have hrs := RowsB.four 23 (w := W) rfl o3.row o4.row ho5.row (hrw.more (by omega)) (own_cap o3) (own_cap o4) (own_cap ho5) hc (own_nil_cap o3) (own_nil_cap o4) (own_nil_cap ho5) hnil
        have hfl : [[p.to], [p.frm + fl p.resp], ctl p, p.info].flatten = encP p := by simp [encP]
        have hlen : totL [[p.to], [p.frm + fl p.resp], ctl p, p.info] ≤ 70368744177664 := by
          have h1 := head_len HP.out.fits
          have h2 : headN p ≤ 4 := by unfold headN; split <;> omega
          simp [totL]; omega
        have h := concat_any _ 4 4 (W.heap.size + 1) _ _ hrs (by simp) (by decide) hlen
        rw [hfl] at h
        refine h.mono ?_
        rintro e w' ⟨A, c, he, ho, hb'⟩
        exact ⟨A, c, he, ho.mono (by simp; omega), (hb.alloc hsW _).trans (hb'.mono (by simp; omega))⟩)
    go_wp2_with fail
    go_region_held3 (fun w' => (World.cell? w' ⟨w.heap.size, 0, none⟩ = some (.int .i64 p.to) ∧ World.cell? w' ⟨w.heap.size, 1, none⟩ = some (.int .i64 p.frm) ∧ World.cell? w' ⟨w.heap.size, 2, none⟩ = some (.bool p.resp) ∧ World.cell? w' ⟨w.heap.size, 3, none⟩ = some (.int .i64 p.form) ∧ World.cell? w' ⟨w.heap.size, 4, none⟩ = some (.int .i64 p.kind) ∧ World.cell? w' ⟨w.heap.size, 5, none⟩ = some (.int .i64 p.ns) ∧ World.cell? w' ⟨w.heap.size, 6, none⟩ = some (.int .i64 p.nr) ∧ World.cell? w' ⟨w.heap.size, 7, none⟩ = some (.bool p.poll) ∧ World.cell? w' ⟨w.heap.size, 8, none⟩ = some (.slice A p.info.length c)) ∧ Below w4.heap.size w4 w')
      (first | exact ⟨⟨p0, p1, p2, p3, p4, p5, p6, p7, p8⟩, (Below.refl _ _).drew⟩ | exact ⟨nine_below N4.out hbX (by omega), hbX⟩ | exact ⟨nine_below N4.out (hbX.alloc hbX.size _) (by omega), hbX.alloc hbX.size _⟩)
      (first
        | (go_at_call 27; refine (HB3.out _ ?_).mono ?_; (go_split_ands; assumption); rintro e w5 ⟨A5, c5, rfl, ho5, hbX⟩)
        | (go_at_call 26; refine (HB4.out w5 A5 c5 hbX ho5).mono ?_; rintro e w6 ⟨A6, c6, rfl, ho6, hbX⟩))
    have HE : Hid (encOu p = encP p ∧ errE p = 0) := cover ⟨by unfold encOu; rw [HM.out]; rfl, by unfold errE; rw [HM.out]; rfl⟩
    have hfin := cover (And.intro (ho6.mono (show w.heap.size ≤ w4.heap.size by omega)) (H4.out.trans (hbX.mono (by omega))))
    clear ho6
    go_wp2
    go_ret2
    refine ⟨A6, c6, ?_, ?_, hfin.out.2⟩
    · rw [HE.out.1, HE.out.2]; first | rfl | simp
    · rw [HE.out.1]; exact hfin.out.1
end Go.Proofs.Ytohegiphdgihpaa
