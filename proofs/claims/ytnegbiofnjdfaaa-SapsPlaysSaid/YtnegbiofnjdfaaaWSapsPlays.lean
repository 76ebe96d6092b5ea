/- The walk of SapsPlays. -/
import Derived.Deep.RegionHeld3
import Derived.Test.YtnegbiofnjdfaaaSDo
import Derived.Test.YtnegbiofnjdfaaaSDeeds
namespace Go.Proofs.Ytnegbiofnjdfaaa
open Go.RowKit
set_option linter.unusedVariables false

def Row0 (T : List Int) (A : Option Addr) (cp : Nat) (w : World) : Prop := w.ownsRow 0 3 1 (.slice A T.length cp) T.length (T.map (Value.int .i64))
theorem Row0.below {T : List Int} {A : Option Addr} {cp : Nat} {w w' : World} (h : Row0 T A cp w) (hb : Below w.heap.size w w') : Row0 T A cp w' := row_keeps h (fun i hi => hb.block i (h.lt i hi).2)
section
variable {B : Nat} {w w2 W : World} {s r : Nat} {l lr : List SV}
theorem bt_class (h : Both B w s r l lr w2) (hb : Below w2.heap.size w2 W) {n : Int} (hn : I64 n) : Calls Try.prog 16 #[ptr s, .int .i64 n] W fun e w' => e = .returned (.int .i64 (clsS l n)) ∧ Below w2.heap.size w2 w' := by
  refine (class_has (h.below hb).has hn).mono ?_
  rintro e w' ⟨rfl, rfl⟩
  exact ⟨rfl, hb⟩
theorem bt_rclass (h : Both B w s r l lr w2) (hb : Below w2.heap.size w2 W) (n : Int) : Calls Try.prog 17 #[ptr r, .int .i64 n] W fun e w' => e = .returned (.int .i64 (clsS lr n)) ∧ Below w2.heap.size w2 w' := by
  refine (rclass_has (h.below hb).ref n).mono ?_
  rintro e w' ⟨rfl, rfl⟩
  exact ⟨rfl, hb⟩
theorem bt_hears (h : Both B w s r l lr w2) (hb : Below w2.heap.size w2 W) {n : Int} (hn : I64 n) : Calls Try.prog 14 #[ptr s, .int .i64 n] W fun e w' => ∃ A cp, e = .returned (.slice A (hearS l n).length cp) ∧ Hid (Row0 (hearS l n) A cp w') ∧ Below w2.heap.size w2 w' := by
  refine (hears_has (h.below hb).has hn).mono ?_
  rintro e w' ⟨A, cp, rfl, hh⟩
  exact ⟨A, cp, rfl, cover (own_base hh.out.1 (Nat.zero_le _)), hb.trans (hh.out.2.mono hb.size)⟩
theorem bt_list (h : Both B w s r l lr w2) (hb : Below w2.heap.size w2 W) : Calls Try.prog 19 #[ptr s] W fun e w' => ∃ A cp, e = .returned (.slice A (listS l).length cp) ∧ Hid (Row0 (listS l) A cp w') ∧ Below w2.heap.size w2 w' := by
  refine (list_has (h.below hb).has).mono ?_
  rintro e w' ⟨A, cp, rfl, hh⟩
  exact ⟨A, cp, rfl, cover (own_base hh.out.1 (Nat.zero_le _)), hb.trans (hh.out.2.mono hb.size)⟩
theorem bt_rhears (h : Both B w s r l lr w2) (hb : Below w2.heap.size w2 W) (n : Int) {T : List Int} {A : Option Addr} {cp : Nat} (hr : Row0 T A cp W) : Calls Try.prog 18 #[ptr r, .int .i64 n] W fun e w' => ∃ A' cp', e = .returned (.slice A' (hearS lr n).length cp') ∧ Hid (Row0 T A cp w' ∧ Row0 (hearS lr n) A' cp' w') ∧ Below w2.heap.size w2 w' := by
  refine (rhears_has (h.below hb).ref n).mono ?_
  rintro e w' ⟨A', cp', rfl, hh⟩
  exact ⟨A', cp', rfl, cover ⟨hr.below hh.out.2, own_base hh.out.1 (Nat.zero_le _)⟩, hb.trans (hh.out.2.mono hb.size)⟩
theorem bt_rlist (h : Both B w s r l lr w2) (hb : Below w2.heap.size w2 W) {T : List Int} {A : Option Addr} {cp : Nat} (hr : Row0 T A cp W) : Calls Try.prog 20 #[ptr r] W fun e w' => ∃ A' cp', e = .returned (.slice A' (listS lr).length cp') ∧ Hid (Row0 T A cp w' ∧ Row0 (listS lr) A' cp' w') ∧ Below w2.heap.size w2 w' := by
  refine (rlist_has (h.below hb).ref).mono ?_
  rintro e w' ⟨A', cp', rfl, hh⟩
  exact ⟨A', cp', rfl, cover ⟨hr.below hh.out.2, own_base hh.out.1 (Nat.zero_le _)⟩, hb.trans (hh.out.2.mono hb.size)⟩
theorem bt_ints (hb : Below w2.heap.size w2 W) {T : List Int} {A A' : Option Addr} {cp cp' : Nat} (hl : T.length ≤ 1000) (hr : Row0 T A cp W ∧ Row0 T A' cp' W) : Calls Try.prog 13 #[.slice A T.length cp, .slice A' T.length cp'] W fun e w' => e = .returned (.bool true) ∧ Below w2.heap.size w2 w' := by
  refine (ints_same W rfl (by omega) (Nums.of_own hr.1) (Nums.of_own hr.2)).mono ?_
  rintro e w' ⟨rfl, d, rfl⟩
  exact ⟨rfl, below_drewN hb d⟩
end
/-- both of them, in one state -/
def OneS (B : Nat) (w : World) (s r : Nat) (wr : World) : Prop := ∃ l, Both B w s r l l wr
set_option maxRecDepth 100000 in
set_option maxHeartbeats 1600000 in
theorem walk_SapsPlays (A : Option Addr) (len cap : Nat) (ds : List (Int × Int × Int)) (n : Int) (w : World) (hlc : len ≤ cap) (hcm : cap ≤ maxLen) (hd : Deeds w w.heap.size A len ds ∧ ∀ q ∈ ds, (-9223372036854775808 ≤ q.1 ∧ q.1 ≤ 9223372036854775807) ∧ (-9223372036854775808 ≤ q.2.1 ∧ q.2.1 ≤ 9223372036854775807) ∧ (-9223372036854775808 ≤ q.2.2 ∧ q.2.2 ≤ 9223372036854775807)) (hn : (Lit.int .i64 n).wf = true) :
    Calls Try.prog 4 #[.slice A len cap, .int .i64 n] w fun e w' => e = .returned (.bool true) ∧ Below w.heap.size w w' := by
  have HDD := cover hd.1
  have HQ := cover hd.2
  obtain ⟨B, hB⟩ : ∃ B, w.heap.size = B := ⟨_, rfl⟩
  rw [hB]
  have hBw : B ≤ w.heap.size := by omega
  have HBE := cover hB
  have HCM := cover hcm
  have hn64 : I64 n := hn
  clear hB hd hcm hn
  by_cases hbig : 200 < len
  · go_enter Try.func4, Try.ntmps4
    go_wp2_with fail
    refine (awake_any w).mono ?_
    rintro e w0 ⟨rfl, hb0⟩
    have HB0 : Hid (Below B w w0) := cover (hb0.mono hBw)
    clear hb0
    go_wp2
    go_ret
    exact ⟨rfl, HB0.out⟩
  go_enter Try.func4, Try.ntmps4
  go_wp2_with fail
  refine (awake_any w).mono ?_
  rintro e w0 ⟨rfl, hb0⟩
  have HB0 : Hid (Below B w w0) := cover (hb0.mono hBw)
  have hs0 : B ≤ w0.heap.size := Nat.le_trans hBw hb0.size
  clear hb0
  go_wp2_with fail
  refine (new_has hs0).mono ?_
  rintro e w1 ⟨s, rfl, H1'⟩
  obtain ⟨w2, hw2⟩ : ∃ w2, w2 = w1.alloc (.cells #[.slice none 0 0] 34) := ⟨_, rfl⟩
  have H1 : Hid (OneS B w s w1.heap.size w2) := cover (by
    have hb : Below w1.heap.size w1 w2 := by rw [hw2]; exact (Below.refl _ _).alloc (Nat.le_refl _) _
    refine ⟨[], H1'.out.1.below hb, by rw [hw2]; exact RHas.made w1 H1'.out.1.size, (HB0.out.trans H1'.out.2).trans (hb.mono H1'.out.1.size)⟩)
  clear H1' HB0
  go_upto_region 7 with fail
  rw [← hw2]
  clear hw2
  obtain ⟨r, hr⟩ : ∃ r, r = w1.heap.size := ⟨_, rfl⟩
  rw [← hr] at H1 ⊢
  clear hr
  go_wp2_with fail
  go_loopw [7] (fun iv wr => ∃ j : Nat, j ≤ len ∧ iv = .int .i64 j ∧ Hid (OneS B w s r wr)) (fun i _ => len - (intOf i).toNat)
  case atStart => exact ⟨0, by omega, rfl, H1⟩
  case round =>
    obtain ⟨j, hj, rfl, hrel⟩ := hrel
    by_cases hlt : j < len
    · obtain ⟨ad, rfl, had, q0, q1, q2⟩ := HDD.out.cells j (by rw [HDD.out.len]; exact hlt)
      obtain ⟨l0, hrel0⟩ := hrel.out
      have hqm := HQ.out _ (List.getElem_mem (by rw [HDD.out.len]; exact hlt : j < ds.length))
      obtain ⟨d, k, c, e0, e1, e2⟩ : ∃ d k c : Int, d = (ds[j]'(by rw [HDD.out.len]; exact hlt)).1 ∧ k = (ds[j]'(by rw [HDD.out.len]; exact hlt)).2.1 ∧ c = (ds[j]'(by rw [HDD.out.len]; exact hlt)).2.2 := ⟨_, _, _, rfl, rfl, rfl⟩
      rw [← e0] at q0
      rw [← e1, ← e2] at hqm
      rw [← e1] at q1
      rw [← e2] at q2
      have hk64 : I64 k := i64_of hqm.2.1
      have hc64 : I64 c := i64_of hqm.2.2
      have hblk : (ad.add (j * 3)).block < B := by rw [addr_add_block, ← HBE.out]; exact had
      have HCELL : Hid (∀ wx, Below B w wx → wx.cell? (ad.add (j * 3)) = some (.int .i64 d) ∧ wx.cell? ⟨(ad.add (j * 3)).block, (ad.add (j * 3)).off + 1, none⟩ = some (.int .i64 k) ∧ wx.cell? ⟨(ad.add (j * 3)).block, (ad.add (j * 3)).off + 2, none⟩ = some (.int .i64 c)) := cover (fun wx hb => ⟨(hb.cell hblk).trans q0, (hb.cell (p := ⟨(ad.add (j * 3)).block, (ad.add (j * 3)).off + 1, none⟩) hblk).trans q1, (hb.cell (p := ⟨(ad.add (j * 3)).block, (ad.add (j * 3)).off + 2, none⟩) hblk).trans q2⟩)
      have s1 := do_any (hrel0.drewN 1) d k c hk64
      rw [beq_self_eq_true] at s1
      obtain ⟨l, hl⟩ : ∃ l, l = doS l0 d k c := ⟨_, rfl⟩
      rw [← hl] at s1
      have HOK : Hid (InS l) := cover (by rw [hl]; exact hrel0.has.ok.deed d k c)
      have hbel0 := hrel0.bel
      have hsz0 : B ≤ wr.heap.size := hrel0.size
      have HS0 : Hid (Below B w wr.drew) := cover (below_drewN hbel0 1)
      obtain ⟨p0, p1, p2⟩ := HCELL.out _ HS0.out
      have hT1 : (hearS l n).length ≤ 1000 := by have := hear_len l n; have := HOK.out.room; omega
      have hT2 : (hearS l c).length ≤ 1000 := by have := hear_len l c; have := HOK.out.room; omega
      have hT3 : (listS l).length ≤ 1000 := by have := list_len l; have := HOK.out.room; omega
      have HT := cover (And.intro hT1 (And.intro hT2 hT3))
      obtain ⟨x, hx⟩ : ∃ x, x = clsS l k := ⟨_, rfl⟩
      have HX := cover hx
      clear e0 e1 e2 q0 q1 q2 hbel0 hqm hrel hrel0 hl hT1 hT2 hT3 hx l0
      go_wp2_with fail
      go_region_held3 (fun w' => w'.cell? (ad.add (j * 3)) = some (.int .i64 d) ∧ w'.cell? ⟨(ad.add (j * 3)).block, (ad.add (j * 3)).off + 1, none⟩ = some (.int .i64 k) ∧ w'.cell? ⟨(ad.add (j * 3)).block, (ad.add (j * 3)).off + 2, none⟩ = some (.int .i64 c)) (first | exact ⟨p0, p1, p2⟩ | exact HCELL.out _ (hD2.out.bel.trans (hbX.mono hD2.out.size)))
        (first
          | (go_at_call 15; refine s1.mono ?_; rintro e w3 ⟨rfl, hD2⟩; have hbX := Below.refl w3.heap.size w3)
          | (go_at_call 16; refine (bt_class hD2.out hbX hk64).mono ?_; rw [← HX.out]; rintro e w4 ⟨rfl, hbX⟩)
          | (go_at_call 17; refine (bt_rclass hD2.out hbX k).mono ?_; rw [← HX.out]; rintro e w5 ⟨rfl, hbX⟩)
          | (go_at_call 14; (first | (with_reducible refine (bt_hears hD2.out hbX hn64).mono ?_) | (with_reducible refine (bt_hears hD2.out hbX hc64).mono ?_)); rintro e w6 ⟨A6, c6, rfl, hr6, hbX⟩)
          | (go_at_call 19; refine (bt_list hD2.out hbX).mono ?_; rintro e w6 ⟨A6, c6, rfl, hr6, hbX⟩)
          | (go_at_call 18; (first | (with_reducible refine (bt_rhears hD2.out hbX n hr6.out).mono ?_) | (with_reducible refine (bt_rhears hD2.out hbX c hr6.out).mono ?_)); rintro e w7 ⟨A7, c7, rfl, hr7, hbX⟩)
          | (go_at_call 20; refine (bt_rlist hD2.out hbX hr6.out).mono ?_; rintro e w7 ⟨A7, c7, rfl, hr7, hbX⟩)
          | (go_at_call 13; (first | (with_reducible refine (bt_ints hbX HT.out.1 hr7.out).mono ?_) | (with_reducible refine (bt_ints hbX HT.out.2.1 hr7.out).mono ?_) | (with_reducible refine (bt_ints hbX HT.out.2.2 hr7.out).mono ?_)); rintro e w8 ⟨rfl, hbX⟩))
      all_goals
        have HN : Hid (OneS B w s r w8) := cover ⟨l, hD2.out.below hbX⟩
        clear hD2 hbX s1 hr6 hr7 HCELL HS0 p0 p1 p2
        go_wp2
        go_roundw
        case rel => exact ⟨j + 1, by omega, by go_num, HN⟩
        case measure => simp [intOf]; omega
    · obtain rfl : j = len := by omega
      obtain ⟨_, hh⟩ := hrel.out
      have HB := cover hh.bel
      clear hrel hh
      go_wp2
      go_ret
      exact ⟨rfl, HB.out⟩
end Go.Proofs.Ytnegbiofnjdfaaa
