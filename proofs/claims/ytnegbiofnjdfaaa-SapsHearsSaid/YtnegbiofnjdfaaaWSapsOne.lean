/- The walk of SapsOne. -/
import Derived.Test.YtnegbiofnjdfaaaSDo
import Derived.Test.YtnegbiofnjdfaaaSDeeds
import Derived.Test.YtnegbiofnjdfaaaWSapsKnown
namespace Go.Proofs.Ytnegbiofnjdfaaa
open Go.RowKit
set_option linter.unusedVariables false

theorem tmod_even {n : Int} (h : n % 2 = 0) : (n.tmod 2 != 0) = false := by
  obtain ⟨k, rfl⟩ : ∃ k, n = 2 * k := ⟨n / 2, by omega⟩
  rw [Int.mul_tmod_right]
  rfl
theorem tmod_odd {n : Int} (h : ¬ n % 2 = 0) : (n.tmod 2 != 0) = true := by
  rw [bne_iff_ne]
  intro e
  have := Int.dvd_of_tmod_eq_zero e
  omega
theorem cls_gt {l : List SV} (h : InS l) (n : Int) : decide ((0 : Int) < clsS l n) = hasS l n := by
  cases hh : hasS l n
  · rw [clsS_no hh]; rfl
  · have := cls_ok h hh
    unfold OkCls at this
    simp; omega
theorem cls_le {l : List SV} (h : InS l) (n : Int) : clsS l n ≤ 4 := by
  cases hh : hasS l n
  · rw [clsS_no hh]; decide
  · have := cls_ok h hh
    unfold OkCls at this
    omega
/-- some Saps, whatever befell it -/
def SomeS (B : Nat) (w : World) (s : Nat) (wr : World) : Prop := ∃ l, SHas B wr s l ∧ Below B w wr
theorem do_some {B : Nat} {w wr : World} {s : Nat} (h : SomeS B w s wr) (d n c : Int) (hn : I64 n) :
    Calls Try.prog 15 #[ptr s, ptr wr.heap.size, .agg #[.int .i64 d, .int .i64 n, .int .i64 c]] (wr.alloc (.cells #[.slice none 0 0] 34)) fun e w' => ∃ b, e = .returned (.bool b) ∧ Hid (SomeS B w s w') := by
  obtain ⟨l, h1, h2⟩ := h
  have hb : Below wr.heap.size wr (wr.alloc (.cells #[.slice none 0 0] 34)) := (Below.refl _ _).alloc (Nat.le_refl _) _
  have H : Both B w s wr.heap.size l [] (wr.alloc (.cells #[.slice none 0 0] 34)) := ⟨h1.below hb, RHas.made wr h1.size, h2.trans (hb.mono h1.size)⟩
  refine (do_any H d n c hn).mono ?_
  rintro e w' ⟨rfl, hh⟩
  exact ⟨_, rfl, cover ⟨_, hh.out.has, hh.out.bel⟩⟩
set_option maxRecDepth 100000 in
set_option maxHeartbeats 1600000 in
theorem walk_SapsOne (A : Option Addr) (len cap : Nat) (ds : List (Int × Int × Int)) (n : Int) (w : World) (hlc : len ≤ cap) (hcm : cap ≤ maxLen) (hd : Deeds w w.heap.size A len ds ∧ ∀ q ∈ ds, (-9223372036854775808 ≤ q.1 ∧ q.1 ≤ 9223372036854775807) ∧ (-9223372036854775808 ≤ q.2.1 ∧ q.2.1 ≤ 9223372036854775807) ∧ (-9223372036854775808 ≤ q.2.2 ∧ q.2.2 ≤ 9223372036854775807)) (hn : (Lit.int .i64 n).wf = true) :
    Calls Try.prog 7 #[.slice A len cap, .int .i64 n] w fun e w' => e = .returned (.bool true) ∧ Below w.heap.size w w' := by
  have HDD := cover hd.1
  have HQ := cover hd.2
  obtain ⟨B, hB⟩ : ∃ B, w.heap.size = B := ⟨_, rfl⟩
  rw [hB]
  have hBw : B ≤ w.heap.size := by omega
  have HBE := cover hB
  have HCM := cover hcm
  have hn64 : I64 n := hn
  clear hB hd hcm hn
  by_cases hbig : 150 < len
  · go_enter Try.func7, Try.ntmps7
    go_wp2_with fail
    refine (awake_any w).mono ?_
    rintro e w0 ⟨rfl, hb0⟩
    have HB0 : Hid (Below B w w0) := cover (hb0.mono hBw)
    clear hb0
    go_wp2
    go_ret
    exact ⟨rfl, HB0.out⟩
  go_enter Try.func7, Try.ntmps7
  go_wp2_with fail
  refine (awake_any w).mono ?_
  rintro e w0 ⟨rfl, hb0⟩
  have HB0 : Hid (Below B w w0) := cover (hb0.mono hBw)
  have hs0 : B ≤ w0.heap.size := Nat.le_trans hBw hb0.size
  clear hb0
  go_wp2_with fail
  refine (new_has hs0).mono ?_
  rintro e w1 ⟨s, rfl, H1'⟩
  have H1 : Hid (SomeS B w s w1) := cover ⟨_, H1'.out.1, HB0.out.trans H1'.out.2⟩
  clear H1' HB0
  go_wp2_with fail
  go_loopw [6] (fun iv wr => ∃ j : Nat, j ≤ len ∧ iv = .int .i64 j ∧ Hid (SomeS B w s wr)) (fun i _ => len - (intOf i).toNat)
  case atStart => exact ⟨0, by omega, rfl, H1⟩
  case round =>
    obtain ⟨j, hj, rfl, hrel⟩ := hrel
    by_cases hlt : j < len
    · obtain ⟨ad, rfl, had, q0, q1, q2⟩ := HDD.out.cells j (by rw [HDD.out.len]; exact hlt)
      have hbel : Below B w wr := by obtain ⟨_, _, hb⟩ := hrel.out; exact hb
      have hqm := (HQ.out _ (List.getElem_mem (by rw [HDD.out.len]; exact hlt : j < ds.length))).2.1
      obtain ⟨d, k, c, e0, e1, e2⟩ : ∃ d k c : Int, d = (ds[j]'(by rw [HDD.out.len]; exact hlt)).1 ∧ k = (ds[j]'(by rw [HDD.out.len]; exact hlt)).2.1 ∧ c = (ds[j]'(by rw [HDD.out.len]; exact hlt)).2.2 := ⟨_, _, _, rfl, rfl, rfl⟩
      rw [← e0] at q0
      rw [← e1] at q1 hqm
      rw [← e2] at q2
      have hk64 : I64 k := i64_of hqm
      have hblk : (ad.add (j * 3)).block < B := by rw [addr_add_block, ← HBE.out]; exact had
      have k0 : World.cell? (wr.alloc (.cells #[.slice none 0 0] 34)) (ad.add (j * 3)) = some (.int .i64 d) := cell_alloc_lt _ ((hbel.cell hblk).trans q0)
      have k1 : World.cell? (wr.alloc (.cells #[.slice none 0 0] 34)) ⟨(ad.add (j * 3)).block, (ad.add (j * 3)).off + 1, none⟩ = some (.int .i64 k) := cell_alloc_lt _ ((hbel.cell (p := ⟨(ad.add (j * 3)).block, (ad.add (j * 3)).off + 1, none⟩) hblk).trans q1)
      have k2 : World.cell? (wr.alloc (.cells #[.slice none 0 0] 34)) ⟨(ad.add (j * 3)).block, (ad.add (j * 3)).off + 2, none⟩ = some (.int .i64 c) := cell_alloc_lt _ ((hbel.cell (p := ⟨(ad.add (j * 3)).block, (ad.add (j * 3)).off + 2, none⟩) hblk).trans q2)
      have hsz : B ≤ wr.heap.size := by obtain ⟨_, h1, _⟩ := hrel.out; exact h1.size
      have s1 := do_some hrel.out d k c hk64
      clear e0 e1 e2 q0 q1 q2 hbel hqm hrel
      go_wp2_with fail
      refine s1.mono ?_
      rintro e w3 ⟨b, rfl, H3⟩
      clear s1 k0 k1 k2
      go_wp2
      go_roundw
      case rel => exact ⟨j + 1, by omega, by go_num, H3⟩
      case measure => simp [intOf]; omega
    · obtain rfl : j = len := by omega
      obtain ⟨l, h1, h2⟩ := hrel.out
      have HH := cover (And.intro h1 h2)
      have hsz := h1.size
      clear hrel h1 h2
      by_cases he : n % 2 = 0
      · have hte := tmod_even he
        have hOne := cover (hear_one HH.out.1.ok he)
        cases hh : hasS l n
        · have hO : Hid (hearS l n = []) := cover (by rw [hOne.out, hh]; rfl)
          have s1 := hears_has HH.out.1 hn64
          rw [hO.out] at s1
          have hc0 : clsS l n = 0 := clsS_no hh
          clear he hOne hh hO
          go_wp2_with fail
          refine s1.mono ?_
          rintro e w2 ⟨A2, c2, rfl, h2⟩
          have H2 := cover (HH.out.1.below h2.out.2)
          have B2 := cover (HH.out.2.trans (h2.out.2.mono hsz))
          have s2 := class_has H2.out hn64
          rw [hc0] at s2
          clear s1 h2 HH
          go_wp2_with fail
          refine s2.mono ?_
          rintro e w3 ⟨rfl, rfl⟩
          have s3 := s2
          clear s2
          go_wp2_with fail
          refine s3.mono ?_
          rintro e w3 ⟨rfl, rfl⟩
          clear s3
          go_wp2
          go_ret
          exact ⟨rfl, B2.out⟩
        · have hO : Hid (hearS l n = [n]) := cover (by rw [hOne.out, hh]; rfl)
          have s1 := hears_has HH.out.1 hn64
          rw [hO.out] at s1
          have hk : OkCls (clsS l n) := cls_ok HH.out.1.ok hh
          obtain ⟨x, hx⟩ : ∃ x, x = clsS l n := ⟨_, rfl⟩
          rw [← hx] at hk
          unfold OkCls at hk
          have hx0 : (0 : Int) < x := by omega
          have hx4 : x ≤ 4 := by omega
          have HX := cover hx
          clear he hOne hh hO hk hx
          go_wp2_with fail
          refine s1.mono ?_
          rintro e w2 ⟨A2, c2, rfl, h2⟩
          have H2 := cover (HH.out.1.below h2.out.2)
          have B2 := cover (HH.out.2.trans (h2.out.2.mono hsz))
          have s2 := class_has H2.out hn64
          rw [← HX.out] at s2
          have s4 := ints_out h2.out.1 (by show 1 ≤ 1000; decide) 1
          clear s1 h2 HH
          go_wp2_with fail
          refine s2.mono ?_
          rintro e w3 ⟨rfl, rfl⟩
          clear s2
          go_wp2_with fail
          refine s4.mono ?_
          rintro e w4 ⟨rfl, d4, hd4⟩
          have hb4 : Below w2.heap.size w2 w4 := by rw [hd4]; exact below_drewN ((Below.refl _ _).alloc (Nat.le_refl _) _) _
          have H4 := cover (H2.out.below hb4)
          have B4 := cover (B2.out.trans (hb4.mono H2.out.size))
          have s5 := class_has H4.out hn64
          rw [← HX.out] at s5
          clear s4 hd4 hb4 H2 B2
          go_wp2_with fail
          refine s5.mono ?_
          rintro e w5 ⟨rfl, rfl⟩
          clear s5
          go_wp2
          go_ret
          exact ⟨rfl, B4.out⟩
      · have hto := tmod_odd he
        have hh : hasS l n = false := by
          cases hc : hasS l n
          · rfl
          · exact absurd (ok_has HH.out.1.ok hc).2.2 he
        have s1 := hears_has HH.out.1 hn64
        have hc0 : clsS l n = 0 := clsS_no hh
        clear he hh
        go_wp2_with fail
        refine s1.mono ?_
        rintro e w2 ⟨A2, c2, rfl, h2⟩
        have H2 := cover (HH.out.1.below h2.out.2)
        have B2 := cover (HH.out.2.trans (h2.out.2.mono hsz))
        have s2 := class_has H2.out hn64
        rw [hc0] at s2
        clear s1 h2 HH
        go_wp2_with fail
        refine s2.mono ?_
        rintro e w3 ⟨rfl, rfl⟩
        clear s2
        go_wp2
        go_ret
        exact ⟨rfl, B2.out⟩
end Go.Proofs.Ytnegbiofnjdfaaa
