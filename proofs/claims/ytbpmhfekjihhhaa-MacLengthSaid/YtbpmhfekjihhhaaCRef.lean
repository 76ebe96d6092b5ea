/- What the document's own Seal and Open hand back. -/
import Derived.Test.YtbpmhfekjihhhaaCTab
import Derived.Test.YtbpmhfekjihhhaaOCopy
import Derived.Test.YtbpmhfekjihhhaaOSame
namespace Go.Proofs.Ytbpmhfekjihhhaa
open Go.RowKit
set_option linter.unusedVariables false

theorem le4_rg (s : W32) : le4 s = [rg s % 256, rg s / 256 % 256, rg s / 65536 % 256, rg s / 16777216] := by
  have := s.isLt
  unfold le4 rg
  simp only [List.cons.injEq, and_true]
  refine ⟨?_, ?_, ?_, ?_⟩ <;> omega
set_option maxHeartbeats 400000 in
theorem ref_seal_any (A : Option Addr) (n c B : Nat) (l : List Int) (w : World) (hr : Row w B A n l) (hB : B ≤ w.heap.size) (hb : Bts l) (hmax : n ≤ 70368744177664) :
    Calls Try.prog 41 #[.slice A n c] w (GivesB w (sealB l)) := by
  obtain ⟨i0, hi, hz0, hz1, hz2⟩ := info_parts u8_info
  obtain rfl : l.length = n := hr.len
  go_enter Try.func41, Try.ntmps41
  go_wp2_with fail
  refine (ref_sum_any A l.length c B l w hr hb (by omega)).mono ?_
  rintro e w' ⟨rfl, rfl⟩
  have hbd := rg_bd (summ l)
  obtain ⟨v, hv⟩ : ∃ v, Hid (summ l = v) := ⟨_, cover rfl⟩
  rw [hv.out] at hbd ⊢
  go_wp2_with fail
  refine (copy_any A l.length c B l w hr hB (by omega)).mono ?_
  rintro e w1 ⟨A1, c1, rfl, ho1, hb1⟩
  unfold OwnB at ho1
  have hrow := (RowK.made (κ := .u8) w1 [rg v % 256, rg v / 256 % 256, rg v / 65536 % 256, rg v / 16777216] #[.int .u8 (rg v % 256), .int .u8 (rg v / 256 % 256), .int .u8 (rg v / 65536 % 256), .int .u8 (rg v / 16777216)] 5 rfl)
  have hs1 := hb1.size
  have HR := cover hrow
  have HO := cover ho1
  clear hrow hr hB hb ho1
  go_wp2_with (at_builtin; refine append_row rfl _ _ 28 rfl w.heap.size 5 i0 (.int .u8 0) 1 Try.underlying28 hi hz0 hz1 hz2 rfl _ l.length _ rfl (HO.out.alloc _) (w1.heap.size + 1) _ 4 4 [rg v % 256, rg v / 256 % 256, rg v / 65536 % 256, rg v / 16777216] rfl HR.out (fun h => by cases h) (by unfold maxLen; omega) (by omega) (by simp; omega) ?_)
  intro v' w2 hown2 hg2
  have hs : Hid (sealB l = l ++ [rg v % 256, rg v / 256 % 256, rg v / 65536 % 256, rg v / 16777216]) := cover (by unfold sealB; rw [hv.out, le4_rg])
  have hfin : w2.ownsRow w.heap.size 5 1 v' (sealB l).length ((sealB l).map (Value.int .u8)) := by
    rw [hs.out, List.map_append, List.length_append]; exact hown2
  have hbel : Below w.heap.size w w2 := (hb1.alloc hs1 _).grown hg2 (by simp; omega) (fun k hk => (HO.out.lt k hk).1)
  obtain ⟨A2, c2, rfl, _⟩ := own_shape hfin
  have HF := cover (And.intro hfin hbel)
  clear hown2 hg2 hfin hbel hs
  go_wp2
  go_ret
  exact ⟨A2, c2, rfl, HF.out.1, HF.out.2⟩

set_option maxHeartbeats 800000 in
theorem ref_open_any (A : Option Addr) (n c B : Nat) (l : List Int) (w : World) (hr : Row w B A n l) (hB : B ≤ w.heap.size) (hb : Bts l) (hc : n ≤ c) (hmax : n ≤ 70368744177664) (hcm : c ≤ 9223372036854775807) :
    Calls Try.prog 42 #[.slice A n c] w (OpenD l w) := by
  have HL := cover hr.len
  by_cases h4 : n < 4
  · have HO : Hid (okOpen l = false ∧ openB l = []) := cover (by
      have : okOpen l = false := by unfold okOpen; rw [decide_eq_false (by rw [HL.out]; omega)]; rfl
      exact ⟨this, by unfold openB; rw [this]; rfl⟩)
    clear hr hb
    go_enter Try.func42, Try.ntmps42
    go_wp2
    go_ret2
    refine ⟨none, 0, ?_, ?_, Below.refl _ _⟩
    · rw [HO.out.1, HO.out.2]; rfl
    · rw [HO.out.2]; exact OwnB.nil _ _
  · obtain ⟨k, hk⟩ : ∃ k, n = k + 4 := ⟨n - 4, by omega⟩
    have e4 : (n : Int) - 4 = (k : Int) := by omega
    have hkc : k ≤ c := by omega
    have hkn : k ≤ n := by omega
    have HK := cover hk
    have HB := cover hb
    have hrk := hr.take hkn
    have h4' : ¬ ((n : Int) < 4) := by omega
    clear hk hb h4
    go_enter Try.func42, Try.ntmps42
    go_wp2_with fail
    refine (ref_seal_any A k c B (l.take k) w hrk hB (HB.out.take k) (by omega)).mono ?_
    rintro e w1 ⟨A1, c1, rfl, ho1, hb1⟩
    have hr1 := hr.below (hb1.mono hB)
    have hk1 := hrk.below (hb1.mono hB)
    have hs1 := hb1.size
    go_wp2_with fail
    have hsl : (sealB (l.take k)).length = n := by rw [sealB_length, hrk.len, HK.out]
    have hrow1 := ho1.row
    rw [hsl] at hrow1 ⊢
    refine (same_any A1 A n c1 c _ _ (sealB (l.take k)) l w1 hrow1 hr1 (by omega)).mono ?_
    rintro e w2 ⟨he, d, rfl⟩
    obtain ⟨q, hq⟩ : ∃ q : Bool, Hid (decide (sealB (l.take k) = l) = q) := ⟨_, cover rfl⟩
    rw [hq.out] at he
    subst he
    have hok : Hid (okOpen l = q) := cover (by
      have h1 := okOpen_iff l
      rw [HL.out, show n - 4 = k by rw [HK.out]; omega] at h1
      cases q
      · have h2 := of_decide_eq_false hq.out
        cases h3 : okOpen l
        · rfl
        · exact absurd (h1.1 h3).2.symm h2
      · have h2 := of_decide_eq_true hq.out
        exact h1.2 ⟨by rw [HK.out]; omega, h2.symm⟩)
    have hok2 : Hid (openB l = if q = true then l.take k else []) := cover (by
      unfold openB; rw [hok.out, HL.out, show n - 4 = k by rw [HK.out]; omega])
    rcases q with _ | _
    · go_wp2
      go_ret2
      refine ⟨none, 0, ?_, ?_, below_drewN hb1 _⟩
      · rw [hok.out, hok2.out]; rfl
      · rw [hok2.out]; exact OwnB.nil _ _
    · go_wp2_with fail
      refine (copy_any A k c B (l.take k) (w1.drewN d) (hk1.drewN d) (by show B ≤ w1.heap.size; omega) (by omega)).mono ?_
      rintro e w3 ⟨A3, c3, rfl, ho3, hb3⟩
      have HF : Hid (OwnB w3 w.heap.size (.slice A3 (l.take k).length c3) (l.take k) ∧ Below w.heap.size w w3) := cover ⟨ho3.mono hs1, (below_drewN hb1 d).trans (hb3.mono hs1)⟩
      clear ho3 hb3
      go_wp2
      go_ret2
      refine ⟨A3, c3, ?_, ?_, HF.out.2⟩
      · rw [hok.out, hok2.out]; first | rfl | simp
      · rw [hok2.out]; exact HF.out.1
end Go.Proofs.Ytbpmhfekjihhhaa
