/- The law's own table by deeds, and the document's beside it; the law's own first question: a test is answered. -/
import Derived.Test.YtgpmimohoepeiaaSDo
import Derived.Test.YtgpmimohoepeiaaSDeeds
import Derived.Test.YtgpmimohoepeiaaOSame
import Derived.Test.YtgpmimohoepeiaaHAsk2
import Derived.Test.YtgpmimohoepeiaaHHear
namespace Go.Proofs.Ytgpmimohoepeiaa
open Go.RowKit
set_option linter.unusedVariables false
set_option linter.unusedSimpArgs false

/-- both tables, by the same deeds: the same -/
def MadeB (B : Nat) (w : World) (e : Ending) (w' : World) : Prop := ∃ s r l, e = .returned (.tuple #[ptr s, ptr r]) ∧ Hid (Both B w s r l l w')
set_option maxRecDepth 100000 in
set_option maxHeartbeats 3200000 in
theorem made_any {A : Option Addr} {len cap B : Nat} {ds : List (Int × Int × Int)} {w : World} (hlc : len ≤ cap) (hbig : len ≤ 1000) (hB : B ≤ w.heap.size) (hd : Deeds w B A len ds) (hq : ∀ q ∈ ds, (-9223372036854775808 ≤ q.1 ∧ q.1 ≤ 9223372036854775807) ∧ (-9223372036854775808 ≤ q.2.1 ∧ q.2.1 ≤ 9223372036854775807) ∧ (-9223372036854775808 ≤ q.2.2 ∧ q.2.2 ≤ 9223372036854775807)) :
    Calls Try.prog 21 #[.slice A len cap] w (MadeB B w) := by
  have HDD := cover hd
  have HQ := cover hq
  clear hd hq
  go_enter Try.func21, Try.ntmps21
  go_wp2_with fail
  refine (new_has hB).mono ?_
  rintro e w1 ⟨s, rfl, H1⟩
  have hB1 : B ≤ w1.heap.size := H1.out.1.size
  obtain ⟨w2, hw2⟩ : ∃ w2, w2 = w1.alloc (.cells #[.slice none 0 0] 90) := ⟨_, rfl⟩
  obtain ⟨r, hr⟩ : ∃ r, w1.heap.size = r := ⟨_, rfl⟩
  have H2 : Hid (Both B w s r [] [] w2) := cover (by
    have hb : Below w1.heap.size w1 w2 := by rw [hw2]; exact (Below.refl _ _).alloc (Nat.le_refl _) _
    have hr2 := RHas.made (B := B) w1 hB1
    rw [← hw2, hr] at hr2
    exact ⟨H1.out.1.below hb, hr2, H1.out.2.trans (hb.mono hB1)⟩)
  clear H1
  go_upto_region 3 with fail
  rw [← hw2]
  clear hw2 hr hB1
  go_wp2_with fail
  go_loopw [6] (fun iv wr => ∃ j : Nat, j ≤ len ∧ iv = .int .i64 j ∧ Hid (∃ l, Both B w s r l l wr)) (fun i _ => len - (intOf i).toNat)
  case atStart => exact ⟨0, by omega, rfl, cover ⟨_, H2.out⟩⟩
  case round =>
    obtain ⟨j, hj, rfl, hrel⟩ := hrel
    by_cases hlt : j < len
    · obtain ⟨ad, rfl, had, q0, q1, q2⟩ := HDD.out.cells j (by rw [HDD.out.len]; exact hlt)
      obtain ⟨l, hl⟩ := hrel.out
      have hqm := (HQ.out _ (List.getElem_mem (by rw [HDD.out.len]; exact hlt : j < ds.length))).2.1
      obtain ⟨d, k, c, e0, e1, e2⟩ : ∃ d k c : Int, d = (ds[j]'(by rw [HDD.out.len]; exact hlt)).1 ∧ k = (ds[j]'(by rw [HDD.out.len]; exact hlt)).2.1 ∧ c = (ds[j]'(by rw [HDD.out.len]; exact hlt)).2.2 := ⟨_, _, _, rfl, rfl, rfl⟩
      rw [← e0] at q0
      rw [← e1] at q1 hqm
      rw [← e2] at q2
      have hblk : (ad.add (j * 3)).block < B := by rw [addr_add_block]; exact had
      have k0 : wr.cell? (ad.add (j * 3)) = some (.int .i64 d) := (hl.bel.cell hblk).trans q0
      have k1 : wr.cell? ⟨(ad.add (j * 3)).block, (ad.add (j * 3)).off + 1, none⟩ = some (.int .i64 k) := (hl.bel.cell (p := ⟨(ad.add (j * 3)).block, (ad.add (j * 3)).off + 1, none⟩) hblk).trans q1
      have k2 : wr.cell? ⟨(ad.add (j * 3)).block, (ad.add (j * 3)).off + 2, none⟩ = some (.int .i64 c) := (hl.bel.cell (p := ⟨(ad.add (j * 3)).block, (ad.add (j * 3)).off + 2, none⟩) hblk).trans q2
      have s1 := do_any hl d k c (i64_of hqm)
      clear e0 e1 e2 q0 q1 q2 hqm hrel hl
      go_wp2_with fail
      refine s1.mono ?_
      rintro e w3 ⟨rfl, H3⟩
      have HN : Hid (∃ l, Both B w s r l l w3) := cover ⟨_, H3.out⟩
      clear s1 k0 k1 k2 H3
      go_wp2
      go_roundw
      case rel => exact ⟨j + 1, by omega, by go_num, HN⟩
      case measure => simp [intOf]; omega
    · obtain rfl : j = len := by omega
      obtain ⟨l, hl⟩ := hrel.out
      have HN : Hid (MadeB B w (.returned (.tuple #[ptr s, ptr r])) wr) := cover ⟨s, r, l, rfl, cover hl⟩
      clear hrel hl
      go_wp2
      go_ret2
      exact HN.out

/-- the answer of the test -/
abbrev pT : PV := ⟨4, 8, false, 2, 2, 0, 0, true, [1, 2]⟩
theorem isOne_T : IsOne pT := ⟨⟨by unfold MayN; simp, .inr (.inr (by unfold MayU; simp))⟩, rfl, by decide⟩
theorem askT : askP (testQ 8 4) 0 [1, 2] = (pT, 0) := askP_yes (by unfold OkSap testQ; simp) (by decide)
theorem sentT : sentP [⟨4, 1, []⟩] pT = [⟨8, 4, true, 2, 2, 0, 0, true, [1, 2]⟩] := by
  rw [sentP_cmd isOne_T (by decide) rfl]
  have e : askedS [⟨4, 1, []⟩] pT = [4] := by decide +kernel
  rw [e]
  rfl
theorem toldT (pe : A6) : toldP [⟨4, 1, []⟩] pe pT = [] := toldP_cmd (by decide) rfl
set_option maxRecDepth 100000 in
set_option maxHeartbeats 6400000 in
theorem awake_any (w : World) : Calls Try.prog 9 #[] w fun e w' => e = .returned (.bool true) ∧ Below w.heap.size w w' := by
  obtain ⟨B, hB⟩ : ∃ B, B = w.heap.size := ⟨_, rfl⟩
  rw [← hB]
  have hBw : B ≤ w.heap.size := by omega
  clear hB
  go_enter Try.func9, Try.ntmps9
  go_wp2_with fail
  refine (new_has hBw).mono ?_
  rintro e w1 ⟨s, rfl, H1⟩
  have s1 := open_has H1.out.1 (n := 4) k64 1
  have e1 : openE [] 4 1 = 0 := by decide
  have e2 : openS [] 4 1 = [⟨4, 1, []⟩] := by unfold openS; rw [if_pos e1]; rfl
  rw [e1, e2] at s1
  go_wp2_with fail
  refine s1.mono ?_
  rintro e w2 ⟨rfl, H2⟩
  have HB2 := cover (H1.out.2.trans H2.out.2)
  have HS2 := cover H2.out.1
  clear s1 e1 e2 H1 H2
  obtain ⟨g, hg⟩ : ∃ g, w2.heap.size = g := ⟨_, rfl⟩
  obtain ⟨w3, hw3⟩ : ∃ w3, w3 = w2.alloc (.cells #[.int .u8 1, .int .u8 2] 5) := ⟨_, rfl⟩
  have hb3 : Below w2.heap.size w2 w3 := by rw [hw3]; exact (Below.refl _ _).alloc (Nat.le_refl _) _
  have hr3 : Row w3 (g + 1) (some ⟨g, 0, none⟩) 2 [1, 2] := by rw [hw3]; exact RowK.made_at w2 g [1, 2] _ _ rfl hg
  have hs3 : g + 1 ≤ w3.heap.size := by rw [hw3]; simp [hg]
  have s2 := askTest_any (some ⟨g, 0, none⟩) 2 (g + 1) [1, 2] 8 4 w3 hr3 hs3 (by decide)
  rw [askT] at s2
  have HS3 := cover (HS2.out.below hb3)
  have HB3 := cover (HB2.out.trans (hb3.mono HS2.out.size))
  clear hb3 hr3 hs3
  go_wp2_with (rw [← hw3]; refine s2.mono ?_)
  rintro e w4 ⟨A4, c4, rfl, H4⟩
  have HS4 := cover (HS3.out.below (H4.out.2))
  have HB4 := cover (HB3.out.trans (H4.out.2.mono HS3.out.size))
  have HO4 := cover H4.out.1
  clear hw3 hg s2 H4
  obtain ⟨w5, hw5⟩ : ∃ w5, Hid (w5 = (w4.alloc (.cells zp 29)).setRow w4.heap.size #[.int .i64 4, .int .i64 8, .bool false, .int .i64 2, .int .i64 2, .int .i64 0, .int .i64 0, .bool true, .slice A4 2 c4]) := ⟨_, cover rfl⟩
  have hb5 : Below w4.heap.size w4 w5 := by rw [hw5.out]; exact Go.below_setRow ((Below.refl _ _).alloc (Nat.le_refl _) _) (Nat.le_refl _) _
  have G5 : Hid (w5.heap[w4.heap.size]? = some (.cells #[.int .i64 4, .int .i64 8, .bool false, .int .i64 2, .int .i64 2, .int .i64 0, .int .i64 0, .bool true, .slice A4 2 c4] 29 (0, 0))) := cover (by rw [hw5.out]; exact setRow_heap _ _ _ _ _ _ (heap_alloc_new _ _))
  have HS5 := cover (HS4.out.below hb5)
  have HB5 := cover (HB4.out.trans (hb5.mono HS4.out.size))
  have HR5 := cover (OwnB.row (ownB_below HO4.out hb5))
  have s5 := hear_go HS5.out ⟨2, 0, 0, 0, 0, 0⟩ pT A4 c4 HR5.out (by decide)
  rw [sentT, toldT] at s5
  have HG5 := cover s5
  clear hb5 HS4 HB4 s5
  go_wp2_with (first
    | (refine wpList_store_row rfl _ _ _ rfl w4.heap.size #[.int .i64 4, .int .i64 8, .bool false, .int .i64 2, .int .i64 2, .int .i64 0, .int .i64 0, .bool true, .slice A4 2 c4] rfl rfl 29 zp (heap_alloc_new _ _) pdu_size rfl (pdu_one _ _ _ _ _ _ _ _ _ _ _) ?_; rw [← hw5.out])
    | (refine wpList_load_row rfl _ _ rfl w4.heap.size rfl 29 _ (0, 0) _ G5.out Try.underlying29 rfl pdu_size ?_))
  refine HG5.out.mono ?_
  rintro e w6 ⟨A6, c6, A6', c6', rfl, H6⟩
  obtain ⟨g6, cc, A7, m7, hv, hlen6, _, hgl, hc6, hi6, _⟩ := H6.out.2.1.at_ (i := 0) rfl
  have hA : A6' = some ⟨g6, 0, none⟩ := by injection hv
  have hcc : c6' = cc := by injection hv
  subst hA hcc
  have d0 := hc6 0 (by decide)
  have d1 := hc6 1 (by decide)
  have d2 := hc6 2 (by decide)
  have d8 := hc6 8 (by decide)
  simp [cellsP] at d0 d1 d2 d8
  have HB6 := cover (HB5.out.trans (H6.out.2.2.mono HS5.out.size))
  have HI6 := cover hi6
  obtain ⟨w7, hw7⟩ : ∃ w7, w7 = w6.alloc (.cells #[.int .u8 1, .int .u8 2] 5) := ⟨_, rfl⟩
  have hb7 : Below w6.heap.size w6 w7 := by rw [hw7]; exact (Below.refl _ _).alloc (Nat.le_refl _) _
  have s7 := same_any A7 (some ⟨w6.heap.size, 0, none⟩) 2 m7 2 w6.heap.size (w6.heap.size + 1) [1, 2] [1, 2] w7 ((OwnB.row hi6).below hb7) (by rw [hw7]; exact RowK.made w6 [1, 2] _ _ rfl) (by decide)
  rw [show decide (([1, 2] : List Int) = [1, 2]) = true from by decide] at s7
  have HS7 := cover s7
  have HB7 := cover (HB6.out.trans (hb7.mono (Nat.le_trans (Nat.le_trans HS5.out.size H6.out.2.2.size) (Nat.le_refl _))))
  clear hc6 hv H6 hi6 hb7 s7 HG5 HR5 G5 HO4
  have hc1 : 1 ≤ c6' := hlen6
  clear hlen6
  go_wp2_with (rw [← hw7]; refine HS7.out.mono ?_)
  rintro e w8 ⟨rfl, dd, rfl⟩
  clear hw7
  go_wp2
  go_ret
  exact ⟨rfl, below_drewN HB7.out dd⟩
end Go.Proofs.Ytgpmimohoepeiaa
