/- What Number, ReadNumber, PutStatus and GetStatus hand back, the program's and the document's. -/
import Derived.BigQuiet
import Derived.Deep.QuietTactic
import Derived.Deep.RegionHeld3
import Derived.Test.YtkidacfodpoapaaGFold
import Derived.Test.YtkidacfodpoapaaORead
import Derived.Test.YtkidacfodpoapaaOConcat
import Derived.Test.YtkidacfodpoapaaORef
import Derived.Test.YtkidacfodpoapaaOCopy
namespace Go.Proofs.Ytkidacfodpoapaa
open Go.RowKit
set_option linter.unusedVariables false
set_option linter.unusedSimpArgs false

/-- a row of bytes of the call's own and what was wrong -/
def GivesE (d : List Int × Int) (w : World) (e : Ending) (w' : World) : Prop :=
  ∃ A c, e = .returned (.tuple #[.slice A d.1.length c, .int .i64 d.2]) ∧ OwnB w' w.heap.size (.slice A d.1.length c) d.1 ∧ Below w.heap.size w w'
theorem GivesE.no {w w' : World} {d : List Int × Int} {k : Int} (h : d = ([], k)) (hb : Below w.heap.size w w') : GivesE d w (.returned (.tuple #[.slice none 0 0, .int .i64 k])) w' := by
  subst h; exact ⟨none, 0, rfl, OwnB.nil _ _, hb⟩

set_option maxHeartbeats 800000 in
theorem number_any (n : Int) (w : World) (hn : n ≤ 9223372036854775807) : Calls Try.prog 13 #[.int .i64 n] w (GivesB w (numB n)) := by
  by_cases h : 0 ≤ n ∧ n < 4294967296
  · have HE : Hid (low n 4 = numB n) := cover (by unfold numB; rw [if_pos h])
    obtain ⟨h0, h1⟩ := h
    go_enter Try.func13, Try.ntmps13
    go_wp2_with fail
    refine (put_yes n 4 w (by decide) (by decide) h0 (by simpa using h1)).mono ?_
    rw [HE.out]
    rintro e w1 ⟨A, c, rfl, ho, hb⟩
    have HO := cover ho
    have HB := cover hb
    clear ho hb
    rw [numB_len]
    go_wp2
    go_ret
    exact ⟨A, c, by rw [numB_len]; rfl, HO.out, HB.out⟩
  · obtain ⟨i0, hi, hz0, hz1, hz2⟩ := info_parts u8_info
    have HE : Hid (numB n = [0, 0, 0, 0]) := cover (by unfold numB; rw [if_neg h])
    have HF : Hid (fitsB n 4 = false) := cover (by
      rcases hf : fitsB n 4 with _ | _
      · rfl
      · rw [fitsB_iff] at hf; exact absurd ⟨hf.2.2.1, by simpa using hf.2.2.2⟩ h)
    clear h
    go_enter Try.func13, Try.ntmps13
    go_wp2_with fail
    refine (put_no n 4 w HF.out hn).mono ?_
    rintro e w' ⟨rfl, rfl⟩
    go_wp2_with (at_make; refine wpList_make_full _ rfl _ _ 23 rfl w.heap.size 5 i0 (.int .u8 0) 1 Try.underlying23 hi hz0 hz1 .i64 .i64 _ _ 4 rfl rfl rfl rfl (by rw [hz2]; omega) (by unfold maxLen; omega) (Nat.le_refl _) ?_; intro w1 hown1 hg1)
    have HO := cover hown1
    have HG := cover hg1
    clear hown1 hg1
    go_ret
    have hO := HO.out
    rw [show (Value.int IntKind.u8 0).cells = #[.int .u8 0] from rfl, toList_madeCells_one] at hO
    exact ⟨_, 4, by rw [HE.out]; rfl, by rw [HE.out]; exact hO, (Below.refl _ _).grown HG.out (Nat.le_refl _) (fun k hk => by cases hk)⟩

set_option maxHeartbeats 800000 in
theorem ref_number_any (n : Int) (w : World) (hn : n ≤ 9223372036854775807) : Calls Try.prog 26 #[.int .i64 n] w (GivesB w (numB n)) := by
  by_cases h0 : 0 ≤ n
  · by_cases h1 : n < 4294967296
    · have HE : Hid (low n 4 = numB n) := cover (by unfold numB; rw [if_pos ⟨h0, h1⟩])
      go_enter Try.func26, Try.ntmps26
      go_wp2_with fail
      refine (ref_put_yes n 4 w (by decide) (by decide) h0 (by simpa using h1)).mono ?_
      rw [HE.out]
      rintro e w1 ⟨A, c, rfl, ho, hb⟩
      have HO := cover ho
      have HB := cover hb
      clear ho hb
      go_wp2
      go_ret
      exact ⟨A, c, rfl, HO.out, HB.out⟩
    · have HE : Hid (numB n = [0, 0, 0, 0]) := cover (by unfold numB; rw [if_neg (fun h => h1 h.2)])
      go_enter Try.func26, Try.ntmps26
      go_wp2
      go_ret
      exact ⟨_, 4, by rw [HE.out]; rfl, by rw [HE.out]; exact ownB_made w [0, 0, 0, 0] _ rfl (by decide), (Below.refl _ _).alloc (Nat.le_refl _) _⟩
  · have HE : Hid (numB n = [0, 0, 0, 0]) := cover (by unfold numB; rw [if_neg (fun h => h0 h.1)])
    go_enter Try.func26, Try.ntmps26
    go_wp2
    go_ret
    exact ⟨_, 4, by rw [HE.out]; rfl, by rw [HE.out]; exact ownB_made w [0, 0, 0, 0] _ rfl (by decide), (Below.refl _ _).alloc (Nat.le_refl _) _⟩

theorem readN_getB {l : List Int} (h : l.length = 4) : readN l = (getB l, true) := by
  unfold readN getB; rw [if_pos h, if_pos (by omega)]
theorem readNumber_any (A : Option Addr) (n c B : Nat) (l : List Int) (w : World) (hr : Row w B A n l) (hb : Bts l) :
    Calls Try.prog 11 #[.slice A n c] w fun e w' => e = .returned (.tuple #[.int .i64 (readN l).1, .bool (readN l).2]) ∧ w = w' := by
  have hl := hr.len
  by_cases h4 : n = 4
  · have HR := cover (readN_getB (hl.trans h4))
    have HB := cover hb
    have HW := cover hr
    clear hb hr hl
    subst h4
    go_enter Try.func11, Try.ntmps11
    go_wp2_with fail
    refine (get_any A 4 c B l w HW.out HB.out).mono ?_
    rintro e w' ⟨rfl, rfl⟩
    go_wp2
    go_ret2
    exact ⟨by rw [HR.out]; rfl, rfl⟩
  · have HR : Hid (readN l = (0, false)) := cover (by unfold readN; rw [if_neg (by omega)])
    have h4' : ((n : Int) != 4) = true := by rw [bne_iff_ne]; omega
    clear hb hr hl
    go_enter Try.func11, Try.ntmps11
    go_wp2
    go_ret2
    exact ⟨by rw [HR.out]; rfl, rfl⟩
theorem ref_readNumber_any (A : Option Addr) (n c B : Nat) (l : List Int) (w : World) (hr : Row w B A n l) (hb : Bts l) :
    Calls Try.prog 25 #[.slice A n c] w fun e w' => e = .returned (.tuple #[.int .i64 (readN l).1, .bool (readN l).2]) ∧ w = w' := by
  have hl := hr.len
  by_cases h4 : n = 4
  · have HR := cover (readN_getB (hl.trans h4))
    have HB := cover hb
    have HW := cover hr
    clear hb hr hl
    subst h4
    go_enter Try.func25, Try.ntmps25
    go_wp2_with fail
    refine (ref_get_any A 4 c B l w HW.out HB.out (by decide)).mono ?_
    rintro e w' ⟨rfl, rfl⟩
    go_wp2
    go_ret2
    exact ⟨by rw [HR.out]; rfl, rfl⟩
  · have HR : Hid (readN l = (0, false)) := cover (by unfold readN; rw [if_neg (by omega)])
    have h4' : ((n : Int) != 4) = true := by rw [bne_iff_ne]; omega
    clear hb hr hl
    go_enter Try.func25, Try.ntmps25
    go_wp2
    go_ret2
    exact ⟨by rw [HR.out]; rfl, rfl⟩

theorem low_one' {a : Int} (ha : 0 ≤ a ∧ a ≤ 255) : low a 1 = [a] := by
  have e0 : a / 256 ^ 0 % 256 = a := by rw [Int.pow_zero]; omega
  unfold low low
  rw [e0]
set_option maxHeartbeats 800000 in
theorem putStatus_any (s : Int) (A : Option Addr) (c B : Nat) (l : List Int) (w : World) (hr : Row w B A l.length l) (hB : B ≤ w.heap.size) (hc : l.length ≤ c) (hnil : A = none → c = 0) (hmax : l.length ≤ 100000) :
    Calls Try.prog 22 #[.int .i64 s, .slice A l.length c] w (GivesE (putS s l) w) := by
  by_cases h : 0 ≤ s ∧ s ≤ 255
  · have HE : Hid (putS s l = (s :: l, 0)) := cover (by unfold putS; rw [if_pos h])
    have HD : Hid (decide (0 ≤ s ∧ s ≤ 255) = true) := cover (decide_eq_true h)
    have HS := cover h
    have HW := cover hr
    have HN := cover hnil
    clear h hr hnil
    go_enter Try.func22, Try.ntmps22
    go_wp2_with fail
    refine (fits_any s 255 w).mono ?_
    rw [HD.out]
    rintro e w' ⟨rfl, rfl⟩
    go_wp2_with fail
    refine (put_yes s 1 w' (by decide) (by decide) HS.out.1 (by have := HS.out; simp; omega)).mono ?_
    rw [low_one' HS.out]
    rintro e w1 ⟨A1, c1, rfl, ho, hb⟩
    have HO := cover ho
    have HB1 := cover hb
    have hs1 := hb.size
    clear ho hb
    go_wp2_with fail
    have hrs := RowsB.two 23 (w := w1) rfl (HO.out.row) ((HW.out.below (HB1.out.mono hB)).more (by omega)) (own_cap HO.out) hc (own_nil_cap HO.out) HN.out
    refine (concat_any _ 2 2 (w1.heap.size + 1) [[s], l] _ hrs (by simp) (by decide) (by simp [totL]; omega)).mono ?_
    rintro e w2 ⟨A2, c2, rfl, ho2, hb2⟩
    have HO2 := cover (ho2.mono (show w'.heap.size ≤ _ by simp; omega))
    have HB2 := cover ((HB1.out.alloc hs1 _).trans (hb2.mono (show w'.heap.size ≤ _ by simp; omega)))
    clear ho2 hb2 hrs
    go_wp2
    go_ret2
    exact ⟨A2, c2, by rw [HE.out]; simp, by rw [HE.out]; simpa using HO2.out, HB2.out⟩
  · have HE : Hid (putS s l = ([], 1)) := cover (by unfold putS; rw [if_neg h])
    have HD : Hid (decide (0 ≤ s ∧ s ≤ 255) = false) := cover (decide_eq_false h)
    clear h hr hnil
    go_enter Try.func22, Try.ntmps22
    go_wp2_with fail
    refine (fits_any s 255 w).mono ?_
    rw [HD.out]
    rintro e w' ⟨rfl, rfl⟩
    go_wp2
    go_ret2
    exact GivesE.no HE.out (Below.refl _ _)

set_option maxHeartbeats 800000 in
theorem ref_putStatus_any (s : Int) (A : Option Addr) (c B : Nat) (l : List Int) (w : World) (hr : Row w B A l.length l) (hB : B ≤ w.heap.size) (hc : l.length ≤ c) (hnil : A = none → c = 0) (hmax : l.length ≤ 100000) :
    Calls Try.prog 23 #[.int .i64 s, .slice A l.length c] w (GivesE (putS s l) w) := by
  obtain ⟨i0, hi, hz0, hz1, hz2⟩ := info_parts u8_info
  by_cases h0 : 0 ≤ s
  · by_cases h1 : s ≤ 255
    · have HE : Hid (putS s l = (s :: l, 0)) := cover (by unfold putS; rw [if_pos ⟨h0, h1⟩])
      have hw : IntKind.u8.wrap s = s := w8 ⟨h0, h1⟩
      have HO1 : Hid (OwnB (w.alloc (.cells #[.int .u8 s] 5)) w.heap.size (.slice (some ⟨w.heap.size, 0, none⟩) 1 1) [s]) := cover (ownB_made w [s] #[.int .u8 s] rfl (by simp))
      have HB1 : Hid (Below w.heap.size w (w.alloc (.cells #[.int .u8 s] 5))) := cover ((Below.refl _ _).alloc (Nat.le_refl _) _)
      have HW := cover (hr.alloc hB (.cells #[.int .u8 s] 5))
      have HN := cover hnil
      clear hr hnil
      go_enter Try.func23, Try.ntmps23
      go_wp2_with (at_builtin; refine append_row rfl _ _ 23 rfl w.heap.size 5 i0 (.int .u8 0) 1 Try.underlying23 hi hz0 hz1 hz2 rfl _ _ _ rfl HO1.out B A l.length c l rfl HW.out HN.out (by unfold maxLen; simp; omega) (by simp; omega) HB1.out.size ?_)
      intro v2 w2 hown2 hg2
      have HB2 := cover (below_grown HB1.out HB1.out.size HO1.out hg2)
      obtain ⟨A2, c2, rfl, _⟩ := own_shape hown2
      have HO2 : Hid (OwnB w2 w.heap.size (.slice A2 (s :: l).length c2) (s :: l)) := cover (by
        unfold OwnB
        rw [show (s :: l).length = [s].length + l.length by simp; omega]
        exact hown2)
      clear hown2 hg2
      go_wp2
      go_ret2
      exact ⟨A2, c2, by rw [HE.out]; simp [Nat.add_comm], by rw [HE.out]; exact HO2.out, HB2.out⟩
    · have HE : Hid (putS s l = ([], 1)) := cover (by unfold putS; rw [if_neg (fun h => h1 h.2)])
      clear hr hnil
      go_enter Try.func23, Try.ntmps23
      go_wp2
      go_ret2
      exact GivesE.no HE.out (Below.refl _ _)
  · have HE : Hid (putS s l = ([], 1)) := cover (by unfold putS; rw [if_neg (fun h => h0 h.1)])
    clear hr hnil
    go_enter Try.func23, Try.ntmps23
    go_wp2
    go_ret2
    exact GivesE.no HE.out (Below.refl _ _)

/-- GetStatus has answered -/
def StatE (d : Int × List Int × Int) (w : World) (e : Ending) (w' : World) : Prop :=
  ∃ A c, e = .returned (.tuple #[.int .i64 d.1, .slice A d.2.1.length c, .int .i64 d.2.2]) ∧ OwnB w' w.heap.size (.slice A d.2.1.length c) d.2.1 ∧ Below w.heap.size w w'
set_option maxHeartbeats 800000 in
theorem getStatus_any (A : Option Addr) (c B : Nat) (l : List Int) (w : World) (hr : Row w B A l.length l) (hB : B ≤ w.heap.size) (hb : Bts l) (hmax : l.length ≤ 100000) :
    Calls Try.prog 10 #[.slice A l.length c] w (StatE (getS l) w) := by
  have HW := cover hr
  have HB := cover hb
  clear hr hb
  go_enter Try.func10, Try.ntmps10
  go_wp2_with fail
  refine (new_any A l.length c B l w HW.out hB (by omega)).mono ?_
  rintro e w1 ⟨g, rfl, hrd, hg, hb1⟩
  have R1 := cover hrd
  have H1 := cover hb1
  have hs1 := hb1.size
  clear hrd hb1
  obtain ⟨⟨x, l2, f⟩, e2⟩ : ∃ y, Hid (num1 l false = y) := ⟨_, cover rfl⟩
  have C2 := num1_any g g l false w1 R1.out HB.out (by omega)
  rw [e2.out] at C2
  have HC2 := cover C2
  have hle : l2.length ≤ l.length := by have := num1_le l false; rw [e2.out] at this; exact this
  clear C2
  go_wp2_with fail
  refine HC2.out.mono ?_
  rintro e w2 ⟨rfl, r2, o2⟩
  have R2 := cover r2
  have H2 := cover (below_only H1.out o2 (by omega) (by omega))
  have hs2 := o2.size
  clear r2 o2
  go_wp2_with fail
  refine (rest_any g g l2 f w2 R2.out (by omega)).mono ?_
  rintro e w3 ⟨A3, c3, l3, rfl, ho3, r3, o3⟩
  obtain ⟨rr, hrr⟩ : ∃ rr, Hid ((if f = true then [] else l2) = rr) := ⟨_, cover rfl⟩
  rw [hrr.out] at ho3 ⊢
  have R3 := cover r3
  have H3 := cover (below_only H2.out o3 (by omega) (by omega))
  have HO3 := cover (ho3.mono (show w.heap.size ≤ w2.heap.size by omega))
  clear ho3 r3 o3
  go_wp2_with fail
  refine (failed_any g g l3 f w3 R3.out).mono ?_
  rintro e w' ⟨rfl, rfl⟩
  cases f with
  | true =>
    have HE : Hid (getS l = (0, [], 2)) := cover (by
      rcases (num1_bad e2.out).2 with h | h
      · cases h
      · rw [h]; rfl)
    go_wp2
    go_ret3
    exact ⟨none, 0, by rw [HE.out]; rfl, by rw [HE.out]; exact OwnB.nil _ _, H3.out⟩
  | false =>
    have HE : Hid (getS l = (x, rr, 0)) := cover (by rw [← hrr.out, (num1_ok e2.out).2]; rfl)
    go_wp2
    go_ret3
    exact ⟨A3, c3, by rw [HE.out]; rfl, by rw [HE.out]; exact HO3.out, H3.out⟩
set_option maxHeartbeats 800000 in
theorem ref_getStatus_any (A : Option Addr) (c B : Nat) (l : List Int) (w : World) (hr : Row w B A l.length l) (hB : B ≤ w.heap.size) (hc : l.length ≤ c) (hb : Bts l) (hmax : l.length ≤ 100000) :
    Calls Try.prog 24 #[.slice A l.length c] w (StatE (getS l) w) := by
  cases l with
  | nil =>
    clear hr
    go_enter Try.func24, Try.ntmps24
    go_wp2
    go_ret3
    exact ⟨none, 0, rfl, OwnB.nil _ _, Below.refl _ _⟩
  | cons x l =>
    obtain ⟨n, hn⟩ : ∃ n, n = (x :: l).length := ⟨_, rfl⟩
    have hnl : n = l.length + 1 := by rw [hn]; simp
    rw [← hn] at hr hc hmax ⊢
    obtain ⟨ad, y, rfl, had, hc0, hy⟩ := hr.at_ (show 0 < n by omega)
    have hyx : y = x := by have := hy.out; simp at this; exact this.symm
    subst hyx
    have HY : Hid (IntKind.i64.wrap y = y) := cover (w64 hb.head)
    clear hb
    have hx : w.cell? ad = some (.int .u8 y) := by simpa [Addr.add] using hc0
    have hcut := hr.cut (k := 1) (by omega) hc
    have HCP := cover (fun W (hb : Below w.heap.size w W) => (copy_any (if c = 1 then some ad else some (ad.add 1)) (n - 1) (c - 1) B l W (by
      have h := hcut.below (hb.mono hB)
      simpa using h) (Nat.le_trans hB hb.size) (by omega)).mono (by
        rintro e w' ⟨A2, c2, he, ho, hb'⟩
        exact (⟨A2, c2, he, ho.mono hb.size, hb.trans (hb'.mono hb.size)⟩ : ∃ A2 c2, e = Ending.returned (.slice A2 l.length c2) ∧ OwnB w' w.heap.size (.slice A2 l.length c2) l ∧ Below w.heap.size w w')))
    have hne : ((n : Int) == 0) = false := by simp; omega
    have b1 : (0 : Int) < n := by omega
    have b4 : 0 < n := by omega
    have b5 : 1 ≤ n := by omega
    have b2 : (1 : Int) ≤ n := by omega
    have b3 : (n : Int) ≤ c := by omega
    have hlt : ad.block < w.heap.size := by omega
    have HNL := cover hnl
    clear hc0 hy hcut hr hn hnl
    by_cases hck : c = 1
    · subst hck
      have n1 : n = 1 := by omega
      subst n1
      have HC2 := HCP.out
      rw [if_pos rfl] at HC2
      replace HCP := cover HC2
      clear HC2 HNL b1 b2 b3 b4 b5
      go_enter Try.func24, Try.ntmps24
      go_wp2_with fail
      go_region_held3 (fun w' => w'.cell? ad = some (.int .u8 y) ∧ Below w.heap.size w w')
        (first | exact ⟨hx, (Below.refl _ _).drew⟩ | exact ⟨(hbX.cell hlt).trans hx, hbX⟩)
        ((go_at_call 27; refine (HCP.out _ ?_).mono ?_; (go_split_ands; assumption); rintro e w2 ⟨A2, c2, rfl, ho2, hbX⟩))
      have HO2 := cover ho2
      have H2 := cover hbX
      clear ho2 hbX
      rw [HY.out]
      go_wp2
      go_ret3
      exact ⟨A2, c2, rfl, HO2.out, H2.out⟩
    · have HC2 := HCP.out
      rw [if_neg hck] at HC2
      replace HCP := cover HC2
      clear HC2
      go_enter Try.func24, Try.ntmps24
      go_wp2_with fail
      go_region_held3 (fun w' => w'.cell? ad = some (.int .u8 y) ∧ Below w.heap.size w w')
        (first | exact ⟨hx, (Below.refl _ _).drew⟩ | exact ⟨(hbX.cell hlt).trans hx, hbX⟩)
        ((go_at_call 27; refine (HCP.out _ ?_).mono ?_; (go_split_ands; assumption); rintro e w2 ⟨A2, c2, rfl, ho2, hbX⟩))
      have HO2 := cover ho2
      have H2 := cover hbX
      clear ho2 hbX
      rw [HY.out]
      go_wp2
      go_ret3
      exact ⟨A2, c2, rfl, HO2.out, H2.out⟩

end Go.Proofs.Ytkidacfodpoapaa
