/- The walk of OctetWide. -/
import Derived.Test.YtfegneljedkmhaaOAwake
import Derived.Test.YtfegneljedkmhaaOFrame
namespace Go.Proofs.Ytfegneljedkmhaa
open Go.RowKit
set_option linter.unusedVariables false

/-- noughts ahead of a row of bytes -/
theorem wide_facts {l : List Int} {r k : Nat} (hb : Bts l) (h1 : 1 ≤ l.length) (h7 : k ≤ 7) (hk : r + l.length = k) :
    Bts (List.replicate r 0 ++ l) ∧ getB l = getv l ∧ getB (List.replicate r 0 ++ l) = getB l ∧ fitsB (getB l) k = true ∧ fitsB (getB l) l.length = true ∧ low (getB l) k = List.replicate r 0 ++ l ∧ low (getB l) l.length = l ∧ fitsB (getB l) 8 = false ∧ 0 ≤ getB l ∧ getB l ≤ 9223372036854775807 := by
  have hz : Bts (List.replicate r 0 ++ l) := Bts.append (fun x hx => by have := List.eq_of_mem_replicate hx; subst this; decide) hb
  have hg : getB l = getv l := by unfold getB; rw [if_pos (by omega)]
  have hzl : (List.replicate r (0 : Int) ++ l).length = k := by simp; omega
  have hg2 : getB (List.replicate r 0 ++ l) = getB l := by
    rw [hg]; unfold getB; rw [if_pos (by omega), getv_zeros]
  have hbd := getv_bd hb
  have hbd7 := getv_bd7 hb (by omega)
  have hmono := pow256_mono (show l.length ≤ k by omega)
  refine ⟨hz, hg, hg2, ?_, ?_, ?_, ?_, ?_, ?_, ?_⟩
  · rw [fitsB_iff, hg]; simp only [Int.toNat_natCast]; omega
  · rw [fitsB_iff, hg]; simp only [Int.toNat_natCast]; omega
  · have := low_getv hz hzl
    rw [getv_zeros] at this
    rw [hg]; exact this
  · rw [hg]; exact low_getv hb rfl
  · simp [fitsB]
  · omega
  · omega

set_option maxHeartbeats 800000 in
theorem wide_less (aw : Int) (r k : Nat) (A : Option Addr) (len cap : Nat) (l : List Int) (w : World) (hr : Row w w.heap.size A len l) (hb : Bts l) (hl1 : 1 ≤ len) (hl7 : len ≤ 7) (h0 : 0 ≤ aw) (h255 : aw ≤ 255) (hw : aw % 4 = (r : Int)) (hk : len + r = k) (hk7 : k ≤ 7) :
    Calls Try.prog 9 #[.slice A len cap, .int .u8 aw] w fun e w' => e = .returned (.bool true) ∧ Below w.heap.size w w' := by
  have HB := cover hb
  have hll := hr.len
  have HLL := cover hll
  have HP := cover (wide_facts (r := r) (k := k) hb (by omega) (by omega) (by omega))
  clear hb hll
  obtain ⟨ad, x0, rfl, _, _, _⟩ := hr.at_ (k := 0) (by omega)
  obtain ⟨i0, hi, hz0, hz1, hz2⟩ := info_parts u8_info
  have hl0 : ((len : Int) == 0) = false := by simp; omega
  go_enter Try.func9, Try.ntmps9
  go_wp2_with fail
  refine (awake_any w).mono ?_
  rintro e w0 ⟨rfl, hb0⟩
  have hr0 := hr.below hb0
  have hsz0 := hb0.size
  go_wp2_with fail
  refine (get_any (some ad) len cap _ l _ hr0 HB.out).mono ?_
  rintro e w1 ⟨he, rfl⟩
  obtain rfl : e = .returned (.int .i64 (getB l)) := he
  go_wp2_with (at_make; refine wpList_make_full _ rfl _ _ 25 rfl w.heap.size 5 i0 (.int .u8 0) 1 Try.underlying25 hi hz0 hz1 .i64 .i64 _ _ r rfl rfl ?d1 ?d2 ?d3 ?d4 ?d5 ?_)
  case d1 => omega
  case d2 => omega
  case d3 => rw [hz2]; omega
  case d4 => unfold maxLen; omega
  case d5 => exact hb0.size
  intro w1 hown1 hg1
  have hr1 : Row w1 w.heap.size (some ad) len l := hr0.keep fun p hp => World.cell?_of_block (hg1.block p.block (by omega) (fun e => by cases e))
  have hsz1 := hg1.size
  rw [toList_madeCells_one] at hown1
  go_wp2_with (at_builtin; refine wpList_append_own _ rfl _ _ 25 rfl w.heap.size 5 i0 (.int .u8 0) 1 1 Try.underlying25 hi hz0 hz1 hz2 rfl (by decide) _ _ _ rfl hown1 ad len cap (l.map (Value.int .u8)) rfl ?c1 hr1.news ?c2 ?c3 ?c4 ?c5 ?_)
  case c1 => simp [HLL.out]
  case c2 => exact fun u hu => by obtain ⟨x, _, rfl⟩ := List.mem_map.1 hu; rfl
  case c3 => unfold maxLen; omega
  case c4 => omega
  case c5 => omega
  intro v' w2 hown2 hg2 _
  obtain ⟨A2, c2, rfl, _⟩ := own_shape hown2
  rw [show r + len = k by omega] at hown2
  have hz : Row w2 w2.heap.size A2 k (List.replicate r 0 ++ l) := RowK.of_own (base := w.heap.size) (e := 5) (c := c2) (by simpa using hown2) (by simp [HLL.out]; omega)
  have hr2 : Row w2 w.heap.size (some ad) len l := hr1.keep fun p hp => World.cell?_of_block (hg2.block p.block (by omega) (fun e => by simp [Value.ownBlock] at e; omega))
  have hsz2 := hg2.size
  have hbel : Below w.heap.size w w2 := (hb0.grown hg1 hsz0 (fun k hk => by cases hk)).grown hg2 (by omega) (fun k hk => by simp [Value.ownBlock] at hk; omega)
  clear hown1 hg1 hown2 hg2 hr hr0 hr1
  rw [show r + len = k by omega]
  go_wp2_with fail
  refine (get_any A2 k c2 _ _ w2 hz HP.out.1).mono ?_
  rintro e w3 ⟨he, rfl⟩
  obtain rfl : e = .returned (.int .i64 (getB l)) := by rw [he, HP.out.2.2.1]
  clear he
  go_wp2_with fail
  refine (put_fit_at (getB l) _ k w2 (by omega) HP.out.2.2.2.1).mono ?_
  rintro e w3 ⟨A3, c3, rfl, hc3, hr3, hb3⟩
  have hsz3 := hb3.size
  go_wp2_with fail
  refine (same_any A3 A2 k c3 c2 _ _ _ _ w3 hr3 (hz.below hb3) (by omega)).mono ?_
  rintro e w4 ⟨he, d4, rfl⟩
  obtain rfl : e = .returned (.bool true) := by rw [he, HP.out.2.2.2.2.2.1]; simp
  clear he
  go_wp2_with fail
  have HF : Hid (fitsB (getB l) len = true) := cover (by have := HP.out.2.2.2.2.1; rw [HLL.out] at this; exact this)
  refine (put_fit (getB l) len _ HF.out).mono ?_
  rintro e w5 ⟨A5, c5, rfl, hc5, hr5, hb5⟩
  have hsz5 := hb5.size
  have hrow5 : Row w5 w.heap.size (some ad) len l := (((hr2.below (hb3.mono (by omega))).drewN d4)).below (hb5.mono (by show w.heap.size ≤ w3.heap.size; omega))
  go_wp2_with fail
  refine (same_any A5 (some ad) len c5 cap _ _ _ _ w5 hr5 hrow5 (by omega)).mono ?_
  rintro e w6 ⟨he, d6, rfl⟩
  obtain rfl : e = .returned (.bool true) := by
    have := HP.out.2.2.2.2.2.2.1
    rw [HLL.out] at this
    rw [he, this]; simp
  clear he
  have hn0 : 0 ≤ getB l := HP.out.2.2.2.2.2.2.2.2.1
  go_wp2_with fail
  refine (put_no (getB l) 8 _ HP.out.2.2.2.2.2.2.2.1 HP.out.2.2.2.2.2.2.2.2.2).mono ?_
  rintro e w7 ⟨rfl, rfl⟩
  go_wp2
  go_ret
  exact ⟨rfl, below_drewN ((below_drewN (hbel.trans (hb3.mono (by omega))) _).trans (hb5.mono (by show w.heap.size ≤ w3.heap.size; omega))) _⟩

set_option maxHeartbeats 800000 in
theorem wide_full (aw : Int) (r : Nat) (A : Option Addr) (len cap : Nat) (l : List Int) (w : World) (hr : Row w w.heap.size A len l) (hb : Bts l) (hl1 : 1 ≤ len) (hl7 : len ≤ 7) (h0 : 0 ≤ aw) (h255 : aw ≤ 255) (hw : 7 < (len : Int) + aw % 4) (hk : len + r = 7) :
    Calls Try.prog 9 #[.slice A len cap, .int .u8 aw] w fun e w' => e = .returned (.bool true) ∧ Below w.heap.size w w' := by
  have HB := cover hb
  have hll := hr.len
  have HLL := cover hll
  have HP := cover (wide_facts (r := r) (k := 7) hb (by omega) (by omega) (by omega))
  clear hb hll
  obtain ⟨ad, x0, rfl, _, _, _⟩ := hr.at_ (k := 0) (by omega)
  obtain ⟨i0, hi, hz0, hz1, hz2⟩ := info_parts u8_info
  have hl0 : ((len : Int) == 0) = false := by simp; omega
  go_enter Try.func9, Try.ntmps9
  go_wp2_with fail
  refine (awake_any w).mono ?_
  rintro e w0 ⟨rfl, hb0⟩
  have hr0 := hr.below hb0
  have hsz0 := hb0.size
  go_wp2_with fail
  refine (get_any (some ad) len cap _ l _ hr0 HB.out).mono ?_
  rintro e w1 ⟨he, rfl⟩
  obtain rfl : e = .returned (.int .i64 (getB l)) := he
  go_wp2_with (at_make; refine wpList_make_full _ rfl _ _ 25 rfl w.heap.size 5 i0 (.int .u8 0) 1 Try.underlying25 hi hz0 hz1 .i64 .i64 _ _ r rfl rfl ?d1 ?d2 ?d3 ?d4 ?d5 ?_)
  case d1 => omega
  case d2 => omega
  case d3 => rw [hz2]; omega
  case d4 => unfold maxLen; omega
  case d5 => exact hb0.size
  intro w1 hown1 hg1
  have hr1 : Row w1 w.heap.size (some ad) len l := hr0.keep fun p hp => World.cell?_of_block (hg1.block p.block (by omega) (fun e => by cases e))
  have hsz1 := hg1.size
  rw [toList_madeCells_one] at hown1
  go_wp2_with (at_builtin; refine wpList_append_own _ rfl _ _ 25 rfl w.heap.size 5 i0 (.int .u8 0) 1 1 Try.underlying25 hi hz0 hz1 hz2 rfl (by decide) _ _ _ rfl hown1 ad len cap (l.map (Value.int .u8)) rfl ?c1 hr1.news ?c2 ?c3 ?c4 ?c5 ?_)
  case c1 => simp [HLL.out]
  case c2 => exact fun u hu => by obtain ⟨x, _, rfl⟩ := List.mem_map.1 hu; rfl
  case c3 => unfold maxLen; omega
  case c4 => omega
  case c5 => omega
  intro v' w2 hown2 hg2 _
  obtain ⟨A2, c2, rfl, _⟩ := own_shape hown2
  rw [show r + len = 7 by omega] at hown2
  have hz : Row w2 w2.heap.size A2 7 (List.replicate r 0 ++ l) := RowK.of_own (base := w.heap.size) (e := 5) (c := c2) (by simpa using hown2) (by simp [HLL.out]; omega)
  have hr2 : Row w2 w.heap.size (some ad) len l := hr1.keep fun p hp => World.cell?_of_block (hg2.block p.block (by omega) (fun e => by simp [Value.ownBlock] at e; omega))
  have hsz2 := hg2.size
  have hbel : Below w.heap.size w w2 := (hb0.grown hg1 hsz0 (fun k hk => by cases hk)).grown hg2 (by omega) (fun k hk => by simp [Value.ownBlock] at hk; omega)
  clear hown1 hg1 hown2 hg2 hr hr0 hr1
  rw [show r + len = 7 by omega]
  go_wp2_with fail
  refine (get_any A2 7 c2 _ _ w2 hz HP.out.1).mono ?_
  rintro e w3 ⟨he, rfl⟩
  obtain rfl : e = .returned (.int .i64 (getB l)) := by rw [he, HP.out.2.2.1]
  clear he
  go_wp2_with fail
  refine (put_fit_at (getB l) _ 7 w2 (by omega) HP.out.2.2.2.1).mono ?_
  rintro e w3 ⟨A3, c3, rfl, hc3, hr3, hb3⟩
  have hsz3 := hb3.size
  go_wp2_with fail
  refine (same_any A3 A2 7 c3 c2 _ _ _ _ w3 hr3 (hz.below hb3) (by omega)).mono ?_
  rintro e w4 ⟨he, d4, rfl⟩
  obtain rfl : e = .returned (.bool true) := by rw [he, HP.out.2.2.2.2.2.1]; simp
  clear he
  go_wp2_with fail
  have HF : Hid (fitsB (getB l) len = true) := cover (by have := HP.out.2.2.2.2.1; rw [HLL.out] at this; exact this)
  refine (put_fit (getB l) len _ HF.out).mono ?_
  rintro e w5 ⟨A5, c5, rfl, hc5, hr5, hb5⟩
  have hsz5 := hb5.size
  have hrow5 : Row w5 w.heap.size (some ad) len l := (((hr2.below (hb3.mono (by omega))).drewN d4)).below (hb5.mono (by show w.heap.size ≤ w3.heap.size; omega))
  go_wp2_with fail
  refine (same_any A5 (some ad) len c5 cap _ _ _ _ w5 hr5 hrow5 (by omega)).mono ?_
  rintro e w6 ⟨he, d6, rfl⟩
  obtain rfl : e = .returned (.bool true) := by
    have := HP.out.2.2.2.2.2.2.1
    rw [HLL.out] at this
    rw [he, this]; simp
  clear he
  have hn0 : 0 ≤ getB l := HP.out.2.2.2.2.2.2.2.2.1
  go_wp2_with fail
  refine (put_no (getB l) 8 _ HP.out.2.2.2.2.2.2.2.1 HP.out.2.2.2.2.2.2.2.2.2).mono ?_
  rintro e w7 ⟨rfl, rfl⟩
  go_wp2
  go_ret
  exact ⟨rfl, below_drewN ((below_drewN (hbel.trans (hb3.mono (by omega))) _).trans (hb5.mono (by show w.heap.size ≤ w3.heap.size; omega))) _⟩

theorem walk_OctetWide (A : Option Addr) (len cap : Nat) (l : List Int) (aw : Int) (w : World) (hlc : len ≤ cap) (hcm : cap ≤ maxLen) (hr : Row w w.heap.size A len l) (hb : ∀ x ∈ l, (Lit.int .u8 x).wf = true) (ww : (Lit.int .u8 aw).wf = true) :
    Calls Try.prog 9 #[.slice A len cap, .int .u8 aw] w fun e w' => e = .returned (.bool true) ∧ Below w.heap.size w w' := by
  have h3 := bts_of_wf (l := [aw]) (fun x hx => by simp at hx; subst hx; exact ww) aw (by simp)
  have hbt := bts_of_wf hb
  unfold maxLen at hcm
  by_cases h0 : len = 0
  · subst h0
    clear hb hbt ww
    go_enter Try.func9, Try.ntmps9
    go_wp2_with fail
    refine (awake_any w).mono ?_
    rintro e w0 ⟨rfl, hb0⟩
    go_wp2
    go_ret
    exact ⟨rfl, hb0⟩
  by_cases h7 : 7 < len
  · have hne : ((len : Int) == 0) = false := by simp [h0]
    clear hb hbt ww
    go_enter Try.func9, Try.ntmps9
    go_wp2_with fail
    refine (awake_any w).mono ?_
    rintro e w0 ⟨rfl, hb0⟩
    go_wp2
    go_ret
    exact ⟨rfl, hb0⟩
  by_cases hs : 7 < (len : Int) + aw % 4
  · exact wide_full aw (7 - len) A len cap l w hr hbt (by omega) (by omega) h3.1 h3.2 hs (by omega)
  · exact wide_less aw (aw % 4).toNat (len + (aw % 4).toNat) A len cap l w hr hbt (by omega) (by omega) h3.1 h3.2 (by omega) rfl (by omega)
end Go.Proofs.Ytfegneljedkmhaa
