/- What Encode hands back. -/
import Derived.Deep.RegionHeld3
import Derived.Test.YtbpmhfekjihhhaaMFrm
import Derived.Test.YtbpmhfekjihhhaaMMath
namespace Go.Proofs.Ytbpmhfekjihhhaa
open Go.RowKit
attribute [local go_sem ↓] ldTab_fold
attribute [local go_sem] ldTab_at

/-- Encode has answered -/
def EncD (to fr d : List Int) (x : Int) (w : World) (e : Ending) (w' : World) : Prop :=
  ∃ A c, e = .returned (.tuple #[.slice A (encO to fr d x).length c, .int .i64 (encE x d)]) ∧ OwnB w' w.heap.size (.slice A (encO to fr d x).length c) (encO to fr d x) ∧ Below w.heap.size w w'
/-- five rows that were laid side by side are joined -/
theorem concat_made (w5 : World) (o : Obj) (ls : List (List Int)) (bb : List Int) (hr : RowsB (w5.alloc o) (w5.heap.size + 1) (some ⟨w5.heap.size, 0, none⟩) 5 ls) (hbb : ls.flatten = bb) (hmax : bb.length ≤ 70368744177664) :
    Calls Try.prog 37 #[.slice (some ⟨w5.heap.size, 0, none⟩) 5 5] (w5.alloc o).drew fun e w' => ∃ A c, e = .returned (.slice A bb.length c) ∧ OwnB w' w5.heap.size (.slice A bb.length c) bb ∧ Below w5.heap.size w5 w' := by
  subst hbb
  refine (concat_any _ 5 5 (w5.heap.size + 1) ls _ (hr.drewN 1) (by simp) (by decide) (by rw [← totL_flatten]; exact hmax)).mono ?_
  rintro e w6 ⟨A6, c6, rfl, ho6, hbY⟩
  exact ⟨A6, c6, rfl, ho6.mono (by simp), ((Below.refl _ _).alloc (Nat.le_refl _) _).drew.trans (hbY.mono (by simp))⟩

set_option maxRecDepth 100000 in
set_option maxHeartbeats 400000 in
theorem enc_short (T : Array Value) (t0 t1 t2 t3 t4 t5 f0 f1 f2 f3 f4 f5 : Int) (A : Option Addr) (n c B : Nat) (d : List Int) (w w2 : World) (ht : Made T) (hr : Row w2 B A n d) (hB : B ≤ w2.heap.size) (hc : n ≤ c) (hnil : Hid (A = none → c = 0)) (hn : n ≤ 1500) (hg : Hid (grp f0 = false)) (hb : Hid (Bts (bodyB [t0, t1, t2, t3, t4, t5] [f0, f1, f2, f3, f4, f5] d)))
    (hw2 : Hid (w2 = (w.alloc (.cells T 26)).alloc (.cells #[.int .u8 t0, .int .u8 t1, .int .u8 t2, .int .u8 t3, .int .u8 t4, .int .u8 t5, .int .u8 f0, .int .u8 f1, .int .u8 f2, .int .u8 f3, .int .u8 f4, .int .u8 f5, .slice A n c] 36))) (ht2 : Hid (tabOf w2 w.heap.size = T)) (hf2 : Hid (FrmIn w2 (w.heap.size + 1) [t0, t1, t2, t3, t4, t5] [f0, f1, f2, f3, f4, f5] (.slice A n c))) (hb2 : Below w.heap.size w w2) (hs2 : w2.heap.size = w.heap.size + 2) (k : Nat) (hk : n + k = 46) (e46 : (46 : Int) - (n : Int) = (k : Int)) (h0k : (0 : Int) < (k : Int)) :
    Calls Try.prog 14 #[.agg T, .agg #[.int .u8 t0, .int .u8 t1, .int .u8 t2, .int .u8 t3, .int .u8 t4, .int .u8 t5, .int .u8 f0, .int .u8 f1, .int .u8 f2, .int .u8 f3, .int .u8 f4, .int .u8 f5, .slice A n c]] w (EncD [t0, t1, t2, t3, t4, t5] [f0, f1, f2, f3, f4, f5] d f0 w) := by
  obtain rfl : d.length = n := hr.len
  have h256 := ht.size
  have hn' : ¬ ((1500 : Int) < (d.length : Int)) := by omega
  have HT := cover ht
  obtain ⟨i0, hi, hz0, hz1, hz2⟩ := info_parts u8_info
  have HS2 := cover hs2
  have HR := cover hr
  have HBel := cover hb2
  clear ht hs2 hr hb2
  obtain ⟨bb, hbb⟩ : ∃ bb, Hid (bodyB [t0, t1, t2, t3, t4, t5] [f0, f1, f2, f3, f4, f5] d = bb) := ⟨_, cover rfl⟩
  have hbl : Hid (bb.length ≤ 1600) := cover (by rw [← hbb.out, bodyB_length _ rfl rfl]; omega)
  rw [hbb.out] at hb
  go_enter Try.func14, Try.ntmps14
  go_wp2_with fail
  rw [← hw2.out]
  refine (group_any f0 f1 f2 f3 f4 f5 w2).mono ?_
  rintro e w3 ⟨he, hb3⟩
  rw [hg.out] at he
  subst he
  have hs3 := hb3.size
  have hd3 := (hf2.out.below hb3 (by have := HS2.out; omega)).dat
  have HB3 := cover hb3
  clear hb3
  go_wp2_with fail
  refine (put_yes d.length 2 w3 (by omega) (by omega) (by omega) (by omega)).mono ?_
  rintro e w4 ⟨A4, c4, rfl, ho4, hb4⟩
  rw [low_length]
  have hd4 := (hf2.out.below (HB3.out.trans (hb4.mono hs3)) (by have := HS2.out; omega)).dat
  have HB4 := cover (HB3.out.trans (hb4.mono hs3))
  have HO4 := cover ho4
  have hs4 := hb4.size
  clear hb4 hd3 ho4 HB3
  go_wp2_with (at_make; go_loud (refine wpList_make_full _ rfl _ _ 28 rfl w4.heap.size 5 i0 (.int .u8 0) 1 Try.underlying28 hi hz0 hz1 .i64 .i64 _ _ k rfl rfl rfl rfl (by rw [hz2]; omega) (by unfold maxLen; omega) (Nat.le_refl _) ?_; intro w5 hown5 hg5))
  rw [show (Value.int IntKind.u8 0).cells = #[.int .u8 0] from rfl, toList_madeCells_one] at hown5
  have hb5 : Below w4.heap.size w4 w5 := (Below.refl _ _).grown hg5 (Nat.le_refl _) (fun k hk => by cases hk)
  have hs5 := hb5.size
  have HB5 := cover (HB4.out.trans (hb5.mono (by omega)))
  have hf5 := hf2.out.below HB5.out (by have := HS2.out; omega)
  have hcd := hf5.dat
  have ht5 := (tabOf_below HB5.out (by have := HS2.out; omega)).trans ht2.out
  have HF5 := cover hf5
  have HO5 := cover (own_below HO4.out hb5)
  have hcap5 := own_cap HO5.out
  rw [low_length] at hcap5
  have HR5 := cover (HR.out.below (HB5.out.mono hB))
  have HN5 := cover hown5
  have hgl : w.heap.size < w5.heap.size := by have := HS2.out; omega
  have hsz5 : w.heap.size + 2 ≤ w5.heap.size := by have := HS2.out; omega
  have hrs := (RowsB.five (w := w5) 28 rfl ((RowK.ofSix HF5.out.to (by omega : w.heap.size + 1 < w5.heap.size))) ((RowK.ofSix HF5.out.fr (by omega : w.heap.size + 1 < w5.heap.size))) (l3 := low d.length 2) (c3 := c4) ((RowK.of_own HO5.out rfl).more (Nat.le_refl _)) (l4 := d) (c4 := c) (by rw [HR.out.len]; exact (HR5.out.more (by omega))) (l5 := List.replicate k 0) (c5 := k) (RowK.of_own (by simpa using HN5.out) (by simp)) (c1 := 6) (c2 := 6) (Nat.le_refl 6) (Nat.le_refl 6) (by rw [low_length]; exact hcap5) (by rw [HR.out.len]; exact hc) (by simp) (fun h => by cases h) (fun h => by cases h) (own_nil_cap HO5.out) hnil.out (fun h => by cases h))
  simp only [List.length_cons, List.length_nil, low_length, List.length_replicate, Nat.zero_add, Nat.reduceAdd] at hrs
  have HCat := cover (concat_made w5 _ _ bb hrs (by rw [← hbb.out]; simp [bodyB, show 46 - d.length = k by omega]) (by have := hbl.out; omega))
  clear hcap5 hown5 hg5 hd4 hf5 hb5 hrs
  go_wp2_with fail
  go_region_held3 (fun w' => tabOf w' w.heap.size = T ∧ w'.cell? ⟨w.heap.size + 1, 12, none⟩ = some (.slice A d.length c) ∧ Below w5.heap.size w5 w')
    (first | exact ⟨(tabOf_below hbX hgl).trans ht5, (HF5.out.below hbX (by omega)).dat, hbX⟩ | exact ⟨ht5, hcd, (Below.refl _ _).drew⟩ | exact ⟨(tabOf_alloc hgl _).trans ht5, (HF5.out.alloc (by omega) _).dat, ((Below.refl _ _).alloc (Nat.le_refl _) _).drew⟩)
    (first
      | (go_at_call 37; refine HCat.out.mono ?_; rintro e w6 ⟨A6, c6, rfl, ho6, hbX⟩)
      | (go_at_call 36; refine (seal_made T A6 bb.length c6 w6.heap.size bb w6 HT.out ho6.row (Nat.le_refl _) hb.out (own_cap ho6) (own_nil_cap ho6) (by have := hbl.out; omega)).mono ?_; rintro e w7 ⟨A7, c7, rfl, ho7, hbZ⟩; have hs6 := hbX.size; have hbX := hbX.trans (hbZ.mono hs6)))
  have hE : Hid (encE f0 d = 0) := cover (by unfold encE; rw [hg.out, if_neg (by decide), if_neg (by omega)])
  have hO : Hid (encO [t0, t1, t2, t3, t4, t5] [f0, f1, f2, f3, f4, f5] d f0 = sealB bb) := cover (by unfold encO; rw [hE.out, if_pos rfl, hbb.out])
  have hfin := cover (And.intro (ho7.mono (by omega : w.heap.size ≤ w6.heap.size)) (HBel.out.trans ((HB5.out.trans (hbX.mono HB5.out.size)).mono (by have := HS2.out; omega))))
  clear ho7
  go_wp2
  go_ret2
  refine ⟨A7, c7, ?_, ?_, hfin.out.2⟩
  · rw [hE.out, hO.out]; first | rfl | simp
  · rw [hO.out]; exact hfin.out.1

set_option maxRecDepth 100000 in
set_option maxHeartbeats 400000 in
theorem enc_long (T : Array Value) (t0 t1 t2 t3 t4 t5 f0 f1 f2 f3 f4 f5 : Int) (A : Option Addr) (n c B : Nat) (d : List Int) (w w2 : World) (ht : Made T) (hr : Row w2 B A n d) (hB : B ≤ w2.heap.size) (hc : n ≤ c) (hnil : Hid (A = none → c = 0)) (hn : n ≤ 1500) (hg : Hid (grp f0 = false)) (hb : Hid (Bts (bodyB [t0, t1, t2, t3, t4, t5] [f0, f1, f2, f3, f4, f5] d)))
    (hw2 : Hid (w2 = (w.alloc (.cells T 26)).alloc (.cells #[.int .u8 t0, .int .u8 t1, .int .u8 t2, .int .u8 t3, .int .u8 t4, .int .u8 t5, .int .u8 f0, .int .u8 f1, .int .u8 f2, .int .u8 f3, .int .u8 f4, .int .u8 f5, .slice A n c] 36))) (ht2 : Hid (tabOf w2 w.heap.size = T)) (hf2 : Hid (FrmIn w2 (w.heap.size + 1) [t0, t1, t2, t3, t4, t5] [f0, f1, f2, f3, f4, f5] (.slice A n c))) (hb2 : Below w.heap.size w w2) (hs2 : w2.heap.size = w.heap.size + 2) (hk : 46 ≤ n) (hkI : (46 : Int) ≤ (n : Int)) (hkI2 : ¬ ((0 : Int) < 46 - (n : Int))) :
    Calls Try.prog 14 #[.agg T, .agg #[.int .u8 t0, .int .u8 t1, .int .u8 t2, .int .u8 t3, .int .u8 t4, .int .u8 t5, .int .u8 f0, .int .u8 f1, .int .u8 f2, .int .u8 f3, .int .u8 f4, .int .u8 f5, .slice A n c]] w (EncD [t0, t1, t2, t3, t4, t5] [f0, f1, f2, f3, f4, f5] d f0 w) := by
  obtain rfl : d.length = n := hr.len
  have h256 := ht.size
  have hn' : ¬ ((1500 : Int) < (d.length : Int)) := by omega
  have HT := cover ht
  obtain ⟨i0, hi, hz0, hz1, hz2⟩ := info_parts u8_info
  have HS2 := cover hs2
  have HR := cover hr
  have HBel := cover hb2
  clear ht hs2 hr hb2
  obtain ⟨bb, hbb⟩ : ∃ bb, Hid (bodyB [t0, t1, t2, t3, t4, t5] [f0, f1, f2, f3, f4, f5] d = bb) := ⟨_, cover rfl⟩
  have hbl : Hid (bb.length ≤ 1600) := cover (by rw [← hbb.out, bodyB_length _ rfl rfl]; omega)
  rw [hbb.out] at hb
  go_enter Try.func14, Try.ntmps14
  go_wp2_with fail
  rw [← hw2.out]
  refine (group_any f0 f1 f2 f3 f4 f5 w2).mono ?_
  rintro e w3 ⟨he, hb3⟩
  rw [hg.out] at he
  subst he
  have hs3 := hb3.size
  have hd3 := (hf2.out.below hb3 (by have := HS2.out; omega)).dat
  have HB3 := cover hb3
  clear hb3
  go_wp2_with fail
  refine (put_yes d.length 2 w3 (by omega) (by omega) (by omega) (by omega)).mono ?_
  rintro e w4 ⟨A4, c4, rfl, ho4, hb4⟩
  rw [low_length]
  have hd4 := (hf2.out.below (HB3.out.trans (hb4.mono hs3)) (by have := HS2.out; omega)).dat
  have HB4 := cover (HB3.out.trans (hb4.mono hs3))
  have HO4 := cover ho4
  have hs4 := hb4.size
  clear hb4 hd3 ho4 HB3
  go_wp2_with (at_make; go_loud (refine wpList_make_full _ rfl _ _ 28 rfl w4.heap.size 5 i0 (.int .u8 0) 1 Try.underlying28 hi hz0 hz1 .i64 .i64 _ _ 0 rfl rfl rfl rfl (by rw [hz2]; omega) (by unfold maxLen; omega) (Nat.le_refl _) ?_; intro w5 hown5 hg5))
  rw [show (Value.int IntKind.u8 0).cells = #[.int .u8 0] from rfl, toList_madeCells_one] at hown5
  have hb5 : Below w4.heap.size w4 w5 := (Below.refl _ _).grown hg5 (Nat.le_refl _) (fun k hk => by cases hk)
  have hs5 := hb5.size
  have HB5 := cover (HB4.out.trans (hb5.mono (by omega)))
  have hf5 := hf2.out.below HB5.out (by have := HS2.out; omega)
  have hcd := hf5.dat
  have ht5 := (tabOf_below HB5.out (by have := HS2.out; omega)).trans ht2.out
  have HF5 := cover hf5
  have HO5 := cover (own_below HO4.out hb5)
  have hcap5 := own_cap HO5.out
  rw [low_length] at hcap5
  have HR5 := cover (HR.out.below (HB5.out.mono hB))
  have HN5 := cover hown5
  have hgl : w.heap.size < w5.heap.size := by have := HS2.out; omega
  have hsz5 : w.heap.size + 2 ≤ w5.heap.size := by have := HS2.out; omega
  have hrs := (RowsB.five (w := w5) 28 rfl ((RowK.ofSix HF5.out.to (by omega : w.heap.size + 1 < w5.heap.size))) ((RowK.ofSix HF5.out.fr (by omega : w.heap.size + 1 < w5.heap.size))) (l3 := low d.length 2) (c3 := c4) ((RowK.of_own HO5.out rfl).more (Nat.le_refl _)) (l4 := d) (c4 := c) (by rw [HR.out.len]; exact (HR5.out.more (by omega))) (l5 := List.replicate 0 0) (c5 := 0) (RowK.of_own (by simpa using HN5.out) (by simp)) (c1 := 6) (c2 := 6) (Nat.le_refl 6) (Nat.le_refl 6) (by rw [low_length]; exact hcap5) (by rw [HR.out.len]; exact hc) (by simp) (fun h => by cases h) (fun h => by cases h) (own_nil_cap HO5.out) hnil.out (fun h => by cases h))
  simp only [List.length_cons, List.length_nil, low_length, List.length_replicate, Nat.zero_add, Nat.reduceAdd] at hrs
  have HCat := cover (concat_made w5 _ _ bb hrs (by rw [← hbb.out]; simp [bodyB, show 46 - d.length = 0 by omega]) (by have := hbl.out; omega))
  clear hcap5 hown5 hg5 hd4 hf5 hb5 hrs
  go_wp2_with fail
  go_region_held3 (fun w' => tabOf w' w.heap.size = T ∧ w'.cell? ⟨w.heap.size + 1, 12, none⟩ = some (.slice A d.length c) ∧ Below w5.heap.size w5 w')
    (first | exact ⟨(tabOf_below hbX hgl).trans ht5, (HF5.out.below hbX (by omega)).dat, hbX⟩ | exact ⟨ht5, hcd, (Below.refl _ _).drew⟩ | exact ⟨(tabOf_alloc hgl _).trans ht5, (HF5.out.alloc (by omega) _).dat, ((Below.refl _ _).alloc (Nat.le_refl _) _).drew⟩)
    (first
      | (go_at_call 37; refine HCat.out.mono ?_; rintro e w6 ⟨A6, c6, rfl, ho6, hbX⟩)
      | (go_at_call 36; refine (seal_made T A6 bb.length c6 w6.heap.size bb w6 HT.out ho6.row (Nat.le_refl _) hb.out (own_cap ho6) (own_nil_cap ho6) (by have := hbl.out; omega)).mono ?_; rintro e w7 ⟨A7, c7, rfl, ho7, hbZ⟩; have hs6 := hbX.size; have hbX := hbX.trans (hbZ.mono hs6)))
  have hE : Hid (encE f0 d = 0) := cover (by unfold encE; rw [hg.out, if_neg (by decide), if_neg (by omega)])
  have hO : Hid (encO [t0, t1, t2, t3, t4, t5] [f0, f1, f2, f3, f4, f5] d f0 = sealB bb) := cover (by unfold encO; rw [hE.out, if_pos rfl, hbb.out])
  have hfin := cover (And.intro (ho7.mono (by omega : w.heap.size ≤ w6.heap.size)) (HBel.out.trans ((HB5.out.trans (hbX.mono HB5.out.size)).mono (by have := HS2.out; omega))))
  clear ho7
  go_wp2
  go_ret2
  refine ⟨A7, c7, ?_, ?_, hfin.out.2⟩
  · rw [hE.out, hO.out]; first | rfl | simp
  · rw [hO.out]; exact hfin.out.1

set_option maxRecDepth 100000 in
theorem enc_group (T : Array Value) (t0 t1 t2 t3 t4 t5 f0 f1 f2 f3 f4 f5 : Int) (A : Option Addr) (n c : Nat) (d : List Int) (w : World) (hg : Hid (grp f0 = true)) :
    Calls Try.prog 14 #[.agg T, .agg #[.int .u8 t0, .int .u8 t1, .int .u8 t2, .int .u8 t3, .int .u8 t4, .int .u8 t5, .int .u8 f0, .int .u8 f1, .int .u8 f2, .int .u8 f3, .int .u8 f4, .int .u8 f5, .slice A n c]] w (EncD [t0, t1, t2, t3, t4, t5] [f0, f1, f2, f3, f4, f5] d f0 w) := by
  obtain ⟨w2, hw2⟩ : ∃ w2, Hid (w2 = (w.alloc (.cells T 26)).alloc (.cells #[.int .u8 t0, .int .u8 t1, .int .u8 t2, .int .u8 t3, .int .u8 t4, .int .u8 t5, .int .u8 f0, .int .u8 f1, .int .u8 f2, .int .u8 f3, .int .u8 f4, .int .u8 f5, .slice A n c] 36)) := ⟨_, cover rfl⟩
  have hb2 : Hid (Below w.heap.size w w2) := cover (by rw [hw2.out]; exact ((Below.refl _ _).alloc (Nat.le_refl _) _).alloc (by simp) _)
  have hs2 := hb2.out.size
  go_enter Try.func14, Try.ntmps14
  go_wp2_with fail
  rw [← hw2.out]
  refine (group_any f0 f1 f2 f3 f4 f5 w2).mono ?_
  rintro e w3 ⟨he, hb3⟩
  rw [hg.out] at he
  subst he
  have HB := cover (hb2.out.trans (hb3.mono hs2))
  clear hb3
  go_wp2
  go_ret2
  have hE : encE f0 d = 1 := by unfold encE; rw [hg.out, if_pos rfl]
  have hO : encO [t0, t1, t2, t3, t4, t5] [f0, f1, f2, f3, f4, f5] d f0 = [] := by unfold encO; rw [hE, if_neg (by decide)]
  refine ⟨none, 0, ?_, ?_, HB.out⟩
  · rw [hE, hO]; rfl
  · rw [hO]; exact OwnB.nil _ _
set_option maxRecDepth 100000 in
theorem enc_much (T : Array Value) (t0 t1 t2 t3 t4 t5 f0 f1 f2 f3 f4 f5 : Int) (A : Option Addr) (c : Nat) (d : List Int) (w : World) (hg : Hid (grp f0 = false)) (hn : 1500 < d.length) :
    Calls Try.prog 14 #[.agg T, .agg #[.int .u8 t0, .int .u8 t1, .int .u8 t2, .int .u8 t3, .int .u8 t4, .int .u8 t5, .int .u8 f0, .int .u8 f1, .int .u8 f2, .int .u8 f3, .int .u8 f4, .int .u8 f5, .slice A d.length c]] w (EncD [t0, t1, t2, t3, t4, t5] [f0, f1, f2, f3, f4, f5] d f0 w) := by
  obtain ⟨w2, hw2⟩ : ∃ w2, Hid (w2 = (w.alloc (.cells T 26)).alloc (.cells #[.int .u8 t0, .int .u8 t1, .int .u8 t2, .int .u8 t3, .int .u8 t4, .int .u8 t5, .int .u8 f0, .int .u8 f1, .int .u8 f2, .int .u8 f3, .int .u8 f4, .int .u8 f5, .slice A d.length c] 36)) := ⟨_, cover rfl⟩
  have hb2 : Hid (Below w.heap.size w w2) := cover (by rw [hw2.out]; exact ((Below.refl _ _).alloc (Nat.le_refl _) _).alloc (by simp) _)
  have hs2 := hb2.out.size
  have hs2' : Hid (w2.heap.size = w.heap.size + 2) := cover (by rw [hw2.out]; simp)
  have hf2 : Hid (FrmIn w2 (w.heap.size + 1) [t0, t1, t2, t3, t4, t5] [f0, f1, f2, f3, f4, f5] (.slice A d.length c)) := cover (by
    have h := FrmIn.made (w.alloc (.cells T 26)) t0 t1 t2 t3 t4 t5 f0 f1 f2 f3 f4 f5 (.slice A d.length c) 36
    rw [hw2.out]
    simpa using h)
  have hn' : (1500 : Int) < (d.length : Int) := by omega
  go_enter Try.func14, Try.ntmps14
  go_wp2_with fail
  rw [← hw2.out]
  refine (group_any f0 f1 f2 f3 f4 f5 w2).mono ?_
  rintro e w3 ⟨he, hb3⟩
  rw [hg.out] at he
  subst he
  have HB := cover (hb2.out.trans (hb3.mono hs2))
  have hd3 := (hf2.out.below hb3 (by have := hs2'.out; omega)).dat
  clear hb3
  go_wp2
  go_ret2
  have hE : encE f0 d = 3 := by unfold encE; rw [hg.out, if_neg (by decide), if_pos hn]
  have hO : encO [t0, t1, t2, t3, t4, t5] [f0, f1, f2, f3, f4, f5] d f0 = [] := by unfold encO; rw [hE, if_neg (by decide)]
  refine ⟨none, 0, ?_, ?_, HB.out⟩
  · rw [hE, hO]; rfl
  · rw [hO]; exact OwnB.nil _ _
/-- Encode, of any frame -/
theorem enc_any (T : Array Value) (t0 t1 t2 t3 t4 t5 f0 f1 f2 f3 f4 f5 : Int) (A : Option Addr) (n c B : Nat) (d : List Int) (w : World) (ht : Made T) (hr : Row w B A n d) (hB : B ≤ w.heap.size) (hc : n ≤ c) (hnil : A = none → c = 0) (h1 : Bts [t0, t1, t2, t3, t4, t5]) (h2 : Bts [f0, f1, f2, f3, f4, f5]) (h3 : Bts d) :
    Calls Try.prog 14 #[.agg T, .agg #[.int .u8 t0, .int .u8 t1, .int .u8 t2, .int .u8 t3, .int .u8 t4, .int .u8 t5, .int .u8 f0, .int .u8 f1, .int .u8 f2, .int .u8 f3, .int .u8 f4, .int .u8 f5, .slice A n c]] w (EncD [t0, t1, t2, t3, t4, t5] [f0, f1, f2, f3, f4, f5] d f0 w) := by
  obtain rfl : d.length = n := hr.len
  rcases hg : grp f0 with _ | _
  · by_cases hn : d.length ≤ 1500
    · obtain ⟨w2, hw2⟩ : ∃ w2, w2 = (w.alloc (.cells T 26)).alloc (.cells #[.int .u8 t0, .int .u8 t1, .int .u8 t2, .int .u8 t3, .int .u8 t4, .int .u8 t5, .int .u8 f0, .int .u8 f1, .int .u8 f2, .int .u8 f3, .int .u8 f4, .int .u8 f5, .slice A d.length c] 36) := ⟨_, rfl⟩
      have hb2 : Below w.heap.size w w2 := by rw [hw2]; exact ((Below.refl _ _).alloc (Nat.le_refl _) _).alloc (by simp) _
      have hs2 : w2.heap.size = w.heap.size + 2 := by rw [hw2]; simp
      have hf2 : FrmIn w2 (w.heap.size + 1) [t0, t1, t2, t3, t4, t5] [f0, f1, f2, f3, f4, f5] (.slice A d.length c) := by
        have h := FrmIn.made (w.alloc (.cells T 26)) t0 t1 t2 t3 t4 t5 f0 f1 f2 f3 f4 f5 (.slice A d.length c) 36
        rw [hw2]
        simpa using h
      have ht2 : tabOf w2 w.heap.size = T := by
        rw [hw2, tabOf_alloc (by simp) _]
        unfold tabOf
        rw [heap_alloc_new]
      have hr2 : Row w2 B A d.length d := by rw [hw2]; exact (hr.alloc hB _).alloc (by simp; omega) _
      by_cases hk : d.length < 46
      · exact enc_short T t0 t1 t2 t3 t4 t5 f0 f1 f2 f3 f4 f5 A d.length c B d w w2 ht hr2 (by omega) hc (cover hnil) hn (cover hg) (cover (bodyB_bts h1 h2 h3)) (cover hw2) (cover ht2) (cover hf2) hb2 hs2 (46 - d.length) (by omega) (by omega) (by omega)
      · exact enc_long T t0 t1 t2 t3 t4 t5 f0 f1 f2 f3 f4 f5 A d.length c B d w w2 ht hr2 (by omega) hc (cover hnil) hn (cover hg) (cover (bodyB_bts h1 h2 h3)) (cover hw2) (cover ht2) (cover hf2) hb2 hs2 (by omega) (by omega) (by omega)
    · exact enc_much T t0 t1 t2 t3 t4 t5 f0 f1 f2 f3 f4 f5 A c d w (cover hg) (by omega)
  · exact enc_group T t0 t1 t2 t3 t4 t5 f0 f1 f2 f3 f4 f5 A d.length c d w (cover hg)
end Go.Proofs.Ytbpmhfekjihhhaa
