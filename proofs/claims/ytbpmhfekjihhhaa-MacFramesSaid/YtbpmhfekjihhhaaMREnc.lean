/- What the document's own Encode hands back. -/
import Derived.Deep.RegionHeld3
import Derived.Deep.AppendLies
import Derived.Test.YtbpmhfekjihhhaaMEnc
import Derived.Test.YtbpmhfekjihhhaaORef
namespace Go.Proofs.Ytbpmhfekjihhhaa
open Go.RowKit
set_option linter.unusedVariables false

/-- gathered so far, at the head of a round -/
def EncAt (w : World) (pre : List Int) (j : Nat) (v : Value) (wr : World) : Prop :=
  ∃ xs, wr.ownsRow w.heap.size 5 1 v xs.length (xs.map (Value.int .u8)) ∧ Hid (xs = pre ++ List.replicate j 0) ∧ Below w.heap.size w wr
theorem EncAt.more {w wr w1 : World} {pre xs : List Int} {j : Nat} {v v' : Value} {o : Obj} (h : wr.ownsRow w.heap.size 5 1 v xs.length (xs.map (Value.int .u8))) (hx : Hid (xs = pre ++ List.replicate j 0)) (hbel : Below w.heap.size w wr)
    (h1 : w1.ownsRow w.heap.size 5 1 v' (xs.length + 1) (xs.map (Value.int .u8) ++ [.int .u8 0])) (hg : (wr.alloc o).grownBy w1 v.ownBlock) : EncAt w pre (j + 1) v' w1 := by
  obtain ⟨n1, n2⟩ := own_more hbel h h1 hg
  exact ⟨_, n1, cover (by rw [hx.out, List.replicate_succ', List.append_assoc]), n2⟩

set_option maxRecDepth 100000 in
set_option maxHeartbeats 1600000 in
theorem ref_enc_in (t0 t1 t2 t3 t4 t5 f0 f1 f2 f3 f4 f5 : Int) (A : Option Addr) (c B : Nat) (d : List Int) (w w2 : World) (hr : Row w2 B A d.length d) (hB : B ≤ w.heap.size) (hc : d.length ≤ c) (hnil : Hid (A = none → c = 0)) (hn : d.length ≤ 1500) (hg : Hid (grp f0 = false)) (hb : Hid (Bts (bodyB [t0, t1, t2, t3, t4, t5] [f0, f1, f2, f3, f4, f5] d)))
    (hw2 : Hid (w2 = w.alloc (.cells #[.int .u8 t0, .int .u8 t1, .int .u8 t2, .int .u8 t3, .int .u8 t4, .int .u8 t5, .int .u8 f0, .int .u8 f1, .int .u8 f2, .int .u8 f3, .int .u8 f4, .int .u8 f5, .slice A d.length c] 36))) (hf2 : Hid (FrmIn w2 w.heap.size [t0, t1, t2, t3, t4, t5] [f0, f1, f2, f3, f4, f5] (.slice A d.length c))) (hb2 : Hid (Below w.heap.size w w2)) (hs2 : Hid (w2.heap.size = w.heap.size + 1)) :
    Calls Try.prog 20 #[.agg #[.int .u8 t0, .int .u8 t1, .int .u8 t2, .int .u8 t3, .int .u8 t4, .int .u8 t5, .int .u8 f0, .int .u8 f1, .int .u8 f2, .int .u8 f3, .int .u8 f4, .int .u8 f5, .slice A d.length c]] w (EncD [t0, t1, t2, t3, t4, t5] [f0, f1, f2, f3, f4, f5] d f0 w) := by
  have hn' : ¬ ((1500 : Int) < (d.length : Int)) := by omega
  obtain ⟨i0, hi, hz0, hz1, hz2⟩ := info_parts u8_info
  have HR := cover hr
  clear hr
  go_enter Try.func20, Try.ntmps20
  go_wp2_with fail
  rw [← hw2.out]
  refine (ref_group_any f0 f1 f2 f3 f4 f5 w2).mono ?_
  rintro e w3 ⟨he, hb3⟩
  rw [hg.out] at he
  subst he
  have hs3 := hb3.size
  have hsw : w.heap.size + 1 ≤ w3.heap.size := by have := hs2.out; omega
  have hf3 := hf2.out.below hb3 (by have := hs2.out; omega)
  have hd3 := hf3.dat
  have HF3 := cover hf3
  have HB3 := cover (hb2.out.trans (hb3.mono hb2.out.size))
  have HR3 := cover (HR.out.below (hb3.mono (by have := hs2.out; omega)))
  clear hb3 hf3
  have hrt : Row w3.drew w3.heap.size (some ⟨w.heap.size, 0, none⟩) 6 [t0, t1, t2, t3, t4, t5] := (RowK.ofSix HF3.out.to (by omega)).drewN 1
  have HRT := cover (copy_any (some ⟨w.heap.size, 0, none⟩) 6 6 w3.heap.size [t0, t1, t2, t3, t4, t5] w3.drew hrt (Nat.le_refl _) (by decide))
  clear hrt
  go_wp2_with fail
  go_region_held3 (fun w' => w3.heap.size ≤ w'.heap.size) (first | exact hsX | exact Nat.le_refl _)
    (first
      | (refine step_append_lies w4 (by rfl) _ _ _ (by rfl) w3.heap.size 5 i0 (.int .u8 0) 1 1 Try.underlying28 hi hz0 hz1 hz2 rfl (by decide) _ 6 _ (by rfl) ho4.out ⟨w.heap.size, 6, none⟩ 6 6 ([f0, f1, f2, f3, f4, f5].map (Value.int .u8)) (by rfl) (by rfl) hnews.out hone.out (by decide) (by decide) (by decide) hsX _ rfl ?_; intro g5 cap5 w5 hown5 hgrow5 hat5 hlt5; have hsX : w3.heap.size ≤ w5.heap.size := Nat.le_trans hsX hgrow5.size)
      | (go_at_call 32; refine HRT.out.mono ?_; rintro e w4 ⟨A4, c4, rfl, ho4', hb4'⟩; have hb4 : Below w3.heap.size w3 w4 := ((Below.refl w3.heap.size w3).drew).trans (hb4'.mono (by simp)); have hsX : w3.heap.size ≤ w4.heap.size := hb4.size; have HB4 := cover hb4; have ho4 := cover ho4'; have hnews := cover (RowK.news (RowK.ofSix (HF3.out.fr.below hb4 (by omega)) (B := w4.heap.size) (by omega))); have hone : Hid (∀ u ∈ [f0, f1, f2, f3, f4, f5].map (Value.int .u8), u.oneCell' = true) := cover (fun u hu => by obtain ⟨y, _, rfl⟩ := List.mem_map.1 hu; rfl); clear hb4 hb4' ho4'))
  have hb5 : Below w3.heap.size w3 w5 := HB4.out.grown hgrow5 (by omega) (fun k hk => (ho4.out.lt k hk).1)
  have HB5 := cover hb5
  have HO5 := cover hown5
  have hd5 := (HF3.out.below hb5 (by omega)).dat
  clear hown5 hgrow5 hat5 hd3 hb5
  go_wp2_with fail
  refine (ref_put_yes d.length 2 w5 (by omega) (by omega) (by omega) (by omega)).mono ?_
  rintro e w6 ⟨A6, c6, rfl, ho6, hb6⟩
  have hs6 := hb6.size
  have HO6 := cover (own_below HO5.out hb6)
  have hr6 := ho6.row
  have hn6 := own_nil_cap ho6
  rw [low_length] at hr6 ⊢
  have HP6 := cover (And.intro hr6 hn6)
  have HB6 := cover (HB5.out.trans (hb6.mono hsX))
  clear ho6 hb6 hr6 hn6 hd5
  go_wp2_with (at_builtin; refine append_row rfl _ _ 28 rfl w3.heap.size 5 i0 (.int .u8 0) 1 Try.underlying28 hi hz0 hz1 hz2 rfl _ _ _ rfl HO6.out w6.heap.size _ 2 c6 (low d.length 2) rfl HP6.out.1 HP6.out.2 (by decide) (by decide) (by omega) ?_)
  intro v7 w7 hown7 hg7
  have hs7 := hg7.size
  have hb7 : Below w3.heap.size w3 w7 := HB6.out.grown hg7 (by omega) (fun k hk => (HO6.out.lt k hk).1)
  have HB7 := cover hb7
  have HO7 := cover hown7
  have hd7 := (HF3.out.below hb7 (by omega)).dat
  have HR7 := cover (HR3.out.below (hb7.mono (by omega)))
  clear hown7 hg7 hb7
  go_wp2_with (at_builtin; refine append_row rfl _ _ 28 rfl w3.heap.size 5 i0 (.int .u8 0) 1 Try.underlying28 hi hz0 hz1 hz2 rfl _ _ _ rfl HO7.out B A d.length c d rfl HR7.out hnil.out (by unfold maxLen; omega) (by omega) (by omega) ?_)
  intro v8 w8 hown8 hg8
  have hs8 := hg8.size
  have hb8 : Below w3.heap.size w3 w8 := HB7.out.grown hg8 (by omega) (fun k hk => (HO7.out.lt k hk).1)
  have hd8 := (HF3.out.below hb8 (by omega)).dat
  obtain ⟨pre, hpre⟩ : ∃ pre, Hid (pre = [t0, t1, t2, t3, t4, t5] ++ [f0, f1, f2, f3, f4, f5] ++ low d.length 2 ++ d) := ⟨_, cover rfl⟩
  have hpl : Hid (pre.length = 14 + d.length) := cover (by rw [hpre.out]; simp [low_length]; omega)
  have hst : Hid (EncAt w pre 0 v8 w8) := cover (by
    refine ⟨pre, ?_, cover (by simp), HB3.out.trans (hb8.mono (by omega))⟩
    have h1 := own_base hown8 (show w.heap.size ≤ w3.heap.size by omega)
    rw [hpl.out, hpre.out]
    rw [show 14 + d.length = 6 + 6 + 2 + d.length by omega]
    simpa [List.map_append, List.append_assoc] using h1)
  clear hown8 hg8 hb8 hd7
  go_wp2_with fail
  clear hd8
  go_loopw [4, 5] (fun v i wr => ∃ j : Nat, d.length + j ≤ 1500 ∧ (j = 0 ∨ d.length + j ≤ 46) ∧ i = .int .i64 ((d.length : Int) + (j : Int)) ∧ Hid (EncAt w pre j v wr)) (fun _ i _ => 46 - (intOf i).toNat)
  case atStart => exact ⟨0, by omega, .inl rfl, by simp, hst⟩
  case round =>
    clear hst
    obtain ⟨j, hj1, hj2, rfl, hat⟩ := hrel
    obtain ⟨xs, hown, hxs, hbel⟩ := hat.out
    have hsz := hbel.size
    have hxl : Hid (xs.length = 14 + d.length + j) := cover (by rw [hxs.out, List.length_append, List.length_replicate, hpl.out])
    by_cases hlt : d.length + j < 46
    · have hltI : (d.length : Int) + (j : Int) < 46 := by omega
      go_wp2_with (at_builtin; refine wpList_append_own _ rfl _ _ 28 rfl w.heap.size 5 i0 (.int .u8 0) 1 1 Try.underlying28 hi hz0 hz1 hz2 rfl (by decide) _ _ _ rfl (hown.alloc _) ⟨wr.heap.size, 0, none⟩ 1 1 [.int .u8 0] rfl rfl ?c1 ?c2 ?c3 ?c4 ?c5 ?_)
      case c1 => exact cell_one_new _ _ _
      case c2 => intro u hu; simp at hu; subst hu; rfl
      case c3 => rw [hxl.out]; unfold maxLen; omega
      case c4 => rw [hxl.out]; omega
      case c5 => simp; omega
      intro v' w1 hown' hgrow _
      have HN : Hid (EncAt w pre (j + 1) v' w1) := cover (EncAt.more hown hxs hbel hown' hgrow)
      clear hown' hgrow hown
      go_wp2
      go_roundw
      case rel => exact ⟨j + 1, by omega, by omega, by first | go_num | (congr 1; omega), HN⟩
      case measure => simp [intOf]; omega
    · have hltI : (46 : Int) ≤ (d.length : Int) + (j : Int) := by omega
      have hj46 : j = 46 - d.length := by omega
      obtain ⟨A9, c9, hv9, _⟩ := own_shape hown
      subst hv9
      have hbb : Hid (xs = bodyB [t0, t1, t2, t3, t4, t5] [f0, f1, f2, f3, f4, f5] d) := cover (by rw [hxs.out, hpre.out, hj46]; simp [bodyB, List.append_assoc])
      have HJ := cover hj46
      clear hj46
      have HO := cover hown
      clear hat hown
      go_wp2_with fail
      refine (ref_seal_any A9 _ c9 wr.heap.size (bodyB [t0, t1, t2, t3, t4, t5] [f0, f1, f2, f3, f4, f5] d) wr (RowK.of_own (by rw [← hbb.out]; exact HO.out) (by rw [hbb.out])) (Nat.le_refl _) hb.out (by rw [hxl.out]; omega)).mono ?_
      rintro e w10 ⟨A10, c10, rfl, ho10, hb10⟩
      have hE : Hid (encE f0 d = 0) := cover (by unfold encE; rw [hg.out, if_neg (by decide), if_neg (by omega)])
      have hO : Hid (encO [t0, t1, t2, t3, t4, t5] [f0, f1, f2, f3, f4, f5] d f0 = sealB (bodyB [t0, t1, t2, t3, t4, t5] [f0, f1, f2, f3, f4, f5] d)) := cover (by unfold encO; rw [hE.out, if_pos rfl])
      have hfin := cover (And.intro (ho10.mono hsz) (hbel.trans (hb10.mono hsz)))
      clear ho10 hb10
      go_wp2
      go_ret2
      refine ⟨A10, c10, ?_, ?_, hfin.out.2⟩
      · rw [hE.out, hO.out]; first | rfl | simp
      · rw [hO.out]; exact hfin.out.1

set_option maxRecDepth 100000 in
theorem ref_enc_group (t0 t1 t2 t3 t4 t5 f0 f1 f2 f3 f4 f5 : Int) (A : Option Addr) (n c : Nat) (d : List Int) (w : World) (hg : Hid (grp f0 = true)) :
    Calls Try.prog 20 #[.agg #[.int .u8 t0, .int .u8 t1, .int .u8 t2, .int .u8 t3, .int .u8 t4, .int .u8 t5, .int .u8 f0, .int .u8 f1, .int .u8 f2, .int .u8 f3, .int .u8 f4, .int .u8 f5, .slice A n c]] w (EncD [t0, t1, t2, t3, t4, t5] [f0, f1, f2, f3, f4, f5] d f0 w) := by
  obtain ⟨w2, hw2⟩ : ∃ w2, Hid (w2 = w.alloc (.cells #[.int .u8 t0, .int .u8 t1, .int .u8 t2, .int .u8 t3, .int .u8 t4, .int .u8 t5, .int .u8 f0, .int .u8 f1, .int .u8 f2, .int .u8 f3, .int .u8 f4, .int .u8 f5, .slice A n c] 36)) := ⟨_, cover rfl⟩
  have hb2 : Hid (Below w.heap.size w w2) := cover (by rw [hw2.out]; exact (Below.refl _ _).alloc (Nat.le_refl _) _)
  have hs2 := hb2.out.size
  go_enter Try.func20, Try.ntmps20
  go_wp2_with fail
  rw [← hw2.out]
  refine (ref_group_any f0 f1 f2 f3 f4 f5 w2).mono ?_
  rintro e w3 ⟨he, hb3⟩
  rw [hg.out] at he
  subst he
  have HB := cover (hb2.out.trans (hb3.mono hs2))
  clear hb3
  go_wp2
  go_ret2
  have hE : encE f0 d = 1 := by unfold encE; rw [hg.out, if_pos rfl]
  have hO : encO [t0, t1, t2, t3, t4, t5] [f0, f1, f2, f3, f4, f5] d f0 = [] := by unfold encO; rw [hE, if_neg (by decide)]
  refine ⟨none, 0, ?_, ?_, HB.out⟩
  · rw [hE, hO]; rfl
  · rw [hO]; exact OwnB.nil _ _
set_option maxRecDepth 100000 in
theorem ref_enc_much (t0 t1 t2 t3 t4 t5 f0 f1 f2 f3 f4 f5 : Int) (A : Option Addr) (c : Nat) (d : List Int) (w : World) (hg : Hid (grp f0 = false)) (hn : 1500 < d.length) :
    Calls Try.prog 20 #[.agg #[.int .u8 t0, .int .u8 t1, .int .u8 t2, .int .u8 t3, .int .u8 t4, .int .u8 t5, .int .u8 f0, .int .u8 f1, .int .u8 f2, .int .u8 f3, .int .u8 f4, .int .u8 f5, .slice A d.length c]] w (EncD [t0, t1, t2, t3, t4, t5] [f0, f1, f2, f3, f4, f5] d f0 w) := by
  obtain ⟨w2, hw2⟩ : ∃ w2, Hid (w2 = w.alloc (.cells #[.int .u8 t0, .int .u8 t1, .int .u8 t2, .int .u8 t3, .int .u8 t4, .int .u8 t5, .int .u8 f0, .int .u8 f1, .int .u8 f2, .int .u8 f3, .int .u8 f4, .int .u8 f5, .slice A d.length c] 36)) := ⟨_, cover rfl⟩
  have hb2 : Hid (Below w.heap.size w w2) := cover (by rw [hw2.out]; exact (Below.refl _ _).alloc (Nat.le_refl _) _)
  have hs2 := hb2.out.size
  have hs2' : Hid (w2.heap.size = w.heap.size + 1) := cover (by rw [hw2.out]; simp)
  have hf2 : Hid (FrmIn w2 w.heap.size [t0, t1, t2, t3, t4, t5] [f0, f1, f2, f3, f4, f5] (.slice A d.length c)) := cover (by rw [hw2.out]; exact FrmIn.made w t0 t1 t2 t3 t4 t5 f0 f1 f2 f3 f4 f5 (.slice A d.length c) 36)
  have hn' : (1500 : Int) < (d.length : Int) := by omega
  go_enter Try.func20, Try.ntmps20
  go_wp2_with fail
  rw [← hw2.out]
  refine (ref_group_any f0 f1 f2 f3 f4 f5 w2).mono ?_
  rintro e w3 ⟨he, hb3⟩
  rw [hg.out] at he
  subst he
  have HB := cover (hb2.out.trans (hb3.mono hs2))
  have hd3 := (hf2.out.below hb3 (by have := hs2'.out; omega)).dat
  clear hb3
  go_wp2
  go_ret2
  have hE : encE f0 d = 3 := by unfold encE; rw [hg.out, if_neg (by decide), if_pos hn]
  have hO : encO [t0, t1, t2, t3, t4, t5] [f0, f1, f2, f3, f4, f5] d f0 = [] := by unfold encO; rw [hE, if_neg (by decide)]
  refine ⟨none, 0, ?_, ?_, HB.out⟩
  · rw [hE, hO]; rfl
  · rw [hO]; exact OwnB.nil _ _
/-- the document's Encode, of any frame -/
theorem ref_enc_any (t0 t1 t2 t3 t4 t5 f0 f1 f2 f3 f4 f5 : Int) (A : Option Addr) (n c B : Nat) (d : List Int) (w : World) (hr : Row w B A n d) (hB : B ≤ w.heap.size) (hc : n ≤ c) (hnil : A = none → c = 0) (h1 : Bts [t0, t1, t2, t3, t4, t5]) (h2 : Bts [f0, f1, f2, f3, f4, f5]) (h3 : Bts d) :
    Calls Try.prog 20 #[.agg #[.int .u8 t0, .int .u8 t1, .int .u8 t2, .int .u8 t3, .int .u8 t4, .int .u8 t5, .int .u8 f0, .int .u8 f1, .int .u8 f2, .int .u8 f3, .int .u8 f4, .int .u8 f5, .slice A n c]] w (EncD [t0, t1, t2, t3, t4, t5] [f0, f1, f2, f3, f4, f5] d f0 w) := by
  obtain rfl : d.length = n := hr.len
  rcases hg : grp f0 with _ | _
  · by_cases hn : d.length ≤ 1500
    · obtain ⟨w2, hw2⟩ : ∃ w2, w2 = w.alloc (.cells #[.int .u8 t0, .int .u8 t1, .int .u8 t2, .int .u8 t3, .int .u8 t4, .int .u8 t5, .int .u8 f0, .int .u8 f1, .int .u8 f2, .int .u8 f3, .int .u8 f4, .int .u8 f5, .slice A d.length c] 36) := ⟨_, rfl⟩
      refine ref_enc_in t0 t1 t2 t3 t4 t5 f0 f1 f2 f3 f4 f5 A c B d w w2 (by rw [hw2]; exact hr.alloc hB _) hB hc (cover hnil) hn (cover hg) (cover (bodyB_bts h1 h2 h3)) (cover hw2) (cover ?_) (cover ?_) (cover ?_)
      · rw [hw2]; exact FrmIn.made w t0 t1 t2 t3 t4 t5 f0 f1 f2 f3 f4 f5 (.slice A d.length c) 36
      · rw [hw2]; exact (Below.refl _ _).alloc (Nat.le_refl _) _
      · rw [hw2]; simp
    · exact ref_enc_much t0 t1 t2 t3 t4 t5 f0 f1 f2 f3 f4 f5 A c d w (cover hg) (by omega)
  · exact ref_enc_group t0 t1 t2 t3 t4 t5 f0 f1 f2 f3 f4 f5 A d.length c d w (cover hg)
end Go.Proofs.Ytbpmhfekjihhhaa
