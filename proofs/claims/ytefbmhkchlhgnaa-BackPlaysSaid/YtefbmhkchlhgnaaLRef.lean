/- What the document's own Back does. -/
import Derived.Deep.CutBlock
import Derived.Deep.DeepCutAuto
import Derived.Deep.RegionHeld3
import Derived.Deep.AppendLies
import Derived.BigQuiet
import Derived.Deep.QuietTactic
import Derived.Test.YtefbmhkchlhgnaaFHeld
import Derived.Test.YtefbmhkchlhgnaaOCopy
import Derived.Test.YtefbmhkchlhgnaaOCells
import Derived.Test.YtefbmhkchlhgnaaOSl
import Derived.Test.YtefbmhkchlhgnaaLMath
namespace Go.Proofs.Ytefbmhkchlhgnaa
open Go.RowKit
set_option linter.unusedVariables false
set_option linter.unusedSimpArgs false

/-- a Back of the document's at block t that stands so: what it owns is S -/
structure BkR (S : Foot) (w : World) (t : Nat) (b : LV (List Int)) : Prop where
  ok : LOk b
  mb : b.m ≤ 100000
  sh : ∀ l ∈ b.l, l.length ≤ 1000000
  ex : ∃ V us, us.map SL.l = b.l ∧ w.heap[t]? = some (.cells #[.int .i64 b.m, .int .i64 b.o, V] 36 (0, 0)) ∧ RowS w V us ∧ S = fun i => i = t ∨ vownF V i
section
variable {S : Foot} {w w' : World} {t : Nat} {b : LV (List Int)}
theorem BkR.lt (h : BkR S w t b) : ∀ i, S i → i < w.heap.size := by
  obtain ⟨V, us, h1, h2, h3, rfl⟩ := h.ex
  rintro i (rfl | hi)
  · exact block_lt h2
  · exact h3.lt hi
theorem BkR.keep (h : BkR S w t b) (hk : ∀ i, S i → w'.heap[i]? = w.heap[i]?) (hb : U8Keep w w') : BkR S w' t b := by
  obtain ⟨V, us, h1, h2, h3, rfl⟩ := h.ex
  exact ⟨h.ok, h.mb, h.sh, V, us, h1, (hk t (.inl rfl)).trans h2, h3.keep (fun i hi => hk i (.inr hi)) hb, rfl⟩
/-- none of its own blocks is one of bytes -/
theorem BkR.nob (h : BkR S w t b) : ∀ i, S i → ∀ (cur : Array Value) (fr : Nat × Nat), w.heap[i]? ≠ some (.cells cur 5 fr) := by
  obtain ⟨V, us, h1, h2, h3, rfl⟩ := h.ex
  rintro i (rfl | hi)
  · exact not_u8 h2 (by decide)
  · obtain ⟨cur, hc⟩ := h3.vtype hi; exact not_u8 hc (by decide)
theorem BkR.below (h : BkR S w t b) (hb : Below w.heap.size w w') : BkR S w' t b := h.keep (fun i hi => hb.block i (h.lt i hi)) (U8Keep.of_below hb)
theorem BkR.drewN (h : BkR S w t b) (n : Nat) : BkR S (w.drewN n) t b := h.keep (fun _ _ => rfl) (U8Keep.refl _)
theorem BkR.apart {T T' : Foot} (h : BkR S w t b) (hm : Moves T T' w w') (hb : U8Keep w w') (hd : ∀ k, S k → ¬ T k) : BkR S w' t b := h.keep (fun k hk => hm.block k (h.lt k hk) (hd k hk)) hb
theorem BkR.t_in (h : BkR S w t b) : S t := by obtain ⟨V, us, _, _, _, rfl⟩ := h.ex; exact .inl rfl
end
/-- the Back is such now; what was not its own lies as it lay -/
def BkNow (S : Foot) (t : Nat) (b : LV (List Int)) (w w' : World) : Prop := ∃ S', BkR S' w' t b ∧ Moves S S' w w'
theorem BkNow.same {S : Foot} {w w' : World} {t : Nat} {b : LV (List Int)} (h : BkR S w t b) (hb : Below w.heap.size w w') : BkNow S t b w w' := ⟨S, h.below hb, Moves.of_below S hb⟩
/-- its two numbers are others -/
theorem BkR.num {S : Foot} {w : World} {t : Nat} {b : LV (List Int)} (h : BkR S w t b) (o : Nat) (ho : o ≤ b.l.length) : BkNow S t { b with o := o } w (w.setCell ⟨t, 1, none⟩ (.int .i64 o)) := by
  have hm := (Moves.refl S w).setCell (.inl h.t_in) 1 (.int .i64 (o : Int))
  obtain ⟨V, us, h1, h2, h3, rfl⟩ := h.ex
  refine ⟨_, ⟨⟨ho, h.ok.2⟩, h.mb, h.sh, V, us, h1, by rw [set_block h2]; rfl, h3.keep (fun i hi => set_other _ _ (fun e => ?_)) ((U8Keep.refl w).setCell (not_u8 h2 (by decide)) _ _), rfl⟩, hm⟩
  obtain ⟨cur, hc⟩ := h3.vtype hi; exact type_ne hc h2 (by decide) e
theorem ragain_any {S : Foot} {w : World} {t : Nat} {b : LV (List Int)} (h : BkR S w t b) :
    Calls Try.prog 20 #[ptr t] w fun e w' => e = .returned (.int .i64 b.o) ∧ Hid (BkNow S t (againL b) w w') := by
  have HN := cover (h.num 0 (Nat.zero_le _))
  obtain ⟨V, us, h1, h2, h3, hS⟩ := h.ex
  obtain ⟨w2, hw2⟩ : ∃ w2, Hid (w2 = w.setCell ⟨t, 1, none⟩ (.int .i64 ((0 : Nat) : Int))) := ⟨_, cover rfl⟩
  rw [← hw2.out] at HN
  have hw2' : w2 = w.setCell ⟨t, 1, none⟩ (.int .i64 0) := hw2.out
  have HW2 := cover hw2'
  obtain ⟨c0, c1, c2⟩ := three_cells h2
  have F1 := not_frozen h2 1
  clear h h1 h2 h3 hS hw2' hw2
  go_enter Try.func20, Try.ntmps20
  go_wp2_with (rw [← HW2.out])
  go_ret
  exact ⟨rfl, HN⟩
theorem rbclear_any {S : Foot} {w : World} {t : Nat} {b : LV (List Int)} (h : BkR S w t b) :
    Calls Try.prog 22 #[ptr t] w fun e w' => e = .returned (.int .i64 b.l.length) ∧ Hid (BkNow S t (clearL b) w w') := by
  have hmv := ((Moves.refl S w).setCell (.inl h.t_in) 2 (.slice none 0 0)).setCell (.inl h.t_in) 1 (.int .i64 0)
  have HOK := cover (And.intro (LOk.clear b) h.mb)
  obtain ⟨V, us, h1, h2, h3, hS⟩ := h.ex
  obtain ⟨A, c, rfl, _⟩ := h3.shape
  have HL : Hid ((us.length : Int) = (b.l.length : Int)) := cover (by rw [← h1, List.length_map])
  obtain ⟨w2, hw2⟩ : ∃ w2, Hid (w2 = w.setCell ⟨t, 2, none⟩ (.slice none 0 0)) := ⟨_, cover rfl⟩
  have T2 : w2.heap[t]? = some (.cells #[.int .i64 b.m, .int .i64 b.o, .slice none 0 0] 36 (0, 0)) := by rw [hw2.out, set_block h2]; rfl
  obtain ⟨w3, hw3⟩ : ∃ w3, Hid (w3 = w2.setCell ⟨t, 1, none⟩ (.int .i64 0)) := ⟨_, cover rfl⟩
  have T3 : w3.heap[t]? = some (.cells #[.int .i64 b.m, .int .i64 0, .slice none 0 0] 36 (0, 0)) := by rw [hw3.out, set_block T2]; rfl
  have HN : Hid (BkNow S t (clearL b) w w3) := cover ⟨fun i => i = t ∨ vownF (.slice none 0 0) i, ⟨HOK.out.1, HOK.out.2, (fun l hl => (by cases hl)), _, [], rfl, T3, RowS.nil _, rfl⟩, by
    rw [← hw2.out, ← hw3.out] at hmv
    refine hmv.less ?_
    rintro k (rfl | hk)
    · rw [hS]; exact .inl rfl
    · cases hk⟩
  obtain ⟨c0, c1, c2⟩ := three_cells h2
  obtain ⟨d0, d1, d2⟩ := three_cells T2
  have F1 := not_frozen h2 2
  have F2 := not_frozen T2 1
  clear h h1 h2 h3 hS T2 T3 hmv
  go_enter Try.func22, Try.ntmps22
  go_wp2_with (first
    | (rw [← hw2.out])
    | (rw [← hw3.out]))
  go_ret
  exact ⟨ret_int HL.out, HN⟩
/-- a row put behind -/
theorem BkR.putS {S : Foot} {w w' : World} {t : Nat} {b : LV (List Int)} {AV : Option Addr} {cV : Nat} {us : List SL} {u : SL} {v' : Value} (hok : LOk b) (hmb : b.m ≤ 100000) (hsh : ∀ l ∈ b.l, l.length ≤ 1000000) (hu : u.l.length ≤ 1000000) (hr : us.map SL.l = b.l) (hlt : b.l.length < b.m)
    (hd : w'.heap[t]? = some (.cells #[.int .i64 b.m, .int .i64 b.o, .slice AV us.length cV] 36 (0, 0))) (hrow : RowS w' v' (us ++ [u]))
    (hS : S = fun i => i = t ∨ vownF (.slice AV us.length cV) i) (hm : Moves S (fun i => i = t ∨ vownF v' i) w w') (ht : t < w.heap.size) :
    BkNow S t (putL u.l b) w (w'.setCell ⟨t, 2, none⟩ v') := by
  have hp := putL_yes u.l hlt
  refine ⟨fun i => i = t ∨ vownF v' i, ⟨LOk.put _ hok, by rw [putL_m]; exact hmb, (fun l hl => by
    rw [hp.1] at hl
    rcases List.mem_append.1 hl with hl | hl
    · exact hsh l hl
    · simp at hl; subst hl; exact hu), v', us ++ [u], by rw [hp.1, List.map_append, hr]; rfl, by rw [hp.1, set_block hd]; rfl, hrow.keep (fun i hi => set_other _ _ (fun e => ?_)) ((U8Keep.refl w').setCell (not_u8 hd (by decide)) _ _), rfl⟩, ?_⟩
  · obtain ⟨cur, hc⟩ := hrow.vtype hi; exact type_ne hc hd (by decide) e
  · exact hm.setCell (.inl (by rw [hS]; exact .inl rfl)) _ _
set_option maxRecDepth 100000 in
set_option maxHeartbeats 1600000 in
theorem rbput_any {S : Foot} {w : World} {t : Nat} {b : LV (List Int)} (h : BkR S w t b) (A : Option Addr) (n c B : Nat) (l : List Int) (hr : Row w B A n l) (hB : B ≤ w.heap.size) (hmax : n ≤ 1000000) :
    Calls Try.prog 16 #[ptr t, .slice A n c] w fun e w' => e = .returned (.bool (putsL b)) ∧ Hid (BkNow S t (putL l b) w w') := by
  obtain ⟨V, us, h1, h2, h3, hS⟩ := h.ex
  obtain ⟨AV, cV, rfl, hcV⟩ := h3.shape
  have hul : us.length = b.l.length := by rw [← h1, List.length_map]
  obtain ⟨c0, c1, c2⟩ := three_cells h2
  by_cases hlt : b.l.length < b.m
  · have hge : ¬ (us.length : Int) ≥ (b.m : Int) := by omega
    have HP : Hid (putsL b = true) := cover (putL_yes l hlt).2
    have HX := cover h
    have hmb := h.mb
    have HBG : Hid (us.length + 1 ≤ 1000000) := cover (by omega)
    have HH := cover (And.intro h1 (And.intro h2 (And.intro h3 (And.intro hS (And.intro hr (And.intro hB hlt))))))
    obtain ⟨m, hm⟩ : ∃ m, m = b.m := ⟨_, rfl⟩
    have HM := cover hm
    rw [← hm] at c0 hge
    clear h h1 h2 h3 hS hr hB hlt hul hm hmb
    go_enter Try.func16, Try.ntmps16
    go_upto_region 1 with fail
    go_quiet (fail)
    go_upto_region 3 with fail
    generalize hq : World.drewN w _ = w1
    have HB1 : Hid (Below w.heap.size w w1) := cover (by rw [← hq]; exact below_drewN (Below.refl _ _) _)
    clear hq c0 c1 c2 hge hcV
    have HK : Hid (∀ W', Below w1.heap.size w1 W' → W'.cell? ⟨t, 2, none⟩ = some (.slice AV us.length cV) ∧ W'.frozen? ⟨t, 2, none⟩ = false) := cover fun W' hb => by
      have hb' := below_any HB1.out hb
      have hx := (hb'.block t (block_lt HH.out.2.1)).trans HH.out.2.1
      exact ⟨(three_cells hx).2.2, not_frozen hx 2⟩
    have HC : Hid (∀ W', Below w1.heap.size w1 W' → Calls Try.prog 31 #[.slice A n c] W' (GivesB W' l)) := cover fun W' hb => copy_any A n c B l W' (HH.out.2.2.2.2.1.below ((below_any HB1.out hb).mono HH.out.2.2.2.2.2.1)) (Nat.le_trans HH.out.2.2.2.2.2.1 (below_any HB1.out hb).size) (by omega)
    have mixed : Try.prog.follows .mixedOrders = true := by kernel_rfl
    refine (wpIn_wide (n := 0)).1 ?_
    refine held_begin (fun W' : World => W'.cell? ⟨t, 2, none⟩ = some (.slice AV us.length cV) ∧ W'.frozen? ⟨t, 2, none⟩ = false) 11 mixed ?_
    have HS : (fun W' : World => W'.cell? ⟨t, 2, none⟩ = some (.slice AV us.length cV) ∧ W'.frozen? ⟨t, 2, none⟩ = false) w1.drew := HK.out _ (Below.refl _ _).drew
    refine hold_take 0 _ rfl (by kernel_rfl) (by kernel_rfl) (by kernel_rfl) (by kernel_rfl) (by kernel_rfl) (fun _ _ _ h => h) (by rfl) (fun _ => rfl) HS (fun w' hS => by obtain ⟨q0, q1⟩ := hS; go_simp; rfl) ?_
    simp only [Act.put, List.setIfInBounds_toArray, List.set_cons_zero, List.set_cons_succ]
    refine hold_take 1 _ rfl (by kernel_rfl) (by kernel_rfl) (by kernel_rfl) (by kernel_rfl) (by kernel_rfl) (fun _ _ _ h => h) (by rfl) (fun _ => rfl) HS (fun w' hS => by obtain ⟨q0, q1⟩ := hS; go_simp; rfl) ?_
    simp only [Act.put, List.setIfInBounds_toArray, List.set_cons_zero, List.set_cons_succ]
    refine hold_take 2 _ rfl (by kernel_rfl) (by kernel_rfl) (by kernel_rfl) (by kernel_rfl) (by kernel_rfl) (fun _ _ _ h => h) (by rfl) (fun _ => rfl) HS (fun w' hS => by obtain ⟨q0, q1⟩ := hS; go_simp; rfl) ?_
    simp only [Act.put, List.setIfInBounds_toArray, List.set_cons_zero, List.set_cons_succ]
    refine hold_take 3 _ rfl (by kernel_rfl) (by kernel_rfl) (by kernel_rfl) (by kernel_rfl) (by kernel_rfl) (fun _ _ _ h => h) (by rfl) (fun _ => rfl) HS (fun w' hS => by obtain ⟨q0, q1⟩ := hS; go_simp; rfl) ?_
    simp only [Act.put, List.setIfInBounds_toArray, List.set_cons_zero, List.set_cons_succ]
    refine hold_take 4 _ rfl (by kernel_rfl) (by kernel_rfl) (by kernel_rfl) (by kernel_rfl) (by kernel_rfl) (fun _ _ _ h => h) (by rfl) (fun _ => rfl) HS (fun w' hS => by obtain ⟨q0, q1⟩ := hS; go_simp; rfl) ?_
    simp only [Act.put, List.setIfInBounds_toArray, List.set_cons_zero, List.set_cons_succ]
    refine hold_take 5 _ rfl (by kernel_rfl) (by kernel_rfl) (by kernel_rfl) (by kernel_rfl) (by kernel_rfl) (fun _ _ _ h => h) (by rfl) (fun _ => rfl) HS (fun w' hS => by obtain ⟨q0, q1⟩ := hS; go_simp; rfl) ?_
    simp only [Act.put, List.setIfInBounds_toArray, List.set_cons_zero, List.set_cons_succ]
    refine hold_one 6 (by kernel_rfl) rfl (by rfl) fun K hK => ?_
    go_simp
    refine ⟨trivial, rfl, (callsIn_wide.2 (HC.out _ (Below.refl _ _).drew)).mono ?_⟩
    rintro e w2 ⟨A2, c2, rfl, ho2, hb02⟩
    have hb2 : Below w1.heap.size w1 w2 := (Below.refl _ _).drew.trans hb02
    refine hK _ _ (.inr (HK.out _ hb2)) ?_
    clear hK K
    refine hold_one 7 (by kernel_rfl) rfl (by rfl) fun K2 hK2 => ?_
    refine run_in (fun c h => by cases h) (fun _ _ => trivial) (v := .slice (some ⟨w2.heap.size, 0, none⟩) 1 1) (w' := w2.alloc (.cells #[.slice A2 l.length c2] 26)) (by go_simp) ?_
    have hb3 := hb2.alloc hb2.size (.cells #[.slice A2 l.length c2] 26)
    refine hK2 _ _ (.inr (HK.out _ hb3)) ?_
    clear hK2 K2
    refine hold_one 8 (by kernel_rfl) rfl (by rfl) fun K3 hK3 => ?_
    obtain ⟨w3, hw3⟩ : ∃ w3, w3 = w2.alloc (.cells #[.slice A2 l.length c2] 26) := ⟨_, rfl⟩
    have hb0 : Below w.heap.size w w3 := by rw [hw3]; exact below_any HB1.out hb3
    have hown3 : OwnB w3 w.heap.size (.slice A2 l.length c2) l := by
      rw [hw3]
      exact (ownB_below ho2 ((Below.refl _ _).alloc (Nat.le_refl _) _)).mono (by have := HB1.out.size; simpa using this)
    have hrow3 := HH.out.2.2.1.below hb0
    have hap := RowS.append hrow3 ⟨w2.heap.size, 0, none⟩ 1 1 (news := [⟨A2, c2, l⟩]) rfl (by rw [hw3]; exact World.news_of_block (heap_alloc_new _ _)) (fun u hu => by
      simp at hu; subst hu
      refine ⟨hown3.mono (Nat.zero_le _), fun i hi hv => ?_⟩
      have h1 := (sl_blk (u := ⟨A2, c2, l⟩) hown3 hi).1
      have h2 := HH.out.2.2.1.lt hv
      omega) HBG.out
    rw [← hw3]
    obtain ⟨v', w4, hr4, ⟨A4, c4, rfl⟩, hL4⟩ := hap 34
    refine run_in (fun c h => by cases h) (fun _ _ => trivial) (v := .slice A4 (us.length + 1) c4) (w' := w4) (appends_exec _ _ _ _ rfl _ _ rfl rfl hr4) ?_
    have hne : ¬ vownF (.slice AV us.length cV) t := fun hv => by
      obtain ⟨cur, hc⟩ := HH.out.2.2.1.vtype hv
      exact type_ne hc HH.out.2.1 (by decide) rfl
    have ht3 : t < w3.heap.size := by have := block_lt HH.out.2.1; have := hb0.size; omega
    have T4 : w4.heap[t]? = some (.cells #[.int .i64 b.m, .int .i64 b.o, .slice AV us.length cV] 36 (0, 0)) := (hL4.out.2.2 t ht3 hne).trans ((hb0.block t (block_lt HH.out.2.1)).trans HH.out.2.1)
    have HN : Hid (BkNow S t (putL l b) w (w4.setCell ⟨t, 2, none⟩ (.slice A4 (us.length + 1) c4))) := cover (by
      refine BkR.putS (u := ⟨A2, c2, l⟩) HX.out.ok HX.out.mb HX.out.sh (by show l.length ≤ 1000000; have := HH.out.2.2.2.2.1.len; omega) HH.out.1 HH.out.2.2.2.2.2.2 T4 hL4.out.1 HH.out.2.2.2.1 ?_ (block_lt HH.out.2.1)
      have hmv := hL4.out.2.1
      rw [HH.out.2.2.2.1]
      refine ⟨hmv.os.trans hb0.os, hmv.tape.trans hb0.tape, hmv.output.trans hb0.output, Nat.le_trans hb0.size hmv.size, fun i hi hn => ?_, ?_⟩
      · exact (hmv.block i (by have := hb0.size; omega) (fun hv => hn (.inr hv))).trans (hb0.block i hi)
      · rintro i (rfl | hi)
        · exact .inl (.inl rfl)
        · rcases hmv.own i hi with h1 | h1
          · exact .inl (.inr h1)
          · exact .inr (Nat.le_trans hb0.size h1))
    have HS4 : (fun W' : World => W'.cell? ⟨t, 2, none⟩ = some (.slice AV us.length cV) ∧ W'.frozen? ⟨t, 2, none⟩ = false) w4 := ⟨(three_cells T4).2.2, not_frozen T4 2⟩
    refine hK3 _ _ (.inr HS4) ?_
    clear hK3 K3 hr4 hL4 hap hrow3 hown3 hb0 hb3 hb2 hb02 ho2 hw3 T4 ht3 hne
    refine hold_one 9 (by kernel_rfl) rfl (by rfl) fun K5 hK5 => ?_
    go_simp
    refine hK5 _ _ (.inr HS4) ?_
    clear hK5 K5
    refine hold_one 10 (by kernel_rfl) rfl (by rfl) fun K6 hK6 => ?_
    go_simp
    refine hK6 _ _ (.inr HS4) ?_
    clear hK6 K6
    refine hold_one 11 (by kernel_rfl) rfl (by rfl) fun K4 hK4 => ?_
    obtain ⟨q0, q1⟩ := HS4
    go_simp
    refine hK4 _ _ (.inl rfl) (held_done (by kernel_rfl) ?_ _)
    clear hK4 K4
    go_wp2
    go_ret
    exact ⟨ret_bool HP.out.symm, HN⟩
  · have hge : (us.length : Int) ≥ (b.m : Int) := by omega
    have HP := cover (putL_no l hlt)
    have HN : Hid (∀ d, BkNow S t (putL l b) w (w.drewN d)) := cover fun d => by rw [HP.out.1]; exact BkNow.same h (below_drewN (Below.refl _ _) d)
    obtain ⟨m, hm⟩ : ∃ m, m = b.m := ⟨_, rfl⟩
    rw [← hm] at c0 hge
    clear h h1 h2 h3 hS hr hB hlt hul hm
    go_enter Try.func16, Try.ntmps16
    go_upto_region 1 with fail
    go_quiet (fail)
    go_wp2
    go_ret
    exact ⟨ret_bool HP.out.2.symm, HN.out _⟩
theorem BkR.num2 {S : Foot} {w : World} {t : Nat} {b : LV (List Int)} (h : BkR S w t b) (o : Nat) (ho : o ≤ b.l.length) : BkR S (w.setCell ⟨t, 1, none⟩ (.int .i64 o)) t { b with o := o } ∧ Moves S S w (w.setCell ⟨t, 1, none⟩ (.int .i64 o)) := by
  have hm := (Moves.refl S w).setCell (.inl h.t_in) 1 (.int .i64 (o : Int))
  obtain ⟨V, us, h1, h2, h3, rfl⟩ := h.ex
  refine ⟨⟨⟨ho, h.ok.2⟩, h.mb, h.sh, V, us, h1, by rw [set_block h2]; rfl, h3.keep (fun i hi => set_other _ _ (fun e => ?_)) ((U8Keep.refl w).setCell (not_u8 h2 (by decide)) _ _), rfl⟩, hm⟩
  obtain ⟨cur, hc⟩ := h3.vtype hi; exact type_ne hc h2 (by decide) e
theorem rbnext_no {S : Foot} {w : World} {t : Nat} {b : LV (List Int)} (h : BkR S w t b) (hlt : ¬ b.o < b.l.length) :
    Calls Try.prog 17 #[ptr t] w fun e w' => e = .returned (.tuple #[.slice none 0 0, .bool false]) ∧ ∃ d, w' = w.drewN d := by
  obtain ⟨V, us, h1, h2, h3, hS⟩ := h.ex
  obtain ⟨AV, cV, rfl, hcV⟩ := h3.shape
  have hul : us.length = b.l.length := by rw [← h1, List.length_map]
  obtain ⟨c0, c1, c2⟩ := three_cells h2
  have hge : (b.o : Int) ≥ (us.length : Int) := by omega
  clear h h1 h2 h3 hS hlt hul
  go_enter Try.func17, Try.ntmps17
  go_upto_region 1 with fail
  go_quiet (fail)
  go_wp2
  go_ret2
  exact ⟨rfl, _, rfl⟩
set_option maxRecDepth 100000 in
set_option maxHeartbeats 1600000 in
theorem rbnext_yes {S : Foot} {w : World} {t : Nat} {b : LV (List Int)} (h : BkR S w t b) (hlt : b.o < b.l.length) :
    Calls Try.prog 17 #[ptr t] w fun e w' => ∃ A c, e = .returned (.tuple #[.slice A (b.l[b.o]).length c, .bool true]) ∧ Hid (OwnB w' w.heap.size (.slice A (b.l[b.o]).length c) b.l[b.o] ∧ BkR S w' t (nextL b) ∧ Moves S S w w') := by
  obtain ⟨V, us, h1, h2, h3, hS⟩ := h.ex
  have hul : us.length = b.l.length := by rw [← h1, List.length_map]
  obtain ⟨u, hu⟩ : ∃ u, us[b.o]? = some u := ⟨_, List.getElem?_eq_getElem (by omega)⟩
  obtain ⟨g, cV, rfl, hg, hcell, _⟩ := h3.at_ hu
  have hx : b.l[b.o] = u.l := by
    have : b.l[b.o]? = some u.l := by rw [← h1, List.getElem?_map, hu]; rfl
    rw [List.getElem?_eq_getElem hlt] at this
    injection this
  rw [hx]
  obtain ⟨c0, c1, c2⟩ := three_cells h2
  have hge : ¬ (b.o : Int) ≥ (us.length : Int) := by omega
  have HOL : Hid (b.o + 1 ≤ b.l.length ∧ us.length ≤ 100000 ∧ b.o ≤ 100000 ∧ u.l.length ≤ 1000000 ∧ us.length = b.l.length) := cover ⟨by omega, by have := h.mb; have := h.ok.2; omega, by have := h.mb; have := h.ok.2; omega, by rw [← hx]; exact h.sh _ (List.getElem_mem _), hul⟩
  have HX := cover h
  have HE : Hid (nextL b = { b with o := b.o + 1 }) := cover (by rw [(nextL_yes hlt).1])
  have HO := cover (h3.own u (List.mem_of_getElem? hu))
  have HGT : Hid (g ≠ t) := cover (fun e => by
    obtain ⟨cur, hc⟩ := h3.vtype (i := g) rfl
    exact type_ne hc h2 (by decide) e)
  have HG := cover (And.intro hg (And.intro h2 hcell))
  obtain ⟨o, ho⟩ : ∃ o, o = b.o := ⟨_, rfl⟩
  have HOO := cover ho
  rw [← ho] at c1 hge hcell
  obtain ⟨ul, hul2⟩ : ∃ ul, ul = us.length := ⟨_, rfl⟩
  have HUL := cover hul2
  rw [← hul2] at c2 hge
  clear h h1 h2 h3 hS hlt hul hu hx ho hul2
  go_enter Try.func17, Try.ntmps17
  go_upto_region 1 with fail
  go_quiet (fail)
  go_upto_region 3 with fail
  generalize hq : World.drewN w _ = w1
  have HB1 : Hid (Below w.heap.size w w1) := cover (by rw [← hq]; exact below_drewN (Below.refl _ _) _)
  have HX1 : Hid (BkR S w1 t b ∧ Moves S S w w1) := cover (by rw [← hq]; exact ⟨HX.out.drewN _, (Moves.refl S w).drewN _⟩)
  have T1 := (HB1.out.block t (block_lt HG.out.2.1)).trans HG.out.2.1
  rw [← HOO.out, ← HUL.out] at T1
  clear hq c0 c1 c2
  obtain ⟨w2, hw2⟩ : ∃ w2, Hid (w2 = w1.setCell ⟨t, 1, none⟩ (.int .i64 ((o : Int) + 1))) := ⟨_, cover rfl⟩
  have HX2 : Hid (BkR S w2 t (nextL b) ∧ Moves S S w w2) := cover (by
    have hk := HX1.out.1.num2 (b.o + 1) HOL.out.1
    rw [HE.out, hw2.out, HOO.out]
    exact ⟨hk.1, HX1.out.2.trans hk.2⟩)
  have T2 : w2.heap[t]? = some (.cells #[.int .i64 b.m, .int .i64 ((o : Int) + 1), .slice (some ⟨g, 0, none⟩) ul cV] 36 (0, 0)) := by rw [hw2.out, set_block T1]; rfl
  have T2' := cover T2
  have HC2 : Hid (w2.cell? ⟨g, o, none⟩ = some u.val ∧ g < w2.heap.size ∧ Below w.heap.size w w1) := cover (by
    refine ⟨?_, by rw [hw2.out, set_size]; exact Nat.lt_of_lt_of_le HG.out.1 HB1.out.size, HB1.out⟩
    rw [hw2.out, World.cell?_setCell_other _ _ _ _ (fun e => by have h9 := congrArg Addr.block e; exact HGT.out (by first | exact h9 | exact h9.symm))]
    exact (HB1.out.cell (p := ⟨g, o, none⟩) HG.out.1).trans (by rw [HOO.out]; exact HG.out.2.2))
  have HOW : Hid (OwnB w2 0 u.val u.l) := cover (by
    refine sl_keep HO.out fun i hi => ?_
    obtain ⟨_, cur, hc⟩ := sl_blk HO.out hi
    rw [hw2.out, set_other _ _ (type_ne hc HG.out.2.1 (by decide))]
    exact HB1.out.block i (block_lt hc))
  have hw1 : wrap64 ((o : Int) + 1) = (o : Int) + 1 := IntWalk.wrap64_in _ ⟨by omega, by have := HOL.out; have := HOO.out; omega⟩
  obtain ⟨c0, c1, c2⟩ := three_cells T1
  have F1 := not_frozen T1 1
  clear T1 T2 hge hg hcell
  go_upto_region 4 with (rw [← hw2.out])
  clear c0 c1 c2 F1 hw1
  obtain ⟨d0, d1, d2⟩ := three_cells T2'.out
  have k0 := HC2.out.1
  have HK : Hid (∀ W', Below w2.heap.size w2 W' → W'.cell? ⟨t, 1, none⟩ = some (.int .i64 ((o : Int) + 1)) ∧ W'.cell? ⟨t, 2, none⟩ = some (.slice (some ⟨g, 0, none⟩) ul cV) ∧ W'.cell? ⟨g, o, none⟩ = some u.val ∧ Below w2.heap.size w2 W') := cover fun W' hb => by
    have hx := (hb.block t (block_lt T2'.out)).trans T2'.out
    exact ⟨(three_cells hx).2.1, (three_cells hx).2.2, (hb.cell (p := ⟨g, o, none⟩) HC2.out.2.1).trans HC2.out.1, hb⟩
  have HC : Hid (∀ W', Below w2.heap.size w2 W' → Calls Try.prog 31 #[u.val] W' (GivesB W' u.l)) := cover fun W' hb => copy_any u.A u.l.length u.c _ u.l W' ((OwnB.row HOW.out).below hb) hb.size (by have := HOL.out.2.2.2.1; omega)
  have hi1 : IntKind.i64.wrap ((o : Int) + 1 - 1) = (o : Int) := by rw [IntKind.wrap_i64]; have := HOL.out; have := HOO.out; omega
  have hi2 : wrap64 ((o : Int) + 1 - 1) = (o : Int) := by have := HOL.out; have := HOO.out; exact (IntWalk.wrap64_in _ ⟨by omega, by omega⟩).trans (by omega)
  have hi3 : IntKind.i64.wrap (o : Int) = (o : Int) := by rw [IntKind.wrap_i64]; have := HOL.out; have := HOO.out; omega
  have hlt1 : (o : Int) < (ul : Int) := by have := HOL.out; have := HOO.out; have := HUL.out; omega
  go_region_held3 (fun W' : World => W'.cell? ⟨t, 1, none⟩ = some (.int .i64 ((o : Int) + 1)) ∧ W'.cell? ⟨t, 2, none⟩ = some (.slice (some ⟨g, 0, none⟩) ul cV) ∧ W'.cell? ⟨g, o, none⟩ = some u.val ∧ Below w2.heap.size w2 W') (first | exact HK.out _ hbX | exact HK.out _ (below_drewN (Below.refl _ _) 1))
    ((go_at_call 31; refine (HC.out _ ?_).mono ?_; (go_split_ands; assumption); rintro e w6 ⟨A6, c6, rfl, ho6, hb6⟩; have hbX := by first | exact below_any (W := w2) (by go_split_ands; assumption) hb6 | exact hb6))
  have hb9 : Below w2.heap.size w2 w6 := by first | exact hbX | exact (below_drewN (Below.refl _ _) 1).trans hb6
  have HN : Hid (OwnB w6 w.heap.size (.slice A6 u.l.length c6) u.l ∧ BkR S w6 t (nextL b) ∧ Moves S S w w6) := cover ⟨ho6.mono (by
    have h1 := HC2.out.2.2.size
    have h2 : w2.heap.size = w1.heap.size := by rw [hw2.out, set_size]
    show w.heap.size ≤ w2.heap.size
    omega), HX2.out.1.below hb9, HX2.out.2.then_below hb9⟩
  clear hbX hb9 hb6 ho6 HK HC d0 d1 d2 k0
  go_wp2
  go_ret2
  exact ⟨A6, c6, rfl, HN⟩
set_option maxRecDepth 100000 in
set_option maxHeartbeats 1600000 in
theorem rbacked_any {S : Foot} {w : World} {t : Nat} {b : LV (List Int)} (h : BkR S w t b) (n : Int) :
    Calls Try.prog 19 #[ptr t, .int .i64 n] w fun e w' => e = .returned (.int .i64 (goneL n b)) ∧ Hid (BkNow S t (ackL n b) w w') := by
  obtain ⟨V, us, h1, h2, h3, hS⟩ := h.ex
  obtain ⟨AV, cV, rfl, hcV⟩ := h3.shape
  have hul : us.length = b.l.length := by rw [← h1, List.length_map]
  obtain ⟨k, hk⟩ : ∃ k, k = goneL n b := ⟨_, rfl⟩
  have hG := goneL_int n b
  have hle := goneL_le n b
  rw [← hk] at hG hle
  have HOL : Hid (k ≤ us.length ∧ us.length ≤ 100000 ∧ k ≤ b.o ∧ b.o ≤ b.l.length ∧ b.o ≤ 100000) := cover ⟨by have := h.ok.1; omega, by have := h.ok.2; have := h.mb; omega, hle, h.ok.1, by have := h.ok.1; have := h.ok.2; have := h.mb; omega⟩
  have HE : Hid (ackL n b = { b with o := b.o - k, l := b.l.drop k } ∧ LOk (ackL n b)) := cover ⟨by unfold ackL; rw [← hk], LOk.ack n h.ok⟩
  have HX := cover h
  have HH := cover (And.intro h1 (And.intro h2 (And.intro h3 hS)))
  rw [← hk]
  obtain ⟨c0, c1, c2⟩ := three_cells h2
  have hif : Hid ((if (b.o : Int) < (if n < 0 then 0 else n) then (b.o : Int) else if n < 0 then 0 else n) = (k : Int)) := cover (by rw [hG]; split <;> split <;> omega)
  have HB0 : Hid (Below w.heap.size w (w.alloc (.cells #[] 26))) := cover ((Below.refl _ _).alloc (Nat.le_refl _) _)
  have T1 := (HB0.out.block t (block_lt h2)).trans h2
  obtain ⟨d0, d1, d2⟩ := three_cells T1
  have HT1 := cover T1
  have hkl : ¬ (us.length : Int) < (k : Int) := by have := HOL.out; omega
  have hk0 : ¬ (k : Int) < 0 := by omega
  obtain ⟨A', hA'⟩ : ∃ A', Hid (A' = if cV = k then AV else AV.map (·.add k)) := ⟨_, cover rfl⟩
  have HAP := cover (RowS.tail h3 k A' (us.length - k) (cV - k) rfl HOL.out.2.1 (fun hm => by
    obtain ⟨u, hu⟩ : ∃ u, us[k]? = some u := ⟨_, List.getElem?_eq_getElem (by omega)⟩
    obtain ⟨g, c', hv, _, _⟩ := h3.at_ hu
    injection hv with hv1 hv2 hv3
    subst hv1
    refine ⟨(⟨g, 0, none⟩ : Addr).add k, by rw [hA'.out, if_neg (by omega)]; rfl, fun j u hj => ?_⟩
    rw [addr_add_add, add_off, Nat.zero_add]
    refine h3.news rfl _ _ ?_
    rw [List.map_drop, List.getElem?_drop] at hj
    exact hj))
  clear h h1 h2 h3 hS hul hk hG hle T1
  go_enter Try.func19, Try.ntmps19
  go_upto_region 2 with fail
  simp only [hif.out]
  generalize (if n < 0 then (0 : Int) else n) = nn
  clear hif
  go_upto_region 3 with (first
    | (at_builtin; rw [← hA'.out]; refine appends_list rfl _ _ _ rfl _ _ rfl rfl HAP.out ?_; rintro v6 w6 ⟨⟨A6, c6, rfl⟩, H6⟩; clear c0 c1 c2 d0 d1 d2; have T6 := (H6.out.2.1.block t (block_lt HH.out.2.1)).trans HH.out.2.1; have F6 := not_frozen T6 2; obtain ⟨c0, c1, c2⟩ := three_cells T6; obtain ⟨w7, hw7⟩ : ∃ w7, Hid (w7 = w6.setCell ⟨t, 2, none⟩ (.slice A6 (us.length - k) c6)) := ⟨_, cover rfl⟩)
    | (rw [← hw7.out]))
  have T7 : w7.heap[t]? = some (.cells #[.int .i64 b.m, .int .i64 b.o, .slice A6 (us.length - k) c6] 36 (0, 0)) := by rw [hw7.out, set_block T6]; rfl
  have HM : Hid (Moves S (fun i => i = t ∨ vownF (.slice A6 (us.length - k) c6) i) w w7 ∧ RowS w7 (.slice A6 (us.length - k) c6) (us.drop k)) := cover (by
    have hrow := H6.out.1
    have hb := H6.out.2.1
    rw [hw7.out, HH.out.2.2.2]
    refine ⟨Moves.setCell ⟨hb.os, hb.tape, hb.output, hb.size, fun i hi _ => hb.block i hi, ?_⟩ (.inl (.inl rfl)) _ _, hrow.keep (fun i hi => set_other _ _ (fun e => ?_)) ((U8Keep.refl w6).setCell (not_u8 T6 (by decide)) _ _)⟩
    · rintro i (rfl | hi)
      · exact .inl (.inl rfl)
      · exact .inr (H6.out.2.2 i hi)
    · obtain ⟨cur, hc⟩ := hrow.vtype hi; exact type_ne hc T6 (by decide) e)
  have hw : wrap64 ((b.o : Int) - (k : Int)) = ((b.o - k : Nat) : Int) := (IntWalk.wrap64_in _ ⟨by have := HOL.out; omega, by have := HOL.out; omega⟩).trans (by have := HOL.out; omega)
  obtain ⟨w8, hw8⟩ : ∃ w8, Hid (w8 = w7.setCell ⟨t, 1, none⟩ (.int .i64 ((b.o - k : Nat) : Int))) := ⟨_, cover rfl⟩
  have T8 : w8.heap[t]? = some (.cells #[.int .i64 b.m, .int .i64 ((b.o - k : Nat) : Int), .slice A6 (us.length - k) c6] 36 (0, 0)) := by rw [hw8.out, set_block T7]; rfl
  have HN : Hid (BkNow S t (ackL n b) w w8) := cover (by
    have hok := HE.out.2
    rw [HE.out.1] at hok ⊢
    refine ⟨_, ⟨hok, HX.out.mb, fun l hl => HX.out.sh l (List.mem_of_mem_drop hl), _, us.drop k, ?_, T8, HM.out.2.keep (fun i hi => ?_) (by rw [hw8.out]; exact (U8Keep.refl w7).setCell (not_u8 T7 (by decide)) _ _), rfl⟩, ?_⟩
    · rw [← HH.out.1, List.map_drop]
    · rw [hw8.out]
      refine set_other _ _ (fun e => ?_)
      obtain ⟨cur, hc⟩ := HM.out.2.vtype hi; exact type_ne hc T7 (by decide) e
    · rw [hw8.out]
      exact HM.out.1.setCell (.inl HX.out.t_in) _ _)
  have F7 := not_frozen T7 1
  clear c0 c1 c2 F6
  obtain ⟨c0, c1, c2⟩ := three_cells T7
  clear T6 T7 T8 H6 HM
  go_wp2_with (rw [← hw8.out])
  go_ret
  exact ⟨rfl, HN⟩
end Go.Proofs.Ytefbmhkchlhgnaa
