/- What the program's own Back does. -/
import Derived.Deep.CutBlock
import Derived.Deep.DeepCutAuto
import Derived.Deep.RegionHeld3
import Derived.BigQuiet
import Derived.Deep.QuietTactic
import Derived.Test.YtefbmhkchlhgnaaFHeld
import Derived.Test.YtefbmhkchlhgnaaOClone
import Derived.Test.YtefbmhkchlhgnaaOCells
import Derived.Test.YtefbmhkchlhgnaaOSl
import Derived.Test.YtefbmhkchlhgnaaLMath
import Derived.Test.YtefbmhkchlhgnaaQBHas
namespace Go.Proofs.Ytefbmhkchlhgnaa
open Go.RowKit
set_option linter.unusedVariables false
set_option linter.unusedSimpArgs false

/-- what a Back owns: its own block, its queue's, the row's, the cells' -/
abbrev bkfoot (t q : Nat) (G : Option Nat) (ps : List Nat) : Foot := fun i => i = t ∨ i = q ∨ G = some i ∨ i ∈ ps
/-- a Back of the program's at block t that stands so: its queue lies at block q, what it owns is S -/
structure BkQ (S : Foot) (w : World) (t q : Nat) (b : LV (List Int)) : Prop where
  ok : LOk b
  mb : b.m ≤ 100000
  sh : ∀ l ∈ b.l, l.length ≤ 1000000
  ex : ∃ (G : Option Nat) (ps : List Nat) (us : List SL), us.map SL.l = b.l ∧ w.heap[t]? = some (.cells #[ptr q, .int .i64 b.o] 47 (0, 0)) ∧ BIn w q G b.m ps (us.map SL.val) ∧ (∀ u ∈ us, OwnB w 0 u.val u.l) ∧ S = bkfoot t q G ps
def BkP (S : Foot) (w : World) (t : Nat) (b : LV (List Int)) : Prop := ∃ q, BkQ S w t q b
theorem two_c {w : World} {g : Nat} {v0 v1 : Value} {T : TypeId} {fr : Nat × Nat} (h : w.heap[g]? = some (.cells #[v0, v1] T fr)) :
    w.cell? ⟨g, 0, none⟩ = some v0 ∧ w.cell? ⟨g, 1, none⟩ = some v1 := by
  refine ⟨?_, ?_⟩
  all_goals (rw [cell_of_row w g _ _ _ _ h]; rfl)
section
variable {S : Foot} {w w' : World} {t q : Nat} {b : LV (List Int)}
theorem bin_type {G : Option Nat} {m : Int} {ps : List Nat} {xs : List Value} (h : BIn w q G m ps xs) {i : Nat} (hi : i = q ∨ G = some i ∨ i ∈ ps) : ∃ c T, w.heap[i]? = some (.cells c T (0, 0)) ∧ T ≠ 5 ∧ T ≠ 47 := by
  obtain ⟨A, c, hh, hr⟩ := h.ex
  rcases hi with rfl | hi | hi
  · exact ⟨_, _, hh, by decide, by decide⟩
  · obtain ⟨cur, hc⟩ := hr.lt hi; exact ⟨_, _, hc, by decide, by decide⟩
  · obtain ⟨x, hx⟩ := h.cellOf hi; exact ⟨_, _, hx, by decide, by decide⟩
theorem BkQ.blocks (h : BkQ S w t q b) : ∀ i, S i → ∃ c T, w.heap[i]? = some (.cells c T (0, 0)) ∧ T ≠ 5 := by
  obtain ⟨G, ps, us, h1, h2, h3, h4, rfl⟩ := h.ex
  rintro i (rfl | hi)
  · exact ⟨_, _, h2, by decide⟩
  · obtain ⟨c, T, h5, h6, _⟩ := bin_type h3 hi; exact ⟨c, T, h5, h6⟩
theorem BkQ.lt (h : BkQ S w t q b) : ∀ i, S i → i < w.heap.size := fun i hi => by
  obtain ⟨c, T, h1, _⟩ := h.blocks i hi; exact block_lt h1
/-- none of its own blocks is one of bytes -/
theorem BkQ.nob (h : BkQ S w t q b) : ∀ i, S i → ∀ (cur : Array Value) (fr : Nat × Nat), w.heap[i]? ≠ some (.cells cur 5 fr) := fun i hi => by
  obtain ⟨c, T, h1, h2⟩ := h.blocks i hi; exact not_u8 h1 h2
theorem BkQ.keep (h : BkQ S w t q b) (hk : ∀ i, S i → w'.heap[i]? = w.heap[i]?) (hb : U8Keep w w') : BkQ S w' t q b := by
  obtain ⟨G, ps, us, h1, h2, h3, h4, rfl⟩ := h.ex
  exact ⟨h.ok, h.mb, h.sh, G, ps, us, h1, (hk t (.inl rfl)).trans h2, h3.keep (fun i hi => hk i (.inr hi)), fun u hu => own_u8 (h4 u hu) hb, rfl⟩
theorem BkQ.below (h : BkQ S w t q b) (hb : Below w.heap.size w w') : BkQ S w' t q b := h.keep (fun i hi => hb.block i (h.lt i hi)) (U8Keep.of_below hb)
theorem BkQ.drewN (h : BkQ S w t q b) (n : Nat) : BkQ S (w.drewN n) t q b := h.keep (fun _ _ => rfl) (U8Keep.refl _)
theorem BkQ.t_in (h : BkQ S w t q b) : S t := by obtain ⟨G, ps, us, _, _, _, _, rfl⟩ := h.ex; exact .inl rfl
theorem BkQ.head (h : BkQ S w t q b) : w.heap[t]? = some (.cells #[ptr q, .int .i64 b.o] 47 (0, 0)) := by obtain ⟨G, ps, us, _, h2, _⟩ := h.ex; exact h2
theorem BkP.lt (h : BkP S w t b) : ∀ i, S i → i < w.heap.size := h.elim fun _ h => h.lt
theorem BkP.nob (h : BkP S w t b) : ∀ i, S i → ∀ (cur : Array Value) (fr : Nat × Nat), w.heap[i]? ≠ some (.cells cur 5 fr) := h.elim fun _ h => h.nob
theorem BkP.keep (h : BkP S w t b) (hk : ∀ i, S i → w'.heap[i]? = w.heap[i]?) (hb : U8Keep w w') : BkP S w' t b := h.imp fun _ h => h.keep hk hb
theorem BkP.below (h : BkP S w t b) (hb : Below w.heap.size w w') : BkP S w' t b := h.imp fun _ h => h.below hb
theorem BkP.drewN (h : BkP S w t b) (n : Nat) : BkP S (w.drewN n) t b := h.imp fun _ h => h.drewN n
theorem BkP.t_in (h : BkP S w t b) : S t := h.elim fun _ h => h.t_in
theorem BkP.apart {T T' : Foot} (h : BkP S w t b) (hm : Moves T T' w w') (hb : U8Keep w w') (hd : ∀ k, S k → ¬ T k) : BkP S w' t b := h.keep (fun k hk => hm.block k (h.lt k hk) (hd k hk)) hb
theorem BkP.ok (h : BkP S w t b) : LOk b := h.elim fun _ h => h.ok
theorem BkP.mb (h : BkP S w t b) : b.m ≤ 100000 := h.elim fun _ h => h.mb
/-- who owns no bytes turns none -/
theorem U8Keep.of_moves {T : Foot} (hn : ∀ i, S i → ∀ (cur : Array Value) (fr : Nat × Nat), w.heap[i]? ≠ some (.cells cur 5 fr)) (hm : Moves S T w w') : U8Keep w w' := fun i cur fr hi => hm.block i (block_lt hi) (fun hs => hn i hs cur fr hi)
end
/-- the Back is such now; what was not its own lies as it lay -/
def BkNowP (S : Foot) (t : Nat) (b : LV (List Int)) (w w' : World) : Prop := ∃ S', BkP S' w' t b ∧ Moves S S' w w'
theorem BkNowP.same {S : Foot} {w w' : World} {t : Nat} {b : LV (List Int)} (h : BkP S w t b) (hb : Below w.heap.size w w') : BkNowP S t b w w' := ⟨S, h.below hb, Moves.of_below S hb⟩
/-- how many are out is another number -/
theorem BkQ.num {S : Foot} {w : World} {t q : Nat} {b : LV (List Int)} (h : BkQ S w t q b) (o : Nat) (ho : o ≤ b.l.length) : BkQ S (w.setCell ⟨t, 1, none⟩ (.int .i64 o)) t q { b with o := o } ∧ Moves S S w (w.setCell ⟨t, 1, none⟩ (.int .i64 o)) := by
  have hm := (Moves.refl S w).setCell (.inl h.t_in) 1 (.int .i64 (o : Int))
  obtain ⟨G, ps, us, h1, h2, h3, h4, rfl⟩ := h.ex
  refine ⟨⟨⟨ho, h.ok.2⟩, h.mb, h.sh, G, ps, us, h1, by rw [set_block h2]; rfl, h3.keep (fun i hi => set_other _ _ (fun e => ?_)), fun u hu => own_u8 (h4 u hu) ((U8Keep.refl w).setCell (not_u8 h2 (by decide)) _ _), rfl⟩, hm⟩
  obtain ⟨c, T, h5, _, h6⟩ := bin_type h3 hi
  exact type_ne h5 h2 h6 e
section
variable {S : Foot} {w : World} {t q : Nat} {b : LV (List Int)}
theorem bkout_any (h : BkP S w t b) : Calls Try.prog 23 #[ptr t] w fun e w' => e = .returned (.int .i64 b.o) ∧ w = w' := by
  obtain ⟨q, h⟩ := h
  obtain ⟨c0, c1⟩ := two_c h.head
  clear h
  go_enter Try.func23, Try.ntmps23
  go_wp2
  go_ret
  exact ⟨rfl, rfl⟩
theorem BkQ.lenQ (h : BkQ S w t q b) : Calls Try.prog 30 #[ptr q] w fun e w' => e = .returned (.int .i64 b.l.length) ∧ w = w' := by
  obtain ⟨G, ps, us, h1, h2, h3, h4, hS⟩ := h.ex
  have := lenB_any h3
  rw [h3.len, List.length_map] at this
  rw [← h1, List.length_map]; exact this
theorem bklen_any (h : BkP S w t b) : Calls Try.prog 14 #[ptr t] w fun e w' => e = .returned (.int .i64 b.l.length) ∧ w = w' := by
  obtain ⟨q, h⟩ := h
  obtain ⟨c0, c1⟩ := two_c h.head
  have HL := cover h.lenQ
  clear h
  go_enter Try.func14, Try.ntmps14
  go_wp2_with (go_at_call 30; refine HL.out.mono ?_; rintro e w' ⟨rfl, rfl⟩)
  go_ret
  exact ⟨rfl, rfl⟩
theorem bkwaits_any (h : BkP S w t b) : Calls Try.prog 24 #[ptr t] w fun e w' => e = .returned (.int .i64 ((b.l.length - b.o : Nat) : Int)) ∧ w = w' := by
  have HL := cover (bklen_any h)
  have HO := cover (bkout_any h)
  have h1 := h.ok.1
  have h2 := h.ok.2
  have h3 := h.mb
  have hw : wrap64 ((b.l.length : Int) - (b.o : Int)) = ((b.l.length - b.o : Nat) : Int) := (IntWalk.wrap64_in _ ⟨by omega, by omega⟩).trans (by omega)
  clear h h1 h2 h3
  go_enter Try.func24, Try.ntmps24
  go_wp2_with (first
    | (go_at_call 14; refine HL.out.mono ?_; rintro e w' ⟨rfl, rfl⟩)
    | (go_at_call 23; refine HO.out.mono ?_; rintro e w' ⟨rfl, rfl⟩))
  go_ret
  exact ⟨ret_int hw, rfl⟩
theorem bknew_any (n : Int) (w : World) (hn : n ≤ 100000) : Calls Try.prog 9 #[.int .i64 n] w fun e w' => ∃ t S, e = .returned (ptr t) ∧ Hid (BkP S w' t (zL n) ∧ Below w.heap.size w w' ∧ (∀ i, S i → w.heap.size ≤ i) ∧ w.heap.size ≤ t) := by
  have hq : Calls Try.prog 25 #[.int .i64 n] w fun e w' => e = .returned (ptr w.heap.size) ∧ Hid (BIn w' w.heap.size none (n.toNat : Int) [] [] ∧ Below w.heap.size w w') := by
    by_cases h0 : 0 < n
    · rw [show (n.toNat : Int) = n by omega]; exact newB_pos n w h0
    · rw [show (n.toNat : Int) = 0 by omega]; exact newB_neg n w (by omega)
  have HQ := cover hq
  clear hq
  go_enter Try.func9, Try.ntmps9
  obtain ⟨q, hq⟩ : ∃ q, q = w.heap.size := ⟨_, rfl⟩
  go_wp2_with fail
  refine HQ.out.mono ?_
  rintro e w1 ⟨rfl, H1⟩
  rw [← hq] at H1 ⊢
  have HG := cover hq
  clear hq
  go_wp2
  go_ret
  have hb := (Below.refl w1.heap.size w1).alloc (Nat.le_refl _) (.cells #[ptr q, .int .i64 0] 47)
  have hs := H1.out.2.size
  refine ⟨_, bkfoot w1.heap.size q none [], rfl, cover ⟨⟨q, LOk.zero n, by unfold zL; simp only; omega, (fun l hl => by cases hl), none, [], [], rfl, heap_alloc_new _ _, H1.out.1.below hb, (fun u hu => by cases hu), rfl⟩, ?_, ?_, ?_⟩⟩
  · rw [HG.out] at H1
    exact H1.out.2.trans (hb.mono hs)
  · have := HG.out
    rintro i (rfl | rfl | hi | hi)
    · omega
    · omega
    · cases hi
    · cases hi
  · have := HG.out; omega
theorem BkQ.keeps {L : List Nat} {w w' : World} {G : Option Nat} {ps : List Nat} {m : Int} {xs : List Value} (h3 : BIn w q G m ps xs) (h2 : w.heap[t]? = some (.cells #[ptr q, .int .i64 b.o] 47 (0, 0))) (hT : Turned (q :: G.toList) w w') :
    w'.heap[t]? = some (.cells #[ptr q, .int .i64 b.o] 47 (0, 0)) ∧ U8Keep w w' := by
  refine ⟨hT.at_ h2 (fun hm => ?_), fun i cur fr hi => hT.block i (block_lt hi) (fun hm => ?_)⟩
  · have hq : t = q ∨ G = some t ∨ t ∈ ps := by simp at hm; exact hm.elim .inl (fun h => .inr (.inl h))
    obtain ⟨c, T, h5, _, h6⟩ := bin_type h3 hq
    exact type_ne h5 h2 h6 rfl
  · have hq : i = q ∨ G = some i ∨ i ∈ ps := by simp at hm; exact hm.elim .inl (fun h => .inr (.inl h))
    obtain ⟨c, T, h5, h6, _⟩ := bin_type h3 hq
    exact type_ne h5 hi h6 rfl
/-- what the queue's Put makes of it -/
theorem BkQ.put {w1 : World} {A : Option Addr} {c : Nat} {l : List Int} (h : BkQ S w t q b) (hb : Below w.heap.size w w1) (ho : OwnB w1 0 (.slice A l.length c) l) (hmax : l.length ≤ 1000000) :
    Calls Try.prog 26 #[ptr q, .slice A l.length c] w1 fun e w' => e = .returned (.bool (putsL b)) ∧ Hid (BkNowP S t (putL l b) w w' ∧ w'.cell? ⟨t, 0, none⟩ = some (ptr q)) := by
  have h' := h.below hb
  obtain ⟨G, ps, us, h1, h2, h3, h4, hS⟩ := h'.ex
  have hul : us.length = b.l.length := by rw [← h1, List.length_map]
  have hpl : ps.length = b.l.length := by rw [h3.len, List.length_map, hul]
  by_cases hlt : b.l.length < b.m
  · have hp := putL_yes l hlt
    have hbig := h.mb
    refine (putB_yes h3 (A, l.length, c) (by omega) (by omega)).mono ?_
    rintro e w' ⟨rfl, H⟩
    obtain ⟨G', p, k1, k2, k3, k4⟩ := H.out
    obtain ⟨t2, tu⟩ := BkQ.keeps (L := []) h3 h2 k2
    refine ⟨by rw [hp.2], cover ⟨⟨bkfoot t q G' (ps ++ [p]), ⟨q, LOk.put l h.ok, by rw [putL_m]; exact h.mb, fun x hx => ?_, G', ps ++ [p], us ++ [⟨A, c, l⟩], by rw [hp.1, List.map_append, h1]; rfl, by rw [hp.1]; exact t2, by rw [putL_m, List.map_append]; exact k1, fun u hu => ?_, rfl⟩, ?_⟩, (two_c t2).1⟩⟩
    · rw [hp.1] at hx
      rcases List.mem_append.1 hx with hx | hx
      · exact h.sh x hx
      · simp at hx; subst hx; exact hmax
    · rcases List.mem_append.1 hu with hu | hu
      · exact own_u8 (h4 u hu) tu
      · simp at hu; subst hu; exact own_u8 ho tu
    · refine Moves.after hb (Moves.of_turned k2 (fun i hi => ?_) (fun i hi => ?_))
      · rw [hS]; simp at hi
        rcases hi with hi | hi
        · exact .inr (.inl hi)
        · exact .inr (.inr (.inl hi))
      · rw [hS]
        rcases hi with hi | hi | hi | hi
        · exact .inl (.inl hi)
        · exact .inl (.inr (.inl hi))
        · rcases k3 with e | ⟨g, e, hg⟩
          · exact .inl (.inr (.inr (.inl (by rw [← e]; exact hi))))
          · rw [e] at hi; injection hi with hi; exact .inr (by omega)
        · rcases List.mem_append.1 hi with hi | hi
          · exact .inl (.inr (.inr (.inr hi)))
          · simp at hi; subst hi; exact .inr k4
  · have hp := putL_no l hlt
    refine (putB_no h3 (A, l.length, c) (by omega)).mono ?_
    rintro e w' ⟨rfl, rfl⟩
    exact ⟨by rw [hp.2], cover ⟨by rw [hp.1]; exact BkNowP.same ⟨q, h⟩ hb, (two_c h2).1⟩⟩
theorem BkQ.cut (h : BkQ S w t q b) (k : Nat) (hk : k ≤ b.l.length) (b' : LV (List Int)) (h1k : 1 ≤ k) (hb' : b' = { b with l := b.l.drop k }) (hok : LOk b') :
    Calls Try.prog 29 #[ptr q, .int .i64 k] w fun e w' => e = .returned (.int .i64 k) ∧ Hid (BkNowP S t b' w w' ∧ w'.cell? ⟨t, 0, none⟩ = some (ptr q)) := by
  subst hb'
  obtain ⟨G, ps, us, h1, h2, h3, h4, hS⟩ := h.ex
  have hul : us.length = b.l.length := by rw [← h1, List.length_map]
  have hpl : ps.length = b.l.length := by rw [h3.len, List.length_map, hul]
  have hm := h.mb
  have hm2 := h.ok.2
  refine (cutB_some h3 k k h1k (by omega) (by omega)).mono ?_
  rintro e w' ⟨rfl, H⟩
  obtain ⟨k1, k2⟩ := H.out
  obtain ⟨t2, tu⟩ := BkQ.keeps (L := []) h3 h2 k2
  refine ⟨rfl, cover ⟨⟨bkfoot t q G (ps.drop k), ⟨q, hok, h.mb, fun x hx => h.sh x (List.mem_of_mem_drop hx), G, ps.drop k, us.drop k, by rw [List.map_drop, h1], t2, by rw [List.map_drop]; exact k1, fun u hu => own_u8 (h4 u (List.mem_of_mem_drop hu)) tu, rfl⟩, ?_⟩, (two_c t2).1⟩⟩
  refine Moves.of_turned k2 (fun i hi => ?_) (fun i hi => ?_)
  · rw [hS]; simp at hi
    rcases hi with hi | hi
    · exact .inr (.inl hi)
    · exact .inr (.inr (.inl hi))
  · rw [hS]
    rcases hi with hi | hi | hi | hi
    · exact .inl (.inl hi)
    · exact .inl (.inr (.inl hi))
    · exact .inl (.inr (.inr (.inl hi)))
    · exact .inl (.inr (.inr (.inr (List.mem_of_mem_drop hi))))
theorem BkQ.peek (h : BkQ S w t q b) (hlt : b.o < b.l.length) : ∃ u : SL, u.l = b.l[b.o] ∧ OwnB w 0 u.val u.l ∧ ∀ d, Calls Try.prog 28 #[ptr q, .int .i64 b.o] (w.drewN d) fun e w' => e = .returned (.tuple #[u.val, .bool true]) ∧ w' = w.drewN d := by
  obtain ⟨G, ps, us, h1, h2, h3, h4, hS⟩ := h.ex
  have hul : us.length = b.l.length := by rw [← h1, List.length_map]
  obtain ⟨u, hu⟩ : ∃ u, us[b.o]? = some u := ⟨_, List.getElem?_eq_getElem (by omega)⟩
  have hx : b.l[b.o] = u.l := by
    have : b.l[b.o]? = some u.l := by rw [← h1, List.getElem?_map, hu]; rfl
    rw [List.getElem?_eq_getElem hlt] at this
    injection this
  exact ⟨u, hx.symm, h4 u (List.mem_of_getElem? hu), fun d => (peekB_yes (h3.drewN d) b.o u.val (by rw [List.getElem?_map, hu]; rfl)).mono fun e w' ⟨he, hw⟩ => ⟨he, hw.symm⟩⟩
set_option maxRecDepth 100000 in
set_option maxHeartbeats 1600000 in
theorem bkput_any (h : BkP S w t b) (A : Option Addr) (n c B : Nat) (l : List Int) (hr : Row w B A n l) (hB : B ≤ w.heap.size) (hmax : n ≤ 1000000) :
    Calls Try.prog 10 #[ptr t, .slice A n c] w fun e w' => e = .returned (.bool (putsL b)) ∧ Hid (BkNowP S t (putL l b) w w') := by
  obtain ⟨q, h⟩ := h
  have HX := cover h
  have HLN : Hid (l.length ≤ 1000000) := cover (by rw [hr.len]; exact hmax)
  have HC : Hid (∀ W', Below w.heap.size w W' → Calls Try.prog 27 #[.slice A n c] W' (GivesB W' l)) := cover fun W' hb => clone_any A n c B l W' (hr.below (hb.mono hB)) (Nat.le_trans hB hb.size) (by omega)
  have HK : Hid (∀ W', Below w.heap.size w W' → W'.cell? ⟨t, 0, none⟩ = some (ptr q)) := cover fun W' hb => (two_c (HX.out.below hb).head).1
  clear h hr hB hmax
  go_enter Try.func10, Try.ntmps10
  go_upto_region 1 with fail
  have mixed : Try.prog.follows .mixedOrders = true := by kernel_rfl
  refine (wpIn_wide (n := 0)).1 ?_
  refine held_begin (fun W' : World => W'.cell? ⟨t, 0, none⟩ = some (ptr q) ∧ True) 99 mixed ?_
  have HS : (fun W' : World => W'.cell? ⟨t, 0, none⟩ = some (ptr q) ∧ True) w.drew := ⟨HK.out _ (Below.refl _ _).drew, trivial⟩
  refine hold_take 0 _ rfl (by kernel_rfl) (by kernel_rfl) (by kernel_rfl) (by kernel_rfl) (by kernel_rfl) (fun _ _ _ h => h) (by rfl) (fun _ => rfl) HS (fun w' hS => by obtain ⟨q0, q1⟩ := hS; go_simp; rfl) ?_
  simp only [Act.put, List.setIfInBounds_toArray, List.set_cons_zero, List.set_cons_succ]
  refine hold_take 1 _ rfl (by kernel_rfl) (by kernel_rfl) (by kernel_rfl) (by kernel_rfl) (by kernel_rfl) (fun _ _ _ h => h) (by rfl) (fun _ => rfl) HS (fun w' hS => by obtain ⟨q0, q1⟩ := hS; go_simp; rfl) ?_
  simp only [Act.put, List.setIfInBounds_toArray, List.set_cons_zero, List.set_cons_succ]
  refine hold_take 2 _ rfl (by kernel_rfl) (by kernel_rfl) (by kernel_rfl) (by kernel_rfl) (by kernel_rfl) (fun _ _ _ h => h) (by rfl) (fun _ => rfl) HS (fun w' hS => by obtain ⟨q0, q1⟩ := hS; go_simp; rfl) ?_
  simp only [Act.put, List.setIfInBounds_toArray, List.set_cons_zero, List.set_cons_succ]
  refine hold_take 3 _ rfl (by kernel_rfl) (by kernel_rfl) (by kernel_rfl) (by kernel_rfl) (by kernel_rfl) (fun _ _ _ h => h) (by rfl) (fun _ => rfl) HS (fun w' hS => by obtain ⟨q0, q1⟩ := hS; go_simp; rfl) ?_
  simp only [Act.put, List.setIfInBounds_toArray, List.set_cons_zero, List.set_cons_succ]
  refine hold_take 4 _ rfl (by kernel_rfl) (by kernel_rfl) (by kernel_rfl) (by kernel_rfl) (by kernel_rfl) (fun _ _ _ h => h) (by rfl) (fun _ => rfl) HS (fun w' hS => by obtain ⟨q0, q1⟩ := hS; go_simp; rfl) ?_
  simp only [Act.put, List.setIfInBounds_toArray, List.set_cons_zero, List.set_cons_succ]
  refine hold_take 5 _ rfl (by kernel_rfl) (by kernel_rfl) (by kernel_rfl) (by kernel_rfl) (by kernel_rfl) (fun _ _ _ h => h) (by rfl) (fun _ => rfl) HS (fun w' hS => by obtain ⟨q0, q1⟩ := hS; go_simp; rfl) ?_
  simp only [Act.put, List.setIfInBounds_toArray, List.set_cons_zero, List.set_cons_succ]
  refine hold_take 6 _ rfl (by kernel_rfl) (by kernel_rfl) (by kernel_rfl) (by kernel_rfl) (by kernel_rfl) (fun _ _ _ h => h) (by rfl) (fun _ => rfl) HS (fun w' hS => by obtain ⟨q0, q1⟩ := hS; go_simp; rfl) ?_
  simp only [Act.put, List.setIfInBounds_toArray, List.set_cons_zero, List.set_cons_succ]
  refine hold_take 7 _ rfl (by kernel_rfl) (by kernel_rfl) (by kernel_rfl) (by kernel_rfl) (by kernel_rfl) (fun _ _ _ h => h) (by rfl) (fun _ => rfl) HS (fun w' hS => by obtain ⟨q0, q1⟩ := hS; go_simp; rfl) ?_
  simp only [Act.put, List.setIfInBounds_toArray, List.set_cons_zero, List.set_cons_succ]
  refine hold_one 8 (by kernel_rfl) rfl (by rfl) fun K hK => ?_
  go_simp
  refine ⟨trivial, rfl, (callsIn_wide.2 (HC.out _ (Below.refl _ _).drew)).mono ?_⟩
  rintro e w2 ⟨A2, c2, rfl, ho2, hb02⟩
  have hb2 : Below w.heap.size w w2 := (Below.refl _ _).drew.trans hb02
  have HP := cover (HX.out.put hb2 (ho2.mono (Nat.zero_le _)) HLN.out)
  refine hK _ _ (.inr ⟨HK.out _ hb2, trivial⟩) ?_
  clear hK K hb02 ho2 HC
  refine hold_one 9 (by kernel_rfl) rfl (by rfl) fun K2 hK2 => ?_
  go_simp
  refine ⟨trivial, rfl, (callsIn_wide.2 HP.out).mono ?_⟩
  rintro e w3 ⟨rfl, hN⟩
  have HN := cover hN.out.1
  have HS3 : (fun W' : World => W'.cell? ⟨t, 0, none⟩ = some (ptr q) ∧ True) w3 := ⟨hN.out.2, trivial⟩
  refine hK2 _ _ (.inr HS3) ?_
  clear hK2 K2 hN HP hb2 HK
  refine hold_one 10 (by kernel_rfl) rfl (by rfl) fun K5 hK5 => ?_
  go_simp
  refine hK5 _ _ (.inr HS3) ?_
  clear hK5 K5
  refine hold_one 11 (by kernel_rfl) rfl (by rfl) fun K6 hK6 => ?_
  go_simp
  refine hK6 _ _ (.inr HS3) ?_
  clear hK6 K6
  refine held_done (by kernel_rfl) ?_ _
  go_wp2
  go_ret
  exact ⟨rfl, HN⟩
theorem bknext_no (h : BkP S w t b) (hlt : ¬ b.o < b.l.length) :
    Calls Try.prog 11 #[ptr t] w fun e w' => e = .returned (.tuple #[.slice none 0 0, .bool false]) ∧ w = w' := by
  have HW := bkwaits_any h
  rw [show b.l.length - b.o = 0 by omega] at HW
  have HWW := cover HW
  clear h hlt HW
  go_enter Try.func11, Try.ntmps11
  go_wp2_with (go_at_call 24; refine HWW.out.mono ?_; rintro e w' ⟨rfl, rfl⟩)
  go_ret2
  exact ⟨rfl, rfl⟩
set_option maxRecDepth 100000 in
set_option maxHeartbeats 1600000 in
theorem bknext_yes (h : BkP S w t b) (hlt : b.o < b.l.length) :
    Calls Try.prog 11 #[ptr t] w fun e w' => ∃ A c, e = .returned (.tuple #[.slice A (b.l[b.o]).length c, .bool true]) ∧ Hid (OwnB w' w.heap.size (.slice A (b.l[b.o]).length c) b.l[b.o] ∧ BkP S w' t (nextL b) ∧ Moves S S w w') := by
  have HWW := cover (bkwaits_any h)
  obtain ⟨q, h⟩ := h
  have h1 := h.ok.1
  have h2 := h.ok.2
  have h3 := h.mb
  obtain ⟨k, hk⟩ : ∃ k, k = b.l.length - b.o := ⟨_, rfl⟩
  rw [← hk] at HWW
  have hk0 : (k : Int) ≠ 0 := by omega
  obtain ⟨u, hu, hO, hP⟩ := h.peek hlt
  have HP := cover hP
  have HUL : Hid (u.l.length ≤ 1000000) := cover (by rw [hu]; exact h.sh _ (List.getElem_mem _))
  have hn := h.num (b.o + 1) (by omega)
  obtain ⟨o, ho⟩ : ∃ o : Nat, o = b.o := ⟨_, rfl⟩
  have T1 := h.head
  rw [← ho] at T1 HP hn
  have hw1 : wrap64 ((o : Int) + 1) = (o : Int) + 1 := IntWalk.wrap64_in _ ⟨by omega, by omega⟩
  have HX := cover (And.intro h.t_in (And.intro h.nob hO))
  have HE : Hid (nextL b = { b with o := o + 1 }) := cover (by rw [ho, (nextL_yes hlt).1])
  have HN : Hid (∀ d W, W = (w.drewN d).setCell ⟨t, 1, none⟩ (.int .i64 ((o : Int) + 1)) → BkP S W t (nextL b) ∧ Moves S S w W ∧ OwnB W 0 u.val u.l ∧ w.heap.size ≤ W.heap.size) := cover fun d W hW => by
    have hd := (h.drewN d).num (o + 1) (by omega)
    have hm : Moves S S w W := by rw [hW]; exact ((Moves.refl S w).drewN d).setCell (.inl h.t_in) _ _
    exact ⟨⟨q, by rw [HE.out, hW]; exact hd.1⟩, hm, own_u8 hO (U8Keep.of_moves h.nob hm), hm.size⟩
  rw [← hu]
  clear h h1 h2 h3 hk hO hP ho hlt hu hn
  obtain ⟨c0, c1⟩ := two_c T1
  have HT1 := cover T1
  clear T1
  go_enter Try.func11, Try.ntmps11
  go_upto_region 3 with (go_at_call 24; refine HWW.out.mono ?_; rintro e w' ⟨rfl, rfl⟩)
  go_quiet ((go_at_call 28; exact Calls.quiet_of_same (HP.out _)))
  have T2 : (w.drewN nq).heap[t]? = some (.cells #[ptr q, .int .i64 o] 47 (0, 0)) := HT1.out
  have HN1 := cover (HN.out nq)
  have HS : Hid (w.heap.size = (w.drewN nq).heap.size) := cover rfl
  generalize w.drewN nq = w1 at T2 HN1 HS ⊢
  clear c0 c1 HN HWW HP
  obtain ⟨c0, c1⟩ := two_c T2
  have F1 := not_frozen T2 1
  obtain ⟨w2, hw2⟩ : ∃ w2, Hid (w2 = w1.setCell ⟨t, 1, none⟩ (.int .i64 ((o : Int) + 1))) := ⟨_, cover rfl⟩
  have H2 := cover (HN1.out w2 hw2.out)
  clear T2 HN1
  go_wp2_with (first
    | (rw [← hw2.out]; clear c0 c1 F1)
    | (go_at_call 27; refine (clone_any u.A u.l.length u.c _ u.l _ (OwnB.row H2.out.2.2.1) (Nat.le_refl _) (by have := HUL.out; omega)).mono ?_; rintro e w3 ⟨A3, c3, rfl, ho3, hb3⟩))
  have HF : Hid (OwnB w3 w.heap.size (.slice A3 u.l.length c3) u.l ∧ BkP S w3 t (nextL b) ∧ Moves S S w w3) := cover ⟨ho3.mono H2.out.2.2.2, H2.out.1.below hb3, H2.out.2.1.then_below hb3⟩
  clear ho3 hb3 H2
  go_ret2
  exact ⟨A3, c3, rfl, HF⟩
theorem bkagain_any (h : BkP S w t b) :
    Calls Try.prog 12 #[ptr t] w fun e w' => e = .returned (.int .i64 b.o) ∧ Hid (BkNowP S t (againL b) w w') := by
  obtain ⟨q, h⟩ := h
  have hn := h.num 0 (Nat.zero_le _)
  obtain ⟨w2, hw2⟩ : ∃ w2, Hid (w2 = w.setCell ⟨t, 1, none⟩ (.int .i64 0)) := ⟨_, cover rfl⟩
  have HN : Hid (BkNowP S t (againL b) w w2) := cover ⟨S, by rw [hw2.out]; exact ⟨⟨q, hn.1⟩, hn.2⟩⟩
  have T1 := h.head
  obtain ⟨c0, c1⟩ := two_c T1
  have F1 := not_frozen T1 1
  clear h hn T1
  go_enter Try.func12, Try.ntmps12
  go_wp2_with (rw [← hw2.out])
  go_ret
  exact ⟨rfl, HN⟩
theorem BkNowP.after {S S' : Foot} {w w1 w2 : World} {t : Nat} {b : LV (List Int)} (hm : Moves S S' w w1) (h : BkNowP S' t b w1 w2) : BkNowP S t b w w2 := by
  obtain ⟨S2, h1, h2⟩ := h
  exact ⟨S2, h1, hm.trans h2⟩
set_option maxHeartbeats 1600000 in
theorem bkclear_any (h : BkP S w t b) :
    Calls Try.prog 21 #[ptr t] w fun e w' => e = .returned (.int .i64 b.l.length) ∧ Hid (BkNowP S t (clearL b) w w') := by
  obtain ⟨q, h⟩ := h
  have hn := h.num 0 (Nat.zero_le _)
  obtain ⟨w2, hw2⟩ : ∃ w2, Hid (w2 = w.setCell ⟨t, 1, none⟩ (.int .i64 0)) := ⟨_, cover rfl⟩
  have hn2 : BkQ S w2 t q { b with o := 0 } ∧ Moves S S w w2 := by rw [hw2.out]; exact hn
  obtain ⟨k, hk⟩ : ∃ k, k = b.l.length := ⟨_, rfl⟩
  have HL : Hid (∀ d, Calls Try.prog 30 #[ptr q] (w2.drewN d) fun e w' => e = .returned (.int .i64 k) ∧ w' = w2.drewN d) := cover fun d => (hn2.1.drewN d).lenQ.mono fun e w' ⟨he, hw⟩ => ⟨by rw [he, hk], hw.symm⟩
  have HC : Hid (∀ d, Calls Try.prog 29 #[ptr q, .int .i64 k] (w2.drewN d) fun e w' => e = .returned (.int .i64 k) ∧ Hid (BkNowP S t (clearL b) w w' ∧ w'.cell? ⟨t, 0, none⟩ = some (ptr q))) := cover fun d => by
    have hd := hn2.1.drewN d
    have hmd := hn2.2.drewN d
    by_cases h0 : k = 0
    · obtain ⟨G, ps, us, h1, h2, h3, h4, hS⟩ := hd.ex
      have hpl : ps.length = b.l.length := by rw [h3.len, List.length_map]; exact (by rw [← h1, List.length_map] : us.length = b.l.length)
      refine (cutB_none h3 k (.inr (by omega))).mono ?_
      rintro e w' ⟨rfl, rfl⟩
      have hl : b.l = [] := List.length_eq_zero_iff.1 (by omega)
      refine ⟨by rw [h0]; rfl, cover ⟨BkNowP.after hmd ⟨S, ⟨q, ?_⟩, Moves.refl _ _⟩, (two_c h2).1⟩⟩
      have : clearL b = { b with o := 0 } := by unfold clearL; rw [hl]
      rw [this]; exact hd
    · refine (hd.cut k (by show k ≤ b.l.length; omega) (clearL b) (by omega) (by unfold clearL; simp only; rw [List.drop_of_length_le (by omega)]) (LOk.clear b)).mono ?_
      rintro e w' ⟨rfl, H⟩
      exact ⟨rfl, cover ⟨BkNowP.after hmd H.out.1, H.out.2⟩⟩
  have T1 := h.head
  have T2 := hn2.1.head
  obtain ⟨c0, c1⟩ := two_c T1
  have F1 := not_frozen T1 1
  rw [← hk]
  clear h hn T1 hk hn2
  obtain ⟨d0, d1⟩ := two_c T2
  clear T2
  go_enter Try.func21, Try.ntmps21
  go_upto_region 4 with (rw [← hw2.out]; clear c0 c1 F1)
  clear d1
  have mixed : Try.prog.follows .mixedOrders = true := by kernel_rfl
  refine (wpIn_wide (n := 0)).1 ?_
  refine held_begin (fun W' : World => W'.cell? ⟨t, 0, none⟩ = some (ptr q) ∧ True) 99 mixed ?_
  have HS : (fun W' : World => W'.cell? ⟨t, 0, none⟩ = some (ptr q) ∧ True) w2.drew := ⟨d0, trivial⟩
  refine hold_take 0 _ rfl (by kernel_rfl) (by kernel_rfl) (by kernel_rfl) (by kernel_rfl) (by kernel_rfl) (fun _ _ _ h => h) (by rfl) (fun _ => rfl) HS (fun w' hS => by obtain ⟨q0, q1⟩ := hS; go_simp; rfl) ?_
  simp only [Act.put, List.setIfInBounds_toArray, List.set_cons_zero, List.set_cons_succ]
  refine hold_take 1 _ rfl (by kernel_rfl) (by kernel_rfl) (by kernel_rfl) (by kernel_rfl) (by kernel_rfl) (fun _ _ _ h => h) (by rfl) (fun _ => rfl) HS (fun w' hS => by obtain ⟨q0, q1⟩ := hS; go_simp; rfl) ?_
  simp only [Act.put, List.setIfInBounds_toArray, List.set_cons_zero, List.set_cons_succ]
  refine hold_take 2 _ rfl (by kernel_rfl) (by kernel_rfl) (by kernel_rfl) (by kernel_rfl) (by kernel_rfl) (fun _ _ _ h => h) (by rfl) (fun _ => rfl) HS (fun w' hS => by obtain ⟨q0, q1⟩ := hS; go_simp; rfl) ?_
  simp only [Act.put, List.setIfInBounds_toArray, List.set_cons_zero, List.set_cons_succ]
  refine hold_take 3 _ rfl (by kernel_rfl) (by kernel_rfl) (by kernel_rfl) (by kernel_rfl) (by kernel_rfl) (fun _ _ _ h => h) (by rfl) (fun _ => rfl) HS (fun w' hS => by obtain ⟨q0, q1⟩ := hS; go_simp; rfl) ?_
  simp only [Act.put, List.setIfInBounds_toArray, List.set_cons_zero, List.set_cons_succ]
  refine hold_take 4 _ rfl (by kernel_rfl) (by kernel_rfl) (by kernel_rfl) (by kernel_rfl) (by kernel_rfl) (fun _ _ _ h => h) (by rfl) (fun _ => rfl) HS (fun w' hS => by obtain ⟨q0, q1⟩ := hS; go_simp; rfl) ?_
  simp only [Act.put, List.setIfInBounds_toArray, List.set_cons_zero, List.set_cons_succ]
  refine hold_take 5 _ rfl (by kernel_rfl) (by kernel_rfl) (by kernel_rfl) (by kernel_rfl) (by kernel_rfl) (fun _ _ _ h => h) (by rfl) (fun _ => rfl) HS (fun w' hS => by obtain ⟨q0, q1⟩ := hS; go_simp; rfl) ?_
  simp only [Act.put, List.setIfInBounds_toArray, List.set_cons_zero, List.set_cons_succ]
  refine hold_take 6 _ rfl (by kernel_rfl) (by kernel_rfl) (by kernel_rfl) (by kernel_rfl) (by kernel_rfl) (fun _ _ _ h => h) (by rfl) (fun _ => rfl) HS (fun w' hS => by obtain ⟨q0, q1⟩ := hS; go_simp; rfl) ?_
  simp only [Act.put, List.setIfInBounds_toArray, List.set_cons_zero, List.set_cons_succ]
  refine hold_take 7 _ rfl (by kernel_rfl) (by kernel_rfl) (by kernel_rfl) (by kernel_rfl) (by kernel_rfl) (fun _ _ _ h => h) (by rfl) (fun _ => rfl) HS (fun w' hS => by obtain ⟨q0, q1⟩ := hS; go_simp; rfl) ?_
  simp only [Act.put, List.setIfInBounds_toArray, List.set_cons_zero, List.set_cons_succ]
  refine hold_one 8 (by kernel_rfl) rfl (by rfl) fun K hK => ?_
  go_simp
  refine ⟨trivial, rfl, (callsIn_wide.2 (HL.out 1)).mono ?_⟩
  rintro e w3 ⟨rfl, rfl⟩
  refine hK _ _ (.inr HS) ?_
  clear hK K HL
  refine hold_one 9 (by kernel_rfl) rfl (by rfl) fun K2 hK2 => ?_
  go_simp
  refine ⟨trivial, rfl, (callsIn_wide.2 (HC.out 1)).mono ?_⟩
  rintro e w3 ⟨rfl, hN⟩
  have HN := cover hN.out.1
  have HS3 : (fun W' : World => W'.cell? ⟨t, 0, none⟩ = some (ptr q) ∧ True) w3 := ⟨hN.out.2, trivial⟩
  refine hK2 _ _ (.inr HS3) ?_
  clear hK2 K2 hN HC
  refine hold_one 10 (by kernel_rfl) rfl (by rfl) fun K5 hK5 => ?_
  go_simp
  refine hK5 _ _ (.inr HS3) ?_
  clear hK5 K5
  refine held_done (by kernel_rfl) ?_ _
  go_wp2
  go_ret
  exact ⟨rfl, HN⟩
set_option maxHeartbeats 1600000 in
theorem bkacked_any (h : BkP S w t b) (n : Int) :
    Calls Try.prog 13 #[ptr t, .int .i64 n] w fun e w' => e = .returned (.int .i64 (goneL n b)) ∧ Hid (BkNowP S t (ackL n b) w w') := by
  have HO := cover (bkout_any h)
  obtain ⟨k, hk⟩ : ∃ k, k = goneL n b := ⟨_, rfl⟩
  have hG := goneL_int n b
  have hle := goneL_le n b
  rw [← hk] at hG hle
  rw [← hk]
  obtain ⟨o, ho⟩ : ∃ o : Nat, o = b.o := ⟨_, rfl⟩
  rw [← ho] at HO hG hle
  by_cases h0 : k = 0
  · have HE : Hid (∀ d, BkNowP S t (ackL n b) w (w.drewN d)) := cover fun d => by
      have : ackL n b = b := by unfold ackL; rw [← hk, h0]; rfl
      rw [this]; exact BkNowP.same h (below_drewN (Below.refl _ _) d)
    subst h0
    by_cases hno : (o : Int) < n
    · have h9 : (o : Int) < 1 := by omega
      clear h hG hle hk ho
      go_enter Try.func13, Try.ntmps13
      go_wp2_with (go_at_call 23; refine HO.out.mono ?_; rintro e w' ⟨rfl, rfl⟩)
      go_ret
      exact ⟨rfl, cover (HE.out 0)⟩
    · have h9 : n < 1 := by omega
      clear h hG hle hk ho
      go_enter Try.func13, Try.ntmps13
      go_wp2_with (go_at_call 23; refine HO.out.mono ?_; rintro e w' ⟨rfl, rfl⟩)
      go_ret
      exact ⟨rfl, cover (HE.out 0)⟩
  · have hlen := h.ok.1
    have hm1 := h.ok.2
    have hm2 := h.mb
    have hokA := LOk.ack n h.ok
    obtain ⟨q, h⟩ := h
    have hn := h.num (o - k) (by omega)
    obtain ⟨w2, hw2⟩ : ∃ w2, Hid (w2 = w.setCell ⟨t, 1, none⟩ (.int .i64 ((o - k : Nat) : Int))) := ⟨_, cover rfl⟩
    have hn2 : BkQ S w2 t q { b with o := o - k } ∧ Moves S S w w2 := by rw [hw2.out]; exact hn
    have HC : Hid (Calls Try.prog 29 #[ptr q, .int .i64 k] w2 fun e w' => e = .returned (.int .i64 k) ∧ Hid (BkNowP S t (ackL n b) w w')) := cover (by
      refine (hn2.1.cut k (by show k ≤ b.l.length; omega) (ackL n b) (by omega) (by unfold ackL; rw [← hk, ho]) hokA).mono ?_
      rintro e w' ⟨rfl, H⟩
      exact ⟨rfl, cover (BkNowP.after hn2.2 H.out.1)⟩)
    have hws : wrap64 ((o : Int) - (k : Int)) = ((o - k : Nat) : Int) := (IntWalk.wrap64_in _ ⟨by omega, by omega⟩).trans (by omega)
    have T1 := h.head
    have T2 := hn2.1.head
    rw [← ho] at T1
    obtain ⟨c0, c1⟩ := two_c T1
    have F1 := not_frozen T1 1
    have hk1 : ¬ (k : Int) < 1 := by omega
    by_cases hno : (o : Int) < n
    · have hko : k = o := by omega
      subst hko
      have hw3 : Hid (w2 = w.setCell ⟨t, 1, none⟩ (.int .i64 0)) := cover (by rw [hw2.out, Nat.sub_self]; rfl)
      clear h hn T1 hk hn2 hG hle ho hlen hm1 hm2 hokA h0 hws
      obtain ⟨d0, d1⟩ := two_c T2
      clear T2
      go_enter Try.func13, Try.ntmps13
      go_wp2_with (first
        | (go_at_call 23; refine HO.out.mono ?_; rintro e w' ⟨rfl, rfl⟩)
        | (rw [← hw3.out]; clear c0 c1 F1)
        | (go_at_call 29; refine HC.out.mono ?_; rintro e w3 ⟨rfl, HN⟩))
      go_ret
      exact ⟨rfl, HN⟩
    · have hnk : n = (k : Int) := by omega
      subst hnk
      clear h hn T1 hk hn2 hG hle ho hlen hm1 hm2 hokA h0
      obtain ⟨d0, d1⟩ := two_c T2
      clear T2
      go_enter Try.func13, Try.ntmps13
      go_wp2_with (first
        | (go_at_call 23; refine HO.out.mono ?_; rintro e w' ⟨rfl, rfl⟩)
        | (rw [← hw2.out]; clear c0 c1 F1)
        | (go_at_call 29; refine HC.out.mono ?_; rintro e w3 ⟨rfl, HN⟩))
      go_ret
      exact ⟨rfl, HN⟩
end
end Go.Proofs.Ytefbmhkchlhgnaa
