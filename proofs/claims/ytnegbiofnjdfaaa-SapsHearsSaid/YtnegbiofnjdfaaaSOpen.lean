/- What Open, Join and Leave do. -/
import Derived.Deep.RegionHeld3
import Derived.Test.YtnegbiofnjdfaaaSDel
namespace Go.Proofs.Ytnegbiofnjdfaaa
open Go.RowKit
set_option linter.unusedVariables false

/-- the Saps is such now; of what there was its own blocks alone have turned -/
def SNow (s a b : Nat) (l : List SV) (w w' : World) : Prop := SapsIn w' s a b l ∧ Moves (sfoot s a b) (sfoot s a b) w w'
theorem SNow.below {w w' : World} {s a b : Nat} {l : List SV} (h : SapsIn w s a b l) (hb : Below w.heap.size w w') : SNow s a b l w w' := ⟨h.below hb, Moves.of_below _ hb⟩
theorem SNow.same {w : World} {s a b : Nat} {l : List SV} (h : SapsIn w s a b l) : SNow s a b l w w := ⟨h, Moves.refl _ _⟩
theorem moves_turned {w w' : World} {s a b i : Nat} (h : w.mapTurned w' i) (hi : sfoot s a b i) : Moves (sfoot s a b) (sfoot s a b) w w' := by
  have hg := h.grown
  exact ⟨hg.os, hg.tape, hg.output, hg.size, fun k hk hn => hg.block k hk (fun e => hn (by cases e; exact hi)), fun k hk => .inl hk⟩
theorem turned_size {w w' : World} {i : Nat} (h : w.mapTurned w' i) : w'.heap.size = w.heap.size := by
  obtain ⟨es, c, es', c', _, rfl⟩ := h
  simp [ChangeMaps.setBlock]
/-- one SAP more that is active -/
theorem put_act {w : World} {s a b : Nat} {l : List SV} (h : SapsIn w s a b l) {n c : Int} (he : openE l n c = 0) :
    ∃ w', (Instr.mapUpdate 49 (.map (some a)) (.int .i64 n) (.agg #[.int .i64 c])).run Try.prog w = .ok () w' ∧ SNow s a b (openS l n c) w w' := by
  obtain ⟨h1, h2, h3, h4⟩ := openE_0 he
  obtain ⟨D, k1, k2⟩ := h.act.ex
  have hsz := (act_keys h.ok k1 k2).2
  obtain ⟨w', hr, ho, ht⟩ := k1.store lawI Try.underlying49 (by unfold maxLen; omega) (key_I (sap_64 h1)) (openElem_mk c)
  have hos : openS l n c = insS ⟨n, c, []⟩ l := by unfold openS; rw [if_pos he]
  have hg := ht.grown
  have hkeep : ∀ i, i < w.heap.size → i ≠ a → w'.heap[i]? = w.heap[i]? := fun i hi hne => hg.block i hi (by simpa using hne)
  refine ⟨w', hr, ⟨(hkeep s (h.lt (.inl rfl)) h.sa.1).trans h.hd, ⟨_, own_tight ho, fun x hx z => ?_⟩, ?_, h.ab, h.ok.open n c⟩, moves_turned ht (.inr (.inl rfl))⟩
  · rw [hos, has_ins, cls_ins h3]
    by_cases e : x = n
    · subst e
      rw [Maps.atKey_put_same k1.isMap (lawI.key (key_I hx))]
      simp
    · rw [Maps.atKey_put_other (fun e2 => e (kI_inj e2)), k2 x hx z, if_neg (show ¬ n = x by omega), show ((n == x) = false) by simp; omega]
      rfl
  · obtain ⟨D2, j1, j2⟩ := h.seat.ex
    refine ⟨D2, own_kept j1 (hkeep b (h.lt (.inr (.inr rfl))) (fun e => h.ab e.symm)), fun x g hx hg' => ?_⟩
    rw [j2 x g hx hg', hos, mem_ins h3]
    split
    · rename_i e
      rw [mem_no (by rw [← e]; exact h3)]; rfl
    · rfl
set_option maxRecDepth 100000 in
set_option maxHeartbeats 1600000 in
theorem open_any {w : World} {s a b : Nat} {l : List SV} (h : SapsIn w s a b l) {n c : Int} (hn : I64 n) :
    Calls Try.prog 11 #[ptr s, .int .i64 n, .int .i64 c] w fun e w' => e = .returned (.int .i64 (openE l n c)) ∧ Hid (SNow s a b (openS l n c) w w') := by
  have c1 := isSap_any n
  have c2 := isClass_any c
  by_cases hs : OkSap n
  · by_cases hc : OkCls c
    · rw [decide_eq_true hs] at c1
      rw [decide_eq_true hc] at c2
      have c3 := isActive_any h hn
      cases hh : hasS l n
      · rw [hh] at c3
        have H := cover h
        have HE : Hid (openE l n c = if 16 ≤ l.length then 6 else 0) := cover (by unfold openE; rw [if_pos ⟨hs, hc⟩, hh]; rfl)
        clear h hs hc hh
        go_enter Try.func11, Try.ntmps11
        go_wp2_with (first
          | (go_at_call 23; refine (c1 _).mono ?_; rintro e w' ⟨rfl, rfl⟩)
          | (go_at_call 24; refine (c2 _).mono ?_; rintro e w' ⟨rfl, rfl⟩)
          | (go_at_call 25; refine c3.mono ?_; rintro e w1 ⟨rfl, hb⟩))
        have h1 := H.out.below hb
        obtain ⟨d0, d1, d2⟩ := h1.cells
        obtain ⟨D, k1, k2⟩ := h1.act.ex
        have hsz := (act_keys h1.ok k1 k2).2
        have hln : ∀ (d : Nat) ty, (Builtin.len_ #[49] ty #[.map (some a)]).run Try.prog (w1.drewN d) = .ok (.int .i64 l.length) (w1.drewN d) := fun d ty => by
          have hk : (w1.drewN d).ownsMap Try.prog 3 openElem a (Maps.size D) D := own_kept k1 rfl
          rw [hk.len Try.underlying49 ty, hsz]
        have HB := cover hb
        clear h1 k1 k2 hsz hb
        go_quiet (fail)
        obtain ⟨w2, hw2⟩ : ∃ w2, w2 = w1.drewN nq := ⟨_, rfl⟩
        rw [← hw2]
        have HB2 : Hid (Below w.heap.size w w2) := cover (by rw [hw2]; exact below_drewN HB.out _)
        clear hw2 hln d0 d1 d2 HB c1 c2 c3 w1
        by_cases hfull : (16 : Int) ≤ (l.length : Int)
        · have e1 : openE l n c = 6 := by rw [HE.out, if_pos (by omega)]
          have e2 : openS l n c = l := by unfold openS; rw [if_neg (by rw [e1]; decide)]
          have E := cover (And.intro e1 e2)
          clear e1 e2 HE
          go_wp2
          go_ret
          rw [E.out.1, E.out.2]
          exact ⟨rfl, cover (SNow.below H.out HB2.out)⟩
        · have e1 : openE l n c = 0 := by rw [HE.out, if_neg (by omega)]
          obtain ⟨w3, hr, hN⟩ := put_act (H.out.below HB2.out) e1
          have E := cover e1
          have HN : Hid (SNow s a b (openS l n c) w w3) := cover ⟨hN.1, Moves.after HB2.out hN.2⟩
          obtain ⟨_, d1, _⟩ := (H.out.below HB2.out).cells
          clear hN e1 HE HB2
          go_wp2
          go_ret
          rw [E.out]
          exact ⟨rfl, HN⟩
      · rw [hh] at c3
        have e1 : openE l n c = 8 := by unfold openE; rw [if_pos ⟨hs, hc⟩, hh]; rfl
        have e2 : openS l n c = l := by unfold openS; rw [if_neg (by rw [e1]; decide)]
        rw [e1, e2]
        have H := cover h
        clear h hs hc hh e1 e2
        go_enter Try.func11, Try.ntmps11
        go_wp2_with (first
          | (go_at_call 23; refine (c1 _).mono ?_; rintro e w' ⟨rfl, rfl⟩)
          | (go_at_call 24; refine (c2 _).mono ?_; rintro e w' ⟨rfl, rfl⟩)
          | (go_at_call 25; refine c3.mono ?_; rintro e w' ⟨rfl, hb⟩))
        go_ret
        exact ⟨rfl, cover (SNow.below H.out hb)⟩
    · rw [decide_eq_true hs] at c1
      rw [decide_eq_false hc] at c2
      have e1 : openE l n c = 1 := by unfold openE; rw [if_neg (fun h => hc h.2)]
      have e2 : openS l n c = l := by unfold openS; rw [if_neg (by rw [e1]; decide)]
      rw [e1, e2]
      have H := cover h
      clear h hs hc e1 e2
      go_enter Try.func11, Try.ntmps11
      go_wp2_with (first
        | (go_at_call 23; refine (c1 _).mono ?_; rintro e w' ⟨rfl, rfl⟩)
        | (go_at_call 24; refine (c2 _).mono ?_; rintro e w' ⟨rfl, rfl⟩))
      go_ret
      exact ⟨rfl, cover (SNow.same H.out)⟩
  · rw [decide_eq_false hs] at c1
    have e1 : openE l n c = 1 := by unfold openE; rw [if_neg (fun h => hs h.1)]
    have e2 : openS l n c = l := by unfold openS; rw [if_neg (by rw [e1]; decide)]
    rw [e1, e2]
    have H := cover h
    clear h hs e1 e2 c2
    go_enter Try.func11, Try.ntmps11
    go_wp2_with (go_at_call 23; refine (c1 _).mono ?_; rintro e w' ⟨rfl, rfl⟩)
    go_ret
    exact ⟨rfl, cover (SNow.same H.out)⟩
/-- the map of seats is another one now -/
theorem seat_now {w w' : World} {s a b : Nat} {l l' : List SV} (h : SapsIn w s a b l) (ht : w.mapTurned w' b) (hs : SeatIn w' b l') (hok : InS l') (hh : ∀ x, hasS l' x = hasS l x) (hc : ∀ x, clsS l' x = clsS l x) : SNow s a b l' w w' := by
  have hg := ht.grown
  have hkeep : ∀ i, i < w.heap.size → i ≠ b → w'.heap[i]? = w.heap[i]? := fun i hi hne => hg.block i hi (by simpa using hne)
  obtain ⟨D, k1, k2⟩ := h.act.ex
  exact ⟨⟨(hkeep s (h.lt (.inl rfl)) h.sa.2).trans h.hd, ⟨D, own_kept k1 (hkeep a (h.lt (.inr (.inl rfl))) h.ab), fun x hx z => by rw [k2 x hx z, hh, hc]⟩, hs, h.ab, hok⟩, moves_turned ht (.inr (.inr rfl))⟩
theorem put_seat {w : World} {s a b : Nat} {l : List SV} (h : SapsIn w s a b l) {n g : Int} (he : joinE l n g = 0) :
    ∃ w', (Instr.mapUpdate 50 (.map (some b)) (seatV n g) (.agg #[])).run Try.prog w = .ok () w' ∧ SNow s a b (joinS l n g) w w' := by
  obtain ⟨h1, h2, h3⟩ := joinE_0 he
  obtain ⟨D, k1, k2⟩ := h.seat.ex
  have hsz := seat_size h.ok k1 k2
  have hn := sap_64 (ok_has h.ok h2)
  obtain ⟨w', hr, ho, ht⟩ := k1.store lawS Try.underlying50 (by unfold maxLen; omega) (key_S hn (grp_64 h1)) unitElem_mk
  refine ⟨w', hr, ?_⟩
  have hok := h.ok.join n g
  rw [joinS_yes he] at hok ⊢
  refine seat_now h ht ⟨_, own_tight ho, fun x g' hx hg' => ?_⟩ hok (has_map (joinF_sap n g) l) (cls_map (joinF_sap n g) (joinF_cls n g) l)
  rw [mem_join, h2]
  by_cases e : x = n ∧ g' = g
  · obtain ⟨rfl, rfl⟩ := e
    rw [Maps.has_put_same k1.isMap (lawS.key (key_S hx hg'))]
    simp
  · rw [Maps.has_put_other (fun e2 => e (kS_inj hx hg' hn (grp_64 h1) e2)), k2 x g' hx hg']
    have : (decide (x = n) && decide (g' = g) && true) = false := by
      rw [Bool.and_true, Bool.and_eq_false_iff]
      by_cases e3 : x = n
      · right; rw [decide_eq_false_iff_not]; exact fun e4 => e ⟨e3, e4⟩
      · left; simpa using e3
    rw [this, Bool.or_false]
theorem del_seat {w : World} {s a b : Nat} {l : List SV} (h : SapsIn w s a b l) {n g : Int} (he : leaveE l n g = 0) (ty : TypeId) :
    ∃ w', (Builtin.delete_ #[50, 59] ty #[.map (some b), seatV n g]).run Try.prog w = .ok (.tuple #[]) w' ∧ SNow s a b (leaveS l n g) w w' := by
  obtain ⟨h1, h3⟩ := leaveE_0 he
  have h2 := mem_has h3
  obtain ⟨D, k1, k2⟩ := h.seat.ex
  have hn := sap_64 (ok_has h.ok h2)
  obtain ⟨w', hr, ho, ht⟩ := k1.drop lawS Try.underlying50 (key_S hn (grp_64 h1)) ty
  refine ⟨w', hr, ?_⟩
  have hok := h.ok.leave n g
  rw [leaveS_yes he] at hok ⊢
  refine seat_now h ht ⟨_, own_tight ho, fun x g' hx hg' => ?_⟩ hok (has_map (leaveF_sap n g) l) (cls_map (leaveF_sap n g) (leaveF_cls n g) l)
  rw [mem_leave]
  by_cases e : x = n ∧ g' = g
  · obtain ⟨rfl, rfl⟩ := e
    rw [Maps.has_del_same]
    simp
  · rw [Maps.has_del_other (fun e2 => e (kS_inj hx hg' hn (grp_64 h1) e2)), k2 x g' hx hg']
    have : (decide (x = n) && decide (g' = g)) = false := by
      rw [Bool.and_eq_false_iff]
      by_cases e3 : x = n
      · right; rw [decide_eq_false_iff_not]; exact fun e4 => e ⟨e3, e4⟩
      · left; simpa using e3
    rw [this]
    simp
theorem join_1 {l : List SV} {n g : Int} (h : ¬ OkGrp g) : joinE l n g = 1 ∧ joinS l n g = l := by
  have e : joinE l n g = 1 := by unfold joinE; rw [if_neg h]
  exact ⟨e, joinS_no (by rw [e]; decide)⟩
theorem join_7 {l : List SV} {n g : Int} (h : OkGrp g) (hh : hasS l n = false) : joinE l n g = 7 ∧ joinS l n g = l := by
  have e : joinE l n g = 7 := by unfold joinE; rw [if_pos h, hh]; rfl
  exact ⟨e, joinS_no (by rw [e]; decide)⟩
theorem join_8 {l : List SV} {n g : Int} (h : OkGrp g) (hh : hasS l n = true) (hm : memS l n g = true) : joinE l n g = 8 ∧ joinS l n g = l := by
  have e : joinE l n g = 8 := by unfold joinE; rw [if_pos h, hh, hm]; rfl
  exact ⟨e, joinS_no (by rw [e]; decide)⟩
theorem join_yes {l : List SV} {n g : Int} (h : OkGrp g) (hh : hasS l n = true) (hm : memS l n g = false) : joinE l n g = 0 := by unfold joinE; rw [if_pos h, hh, hm]; rfl
set_option maxRecDepth 100000 in
set_option maxHeartbeats 1600000 in
theorem join_any {w : World} {s a b : Nat} {l : List SV} (h : SapsIn w s a b l) {n g : Int} (hn : I64 n) :
    Calls Try.prog 12 #[ptr s, .int .i64 n, .int .i64 g] w fun e w' => e = .returned (.int .i64 (joinE l n g)) ∧ Hid (SNow s a b (joinS l n g) w w') := by
  have c1 := isGroup_any g
  have H := cover h
  by_cases ho : OkGrp g
  · have hg := grp_64 ho
    rw [decide_eq_true ho] at c1
    have c2 := isActive_any h hn
    cases hh : hasS l n
    · rw [hh] at c2
      obtain ⟨e1, e2⟩ := join_7 ho hh
      rw [e1, e2]
      clear h e1 e2 ho hh
      go_enter Try.func12, Try.ntmps12
      go_wp2_with (first
        | (go_at_call 26; refine (c1 _).mono ?_; rintro e w' ⟨rfl, rfl⟩)
        | (go_at_call 25; refine c2.mono ?_; rintro e w1 ⟨rfl, hb1⟩))
      go_ret
      exact ⟨rfl, cover (SNow.below H.out hb1)⟩
    · rw [hh] at c2
      cases hm : memS l n g
      · have he := join_yes ho hh hm
        rw [he]
        have HE := cover he
        have HM := cover hm
        clear h he ho hh hm
        go_enter Try.func12, Try.ntmps12
        go_wp2_with (first
          | (go_at_call 26; refine (c1 _).mono ?_; rintro e w' ⟨rfl, rfl⟩)
          | (go_at_call 25; refine c2.mono ?_; rintro e w1 ⟨rfl, hb1⟩))
        have h1 := H.out.below hb1
        have c3 := isIn_any h1 hn hg
        rw [HM.out] at c3
        refine c3.mono ?_
        rintro e w2 ⟨rfl, hb2⟩
        have HB : Hid (Below w.heap.size w w2) := cover (hb1.trans (hb2.mono hb1.size))
        obtain ⟨w3, hr, hN⟩ := put_seat (h1.below hb2) HE.out
        obtain ⟨_, _, d2⟩ := (h1.below hb2).cells
        have HN : Hid (SNow s a b (joinS l n g) w w3) := cover ⟨hN.1, Moves.after HB.out hN.2⟩
        clear h1 c3 c2 c1 hb1 hb2 hN
        go_wp2
        go_ret
        exact ⟨rfl, HN⟩
      · obtain ⟨e1, e2⟩ := join_8 ho hh hm
        rw [e1, e2]
        have HM := cover hm
        clear h e1 e2 ho hh hm
        go_enter Try.func12, Try.ntmps12
        go_wp2_with (first
          | (go_at_call 26; refine (c1 _).mono ?_; rintro e w' ⟨rfl, rfl⟩)
          | (go_at_call 25; refine c2.mono ?_; rintro e w1 ⟨rfl, hb1⟩))
        have c3 := isIn_any (H.out.below hb1) hn hg
        rw [HM.out] at c3
        refine c3.mono ?_
        rintro e w2 ⟨rfl, hb2⟩
        have HB : Hid (Below w.heap.size w w2) := cover (hb1.trans (hb2.mono hb1.size))
        clear c3 c2 c1 hb1 hb2
        go_wp2
        go_ret
        exact ⟨rfl, cover (SNow.below H.out HB.out)⟩
  · rw [decide_eq_false ho] at c1
    obtain ⟨e1, e2⟩ := join_1 (l := l) (n := n) ho
    rw [e1, e2]
    clear h e1 e2 ho
    go_enter Try.func12, Try.ntmps12
    go_wp2_with (go_at_call 26; refine (c1 _).mono ?_; rintro e w' ⟨rfl, rfl⟩)
    go_ret
    exact ⟨rfl, cover (SNow.same H.out)⟩
set_option maxRecDepth 100000 in
set_option maxHeartbeats 1600000 in
theorem leave_any {w : World} {s a b : Nat} {l : List SV} (h : SapsIn w s a b l) {n g : Int} (hn : I64 n) :
    Calls Try.prog 22 #[ptr s, .int .i64 n, .int .i64 g] w fun e w' => e = .returned (.int .i64 (leaveE l n g)) ∧ Hid (SNow s a b (leaveS l n g) w w') := by
  have c1 := isGroup_any g
  have H := cover h
  by_cases ho : OkGrp g
  · have hg := grp_64 ho
    rw [decide_eq_true ho] at c1
    have c2 := isIn_any h hn hg
    cases hm : memS l n g
    · rw [hm] at c2
      have e1 : leaveE l n g = 7 := by unfold leaveE; rw [if_pos ho, hm]; rfl
      have e2 : leaveS l n g = l := leaveS_no (by rw [e1]; decide)
      rw [e1, e2]
      clear h e1 e2 ho hm
      go_enter Try.func22, Try.ntmps22
      go_wp2_with (first
        | (go_at_call 26; refine (c1 _).mono ?_; rintro e w' ⟨rfl, rfl⟩)
        | (go_at_call 27; refine c2.mono ?_; rintro e w1 ⟨rfl, hb1⟩))
      go_ret
      exact ⟨rfl, cover (SNow.below H.out hb1)⟩
    · rw [hm] at c2
      have he : leaveE l n g = 0 := by unfold leaveE; rw [if_pos ho, hm]; rfl
      rw [he]
      have HE := cover he
      clear h he ho hm
      go_enter Try.func22, Try.ntmps22
      go_wp2_with (first
        | (go_at_call 26; refine (c1 _).mono ?_; rintro e w' ⟨rfl, rfl⟩)
        | fail)
      refine c2.mono ?_
      rintro e w1 ⟨rfl, hb1⟩
      have h1 := H.out.below hb1
      have hd := del_seat h1 HE.out
      obtain ⟨_, _, d2⟩ := h1.cells
      obtain ⟨w3, hr, hN⟩ := hd 0
      have HN : Hid (SNow s a b (leaveS l n g) w w3) := cover ⟨hN.1, Moves.after hb1 hN.2⟩
      clear hd h1 c2 c1 hb1 hN
      go_wp2
      go_ret
      exact ⟨rfl, HN⟩
  · rw [decide_eq_false ho] at c1
    have e1 : leaveE l n g = 1 := by unfold leaveE; rw [if_neg ho]
    have e2 : leaveS l n g = l := leaveS_no (by rw [e1]; decide)
    rw [e1, e2]
    clear h e1 e2 ho
    go_enter Try.func22, Try.ntmps22
    go_wp2_with (go_at_call 26; refine (c1 _).mono ?_; rintro e w' ⟨rfl, rfl⟩)
    go_ret
    exact ⟨rfl, cover (SNow.same H.out)⟩
end Go.Proofs.Ytnegbiofnjdfaaa
