/- What the document's own Open does. -/
import Derived.Test.YtnegbiofnjdfaaaSRHear
namespace Go.Proofs.Ytnegbiofnjdfaaa
open Go.RowKit
set_option linter.unusedVariables false

theorem rsap_any (n : Int) (w : World) : Calls Try.prog 39 #[.int .i64 n] w fun e w' => e = .returned (.bool (decide (OkSap n))) ∧ w = w' := by
  by_cases h1 : 2 ≤ n
  · by_cases h2 : n ≤ 254
    · have h3 : n.tmod 2 = n % 2 := Int.tmod_eq_emod_of_nonneg (by omega)
      have e : decide (OkSap n) = (n % 2 == 0) := by
        rw [Bool.eq_iff_iff]; simp only [decide_eq_true_eq, beq_iff_eq]; unfold OkSap; omega
      rw [e]
      go_enter Try.func39, Try.ntmps39
      go_wp2
      go_ret
      exact ⟨rfl, rfl⟩
    · have e : decide (OkSap n) = false := by
        rw [decide_eq_false_iff_not]; unfold OkSap; omega
      rw [e]
      clear e
      go_enter Try.func39, Try.ntmps39
      go_wp2
      go_ret
      exact ⟨rfl, rfl⟩
  · have e : decide (OkSap n) = false := by
      rw [decide_eq_false_iff_not]; unfold OkSap; omega
    rw [e]
    clear e
    go_enter Try.func39, Try.ntmps39
    go_wp2
    go_ret
    exact ⟨rfl, rfl⟩
theorem rgroup_any (n : Int) (w : World) : Calls Try.prog 40 #[.int .i64 n] w fun e w' => e = .returned (.bool (decide (OkGrp n))) ∧ w = w' := by
  by_cases h1 : 1 ≤ n
  · by_cases h2 : n ≤ 253
    · have h3 : n.tmod 2 = n % 2 := Int.tmod_eq_emod_of_nonneg (by omega)
      have e : decide (OkGrp n) = (n % 2 == 1) := by
        rw [Bool.eq_iff_iff]; simp only [decide_eq_true_eq, beq_iff_eq]; unfold OkGrp; omega
      rw [e]
      go_enter Try.func40, Try.ntmps40
      go_wp2
      go_ret
      exact ⟨rfl, rfl⟩
    · have e : decide (OkGrp n) = false := by
        rw [decide_eq_false_iff_not]; unfold OkGrp; omega
      rw [e]
      clear e
      go_enter Try.func40, Try.ntmps40
      go_wp2
      go_ret
      exact ⟨rfl, rfl⟩
  · have e : decide (OkGrp n) = false := by
      rw [decide_eq_false_iff_not]; unfold OkGrp; omega
    rw [e]
    clear e
    go_enter Try.func40, Try.ntmps40
    go_wp2
    go_ret
    exact ⟨rfl, rfl⟩

/-! where it is put -/
def insU (x : SU) : List SU → List SU
  | [] => [x]
  | u :: us => if x.1.sap < u.1.sap then x :: u :: us else u :: insU x us
theorem insU_fst (x : SU) (us : List SU) : (insU x us).map (·.1) = insS x.1 (us.map (·.1)) := by
  induction us with
  | nil => rfl
  | cons u us ih =>
    unfold insU
    rw [List.map_cons, insS]
    split
    · rfl
    · rw [List.map_cons, ih]
theorem insU_mem {x u : SU} {us : List SU} (h : u ∈ insU x us) : u = x ∨ u ∈ us := by
  induction us with
  | nil => simp [insU] at h; exact .inl h
  | cons y us ih =>
    unfold insU at h
    split at h
    · rcases List.mem_cons.1 h with h | h
      · exact .inl h
      · exact .inr h
    · rcases List.mem_cons.1 h with h | h
      · exact .inr (by simp [h])
      · rcases ih h with h | h
        · exact .inl h
        · exact .inr (by simp [h])
theorem insU_last {x y : SU} : ∀ {P : List SU}, (∀ u ∈ P, u.1.sap ≤ x.1.sap) → x.1.sap < y.1.sap → insU x (P ++ [y]) = P ++ [x] ++ [y]
  | [], _, h => by simp [insU, h]
  | u :: P, hp, h => by
    rw [List.cons_append, insU, if_neg (by have := hp u (by simp); omega), insU_last (fun v hv => hp v (by simp [hv])) h]
    rfl
theorem insU_app {x y : SU} : ∀ {P : List SU}, (∃ u ∈ P, x.1.sap < u.1.sap) → insU x (P ++ [y]) = insU x P ++ [y]
  | [], h => by obtain ⟨u, hu, _⟩ := h; cases hu
  | u :: P, h => by
    rw [List.cons_append, insU, insU]
    by_cases e : x.1.sap < u.1.sap
    · rw [if_pos e, if_pos e]; rfl
    · rw [if_neg e, if_neg e, insU_app (by
        obtain ⟨v, hv, hlt⟩ := h
        rcases List.mem_cons.1 hv with rfl | hv
        · exact absurd hlt e
        · exact ⟨v, hv, hlt⟩)]
      rfl
theorem insU_none {x : SU} : ∀ {P : List SU}, (∀ u ∈ P, u.1.sap ≤ x.1.sap) → insU x P = P ++ [x]
  | [], _ => rfl
  | u :: P, hp => by
    rw [insU, if_neg (by have := hp u (by simp); omega), insU_none (fun v hv => hp v (by simp [hv]))]
    rfl
/-- so far: it has been put, or all are ahead of it -/
def SoFar (x : SU) (P : List SU) (put : Bool) : Prop := (put = true ∧ ∃ u ∈ P, x.1.sap < u.1.sap) ∨ (put = false ∧ ∀ u ∈ P, u.1.sap ≤ x.1.sap)
def putL (x : SU) (P : List SU) (put : Bool) : List SU := if put = true then insU x P else P
/-- a row of SAPs that is made: so far these -/
structure BuildAt (w : World) (T : List SU) (v : Value) (wr : World) : Prop where
  own : OwnU wr v T
  fresh : ∀ i, v.ownBlock = some i → w.heap.size ≤ i
  bel : Below w.heap.size w wr
theorem BuildAt.start (w : World) : BuildAt w [] (.slice none 0 0) w := ⟨World.ownsRow_nil _ _ _ _, fun i hi => (by cases hi), Below.refl _ _⟩
theorem BuildAt.app {w wr w7 : World} {T T' : List SU} {v : Value} (h : BuildAt w T v wr) (hb : Below wr.heap.size wr w7) (y : SU) (hg : GrpIn w7 y) {ad : Addr} (hc : ∀ j u, (flat3 [y])[j]? = some u → w7.cell? (ad.add j) = some u) (hT : T' = T ++ [y]) (hl : T.length ≤ 1000) :
    Appends Try.prog 32 w7 v (.slice (some ad) 1 1) (fun v' w' => Hid (BuildAt w T' v' w')) := fun ty => by
  have hs := h.bel.size
  have ho7 : OwnU w7 v T := row_keeps h.own (fun j hj => hb.block j (h.own.lt j hj).2)
  obtain ⟨v', w', k1, _, k3⟩ := ho7.append ad 1 1 (news := [y]) rfl (fun u hu => by simp at hu; subst hu; exact hg) hc (by omega) ty
  obtain ⟨k4, k5⟩ := k3.out
  have hb7 : Below w.heap.size w w7 := h.bel.trans (hb.mono hs)
  refine ⟨v', w', k1, cover ⟨by rw [hT]; exact k4, fun i hi => (k5.own i hi).elim (h.fresh i) (fun h' => Nat.le_trans hb7.size h'), Moves.below hb7 k5 h.fresh hb7.size⟩⟩
theorem put_open {w : World} {r : Nat} {V : Value} {us : List SU} (h : RSIn w r V us) {n c : Int} (he : openE (us.map (·.1)) n c = 0) {w5 : World} {v5 : Value} {x : SU} (hx : x = (⟨n, c, []⟩, .slice none 0 0)) (hB : BuildAt w (insU x us) v5 w5) : RSNow r V (openS (us.map (·.1)) n c) w (w5.setCell ⟨r, 0, none⟩ v5) := by
  subst hx
  have hos : openS (us.map (·.1)) n c = insS ⟨n, c, []⟩ (us.map (·.1)) := by unfold openS; rw [if_pos he]
  have hok := h.ok.open n c
  rw [hos] at hok ⊢
  have hf := insU_fst (⟨n, c, []⟩, .slice none 0 0) us
  obtain ⟨k1, k2⟩ := h.turn (V' := v5) (w' := w5) (us' := insU (⟨n, c, []⟩, .slice none 0 0) us) ⟨hB.bel.os, hB.bel.tape, hB.bel.output, hB.bel.size, fun i hi _ => hB.bel.block i hi, fun i hi => .inr (hB.fresh i hi)⟩ hB.own (fun u hu => by
    rcases insU_mem hu with rfl | hu
    · exact World.ownsRow_nil _ _ _ _
    · exact row_keeps (h.grp u hu) (fun i hi => hB.bel.block i ((h.grp u hu).lt i hi).2)) (by rw [hf]; exact hok)
  exact ⟨v5, _, hf, k1, k2⟩
set_option maxRecDepth 100000 in
set_option maxHeartbeats 1600000 in
theorem ropen_yes {w : World} {r : Nat} {V : Value} {us : List SU} (h : RSIn w r V us) {n c : Int} (he : openE (us.map (·.1)) n c = 0) :
    Calls Try.prog 29 #[ptr r, .int .i64 n, .int .i64 c] w fun e w' => e = .returned (.int .i64 0) ∧ Hid (RSNow r V (openS (us.map (·.1)) n c) w w') := by
  obtain ⟨o1, o2, o3, o4⟩ := openE_0 he
  have c1 := rsap_any n
  rw [decide_eq_true o1] at c1
  have c2 := rat_none h n o3
  have hc1 : ¬ c < 1 := by unfold OkCls at o2; omega
  have hc4 : ¬ 4 < c := by unfold OkCls at o2; omega
  rw [List.length_map] at o4
  have hl16 : ¬ (16 : Int) ≤ (us.length : Int) := by omega
  have HH := cover (And.intro h he)
  obtain ⟨A, cp, rfl⟩ := h.shape
  have hlen := h.len
  have hrl := block_lt h.hd
  have hd2 := h.cell0
  have hfr := h.thaw 0
  have HD : Hid (∀ wx, Below w.heap.size w wx → wx.cell? ⟨r, 0, none⟩ = some (.slice A us.length cp) ∧ wx.frozen? ⟨r, 0, none⟩ = false) := cover (fun wx hb => ⟨(hb.cell (p := ⟨r, 0, none⟩) hrl).trans hd2, by have h0 := hb.block r hrl; unfold World.frozen? at hfr ⊢; rw [h0]; exact hfr⟩)
  obtain ⟨x, hx⟩ : ∃ x : SU, x = (⟨n, c, []⟩, .slice none 0 0) := ⟨_, rfl⟩
  have HX := cover hx
  clear h he o1 o2 o3 o4 hx
  go_enter Try.func29, Try.ntmps29
  go_wp2_with (first
    | (go_at_call 39; refine (c1 _).mono ?_; rintro e w' ⟨rfl, rfl⟩)
    | (go_at_call 33; refine c2.mono ?_; rintro e w1 ⟨rfl, rfl⟩))
  clear c1 c2 hd2 hfr
  go_loopw [7, 8, 9] (fun vv pv i wr => ∃ (v : Value) (put : Bool) (j : Nat), j ≤ us.length ∧ vv = v ∧ pv = .bool put ∧ i = .int .i64 j ∧ Hid (SoFar x (us.take j) put ∧ BuildAt w (putL x (us.take j) put) v wr)) (fun _ _ i _ => us.length - (intOf i).toNat)
  case atStart => exact ⟨_, false, 0, Nat.zero_le _, rfl, rfl, rfl, cover ⟨.inr ⟨rfl, fun u hu => by simp at hu⟩, BuildAt.start w⟩⟩
  case round =>
    obtain ⟨v, put, j, hj, hv, rfl, rfl, hrel⟩ := hrel
    have hv2 := hv.symm
    subst hv2
    clear hv
    obtain ⟨d2, d3⟩ := HD.out wr hrel.out.2.bel
    by_cases hlt : j < us.length
    · obtain ⟨u, hu⟩ : ∃ u, us[j]? = some u := ⟨_, List.getElem?_eq_getElem hlt⟩
      obtain ⟨g, c', hv, hcap, hgl, h0, h1, h2, _⟩ := HH.out.1.row.cell hu
      have hA : A = some ⟨g, 0, none⟩ := by injection hv
      have hcc : c' = cp := by injection hv with _ _ h3; exact h3.symm
      subst hA hcc
      have hgb := hrel.out.2.bel
      have hG := HH.out.1.grp u (List.mem_of_getElem? hu)
      have HG : Hid (∀ wx, Below w.heap.size w wx → GrpIn wx u) := cover (fun wx hb => row_keeps hG (fun i hi => hb.block i (hG.lt i hi).2))
      have HC : Hid (∀ wx, Below w.heap.size w wx → wx.cell? ⟨g, j * 3, none⟩ = some (.int .i64 u.1.sap) ∧ wx.cell? ⟨g, j * 3 + 1, none⟩ = some (.int .i64 u.1.cls) ∧ wx.cell? ⟨g, j * 3 + 2, none⟩ = some u.2) := cover (fun wx hb => ⟨(hb.cell (p := ⟨g, j * 3, none⟩) hgl).trans h0, (hb.cell (p := ⟨g, j * 3 + 1, none⟩) hgl).trans h1, (hb.cell (p := ⟨g, j * 3 + 2, none⟩) hgl).trans h2⟩)
      obtain ⟨us1, us2, uv, hu1⟩ : ∃ (a b : Int) (v : Value), u.1.sap = a ∧ u.1.cls = b ∧ u.2 = v := ⟨_, _, _, rfl, rfl, rfl⟩
      rw [hu1.1, hu1.2.1, hu1.2.2] at HC
      have HU := cover hu1
      have HT : Hid (us.take (j + 1) = us.take j ++ [u]) := cover (by rw [List.take_add_one, hu]; rfl)
      have HFL : Hid (flat3 [u] = [.int .i64 us1, .int .i64 us2, uv]) := cover (by rw [← hu1.1, ← hu1.2.1, ← hu1.2.2]; rfl)
      have HXn : Hid (x.1.sap = n ∧ flat3 [x] = [.int .i64 n, .int .i64 c, .slice none 0 0] ∧ ∀ wx : World, GrpIn wx x) := cover (by rw [HX.out]; exact ⟨rfl, rfl, fun wx => World.ownsRow_nil _ _ _ _⟩)
      clear hv hu h0 h1 h2 hG hu1
      obtain ⟨k0, k1, k2⟩ := HC.out wr hgb
      have hlenT : (us.take j).length = j := by rw [List.length_take]; omega
      cases put
      · by_cases hgt : us1 > n
        · -- it is put here
          obtain ⟨w7, hw7⟩ : ∃ w7, w7 = wr.alloc (.cells #[.int .i64 n, .int .i64 c, .slice none 0 0] 62) := ⟨_, rfl⟩
          have hb7 : Below wr.heap.size wr w7 := by rw [hw7]; exact (Below.refl _ _).alloc (Nat.le_refl _) _
          have HAP : Hid (Appends Try.prog 32 w7 v (.slice (some ⟨wr.heap.size, 0, none⟩) 1 1) (fun v' w' => Hid (BuildAt w (us.take j ++ [x]) v' w'))) := cover (hrel.out.2.app hb7 x (HXn.out.2.2 w7) (by rw [HXn.out.2.1, hw7]; exact World.news_of_block (cs := #[.int .i64 n, .int .i64 c, .slice none 0 0]) (heap_alloc_new wr _)) rfl (by show (us.take j).length ≤ _; omega))
          have HSF : Hid (∀ u ∈ us.take j, u.1.sap ≤ x.1.sap) := cover (by
            rcases hrel.out.1 with ⟨e, _⟩ | ⟨_, e⟩
            · cases e
            · exact e)
          have HGT := cover hgt
          clear hb7 hrel
          go_upto_region 14 with (at_builtin; rw [← hw7]; refine appends_list rfl _ _ _ rfl _ _ rfl rfl HAP.out ?_; intro v8 w8 H6)
          clear HAP hw7 d2 d3 k0 k1 k2 w7
          obtain ⟨d2, d3⟩ := HD.out w8 H6.out.bel
          obtain ⟨k0, k1, k2⟩ := HC.out w8 H6.out.bel
          obtain ⟨w9, hw9⟩ : ∃ w9, w9 = w8.alloc (.cells #[.int .i64 us1, .int .i64 us2, uv] 62) := ⟨_, rfl⟩
          have hb9 : Below w8.heap.size w8 w9 := by rw [hw9]; exact (Below.refl _ _).alloc (Nat.le_refl _) _
          have HAP : Hid (Appends Try.prog 32 w9 v8 (.slice (some ⟨w8.heap.size, 0, none⟩) 1 1) (fun v' w' => Hid (BuildAt w (putL x (us.take (j + 1)) true) v' w'))) := cover (H6.out.app hb9 u (HG.out w9 (H6.out.bel.trans (hb9.mono H6.out.bel.size))) (by rw [HFL.out, hw9]; exact World.news_of_block (cs := #[.int .i64 us1, .int .i64 us2, uv]) (heap_alloc_new w8 _)) (by
            unfold putL
            rw [if_pos rfl, HT.out]
            exact insU_last HSF.out (by rw [HXn.out.1, HU.out.1]; exact HGT.out)) (by rw [List.length_append]; show (us.take j).length + 1 ≤ _; omega))
          clear hb9 H6
          go_wp2_with (at_builtin; rw [← hw9]; refine appends_list rfl _ _ _ rfl _ _ rfl rfl HAP.out ?_; intro v10 w10 H8)
          clear HAP hw9
          have HN : Hid (SoFar x (us.take (j + 1)) true ∧ BuildAt w (putL x (us.take (j + 1)) true) v10 w10) := cover ⟨.inl ⟨rfl, u, by rw [HT.out]; simp, by rw [HXn.out.1, HU.out.1]; exact HGT.out⟩, H8.out⟩
          clear H8
          go_wp2
          go_roundw
          case rel => exact ⟨_, true, j + 1, by omega, rfl, rfl, by go_num, HN⟩
          case measure => simp [intOf]; omega
        · -- it comes later
          obtain ⟨w9, hw9⟩ : ∃ w9, w9 = wr.alloc (.cells #[.int .i64 us1, .int .i64 us2, uv] 62) := ⟨_, rfl⟩
          have hb9 : Below wr.heap.size wr w9 := by rw [hw9]; exact (Below.refl _ _).alloc (Nat.le_refl _) _
          have HAP : Hid (Appends Try.prog 32 w9 v (.slice (some ⟨wr.heap.size, 0, none⟩) 1 1) (fun v' w' => Hid (BuildAt w (putL x (us.take (j + 1)) false) v' w'))) := cover (hrel.out.2.app hb9 u (HG.out w9 (hgb.trans (hb9.mono hgb.size))) (by rw [HFL.out, hw9]; exact World.news_of_block (cs := #[.int .i64 us1, .int .i64 us2, uv]) (heap_alloc_new wr _)) (by
            unfold putL
            rw [if_neg (by decide), if_neg (by decide), HT.out]) (by show (us.take j).length ≤ _; omega))
          have HSF : Hid (SoFar x (us.take (j + 1)) false) := cover (.inr ⟨rfl, fun y hy => by
            rw [HT.out] at hy
            rcases List.mem_append.1 hy with hy | hy
            · rcases hrel.out.1 with ⟨e, _⟩ | ⟨_, e⟩
              · cases e
              · exact e y hy
            · simp at hy
              subst hy
              rw [HXn.out.1, HU.out.1]; omega⟩)
          clear hb9 hrel hgb
          go_wp2_with (at_builtin; rw [← hw9]; refine appends_list rfl _ _ _ rfl _ _ rfl rfl HAP.out ?_; intro v10 w10 H8)
          clear HAP hw9
          have HN := cover (And.intro HSF.out H8.out)
          clear H8
          go_wp2
          go_roundw
          case rel => exact ⟨_, false, j + 1, by omega, rfl, rfl, by go_num, HN⟩
          case measure => simp [intOf]; omega
      · -- it was put
        have HSP : Hid (∃ u ∈ us.take j, x.1.sap < u.1.sap) := cover (by
          rcases hrel.out.1 with ⟨_, e⟩ | ⟨e, _⟩
          · exact e
          · cases e)
        obtain ⟨w9, hw9⟩ : ∃ w9, w9 = wr.alloc (.cells #[.int .i64 us1, .int .i64 us2, uv] 62) := ⟨_, rfl⟩
        have hb9 : Below wr.heap.size wr w9 := by rw [hw9]; exact (Below.refl _ _).alloc (Nat.le_refl _) _
        have hln : (insU x (us.take j)).length ≤ 1000 := by
          have := congrArg List.length (insU_fst x (us.take j))
          rw [List.length_map, insS_len, List.length_map] at this
          omega
        have HAP : Hid (Appends Try.prog 32 w9 v (.slice (some ⟨wr.heap.size, 0, none⟩) 1 1) (fun v' w' => Hid (BuildAt w (putL x (us.take (j + 1)) true) v' w'))) := cover (hrel.out.2.app hb9 u (HG.out w9 (hgb.trans (hb9.mono hgb.size))) (by rw [HFL.out, hw9]; exact World.news_of_block (cs := #[.int .i64 us1, .int .i64 us2, uv]) (heap_alloc_new wr _)) (by
          unfold putL
          rw [if_pos rfl, if_pos rfl, HT.out, insU_app HSP.out]) hln)
        clear hb9 hrel hgb hln
        go_wp2_with (at_builtin; rw [← hw9]; refine appends_list rfl _ _ _ rfl _ _ rfl rfl HAP.out ?_; intro v10 w10 H8)
        clear HAP hw9
        have HN : Hid (SoFar x (us.take (j + 1)) true ∧ BuildAt w (putL x (us.take (j + 1)) true) v10 w10) := cover ⟨.inl ⟨rfl, by
          obtain ⟨y, hy, e⟩ := HSP.out
          exact ⟨y, by rw [HT.out]; simp [hy], e⟩⟩, H8.out⟩
        clear H8
        go_wp2
        go_roundw
        case rel => exact ⟨_, true, j + 1, by omega, rfl, rfl, by go_num, HN⟩
        case measure => simp [intOf]; omega
    · obtain rfl : j = us.length := by omega
      have HTA : Hid (us.take us.length = us) := cover (List.take_of_length_le (Nat.le_refl _))
      cases put
      · have HXn : Hid (flat3 [x] = [.int .i64 n, .int .i64 c, .slice none 0 0] ∧ ∀ wx : World, GrpIn wx x) := cover (by rw [HX.out]; exact ⟨rfl, fun wx => World.ownsRow_nil _ _ _ _⟩)
        obtain ⟨w7, hw7⟩ : ∃ w7, w7 = wr.alloc (.cells #[.int .i64 n, .int .i64 c, .slice none 0 0] 62) := ⟨_, rfl⟩
        have hb7 : Below wr.heap.size wr w7 := by rw [hw7]; exact (Below.refl _ _).alloc (Nat.le_refl _) _
        have HSF : Hid (∀ u ∈ us, u.1.sap ≤ x.1.sap) := cover (by
          have h9 := hrel.out.1
          rw [HTA.out] at h9
          rcases h9 with ⟨e, _⟩ | ⟨_, e⟩
          · cases e
          · exact e)
        have HAP : Hid (Appends Try.prog 32 w7 v (.slice (some ⟨wr.heap.size, 0, none⟩) 1 1) (fun v' w' => Hid (BuildAt w (insU x us) v' w'))) := cover (hrel.out.2.app hb7 x (HXn.out.2 w7) (by rw [HXn.out.1, hw7]; exact World.news_of_block (cs := #[.int .i64 n, .int .i64 c, .slice none 0 0]) (heap_alloc_new wr _)) (by
          unfold putL
          rw [if_neg (by decide), HTA.out, insU_none HSF.out]) (by show (us.take us.length).length ≤ _; rw [HTA.out]; omega))
        clear hb7 hrel
        go_upto_region 18 with (at_builtin; rw [← hw7]; refine appends_list rfl _ _ _ rfl _ _ rfl rfl HAP.out ?_; intro v8 w8 H6)
        clear HAP hw7 d2 d3
        obtain ⟨d2, d3⟩ := HD.out w8 H6.out.bel
        obtain ⟨A8, c8, rfl, _⟩ := own_shape H6.out.own
        have HN := cover (put_open HH.out.1 HH.out.2 HX.out H6.out)
        clear H6
        go_wp2
        go_ret
        exact ⟨rfl, HN⟩
      · have H6 : Hid (BuildAt w (insU x us) v wr) := cover (by
          have h9 := hrel.out.2
          rw [HTA.out] at h9
          exact h9)
        obtain ⟨A8, c8, rfl, _⟩ := own_shape H6.out.own
        have HN := cover (put_open HH.out.1 HH.out.2 HX.out H6.out)
        clear H6 hrel
        go_wp2
        go_ret
        exact ⟨rfl, HN⟩
theorem open_1 {l : List SV} {n c : Int} (h : ¬ (OkSap n ∧ OkCls c)) : openE l n c = 1 ∧ openS l n c = l := by
  have e : openE l n c = 1 := by unfold openE; rw [if_neg h]
  exact ⟨e, by unfold openS; rw [if_neg (by rw [e]; decide)]⟩
theorem open_8 {l : List SV} {n c : Int} (h : OkSap n ∧ OkCls c) (hh : hasS l n = true) : openE l n c = 8 ∧ openS l n c = l := by
  have e : openE l n c = 8 := by unfold openE; rw [if_pos h, if_pos hh]
  exact ⟨e, by unfold openS; rw [if_neg (by rw [e]; decide)]⟩
theorem open_6 {l : List SV} {n c : Int} (h : OkSap n ∧ OkCls c) (hh : hasS l n = false) (hl : 16 ≤ l.length) : openE l n c = 6 ∧ openS l n c = l := by
  have e : openE l n c = 6 := by unfold openE; rw [if_pos h, if_neg (by rw [hh]; decide), if_pos hl]
  exact ⟨e, by unfold openS; rw [if_neg (by rw [e]; decide)]⟩
set_option maxRecDepth 100000 in
set_option maxHeartbeats 1600000 in
theorem ropen_any {w : World} {r : Nat} {V : Value} {us : List SU} (h : RSIn w r V us) (n c : Int) :
    Calls Try.prog 29 #[ptr r, .int .i64 n, .int .i64 c] w fun e w' => e = .returned (.int .i64 (openE (us.map (·.1)) n c)) ∧ Hid (RSNow r V (openS (us.map (·.1)) n c) w w') := by
  have c1 := rsap_any n
  by_cases hs : OkSap n
  · rw [decide_eq_true hs] at c1
    by_cases hc : OkCls c
    · have hc1 : ¬ c < 1 := by unfold OkCls at hc; omega
      have hc4 : ¬ 4 < c := by unfold OkCls at hc; omega
      cases hh : hasS (us.map (·.1)) n
      · by_cases hl : 16 ≤ us.length
        · obtain ⟨e1, e2⟩ := open_6 ⟨hs, hc⟩ hh (by rw [List.length_map]; exact hl)
          rw [e1, e2]
          have c2 := rat_none h n hh
          have HN := cover (RSNow.below h (Below.refl _ _))
          obtain ⟨A, cp, rfl⟩ := h.shape
          have d2 := h.cell0
          have hl' : (16 : Int) ≤ (us.length : Int) := by omega
          clear e1 e2 hh h hs hc hl
          go_enter Try.func29, Try.ntmps29
          go_wp2_with (first
            | (go_at_call 39; refine (c1 _).mono ?_; rintro e w' ⟨rfl, rfl⟩)
            | (go_at_call 33; refine c2.mono ?_; rintro e w1 ⟨rfl, rfl⟩))
          go_ret
          exact ⟨rfl, HN⟩
        · have he : openE (us.map (·.1)) n c = 0 := by
            unfold openE; rw [if_pos ⟨hs, hc⟩, if_neg (by rw [hh]; decide), if_neg (by rw [List.length_map]; exact hl)]
          rw [he]
          exact ropen_yes h he
      · obtain ⟨e1, e2⟩ := open_8 ⟨hs, hc⟩ hh
        rw [e1, e2]
        obtain ⟨i, u, hi, hsn, hno⟩ := placeU_ex hh
        have c2 := rat_at h n i u hi hsn hno
        have HN := cover (RSNow.below h (Below.refl _ _))
        have hi0 : (0 : Int) ≤ (i : Int) := by omega
        clear e1 e2 hh h hs hc hi hsn hno
        go_enter Try.func29, Try.ntmps29
        go_wp2_with (first
          | (go_at_call 39; refine (c1 _).mono ?_; rintro e w' ⟨rfl, rfl⟩)
          | (go_at_call 33; refine c2.mono ?_; rintro e w1 ⟨rfl, rfl⟩))
        go_ret
        exact ⟨rfl, HN⟩
    · obtain ⟨e1, e2⟩ := open_1 (l := us.map (·.1)) (n := n) (c := c) (fun h => hc h.2)
      rw [e1, e2]
      have HN := cover (RSNow.below h (Below.refl _ _))
      have hcc : c < 1 ∨ 4 < c := by unfold OkCls at hc; omega
      clear e1 e2 h hs hc
      rcases hcc with hcc | hcc
      · go_enter Try.func29, Try.ntmps29
        go_wp2_with (go_at_call 39; refine (c1 _).mono ?_; rintro e w' ⟨rfl, rfl⟩)
        go_ret
        exact ⟨rfl, HN⟩
      · have hc1 : ¬ c < 1 := by omega
        go_enter Try.func29, Try.ntmps29
        go_wp2_with (go_at_call 39; refine (c1 _).mono ?_; rintro e w' ⟨rfl, rfl⟩)
        go_ret
        exact ⟨rfl, HN⟩
  · rw [decide_eq_false hs] at c1
    obtain ⟨e1, e2⟩ := open_1 (l := us.map (·.1)) (n := n) (c := c) (fun h => hs h.1)
    rw [e1, e2]
    have HN := cover (RSNow.below h (Below.refl _ _))
    clear e1 e2 h hs
    go_enter Try.func29, Try.ntmps29
    go_wp2_with (go_at_call 39; refine (c1 _).mono ?_; rintro e w' ⟨rfl, rfl⟩)
    go_ret
    exact ⟨rfl, HN⟩
end Go.Proofs.Ytnegbiofnjdfaaa
