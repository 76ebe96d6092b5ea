/- The other ways of the document's own Join; what its Leave does. -/
import Derived.Test.YtnegbiofnjdfaaaSRJoin
namespace Go.Proofs.Ytnegbiofnjdfaaa
open Go.RowKit
set_option linter.unusedVariables false

set_option maxRecDepth 100000 in
set_option maxHeartbeats 1600000 in
theorem rjoin_any {w : World} {r : Nat} {V : Value} {us : List SU} (h : RSIn w r V us) (k x : Int) :
    Calls Try.prog 31 #[ptr r, .int .i64 k, .int .i64 x] w fun e w' => e = .returned (.int .i64 (joinE (us.map (·.1)) k x)) ∧ Hid (RSNow r V (joinS (us.map (·.1)) k x) w w') := by
  have HN := cover (RSNow.below h (Below.refl _ _))
  have c1 := rgroup_any x
  by_cases ho : OkGrp x
  · rw [decide_eq_true ho] at c1
    cases o2 : hasS (us.map (·.1)) k
    · obtain ⟨e1, e2⟩ := join_7 ho o2
      rw [e1, e2]
      have HF := rat_none h k o2
      clear e1 e2 o2 ho h
      go_enter Try.func31, Try.ntmps31
      go_wp2_with (first
        | (go_at_call 33; refine HF.mono ?_; rintro e w1 ⟨rfl, rfl⟩)
        | (go_at_call 40; refine (c1 _).mono ?_; rintro e w1 ⟨rfl, rfl⟩))
      go_ret
      exact ⟨rfl, HN⟩
    · cases o3 : memS (us.map (·.1)) k x
      · have he := join_yes ho o2 o3
        rw [he]
        exact rjoin_yes h he
      · obtain ⟨e1, e2⟩ := join_8 ho o2 o3
        rw [e1, e2]
        obtain ⟨i, u, hi, hsk, hno⟩ := placeU_ex o2
        have HF := rat_at h k i u hi hsk hno
        have hil := (List.getElem?_eq_some_iff.1 hi).1
        obtain ⟨g, cp, hv, hncp, hgl, _, _, hgc, hgf⟩ := h.row.cell hi
        have hG := h.grp u (List.mem_of_getElem? hi)
        have hin0 := (us_at h hi x).1
        rw [hsk] at hin0
        obtain ⟨gv, hgv⟩ : ∃ gv, gv = u.2 := ⟨_, rfl⟩
        unfold GrpIn at hG
        rw [← hgv] at hgc hG
        obtain ⟨m, hm⟩ : ∃ m, m = u.1.gs.length := ⟨_, rfl⟩
        rw [← hm] at hG
        obtain ⟨Ag, cg, rfl, _⟩ := own_shape hG
        have hm127 : m ≤ 1000 := by
          have hn := (h.ok.ok u.1 (List.mem_map.2 ⟨u, List.mem_of_getElem? hi, rfl⟩)).2.2
          have := nodup_le u.1.gs ((List.range 256).map fun (i : Nat) => (i : Int)) hn.2 (fun x hx => by
            have := hn.1 x hx
            unfold OkGrp at this
            exact List.mem_map.2 ⟨x.toNat, List.mem_range.2 (by omega), by omega⟩)
          simp at this
          omega
        have c3 := rin_any (c := cg) (w := w) x hm.symm (by omega) (Nums.of_own hG)
        rw [← hin0] at c3
        have hlen := h.len
        obtain ⟨n, hn⟩ : ∃ n, n = us.length := ⟨_, rfl⟩
        rw [← hn] at hv hncp hil hlen
        have hrl := block_lt h.hd
        have hcl2 := h.cell0
        rw [hv] at hcl2
        have hin : (i : Int) < (n : Int) := by omega
        have hi0 : (0 : Int) ≤ (i : Int) := by omega
        have hi9 : ¬ (i : Int) < 0 := by omega
        rw [o3] at c3
        clear e1 e2 o2 o3 ho h hi hsk hno hv hG hgv hm hin0 hgf hn
        go_enter Try.func31, Try.ntmps31
        go_wp2_with (first
          | (go_at_call 33; refine HF.mono ?_; rintro e w1 ⟨rfl, rfl⟩)
          | (go_at_call 40; refine (c1 _).mono ?_; rintro e w1 ⟨rfl, rfl⟩)
          | (go_at_call 34; refine c3.mono ?_; rintro e w1 ⟨rfl, rfl⟩))
        go_ret
        exact ⟨rfl, HN⟩
  · rw [decide_eq_false ho] at c1
    obtain ⟨e1, e2⟩ := join_1 (l := us.map (·.1)) (n := k) ho
    rw [e1, e2]
    obtain ⟨n, p, hf⟩ := foundU_ex us k
    have HF := rat_go h k n p hf
    clear e1 e2 ho hf h
    go_enter Try.func31, Try.ntmps31
    go_wp2_with (first
      | (go_at_call 33; refine HF.mono ?_; rintro e w1 ⟨rfl, rfl⟩)
      | (go_at_call 40; refine (c1 _).mono ?_; rintro e w1 ⟨rfl, rfl⟩))
    go_ret
    exact ⟨rfl, HN⟩

/-- those that stay, so far -/
def stayL (gs : List Int) (x : Int) (j : Nat) : List Int := (gs.take j).filter (· != x)
theorem stayL_succ {gs : List Int} {x : Int} {j : Nat} {y : Int} (hy : gs[j]? = some y) : stayL gs x (j + 1) = if y = x then stayL gs x j else stayL gs x j ++ [y] := by
  unfold stayL
  rw [List.take_add_one, hy, List.filter_append]
  by_cases e : y = x
  · rw [if_pos e]; simp [e]
  · rw [if_neg e]; simp [e]
theorem stayL_len (gs : List Int) (x : Int) (j : Nat) : (stayL gs x j).length ≤ gs.length := by
  unfold stayL
  refine Nat.le_trans (List.length_filter_le _ _) ?_
  rw [List.length_take]; omega
set_option maxRecDepth 100000 in
set_option maxHeartbeats 1600000 in
theorem rleave_yes {w : World} {r : Nat} {V : Value} {us : List SU} (h : RSIn w r V us) {k x : Int} (he : leaveE (us.map (·.1)) k x = 0) :
    Calls Try.prog 32 #[ptr r, .int .i64 k, .int .i64 x] w fun e w' => e = .returned (.int .i64 0) ∧ Hid (RSNow r V (leaveS (us.map (·.1)) k x) w w') := by
  obtain ⟨o1, o3⟩ := leaveE_0 he
  have o2 := mem_has o3
  have c1 := rgroup_any x
  rw [decide_eq_true o1] at c1
  obtain ⟨i, u, hi, hsk, hno⟩ := placeU_ex o2
  have HF := rat_at h k i u hi hsk hno
  have hil := (List.getElem?_eq_some_iff.1 hi).1
  obtain ⟨g, cp, hv, hncp, hgl, _, _, hgc, hgf⟩ := h.row.cell hi
  have hG := h.grp u (List.mem_of_getElem? hi)
  have hin0 := (us_at h hi x).1
  rw [hsk] at hin0
  obtain ⟨gv, hgv⟩ : ∃ gv, gv = u.2 := ⟨_, rfl⟩
  unfold GrpIn at hG
  rw [← hgv] at hgc hG
  obtain ⟨m, hm⟩ : ∃ m, m = u.1.gs.length := ⟨_, rfl⟩
  rw [← hm] at hG
  obtain ⟨Ag, cg, rfl, _⟩ := own_shape hG
  have hm127 : m ≤ 1000 := by
    have hn := (h.ok.ok u.1 (List.mem_map.2 ⟨u, List.mem_of_getElem? hi, rfl⟩)).2.2
    have := nodup_le u.1.gs ((List.range 256).map fun (i : Nat) => (i : Int)) hn.2 (fun x hx => by
      have := hn.1 x hx
      unfold OkGrp at this
      exact List.mem_map.2 ⟨x.toNat, List.mem_range.2 (by omega), by omega⟩)
    simp at this
    omega
  have c3 := rin_any (c := cg) (w := w) x hm.symm (by omega) (Nums.of_own hG)
  rw [← hin0] at c3
  have hlen := h.len
  obtain ⟨n, hn⟩ : ∃ n, n = us.length := ⟨_, rfl⟩
  rw [← hn] at hv hncp hil hlen
  have hrl := block_lt h.hd
  have hcl2 := h.cell0
  rw [hv] at hcl2
  have hin : (i : Int) < (n : Int) := by omega
  have hi0 : (0 : Int) ≤ (i : Int) := by omega
  have hi9 : ¬ (i : Int) < 0 := by omega
  rw [o3] at c3
  have hfz := hgf (i * 3 + 2)
  have HS : Hid (∀ wx, Below w.heap.size w wx → wx.cell? ⟨r, 0, none⟩ = some (.slice (some ⟨g, 0, none⟩) n cp) ∧ wx.cell? ⟨g, i * 3 + 2, none⟩ = some (.slice Ag m cg) ∧ wx.frozen? ⟨g, i * 3 + 2, none⟩ = false) := cover (fun wx hb => ⟨(hb.cell (p := ⟨r, 0, none⟩) hrl).trans hcl2, (hb.cell (p := ⟨g, i * 3 + 2, none⟩) hgl).trans hgc, by have h0 := hb.block g hgl; unfold World.frozen? at hfz ⊢; rw [h0]; exact hfz⟩)
  have HG : Hid (∀ wx, Below w.heap.size w wx → Nums wx Ag u.1.gs) := cover (fun wx hb => Nums.of_own (row_keeps hG (fun j hj => hb.block j (hG.lt j hj).2)))
  have HH := cover (And.intro h (And.intro hi (And.intro hsk (And.intro he hm))))
  have HNL := cover hn
  have HV := cover hv
  have hcap := own_cap hG
  clear h o1 o2 o3 hi hsk hno he hv hG hgv hm hin0 hgf hn
  go_enter Try.func32, Try.ntmps32
  go_wp2_with (first
    | (go_at_call 33; refine HF.mono ?_; rintro e w1 ⟨rfl, rfl⟩)
    | (go_at_call 40; refine (c1 _).mono ?_; rintro e w1 ⟨rfl, rfl⟩)
    | (go_at_call 34; refine c3.mono ?_; rintro e w1 ⟨rfl, rfl⟩))
  clear HF c1 c3 hcl2 hgc hfz
  go_loopw [8, 9] (fun vv jv wr => ∃ (v : Value) (j : Nat), j ≤ m ∧ vv = v ∧ jv = .int .i64 j ∧ Hid (GathAt w (stayL u.1.gs x j) v wr)) (fun _ jv _ => m - (intOf jv).toNat)
  case atStart => exact ⟨_, 0, Nat.zero_le _, rfl, rfl, cover (GathAt.start w)⟩
  case round =>
    obtain ⟨v, j, hj, hv, rfl, hrel⟩ := hrel
    have hv2 := hv.symm
    subst hv2
    clear hv
    obtain ⟨d0, d1, d2⟩ := HS.out wr hrel.out.bel
    have HL := cover (stayL_len u.1.gs x j)
    by_cases hlt : j < m
    · obtain ⟨y, hy⟩ : ∃ y, u.1.gs[j]? = some y := ⟨_, List.getElem?_eq_getElem (by rw [← HH.out.2.2.2.2]; exact hlt)⟩
      obtain ⟨gg, rfl, k1⟩ := HG.out wr hrel.out.bel j y hy
      have hS := stayL_succ (x := x) hy
      by_cases e : y = x
      · rw [if_pos e] at hS
        have e' : (y != x) = false := by simpa using e
        have HN : Hid (GathAt w (stayL u.1.gs x (j + 1)) v wr) := cover (by rw [hS]; exact hrel.out)
        have HE := cover e
        clear hS e hy hrel
        go_wp2
        go_roundw
        case rel => exact ⟨_, j + 1, by omega, rfl, by go_num, HN⟩
        case measure => simp [intOf]; omega
      · rw [if_neg e] at hS
        have e' : (y != x) = true := by simpa using e
        have hsucc := cover hS
        have HE := cover e
        clear hS e hy
        obtain ⟨w7, hw7⟩ : ∃ w7, w7 = wr.alloc (.cells #[.int .i64 y] 3) := ⟨_, rfl⟩
        have hb7 : Below wr.heap.size wr w7 := by rw [hw7]; exact (Below.refl _ _).alloc (Nat.le_refl _) _
        have HAP : Hid (Appends Try.prog 28 w7 v (.slice (some ⟨wr.heap.size, 0, none⟩) 1 1) (fun v' w' => Hid (GathAt w (stayL u.1.gs x (j + 1)) v' w'))) := cover (hrel.out.app hb7 y (by rw [hw7]; exact World.news_of_block (cs := #[.int .i64 y]) (heap_alloc_new wr _)) hsucc.out (by have := HL.out; rw [← HH.out.2.2.2.2] at this; omega))
        clear hb7 hrel
        go_wp2_with (at_builtin; rw [← hw7]; refine appends_list rfl _ _ _ rfl _ _ rfl rfl HAP.out ?_; intro v8 w8 H6)
        clear HAP hw7
        go_wp2
        go_roundw
        case rel => exact ⟨_, j + 1, by omega, rfl, by go_num, H6⟩
        case measure => simp [intOf]; omega
    · obtain rfl : j = m := by omega
      have HN : Hid (RSNow r (.slice (some ⟨g, 0, none⟩) n cp) (leaveS (us.map (·.1)) k x) w (wr.setCell ⟨g, i * 3 + 2, none⟩ v)) := cover (by
        obtain ⟨hh, hi, hsk, he, hm⟩ := HH.out
        have hV' := HV.out
        subst hV'
        have hst : stayL u.1.gs x j = u.1.gs.filter (· != x) := by unfold stayL; rw [hm, List.take_of_length_le (Nat.le_refl _)]
        have hj' : (us.map (·.1)).set i ⟨u.1.sap, u.1.cls, u.1.gs.filter (· != x)⟩ = leaveS (us.map (·.1)) k x := by
          rw [leaveS_yes he, ← join_set hh hi (leaveF k x) (fun t ht => by unfold leaveF; rw [if_neg (by rw [← hsk]; exact ht)])]
          unfold leaveF
          rw [if_pos hsk]
        have hok := hh.ok.leave k x
        rw [← hj'] at hok ⊢
        have hNL := HNL.out
        subst hNL
        have ho := hrel.out.own
        rw [hst] at ho
        exact hh.setGrp hrel.out.bel hi _ v ho hok)
      rw [← HV.out] at HN
      obtain ⟨A5, c5, rfl, _⟩ := own_shape hrel.out.own
      clear hrel
      go_wp2
      go_ret
      exact ⟨rfl, HN⟩
set_option maxRecDepth 100000 in
set_option maxHeartbeats 1600000 in
theorem rleave_any {w : World} {r : Nat} {V : Value} {us : List SU} (h : RSIn w r V us) (k x : Int) :
    Calls Try.prog 32 #[ptr r, .int .i64 k, .int .i64 x] w fun e w' => e = .returned (.int .i64 (leaveE (us.map (·.1)) k x)) ∧ Hid (RSNow r V (leaveS (us.map (·.1)) k x) w w') := by
  have HN := cover (RSNow.below h (Below.refl _ _))
  have c1 := rgroup_any x
  by_cases ho : OkGrp x
  · rw [decide_eq_true ho] at c1
    cases o3 : memS (us.map (·.1)) k x
    · have e1 : leaveE (us.map (·.1)) k x = 7 := by unfold leaveE; rw [if_pos ho, o3]; rfl
      have e2 : leaveS (us.map (·.1)) k x = us.map (·.1) := leaveS_no (by rw [e1]; decide)
      rw [e1, e2]
      cases o2 : hasS (us.map (·.1)) k
      · have HF := rat_none h k o2
        clear e1 e2 o2 o3 ho h
        go_enter Try.func32, Try.ntmps32
        go_wp2_with (first
          | (go_at_call 33; refine HF.mono ?_; rintro e w1 ⟨rfl, rfl⟩)
          | (go_at_call 40; refine (c1 _).mono ?_; rintro e w1 ⟨rfl, rfl⟩))
        go_ret
        exact ⟨rfl, HN⟩
      · skip
        obtain ⟨i, u, hi, hsk, hno⟩ := placeU_ex o2
        have HF := rat_at h k i u hi hsk hno
        have hil := (List.getElem?_eq_some_iff.1 hi).1
        obtain ⟨g, cp, hv, hncp, hgl, _, _, hgc, hgf⟩ := h.row.cell hi
        have hG := h.grp u (List.mem_of_getElem? hi)
        have hin0 := (us_at h hi x).1
        rw [hsk] at hin0
        obtain ⟨gv, hgv⟩ : ∃ gv, gv = u.2 := ⟨_, rfl⟩
        unfold GrpIn at hG
        rw [← hgv] at hgc hG
        obtain ⟨m, hm⟩ : ∃ m, m = u.1.gs.length := ⟨_, rfl⟩
        rw [← hm] at hG
        obtain ⟨Ag, cg, rfl, _⟩ := own_shape hG
        have hm127 : m ≤ 1000 := by
          have hn := (h.ok.ok u.1 (List.mem_map.2 ⟨u, List.mem_of_getElem? hi, rfl⟩)).2.2
          have := nodup_le u.1.gs ((List.range 256).map fun (i : Nat) => (i : Int)) hn.2 (fun x hx => by
            have := hn.1 x hx
            unfold OkGrp at this
            exact List.mem_map.2 ⟨x.toNat, List.mem_range.2 (by omega), by omega⟩)
          simp at this
          omega
        have c3 := rin_any (c := cg) (w := w) x hm.symm (by omega) (Nums.of_own hG)
        rw [← hin0] at c3
        have hlen := h.len
        obtain ⟨n, hn⟩ : ∃ n, n = us.length := ⟨_, rfl⟩
        rw [← hn] at hv hncp hil hlen
        have hrl := block_lt h.hd
        have hcl2 := h.cell0
        rw [hv] at hcl2
        have hin : (i : Int) < (n : Int) := by omega
        have hi0 : (0 : Int) ≤ (i : Int) := by omega
        have hi9 : ¬ (i : Int) < 0 := by omega
        rw [o3] at c3
        clear e1 e2 o2 o3 ho h hi hsk hno hv hG hgv hm hin0 hgf hn
        go_enter Try.func32, Try.ntmps32
        go_wp2_with (first
          | (go_at_call 33; refine HF.mono ?_; rintro e w1 ⟨rfl, rfl⟩)
          | (go_at_call 40; refine (c1 _).mono ?_; rintro e w1 ⟨rfl, rfl⟩)
          | (go_at_call 34; refine c3.mono ?_; rintro e w1 ⟨rfl, rfl⟩))
        go_ret
        exact ⟨rfl, HN⟩
    · have he : leaveE (us.map (·.1)) k x = 0 := by unfold leaveE; rw [if_pos ho, o3]; rfl
      rw [he]
      exact rleave_yes h he
  · rw [decide_eq_false ho] at c1
    have e1 : leaveE (us.map (·.1)) k x = 1 := by unfold leaveE; rw [if_neg ho]
    have e2 : leaveS (us.map (·.1)) k x = us.map (·.1) := leaveS_no (by rw [e1]; decide)
    rw [e1, e2]
    obtain ⟨n, p, hf⟩ := foundU_ex us k
    have HF := rat_go h k n p hf
    clear e1 e2 ho hf h
    go_enter Try.func32, Try.ntmps32
    go_wp2_with (first
      | (go_at_call 33; refine HF.mono ?_; rintro e w1 ⟨rfl, rfl⟩)
      | (go_at_call 40; refine (c1 _).mono ?_; rintro e w1 ⟨rfl, rfl⟩))
    go_ret
    exact ⟨rfl, HN⟩
end Go.Proofs.Ytnegbiofnjdfaaa
