/- Whom the document's own Saps lets hear; the law's own list of all its SAPs. -/
import Derived.Deep.AppendLies
import Derived.Test.YtnegbiofnjdfaaaSRef
namespace Go.Proofs.Ytnegbiofnjdfaaa
open Go.RowKit
set_option linter.unusedVariables false

/-- numbers that are gathered: so far these -/
structure GathAt (w : World) (T : List Int) (v : Value) (wr : World) : Prop where
  own : wr.ownsRow w.heap.size 3 1 v T.length (T.map (Value.int .i64))
  bel : Below w.heap.size w wr
theorem GathAt.start (w : World) : GathAt w [] (.slice none 0 0) w := ⟨World.ownsRow_nil _ _ _ _, Below.refl _ _⟩
theorem GathAt.out {w wr : World} {T : List Int} {v : Value} (h : GathAt w T v wr) : Out T w (.returned v) wr := out_of h.own h.bel
theorem GathAt.app {w wr w7 : World} {T T' : List Int} {v : Value} (h : GathAt w T v wr) (hb : Below wr.heap.size wr w7) (x : Int) {ad : Addr} (hc : ∀ j u, ([Value.int .i64 x])[j]? = some u → w7.cell? (ad.add j) = some u) (hT : T' = T ++ [x]) (hl : T.length ≤ 1000) :
    Appends Try.prog 28 w7 v (.slice (some ad) 1 1) (fun v' w' => Hid (GathAt w T' v' w')) := fun ty => by
  have hs := h.bel.size
  have ho7 := row_keeps h.own (fun j hj => hb.block j (h.own.lt j hj).2)
  obtain ⟨v', w', k1, k2, k3⟩ := append_i ho7 ad 1 1 [x] rfl hc (Nat.le_trans hs hb.size) (by omega) ty
  refine ⟨v', w', k1, cover ⟨?_, below_grown (h.bel.trans (hb.mono hs)) (Nat.le_trans hs hb.size) ho7 k3⟩⟩
  rw [hT, List.length_append]
  exact k2
def hearU (us : List SU) (n : Int) (j : Nat) : List Int := hearS ((us.map (·.1)).take j) n
theorem hearU_succ {us : List SU} {n : Int} {j : Nat} {u : SU} (hu : us[j]? = some u) : hearU us n (j + 1) = if hearB u.1 n = true then hearU us n j ++ [u.1.sap] else hearU us n j := by
  unfold hearU hearS
  have e : (us.map (·.1)).take (j + 1) = (us.map (·.1)).take j ++ [u.1] := by
    rw [List.take_add_one, List.getElem?_map, hu]; rfl
  rw [e, List.filter_append, List.map_append]
  cases hb : hearB u.1 n
  · rw [List.filter_cons, if_neg (by rw [hb]; decide)]; simp
  · rw [List.filter_cons, if_pos hb]; simp
theorem hearU_len (us : List SU) (n : Int) (j : Nat) : (hearU us n j).length ≤ us.length := by
  unfold hearU
  refine Nat.le_trans (hear_len _ _) ?_
  rw [List.length_take, List.length_map]
  omega
theorem hearU_all (us : List SU) (n : Int) : hearU us n us.length = hearS (us.map (·.1)) n := by
  unfold hearU
  rw [List.take_of_length_le (by rw [List.length_map]; exact Nat.le_refl _)]
set_option maxRecDepth 100000 in
set_option maxHeartbeats 1600000 in
theorem rhears_any {w : World} {r : Nat} {V : Value} {us : List SU} (h : RSIn w r V us) (n : Int) :
    Calls Try.prog 18 #[ptr r, .int .i64 n] w (Out (hearS (us.map (·.1)) n) w) := by
  obtain ⟨A, cp, rfl⟩ := h.shape
  have hlen := h.len
  have HC := cover h
  have hrl := block_lt h.hd
  have hd2 := h.cell0
  have HD : Hid (∀ wx, Below w.heap.size w wx → wx.cell? ⟨r, 0, none⟩ = some (.slice A us.length cp)) := cover (fun wx hb => (hb.cell (p := ⟨r, 0, none⟩) hrl).trans hd2)
  clear h hd2
  go_enter Try.func18, Try.ntmps18
  go_wp2_with fail
  go_loopw [5, 6] (fun vv i wr => ∃ (v : Value) (j : Nat), j ≤ us.length ∧ vv = v ∧ i = .int .i64 j ∧ Hid (GathAt w (hearU us n j) v wr)) (fun _ i _ => us.length - (intOf i).toNat)
  case atStart => exact ⟨_, 0, Nat.zero_le _, rfl, rfl, cover (GathAt.start w)⟩
  case round =>
    obtain ⟨v, j, hj, hv, rfl, hrel⟩ := hrel
    have hv2 := hv.symm
    subst hv2
    clear hv
    have d2 := HD.out wr hrel.out.bel
    by_cases hlt : j < us.length
    · obtain ⟨u, hu⟩ : ∃ u, us[j]? = some u := ⟨_, List.getElem?_eq_getElem hlt⟩
      obtain ⟨g, c', hv, hcap, hgl, h0, _, h2, _⟩ := HC.out.row.cell hu
      have hA : A = some ⟨g, 0, none⟩ := by injection hv
      have hcc : c' = cp := by injection hv with _ _ h3; exact h3.symm
      subst hA hcc
      have hG := HC.out.grp u (List.mem_of_getElem? hu)
      have HS := cover (hearU_succ (n := n) hu)
      have HL := cover (hearU_len us n j)
      have hgl3 : u.1.gs.length ≤ 1000000 := by
        have hn := (HC.out.ok.ok u.1 (List.mem_map.2 ⟨u, List.mem_of_getElem? hu, rfl⟩)).2.2
        have := nodup_le u.1.gs ((List.range 256).map fun (i : Nat) => (i : Int)) hn.2 (fun x hx => by
          have := hn.1 x hx
          unfold OkGrp at this
          exact List.mem_map.2 ⟨x.toNat, List.mem_range.2 (by omega), by omega⟩)
        simp at this
        omega
      obtain ⟨Ag, cg, hgv, _⟩ := own_shape hG
      have hgb := hrel.out.bel
      have hin := rin_any (c := cg) (w := wr) n rfl hgl3 (by
        unfold GrpIn at hG
        rw [hgv] at hG
        exact Nums.of_own (row_keeps hG (fun i hi => hgb.block i (hG.lt i hi).2)))
      obtain ⟨m, hm⟩ : ∃ m, m = u.1.gs.length := ⟨_, rfl⟩
      rw [hgv, ← hm] at h2
      rw [← hm] at hin
      obtain ⟨x, hx⟩ : ∃ x, x = u.1.sap := ⟨_, rfl⟩
      rw [← hx] at h0
      have h0' : wr.cell? ⟨g, j * 3, none⟩ = some (.int .i64 x) := (hgb.cell (p := ⟨g, j * 3, none⟩) hgl).trans h0
      have h2' : wr.cell? ⟨g, j * 3 + 2, none⟩ = some (.slice Ag m cg) := (hgb.cell (p := ⟨g, j * 3 + 2, none⟩) hgl).trans h2
      have HB : Hid (hearB u.1 n = (x == n || n == 255 || u.1.gs.contains n)) := cover (by unfold hearB; rw [hx])
      rw [← hx] at HS
      obtain ⟨bb, hbb⟩ : ∃ bb, bb = hearB u.1 n := ⟨_, rfl⟩
      rw [← hbb] at HS HB
      obtain ⟨cc, hcc2⟩ : ∃ cc, cc = u.1.gs.contains n := ⟨_, rfl⟩
      rw [← hcc2] at hin HB
      clear hbb hcc2 hgl3 hG hgv hgb h0 h2 hm hx hv hu
      by_cases e1 : x = n
      · have e1' : (x == n) = true := by simpa using e1
        have HBT : Hid (bb = true) := cover (by rw [HB.out, e1']; rfl)
        have hsucc : Hid (hearU us n (j + 1) = hearU us n j ++ [x]) := cover (by rw [HS.out, if_pos HBT.out])
        have E1 := cover e1
        clear hin e1
        obtain ⟨w7, hw7⟩ : ∃ w7, w7 = wr.alloc (.cells #[.int .i64 x] 3) := ⟨_, rfl⟩
        have hb7 : Below wr.heap.size wr w7 := by rw [hw7]; exact (Below.refl _ _).alloc (Nat.le_refl _) _
        have HAP : Hid (Appends Try.prog 28 w7 v (.slice (some ⟨wr.heap.size, 0, none⟩) 1 1) (fun v' w' => Hid (GathAt w (hearU us n (j + 1)) v' w'))) := cover (hrel.out.app hb7 x (by rw [hw7]; exact World.news_of_block (cs := #[.int .i64 x]) (heap_alloc_new wr _)) (hsucc.out) (Nat.le_trans HL.out (by omega)))
        clear hb7 hrel
        go_wp2_with (at_builtin; rw [← hw7]; refine appends_list rfl _ _ _ rfl _ _ rfl rfl HAP.out ?_; intro v8 w8 H6)
        clear HAP hw7
        go_wp2
        go_roundw
        case rel => exact ⟨_, j + 1, by omega, rfl, by go_num, H6⟩
        case measure => simp [intOf]; omega
      · have e1' : (x == n) = false := by simpa using e1
        by_cases e2 : n = 255
        · have e2' : (n == 255) = true := by simpa using e2
          have HBT : Hid (bb = true) := cover (by rw [HB.out, e1', e2']; rfl)
          have hsucc : Hid (hearU us n (j + 1) = hearU us n j ++ [x]) := cover (by rw [HS.out, if_pos HBT.out])
          have E1 := cover (And.intro e1 e2)
          clear hin e1 e2
          obtain ⟨w7, hw7⟩ : ∃ w7, w7 = wr.alloc (.cells #[.int .i64 x] 3) := ⟨_, rfl⟩
          have hb7 : Below wr.heap.size wr w7 := by rw [hw7]; exact (Below.refl _ _).alloc (Nat.le_refl _) _
          have HAP : Hid (Appends Try.prog 28 w7 v (.slice (some ⟨wr.heap.size, 0, none⟩) 1 1) (fun v' w' => Hid (GathAt w (hearU us n (j + 1)) v' w'))) := cover (hrel.out.app hb7 x (by rw [hw7]; exact World.news_of_block (cs := #[.int .i64 x]) (heap_alloc_new wr _)) (hsucc.out) (Nat.le_trans HL.out (by omega)))
          clear hb7 hrel
          go_wp2_with (at_builtin; rw [← hw7]; refine appends_list rfl _ _ _ rfl _ _ rfl rfl HAP.out ?_; intro v8 w8 H6)
          clear HAP hw7
          go_wp2
          go_roundw
          case rel => exact ⟨_, j + 1, by omega, rfl, by go_num, H6⟩
          case measure => simp [intOf]; omega
        · have e2' : (n == 255) = false := by simpa using e2
          cases hcv : cc
          · rw [hcv] at hin
            have HN : Hid (GathAt w (hearU us n (j + 1)) v wr) := cover (by rw [HS.out, HB.out, e1', e2', hcv]; exact hrel.out)
            have E1 := cover (And.intro e1 (And.intro e2 hcv))
            clear e1 e2 hcv hrel
            go_wp2_with fail
            refine hin.mono ?_
            rintro e w' ⟨rfl, rfl⟩
            clear hin
            go_wp2
            go_roundw
            case rel => exact ⟨_, j + 1, by omega, rfl, by go_num, HN⟩
            case measure => simp [intOf]; omega
          · rw [hcv] at hin
            have hsucc : Hid (hearU us n (j + 1) = hearU us n j ++ [x]) := cover (by rw [HS.out, HB.out, e1', e2', hcv]; rfl)
            have E1 := cover (And.intro e1 (And.intro e2 hcv))
            clear e1 e2 hcv
            go_wp2_with fail
            refine hin.mono ?_
            rintro e w' ⟨rfl, rfl⟩
            clear hin
            obtain ⟨w7, hw7⟩ : ∃ w7, w7 = wr.alloc (.cells #[.int .i64 x] 3) := ⟨_, rfl⟩
            have hb7 : Below wr.heap.size wr w7 := by rw [hw7]; exact (Below.refl _ _).alloc (Nat.le_refl _) _
            have HAP : Hid (Appends Try.prog 28 w7 v (.slice (some ⟨wr.heap.size, 0, none⟩) 1 1) (fun v' w' => Hid (GathAt w (hearU us n (j + 1)) v' w'))) := cover (hrel.out.app hb7 x (by rw [hw7]; exact World.news_of_block (cs := #[.int .i64 x]) (heap_alloc_new wr _)) (hsucc.out) (Nat.le_trans HL.out (by omega)))
            clear hb7 hrel
            go_wp2_with (at_builtin; rw [← hw7]; refine appends_list rfl _ _ _ rfl _ _ rfl rfl HAP.out ?_; intro v8 w8 H6)
            clear HAP hw7
            go_wp2
            go_roundw
            case rel => exact ⟨_, j + 1, by omega, rfl, by go_num, H6⟩
            case measure => simp [intOf]; omega
    · obtain rfl : j = us.length := by omega
      have HO := cover hrel.out.out
      rw [hearU_all] at HO
      obtain ⟨A5, c5, rfl, _⟩ := own_shape hrel.out.own
      clear hrel
      go_wp2
      go_ret
      exact HO.out
def listU (us : List SU) (j : Nat) : List Int := listS ((us.map (·.1)).take j)
theorem listU_succ {us : List SU} {j : Nat} {u : SU} (hu : us[j]? = some u) : listU us (j + 1) = listU us j ++ [u.1.sap] := by
  unfold listU listS
  have e : (us.map (·.1)).take (j + 1) = (us.map (·.1)).take j ++ [u.1] := by
    rw [List.take_add_one, List.getElem?_map, hu]; rfl
  rw [e, List.map_append]
  rfl
theorem listU_len (us : List SU) (j : Nat) : (listU us j).length ≤ us.length := by
  unfold listU
  rw [list_len, List.length_take, List.length_map]
  omega
theorem listU_all (us : List SU) : listU us us.length = listS (us.map (·.1)) := by
  unfold listU
  rw [List.take_of_length_le (by rw [List.length_map]; exact Nat.le_refl _)]
set_option maxRecDepth 100000 in
set_option maxHeartbeats 1600000 in
theorem rlist_any {w : World} {r : Nat} {V : Value} {us : List SU} (h : RSIn w r V us) :
    Calls Try.prog 20 #[ptr r] w (Out (listS (us.map (·.1))) w) := by
  obtain ⟨A, cp, rfl⟩ := h.shape
  have hlen := h.len
  have HC := cover h
  have hrl := block_lt h.hd
  have hd2 := h.cell0
  have HD : Hid (∀ wx, Below w.heap.size w wx → wx.cell? ⟨r, 0, none⟩ = some (.slice A us.length cp)) := cover (fun wx hb => (hb.cell (p := ⟨r, 0, none⟩) hrl).trans hd2)
  clear h hd2
  go_enter Try.func20, Try.ntmps20
  go_wp2_with fail
  go_loopw [3, 4] (fun vv i wr => ∃ (v : Value) (j : Nat), j ≤ us.length ∧ vv = v ∧ i = .int .i64 j ∧ Hid (GathAt w (listU us j) v wr)) (fun _ i _ => us.length - (intOf i).toNat)
  case atStart => exact ⟨_, 0, Nat.zero_le _, rfl, rfl, cover (GathAt.start w)⟩
  case round =>
    obtain ⟨v, j, hj, hv, rfl, hrel⟩ := hrel
    have hv2 := hv.symm
    subst hv2
    clear hv
    have d2 := HD.out wr hrel.out.bel
    by_cases hlt : j < us.length
    · obtain ⟨u, hu⟩ : ∃ u, us[j]? = some u := ⟨_, List.getElem?_eq_getElem hlt⟩
      obtain ⟨g, c', hv, hcap, hgl, h0, _⟩ := HC.out.row.cell hu
      have hA : A = some ⟨g, 0, none⟩ := by injection hv
      have hcc : c' = cp := by injection hv with _ _ h3; exact h3.symm
      subst hA hcc
      have HS := cover (listU_succ hu)
      have HL := cover (listU_len us j)
      have hgb := hrel.out.bel
      obtain ⟨x, hx⟩ : ∃ x, x = u.1.sap := ⟨_, rfl⟩
      rw [← hx] at h0 HS
      have h0' : wr.cell? ⟨g, j * 3, none⟩ = some (.int .i64 x) := (hgb.cell (p := ⟨g, j * 3, none⟩) hgl).trans h0
      clear hgb h0 hx hv hu
      obtain ⟨w7, hw7⟩ : ∃ w7, w7 = wr.alloc (.cells #[.int .i64 x] 3) := ⟨_, rfl⟩
      have hb7 : Below wr.heap.size wr w7 := by rw [hw7]; exact (Below.refl _ _).alloc (Nat.le_refl _) _
      have HAP : Hid (Appends Try.prog 28 w7 v (.slice (some ⟨wr.heap.size, 0, none⟩) 1 1) (fun v' w' => Hid (GathAt w (listU us (j + 1)) v' w'))) := cover (hrel.out.app hb7 x (by rw [hw7]; exact World.news_of_block (cs := #[.int .i64 x]) (heap_alloc_new wr _)) (HS.out) (Nat.le_trans HL.out (by omega)))
      clear hb7 hrel
      go_wp2_with (at_builtin; rw [← hw7]; refine appends_list rfl _ _ _ rfl _ _ rfl rfl HAP.out ?_; intro v8 w8 H6)
      clear HAP hw7
      go_wp2
      go_roundw
      case rel => exact ⟨_, j + 1, by omega, rfl, by go_num, H6⟩
      case measure => simp [intOf]; omega
    · obtain rfl : j = us.length := by omega
      have HO := cover hrel.out.out
      rw [listU_all] at HO
      obtain ⟨A5, c5, rfl, _⟩ := own_shape hrel.out.own
      clear hrel
      go_wp2
      go_ret
      exact HO.out
end Go.Proofs.Ytnegbiofnjdfaaa
