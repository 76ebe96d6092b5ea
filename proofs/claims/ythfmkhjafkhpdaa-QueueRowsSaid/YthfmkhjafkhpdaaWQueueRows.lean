/- The walk of QueueRows. -/
import Derived.Deep.QuietTactic
import Derived.BigQuiet
import Derived.Test.YthfmkhjafkhpdaaQAwake
import Derived.Test.YthfmkhjafkhpdaaQBHas
import Derived.Test.YthfmkhjafkhpdaaOEqual
import Derived.Test.YthfmkhjafkhpdaaORowsIn
namespace Go.Proofs.Ythfmkhjafkhpdaa
open Go.RowKit
set_option linter.unusedVariables false

/-- a row that came in, as the value that stands for it -/
structure RowV (w : World) (B : Nat) (ad : Addr) (k : Nat) (l : List Int) (v : Option Addr × Nat × Nat) : Prop where
  cell : w.cell? (ad.add k) = some (.slice v.1 v.2.1 v.2.2)
  len : v.2.1 = l.length
  row : Row w B v.1 v.2.1 l
  blk : ad.block < B
/-- the law's queue: of the rows that came in, those from the a-th to the j-th -/
structure RowsAt (W : World) (B q m : Nat) (vs : List (Option Addr × Nat × Nat)) (a j : Nat) (w : World) : Prop where
  a : BHas B w q m (((vs.map fun v => Value.slice v.1 v.2.1 v.2.2).take j).drop a)
  bel : Below B W w
  siz : B ≤ w.heap.size
theorem RowsAt.take {W w : World} {B q m : Nat} {vs : List (Option Addr × Nat × Nat)} {a j : Nat} (h : RowsAt W B q m vs a j w) {v : Option Addr × Nat × Nat} (hv : vs[a]? = some v) (haj : a < j) : BHas B w q m (.slice v.1 v.2.1 v.2.2 :: (((vs.map fun v => Value.slice v.1 v.2.1 v.2.2).take j).drop (a + 1))) := by
  have hlt := (List.getElem?_eq_some_iff.1 hv).1
  have := h.a
  rw [List.drop_eq_getElem_cons (by simp; omega)] at this
  have e : ((vs.map fun v => Value.slice v.1 v.2.1 v.2.2).take j)[a]'(by simp; omega) = .slice v.1 v.2.1 v.2.2 := by
    rw [List.getElem_take, List.getElem_map]
    rw [List.getElem?_eq_getElem hlt] at hv; injection hv with hv; rw [hv]
  rw [e] at this; exact this

set_option maxRecDepth 100000 in
set_option maxHeartbeats 1600000 in
theorem rows_walk (A : Option Addr) (len cap : Nat) (ls : List (List Int)) (vs : List (Option Addr × Nat × Nat)) (At : Option Addr) (nt ct : Nat) (ts : List Int) (w : World) (hlc : len ≤ cap) (hcm : cap ≤ 9223372036854775807) (hl : len ≤ 100) (hll : ls.length = len) (hvl : vs.length = len)
    (hvs : 0 < len → ∃ ad, A = some ad ∧ ∀ k l v, ls[k]? = some l → vs[k]? = some v → RowV w w.heap.size ad k l v) (hnt : nt ≤ 200) (ht : Row w w.heap.size At nt ts) (hts : ∀ x ∈ ts, 0 ≤ x ∧ x ≤ 255) :
    Calls Try.prog 5 #[.slice A len cap, .slice At nt ct] w fun e w' => e = .returned (.bool true) ∧ Below w.heap.size w w' := by
  have HLS := cover (And.intro hll (And.intro hvl hvs))
  have HTS := cover hts
  clear hll hvl hvs hts
  go_enter Try.func5, Try.ntmps5
  go_wp2_with fail
  refine (awake_any w).mono ?_
  rintro e w0 ⟨rfl, hb0⟩
  have hs0 := hb0.size
  go_wp2_with fail
  refine (newB_has len w.heap.size w0 hs0 len (by omega)).mono ?_
  rintro e w1 ⟨q, rfl, H1⟩
  have hs1 := Nat.le_trans hs0 H1.out.2.1.size
  have HS : Hid (RowsAt w w.heap.size q len vs 0 0 w1) := cover ⟨H1.out.1, hb0.trans (H1.out.2.1.mono hs0), hs1⟩
  clear H1 hb0 hs0 hs1
  go_wp2_with fail
  go_loopw [6, 7] (fun p i wr => ∃ a j : Nat, j ≤ len ∧ a ≤ j ∧ p = .int .i64 a ∧ i = .int .i64 j ∧ Hid (RowsAt w w.heap.size q len vs a j wr)) (fun _ i _ => len - (intOf i).toNat)
  case atStart => exact ⟨0, 0, Nat.zero_le _, Nat.zero_le _, rfl, rfl, HS⟩
  case round =>
    obtain ⟨a, j, hj, haj, rfl, rfl, hrel⟩ := hrel
    by_cases hlt : j < len
    · obtain ⟨ad, rfl, hvs⟩ := HLS.out.2.2 (by omega)
      have HVS := cover hvs
      clear hvs
      obtain ⟨l, hlj⟩ : ∃ l, ls[j]? = some l := ⟨_, List.getElem?_eq_getElem (by rw [HLS.out.1]; exact hlt)⟩
      obtain ⟨v, hvj⟩ : ∃ v, vs[j]? = some v := ⟨_, List.getElem?_eq_getElem (by rw [HLS.out.2.1]; exact hlt)⟩
      have hV := HVS.out j l v hlj hvj
      have hcell : wr.cell? (ad.add j) = some (.slice v.1 v.2.1 v.2.2) := (hrel.out.bel.cell (by rw [addr_add_block]; exact hV.blk)).trans hV.cell
      have HVJ := cover hvj
      clear hlj hvj hV
      by_cases hbig : 100 < v.2.1
      · have HB := cover hrel.out.bel
        clear hrel
        go_wp2
        go_ret
        exact ⟨rfl, HB.out⟩
      · have hvm : (vs.map fun v => Value.slice v.1 v.2.1 v.2.2).length = len := by rw [List.length_map]; exact HLS.out.2.1
        have hql : (((vs.map fun v => Value.slice v.1 v.2.1 v.2.2).take j).drop a).length = j - a := by rw [List.length_drop, List.length_take]; omega
        go_wp2_with fail
        refine (putB_has hrel.out.a hrel.out.siz v (by rw [hql]; omega) (by rw [hql]; omega)).mono ?_
        rintro e w2 ⟨rfl, H2⟩
        have HN : Hid (RowsAt w w.heap.size q len vs a (j + 1) w2) := by
          refine cover ⟨?_, hrel.out.bel.trans (H2.out.2.below hrel.out.siz), Nat.le_trans hrel.out.siz H2.out.2.size⟩
          have := H2.out.1
          rw [List.take_add_one, List.getElem?_map, HVJ.out]
          rw [List.drop_append_of_le_length (by rw [List.length_take]; omega)]
          exact this
        clear H2 hcell hvm hql hrel
        by_cases hjt : j < nt
        · obtain ⟨at', y, rfl, hat, hcy, hy⟩ := ht.at_ hjt
          have hyb := HTS.out y (List.mem_of_getElem? hy.out)
          obtain ⟨c, hc⟩ : ∃ c : Nat, (c : Int) = y % 3 := ⟨(y % 3).toNat, by omega⟩
          have hm : (wrap64 y).tmod 3 = (c : Int) := by
            rw [IntWalk.wrap64_in _ ⟨by omega, by omega⟩, Int.tmod_eq_emod_of_nonneg (by omega)]; omega
          have hc3 : c ≤ 2 := by omega
          have HCY := cover (fun (W : World) (hb : Below w.heap.size w W) => (hb.cell (p := at'.add j) (by rw [addr_add_block]; exact hat)).trans hcy)
          have HY := cover hyb
          clear hc hyb hcy hy
          go_wp2_with fail
          go_loopw [6, 8] (fun p i wr => ∃ a k : Nat, k ≤ c ∧ a ≤ j + 1 ∧ p = .int .i64 a ∧ i = .int .i64 k ∧ Hid (RowsAt w w.heap.size q len vs a (j + 1) wr)) (fun _ i _ => c - (intOf i).toNat)
          case atStart => exact ⟨a, 0, Nat.zero_le _, by omega, rfl, rfl, HN⟩
          case round =>
            obtain ⟨a', k, hk, ha', rfl, rfl, hrel⟩ := hrel
            have hcy := HCY.out _ hrel.out.bel
            by_cases hkc : k < c
            · by_cases hal : a' ≤ j
              · obtain ⟨x, hxa⟩ : ∃ x, vs[a']? = some x := ⟨_, List.getElem?_eq_getElem (by rw [HLS.out.2.1]; omega)⟩
                obtain ⟨lx, hlx⟩ : ∃ l, ls[a']? = some l := ⟨_, List.getElem?_eq_getElem (by rw [HLS.out.1]; omega)⟩
                have hV := HVS.out a' lx x hlx hxa
                have hT := hrel.out.take hxa (by omega)
                clear hxa hlx
                go_wp2_with fail
                refine (takeB_has hT).mono ?_
                rintro e w3 ⟨rfl, H3⟩
                have hb3 : Below w.heap.size w w3 := hrel.out.bel.trans (H3.out.2.below hrel.out.siz)
                have hcx : w3.cell? (ad.add a') = some (.slice x.1 x.2.1 x.2.2) := (hb3.cell (by rw [addr_add_block]; exact hV.blk)).trans hV.cell
                have hcv : ∀ d, (convert 48 9 (.slice x.1 x.2.1 x.2.2)).run Try.prog (w3.drewN d) = .ok (.string (strOfNums lx)) (w3.drewN d) := fun d =>
                  bytes_to_string (P := Try.prog) x.2.2 ((hV.row.below hb3).drewN d) 48 5 9 Try.underlying48 Try.underlying5 Try.underlying9
                have HN3 : Hid (RowsAt w w.heap.size q len vs (a' + 1) (j + 1) w3) := cover ⟨H3.out.1, hb3, Nat.le_trans hrel.out.siz H3.out.2.size⟩
                clear H3 hb3 hT hcy hV
                go_wp2_with fail
                have hd : decide ((a' : Int) ≤ (j : Int)) = true := by simp; omega
                have hal' : a' < len := by omega
                go_quiet (fail)
                have HN4 : Hid (RowsAt w w.heap.size q len vs (a' + 1) (j + 1) (w3.drewN nq)) := cover ⟨HN3.out.a.below (below_drewN (Below.refl _ _) nq), below_drewN HN3.out.bel nq, HN3.out.siz⟩
                clear HN3 hcx hcv hd
                go_wp2
                go_roundw
                case rel => exact ⟨a' + 1, k + 1, by omega, by omega, by go_num, by go_num, HN4⟩
                case measure => simp [intOf]; omega
              · obtain rfl : a' = j + 1 := by omega
                have hvm : (vs.map fun v => Value.slice v.1 v.2.1 v.2.2).length = len := by rw [List.length_map]; exact HLS.out.2.1
                have hT : BHas w.heap.size wr q len [] := by
                  have := hrel.out.a
                  rwa [List.drop_of_length_le (by rw [List.length_take]; omega)] at this
                clear hvm
                go_wp2_with fail
                refine (takeB_hasnt hT).mono ?_
                rintro e w3 ⟨rfl, rfl⟩
                clear hT hcy
                have hd : decide ((j : Int) + 1 ≤ (j : Int)) = false := by simp; omega
                go_wp2_with fail
                go_quiet (fail)
                have HN4 : Hid (RowsAt w w.heap.size q len vs (j + 1) (j + 1) (wr.drewN nq)) := cover ⟨hrel.out.a.below (below_drewN (Below.refl _ _) nq), below_drewN hrel.out.bel nq, hrel.out.siz⟩
                clear hrel hd
                go_wp2
                go_roundw
                case rel => exact ⟨j + 1, k + 1, by omega, by omega, by go_num, by go_num, HN4⟩
                case measure => simp [intOf]; omega
            · obtain rfl : k = c := by omega
              go_wp2_with fail
              go_roundw
              case rel => exact ⟨a', j + 1, by omega, ha', rfl, by go_num, hrel⟩
              case measure => simp [intOf]; omega
        · go_wp2_with fail
          go_loopw [6, 8] (fun p i wr => p = .int .i64 a ∧ i = .int .i64 0 ∧ Hid (RowsAt w w.heap.size q len vs a (j + 1) wr)) (fun _ _ _ => 0)
          case atStart => exact ⟨rfl, rfl, HN⟩
          case round =>
            obtain ⟨rfl, rfl, hrel⟩ := hrel
            go_wp2_with fail
            go_roundw
            case rel => exact ⟨a, j + 1, by omega, by omega, rfl, by go_num, hrel⟩
            case measure => simp [intOf]; omega
    · obtain rfl : j = len := by omega
      have hvm : (vs.map fun v => Value.slice v.1 v.2.1 v.2.2).length = j := by rw [List.length_map]; exact HLS.out.2.1
      have HL := lenB_has hrel.out.a
      rw [show (((vs.map fun v => Value.slice v.1 v.2.1 v.2.2).take j).drop a).length = j - a by rw [List.length_drop, List.length_take]; omega] at HL
      have hw : ((j - a : Nat) : Int) = (j : Int) - (a : Int) := by omega
      rw [hw] at HL
      have HB := cover hrel.out.bel
      clear hrel hvm hw
      go_wp2_with (go_at_call 30; refine HL.mono ?_; rintro e w' ⟨rfl, rfl⟩)
      go_ret
      exact ⟨ret_bool (by simp), HB.out⟩

set_option maxRecDepth 100000 in
theorem walk_QueueRows (A : Option Addr) (len cap : Nat) (ls : List (List Int)) (At : Option Addr) (nt ct : Nat) (ts : List Int) (w : World) (hlc : len ≤ cap) (hcm : cap ≤ maxLen) (hr : RowsB w w.heap.size A len ls ∧ Btss ls)
    (hlc' : nt ≤ ct) (hcm' : ct ≤ maxLen) (ht : Row w w.heap.size At nt ts) (hts : ∀ x ∈ ts, (Lit.int .u8 x).wf = true) :
    Calls Try.prog 5 #[.slice A len cap, .slice At nt ct] w fun e w' => e = .returned (.bool true) ∧ Below w.heap.size w w' := by
  unfold maxLen at hcm hcm'
  have htb : ∀ x ∈ ts, 0 ≤ x ∧ x ≤ 255 := fun x hx => by
    have h := hts x hx
    have hmin : IntKind.u8.min = 0 := rfl
    have hmax : IntKind.u8.max = 255 := rfl
    simp only [Lit.wf, Bool.and_eq_true, decide_eq_true_eq] at h
    omega
  clear hts
  by_cases hl : 100 < len
  · clear hr ht htb
    go_enter Try.func5, Try.ntmps5
    go_wp2_with fail
    refine (awake_any w).mono ?_
    rintro e w0 ⟨rfl, hb0⟩
    go_wp2
    go_ret
    exact ⟨rfl, hb0⟩
  by_cases hn : 200 < nt
  · clear hr ht htb
    go_enter Try.func5, Try.ntmps5
    go_wp2_with fail
    refine (awake_any w).mono ?_
    rintro e w0 ⟨rfl, hb0⟩
    go_wp2
    go_ret
    exact ⟨rfl, hb0⟩
  obtain ⟨vs, hvl, hvs⟩ := list_of (n := len) (P := fun k (v : Option Addr × Nat × Nat) => ∃ ad l, A = some ad ∧ ls[k]? = some l ∧ RowV w w.heap.size ad k l v) (fun k hk => by
    obtain ⟨ad, A', c', x, e, had, hc, _, hrow, _, hx⟩ := hr.1.at_ hk
    exact ⟨(A', x.length, c'), ad, x, e, hx.out, ⟨hc, rfl, hrow, had⟩⟩)
  refine rows_walk A len cap ls vs At nt ct ts w hlc (by omega) (by omega) hr.1.len hvl (fun h0 => ?_) (by omega) ht htb
  obtain ⟨ad, l, e, _, _⟩ := hvs 0 (by omega)
  refine ⟨ad, e, fun k l v h1 h2 => ?_⟩
  obtain ⟨hk, h3⟩ := List.getElem?_eq_some_iff.1 h2
  obtain ⟨ad', l', e', h4, h5⟩ := hvs k hk
  rw [e] at e'; injection e' with e'
  rw [h1] at h4; injection h4 with h4
  rw [h3] at h5
  rw [e', h4]; exact h5
end Go.Proofs.Ythfmkhjafkhpdaa
