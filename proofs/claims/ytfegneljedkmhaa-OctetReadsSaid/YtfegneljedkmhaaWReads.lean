/- The walk of OctetReads. -/
import Derived.Test.YtfegneljedkmhaaOAwake
import Derived.Test.YtfegneljedkmhaaOFrame
import Derived.Test.YtfegneljedkmhaaORdr
import Derived.Deep.Slices
import Derived.Deep.CutBlock
import Derived.Deep.DeepCutAuto
import Derived.Deep.QuietTactic
import Derived.BigQuiet
namespace Go.Proofs.Ytfegneljedkmhaa
open Go.RowKit
set_option linter.unusedVariables false

/-- a slice of deeds that came in: of each its two numbers -/
structure Deeds (w : World) (B : Nat) (A : Option Addr) (n : Nat) (ds : List (Int × Int)) : Prop where
  len : ds.length = n
  cells : ∀ k (h : k < ds.length), ∃ ad, A = some ad ∧ ad.block < B ∧ w.cell? (ad.add (k * 2)) = some (.int .i64 ds[k].1) ∧ w.cell? ⟨(ad.add (k * 2)).block, (ad.add (k * 2)).off + 1, none⟩ = some (.int .i64 ds[k].2) ∧ (-9223372036854775808 ≤ ds[k].1 ∧ ds[k].1 ≤ 9223372036854775807) ∧ (-9223372036854775808 ≤ ds[k].2 ∧ ds[k].2 ≤ 9223372036854775807)
theorem Deeds.at_ {w : World} {B n : Nat} {A : Option Addr} {ds : List (Int × Int)} (h : Deeds w B A n ds) {k : Nat} (hk : k < n) :
    ∃ ad x y, A = some ad ∧ ad.block < B ∧ w.cell? (ad.add (k * 2)) = some (.int .i64 x) ∧ w.cell? ⟨(ad.add (k * 2)).block, (ad.add (k * 2)).off + 1, none⟩ = some (.int .i64 y) ∧ (-9223372036854775808 ≤ x ∧ x ≤ 9223372036854775807) ∧ (-9223372036854775808 ≤ y ∧ y ≤ 9223372036854775807) := by
  obtain ⟨ad, e, hb, h1, h2, h3, h4⟩ := h.cells k (by rw [h.len]; exact hk)
  exact ⟨ad, _, _, e, hb, h1, h2, h3, h4⟩

theorem quiet_own {P : Program} {f : FuncId} {args : Array Value} {w : World} {n : Nat} {v : Value} (h : Calls P f args (w.drewN n) fun e w' => e = .returned v ∧ w.drewN n = w') :
    Calls P f args (w.drewN n) fun e w'' => e = .returned v ∧ ∃ m, w'' = w.drewN m := h.mono fun _ _ ⟨he, hw⟩ => ⟨he, n, hw.symm⟩

/-- at the head of a round: both readers stand alike -/
def ReadsAt (w : World) (g g2 : Nat) (wr : World) : Prop :=
  ∃ ys f, Bts ys ∧ ys.length ≤ 500 ∧ Rd 52 wr g g ys f ∧ Rd 36 wr w.heap.size g2 ys f ∧ Below w.heap.size w wr

set_option maxRecDepth 100000 in
set_option maxHeartbeats 1600000 in
theorem reads_in (A Ad : Option Addr) (len cap nd cd : Nat) (l : List Int) (ds : List (Int × Int)) (w : World) (hr : Row w w.heap.size A len l) (hb : Bts l) (hlc : len ≤ cap) (hl : len ≤ 500) (hd : Deeds w w.heap.size Ad nd ds) (hnd : nd ≤ 100) :
    Calls Try.prog 5 #[.slice A len cap, .slice Ad nd cd] w fun e w' => e = .returned (.bool true) ∧ Below w.heap.size w w' := by
  have HB := cover hb
  have HLL := cover hr.len
  clear hb
  go_enter Try.func5, Try.ntmps5
  go_wp2_with fail
  refine (awake_any w).mono ?_
  rintro e w0 ⟨rfl, hb0⟩
  have hsz0 := hb0.size
  go_wp2_with fail
  refine (new_any A len cap _ l _ (hr.below hb0) hsz0 (by omega)).mono ?_
  rintro e w1 ⟨g, rfl, hr1, hg1, hb1⟩
  have hsz1 := hb1.size
  obtain ⟨g2, hg2⟩ : ∃ g2, w1.heap.size = g2 := ⟨_, rfl⟩
  have hgg : g < g2 := by have := hr1.lt; omega
  have hwg : w.heap.size ≤ g := by omega
  have hbel1 := hb0.trans (hb1.mono hsz0)
  have hstart : Hid (ReadsAt w g g2 (w1.alloc (.cells #[.slice A len cap, .bool false] 36))) := cover (by
    refine ⟨l, false, HB.out, by rw [HLL.out]; exact hl, hr1.below (Below.alloc (Below.refl w1.heap.size w1) (Nat.le_refl _) _) hr1.lt, ⟨⟨A, cap, ?_, by rw [HLL.out]; exact hlc, ?_⟩, by omega⟩, hbel1.alloc hbel1.size _⟩
    · rw [← hg2, heap_alloc_new, HLL.out]
    · rw [HLL.out]; exact (hr.below hbel1).alloc hbel1.size _)
  clear hr1
  go_wp2_with fail
  clear hg2
  go_loopw [7] (fun i wr => ∃ j : Nat, j ≤ nd ∧ i = .int .i64 j ∧ Hid (ReadsAt w g g2 wr)) (fun i _ => nd - (intOf i).toNat)
  case atStart => exact ⟨0, Nat.zero_le _, rfl, hstart⟩
  case round =>
    obtain ⟨j, hj, rfl, hrel⟩ := hrel
    by_cases hlt : j < nd
    · obtain ⟨ys, f, hyb, hyl, hrd, hrf, hbel⟩ := hrel.out
      obtain ⟨ad, x, y, rfl, had, hx, hy, hxb, hyb'⟩ := hd.at_ hlt
      have hadr := fun (W : World) (hb : Below w.heap.size w W) => (hb.cell (p := ad.add (j * 2)) (by rw [addr_add_block]; exact had)).trans hx
      have hady := fun (W : World) (hb : Below w.heap.size w W) => (hb.cell (p := ⟨(ad.add (j * 2)).block, (ad.add (j * 2)).off + 1, none⟩) (by rw [addr_add_block]; exact had)).trans hy
      have HX := cover hadr
      have HY := cover hady
      have hxr := hadr wr hbel
      have hyr := hady wr hbel
      clear hadr hady hx hy
      go_upto_block 2 with fail
      go_cut [8] (fun v wx => v = .bool true ∧ Hid (ReadsAt w g g2 wx))
      case first =>
        by_cases hx2 : x ≤ 2
        · by_cases hok : okN ys f y = true
          · obtain ⟨rfl, h1, h7, hyn⟩ := (okN_iff ys f y).1 hok
            obtain ⟨k, rfl⟩ : ∃ k : Nat, (k : Int) = y := ⟨y.toNat, by omega⟩
            clear hok
            go_wp2_with fail
            refine (num_yes g g k ys _ hrd hyb (by omega) (by omega) (by omega) (by omega)).mono ?_
            rintro e w2 ⟨rfl, hrd2, ho2⟩
            have hbel2 := below_only hbel ho2 hwg hbel.size
            have hrf2 := hrf.grown ho2 (by omega) hwg
            have hx2r := HX.out w2 hbel2
            have hy2r := HY.out w2 hbel2
            go_wp2_with fail
            refine (ref_num_yes w.heap.size g2 k ys _ hrf2 hyb (by omega) (by omega) (by omega) (by omega)).mono ?_
            rintro e w3 ⟨rfl, hrf3, ho3⟩
            have hbel3 := below_only hbel2 ho3 (by omega) hbel2.size
            have HN : Hid (ReadsAt w g g2 w3) := cover ⟨_, false, hyb.drop k, by rw [List.length_drop]; omega, hrd2.grown ho3 (by omega) (by omega), hrf3, hbel3⟩
            clear hrd hrf hrd2 hrf2 hrf3
            go_wp2_with fail
            go_meet
            exact ⟨rfl, HN⟩
          · have hok' : okN ys f y = false := by simpa using hok
            have HK := cover hok'
            clear hok hok'
            go_wp2_with fail
            refine (num_no g g ys f y _ hrd HK.out).mono ?_
            rintro e w2 ⟨rfl, hrd2, ho2⟩
            have hbel2 := below_only hbel ho2 hwg hbel.size
            have hrf2 := hrf.grown ho2 (by omega) hwg
            have hx2r := HX.out w2 hbel2
            have hy2r := HY.out w2 hbel2
            go_wp2_with fail
            refine (ref_num_no w.heap.size g2 ys f y _ hrf2 HK.out).mono ?_
            rintro e w3 ⟨rfl, hrf3, ho3⟩
            have hbel3 := below_only hbel2 ho3 (by omega) hbel2.size
            have HN : Hid (ReadsAt w g g2 w3) := cover ⟨ys, true, hyb, hyl, hrd2.grown ho3 (by omega) (by omega), hrf3, hbel3⟩
            clear hrd hrf hrd2 hrf2 hrf3
            go_wp2_with fail
            go_meet
            exact ⟨rfl, HN⟩
        by_cases hx4 : x ≤ 4
        · by_cases hok : okR ys f y = true
          · obtain ⟨rfl, h1, hyn⟩ := (okR_iff ys f y).1 hok
            obtain ⟨k, rfl⟩ : ∃ k : Nat, (k : Int) = y := ⟨y.toNat, by omega⟩
            have HL : Hid ((ys.take k).length = k) := cover (by rw [List.length_take]; omega)
            clear hok
            go_wp2_with fail
            refine (raw_yes g g k ys _ hrd (by omega) (by omega)).mono ?_
            rintro e w2 ⟨A2, c2, rfl, hown2, hrd2, ho2⟩
            have hbel2 := below_only hbel ho2 hwg hbel.size
            have hrf2 := hrf.grown ho2 (by omega) hwg
            have hx2r := HX.out w2 hbel2
            have hy2r := HY.out w2 hbel2
            go_wp2_with fail
            refine (ref_raw_yes w.heap.size g2 k ys _ hrf2 (by omega) (by omega)).mono ?_
            rintro e w3 ⟨A3, c3, rfl, hown3, hrf3, ho3⟩
            have hbel3 := below_only hbel2 ho3 (by omega) hbel2.size
            have ho4 := hown2.kept ho3 (.inr (own_ne_rd hrf2 hown2 (by decide)))
            unfold OwnB at ho4 hown3
            rw [HL.out] at ho4 hown3
            have hra : Row w3 w3.heap.size A2 k (ys.take k) := RowK.of_own ho4 HL.out
            have hrb : Row w3 w3.heap.size A3 k (ys.take k) := RowK.of_own hown3 HL.out
            clear ho4 hown2 hown3 hrd hrf hrf2
            go_wp2_with fail
            refine (same_any A2 A3 k c2 c3 _ _ _ _ w3 hra hrb (by omega)).mono ?_
            rintro e w4 ⟨he, d4, rfl⟩
            obtain rfl : e = .returned (.bool true) := by rw [he]; simp
            clear he
            have HN : Hid (ReadsAt w g g2 (w3.drewN d4)) := cover ⟨_, false, hyb.drop k, by rw [List.length_drop]; omega, (hrd2.grown ho3 (by omega) (by omega)).drewN d4, hrf3.drewN d4, below_drewN hbel3 d4⟩
            clear hrd2 hrf3 hra hrb
            go_wp2_with fail
            go_meet
            exact ⟨rfl, HN⟩
          · have hok' : okR ys f y = false := by simpa using hok
            have HK := cover hok'
            clear hok hok'
            go_wp2_with fail
            refine (raw_no g g ys f y _ hrd HK.out).mono ?_
            rintro e w2 ⟨rfl, hrd2, ho2⟩
            have hbel2 := below_only hbel ho2 hwg hbel.size
            have hrf2 := hrf.grown ho2 (by omega) hwg
            have hx2r := HX.out w2 hbel2
            have hy2r := HY.out w2 hbel2
            go_wp2_with fail
            refine (ref_raw_no w.heap.size g2 ys f y _ hrf2 HK.out).mono ?_
            rintro e w3 ⟨rfl, hrf3, ho3⟩
            have hbel3 := below_only hbel2 ho3 (by omega) hbel2.size
            go_wp2_with fail
            refine (same_any none none 0 0 0 0 0 [] [] w3 RowK.none_ RowK.none_ (by omega)).mono ?_
            rintro e w4 ⟨he, d4, rfl⟩
            obtain rfl : e = .returned (.bool true) := by rw [he]; simp
            clear he
            have HN : Hid (ReadsAt w g g2 (w3.drewN d4)) := cover ⟨ys, true, hyb, hyl, (hrd2.grown ho3 (by omega) (by omega)).drewN d4, hrf3.drewN d4, below_drewN hbel3 d4⟩
            clear hrd hrf hrd2 hrf2 hrf3
            go_wp2_with fail
            go_meet
            exact ⟨rfl, HN⟩
        · rcases f with _ | _
          · have HL : Hid ((ys.take ys.length).length = ys.length) := cover (by rw [List.length_take]; omega)
            go_wp2_with fail
            refine (rest_yes g g ys _ hrd (by omega)).mono ?_
            rintro e w2 ⟨A2, c2, rfl, hown2, hrd2, ho2⟩
            have hbel2 := below_only hbel ho2 hwg hbel.size
            have hrf2 := hrf.grown ho2 (by omega) hwg
            obtain ⟨A5, c5, hh5, _⟩ := hrf2.ex
            obtain ⟨d0, d1, _, _⟩ := rd_cells hh5
            clear hh5
            go_wp2_with fail
            refine (ref_raw_yes w.heap.size g2 ys.length ys _ hrf2 (by omega) (by omega)).mono ?_
            rintro e w3 ⟨A3, c3, rfl, hown3, hrf3, ho3⟩
            have hbel3 := below_only hbel2 ho3 (by omega) hbel2.size
            clear d0 d1
            have ho4 := hown2.kept ho3 (.inr (own_ne_rd hrf2 hown2 (by decide)))
            unfold OwnB at ho4 hown3
            rw [HL.out] at ho4 hown3
            have hra : Row w3 w3.heap.size A2 ys.length (ys.take ys.length) := RowK.of_own ho4 HL.out
            have hrb : Row w3 w3.heap.size A3 ys.length (ys.take ys.length) := RowK.of_own hown3 HL.out
            clear ho4 hown2 hown3 hrd hrf hrf2
            go_wp2_with fail
            refine (same_any A2 A3 ys.length c2 c3 _ _ _ _ w3 hra hrb (by omega)).mono ?_
            rintro e w4 ⟨he, d4, rfl⟩
            obtain rfl : e = .returned (.bool true) := by rw [he]; simp
            clear he
            have HN : Hid (ReadsAt w g g2 (w3.drewN d4)) := cover ⟨_, false, hyb.drop ys.length, by rw [List.length_drop]; omega, (hrd2.grown ho3 (by omega) (by omega)).drewN d4, hrf3.drewN d4, below_drewN hbel3 d4⟩
            clear hrd2 hrf3 hra hrb
            go_wp2_with fail
            go_meet
            exact ⟨rfl, HN⟩
          · go_wp2_with fail
            refine (rest_no g g ys _ hrd).mono ?_
            rintro e w2 ⟨rfl, hrd2, ho2⟩
            have hbel2 := below_only hbel ho2 hwg hbel.size
            have hrf2 := hrf.grown ho2 (by omega) hwg
            obtain ⟨A5, c5, hh5, _⟩ := hrf2.ex
            obtain ⟨d0, d1, _, _⟩ := rd_cells hh5
            clear hh5
            go_wp2_with fail
            refine (ref_raw_no w.heap.size g2 ys true ys.length _ hrf2 (by simp [okR])).mono ?_
            rintro e w3 ⟨rfl, hrf3, ho3⟩
            have hbel3 := below_only hbel2 ho3 (by omega) hbel2.size
            clear d0 d1
            go_wp2_with fail
            refine (same_any none none 0 0 0 0 0 [] [] w3 RowK.none_ RowK.none_ (by omega)).mono ?_
            rintro e w4 ⟨he, d4, rfl⟩
            obtain rfl : e = .returned (.bool true) := by rw [he]; simp
            clear he
            have HN : Hid (ReadsAt w g g2 (w3.drewN d4)) := cover ⟨ys, true, hyb, hyl, (hrd2.grown ho3 (by omega) (by omega)).drewN d4, hrf3.drewN d4, below_drewN hbel3 d4⟩
            clear hrd hrf hrd2 hrf2 hrf3
            go_wp2_with fail
            go_meet
            exact ⟨rfl, HN⟩
      case rest =>
        obtain ⟨rfl, hrel'⟩ := hcut
        obtain ⟨zs, f2, hzb, hzl, hrd', hrf', hbel'⟩ := hrel'.out
        obtain ⟨A5, c5, hh5, _⟩ := hrf'.ex
        obtain ⟨d0, d1, _, _⟩ := rd_cells hh5
        clear hh5 hrd hrf
        rcases f2 with _ | _
        all_goals
          go_wp2_with fail
          go_quiet ((first | (go_at_call 14; exact quiet_own (failed_any g g zs _ _ (hrd'.drewN _))) | (go_at_call 15; exact quiet_own (left_any g g zs _ _ (hrd'.drewN _)))))
          have HN : Hid (ReadsAt w g g2 (wc.drewN nq)) := cover ⟨zs, _, hzb, hzl, hrd'.drewN nq, hrf'.drewN nq, below_drewN hbel' nq⟩
          clear hrd' hrf' d0 d1
          go_wp2
          go_roundw
          case rel => exact ⟨j + 1, by omega, by go_num, HN⟩
          case measure => simp [intOf]; omega
    · obtain ⟨ys, f, hyb, hyl, hrd, hrf, hbel⟩ := hrel.out
      clear hrd hrf
      go_wp2
      go_ret
      exact ⟨rfl, hbel⟩

open Go.ChangeShapes Go.WideShapes Go.ChangeAt in
theorem deeds_in {H : Type} {enc : TypeId × Value → H} {W : World} {r : Reach} {base : Nat} {v : Value} {d : DataW H} {p : List MemPlace}
    (hv : Value.okWide Try.prog W r base 33 v) (h : DataW.Trod enc Try.prog W 0 (fun _ => true) true 33 v d p) :
    ∃ A len cap ds, v = .slice A len cap ∧ len ≤ cap ∧ cap ≤ maxLen ∧ Deeds W W.heap.size A len ds := by
  obtain ⟨a, len, cap, rfl⟩ := okWide_slice Try.underlying33 hv
  obtain ⟨fuel, hf⟩ := h
  rcases Go.Deep.open_slice Try.underlying33 hf with ⟨hcs, _⟩ | ⟨a', len', cap', m, n, D, Pl, hcs, _, hl, hm, hmm, _, hi⟩
  · simp [Value.cells] at hcs
    obtain ⟨rfl, rfl, rfl⟩ := hcs
    exact ⟨none, 0, 0, [], rfl, Nat.le_refl _, Nat.zero_le _, rfl, fun k hk => by simp at hk⟩
  · simp [Value.cells] at hcs
    obtain ⟨rfl, rfl, rfl⟩ := hcs
    have hc2 : Try.prog.cellsOf 38 = 2 := by kernel_rfl
    have hci : Try.prog.cellsOf 3 = 1 := by kernel_rfl
    have hlm : len ≤ m := by rw [hmm]; split <;> omega
    obtain ⟨ds, hdl, hds⟩ := list_of (n := len) (P := fun i (q : Int × Int) => W.cell? (a'.add (i * 2)) = some (.int .i64 q.1) ∧ W.cell? ⟨(a'.add (i * 2)).block, (a'.add (i * 2)).off + 1, none⟩ = some (.int .i64 q.2) ∧ (-9223372036854775808 ≤ q.1 ∧ q.1 ≤ 9223372036854775807) ∧ (-9223372036854775808 ≤ q.2 ∧ q.2 ≤ 9223372036854775807)) (fun i hil => by
      obtain ⟨cs', h1, h2⟩ := hi i (by omega)
      rw [hc2] at h1
      obtain ⟨_, hlen, hat⟩ := World.cells?_some h1
      obtain ⟨y0, y1, n', _, _, h3, h4⟩ := trod_struct2 Try.underlying38 h2
      match cs', hlen with
      | [c0, c1], _ =>
        simp [hci] at h3 h4
        obtain ⟨x, e0, _, wx⟩ := DataW.trod_int Try.underlying3 h3
        obtain ⟨y, e1, _, wy⟩ := DataW.trod_int Try.underlying3 h4
        simp at e0 e1
        subst e0 e1
        have a0 := hat 0 (by omega)
        have a1 := hat 1 (by omega)
        exact ⟨(x, y), a0, a1, i64_of_wf wx, i64_of_wf wy⟩)
    exact ⟨some a', len, cap, ds, rfl, hl, hm, hdl, fun k hk => ⟨a', rfl, by
      have := cell_in (hds k hk).1; rw [addr_add_block] at this; exact this, hds k hk⟩⟩

set_option maxRecDepth 100000 in
theorem walk_OctetReads (A : Option Addr) (len cap : Nat) (l : List Int) (Ad : Option Addr) (nd cd : Nat) (ds : List (Int × Int)) (w : World) (hlc : len ≤ cap) (hcm : cap ≤ maxLen) (hr : Row w w.heap.size A len l) (hb : ∀ x ∈ l, (Lit.int .u8 x).wf = true)
    (hlc' : nd ≤ cd) (hcm' : cd ≤ maxLen) (hd : Deeds w w.heap.size Ad nd ds) :
    Calls Try.prog 5 #[.slice A len cap, .slice Ad nd cd] w fun e w' => e = .returned (.bool true) ∧ Below w.heap.size w w' := by
  unfold maxLen at hcm hcm'
  have h1 := bts_of_wf hb
  by_cases hl : 500 < len
  · clear hb h1 hr hd
    go_enter Try.func5, Try.ntmps5
    go_wp2_with fail
    refine (awake_any w).mono ?_
    rintro e w0 ⟨rfl, hb0⟩
    go_wp2
    go_ret
    exact ⟨rfl, hb0⟩
  by_cases hn : 100 < nd
  · clear hb h1 hr hd
    go_enter Try.func5, Try.ntmps5
    go_wp2_with fail
    refine (awake_any w).mono ?_
    rintro e w0 ⟨rfl, hb0⟩
    go_wp2
    go_ret
    exact ⟨rfl, hb0⟩
  exact reads_in A Ad len cap nd cd l ds w hr h1 hlc (by omega) hd (by omega)
end Go.Proofs.Ytfegneljedkmhaa
