/- The walk of QueueMoves. -/
import Derived.Deep.CutBlock
import Derived.Deep.DeepCutAuto
import Derived.Test.YthfmkhjafkhpdaaQAwake
import Derived.Test.YthfmkhjafkhpdaaQTwo
namespace Go.Proofs.Ythfmkhjafkhpdaa
open Go.RowKit
set_option linter.unusedVariables false

set_option maxRecDepth 100000 in
set_option maxHeartbeats 1600000 in
theorem moves_in (A : Option Addr) (len cap : Nat) (l : List Int) (at_ x n : Int) (w : World) (hlc : len ≤ cap) (hl : len ≤ 60) (hr : RowK .i64 w w.heap.size A len l) (hn : n ≤ 9223372036854775807) :
    Calls Try.prog 32 #[.slice A len cap, .int .i64 at_, .int .i64 x, .int .i64 n] w fun e w' => e = .returned (.bool true) ∧ Below w.heap.size w w' := by
  have HL := cover hr.len
  have hw1 : IntKind.i64.wrap ((len : Int) + 1) = (len : Int) + 1 := by rw [IntKind.wrap_i64]; omega
  go_enter Try.func32, Try.ntmps32
  go_wp2_with fail
  refine (newI_pos ((len : Int) + 1) w (by omega)).mono ?_
  rintro e w1 ⟨rfl, H1⟩
  obtain ⟨qa, hqa⟩ : ∃ qa, qa = w.heap.size := ⟨_, rfl⟩
  have HQA := cover hqa
  rw [← hqa] at H1 ⊢
  have hs1 : qa ≤ w1.heap.size := by have := H1.out.2.size; omega
  have hrq : RowK .i64 w qa A len l := by rw [hqa]; exact hr
  clear hqa hr
  go_wp2_with fail
  refine (newI_pos ((len : Int) + 1) w1 (by omega)).mono ?_
  rintro e w2 ⟨rfl, H2⟩
  obtain ⟨qb, hqb⟩ : ∃ qb, qb = w1.heap.size := ⟨_, rfl⟩
  rw [← hqb] at H2 ⊢
  have HS : Hid (TwoQ qa w2 qa qb ((len : Int) + 1) [] [] ∧ Below qa w w2) := by
    refine cover ⟨⟨⟨none, [], none, [], H1.out.1.below (by rw [← hqb]; exact H2.out.2), H2.out.1, ⟨Nat.le_refl _, fun g hg => (by cases hg), fun p hp => (by cases hp)⟩, ⟨by omega, fun g hg => (by cases hg), fun p hp => (by cases hp)⟩, fun g hg => (by cases hg)⟩, by have := H1.out.1.lt; omega, by have := H2.out.2.size; omega⟩, H1.out.2.trans (H2.out.2.mono (by omega))⟩
  clear H1 H2 hs1 hqb
  go_wp2_with fail
  go_loopw [11] (fun i wr => ∃ j : Nat, j ≤ len ∧ i = .int .i64 j ∧ Hid (TwoQ qa wr qa qb ((len : Int) + 1) ((l.take j).map (.int .i64)) ((l.take j).map (.int .i64)) ∧ Below qa w wr)) (fun i _ => len - (intOf i).toNat)
  case atStart => exact ⟨0, Nat.zero_le _, rfl, HS⟩
  case round =>
    obtain ⟨j, hj, rfl, hrel⟩ := hrel
    by_cases hlt : j < len
    · have HRW := cover (fun (W : World) (hb : Below qa w W) => (hrq.below hb))
      obtain ⟨ad, y, rfl, had, hc, hy⟩ := (hrq.below hrel.out.2).at_ hlt
      have HC := cover (fun (W : World) (hb : Below qa w W) => (hb.cell (p := ad.add j) (by rw [addr_add_block]; exact had)))
      have hcw : w.cell? (ad.add j) = some (.int .i64 y) := by rw [← HC.out _ hrel.out.2]; exact hc
      have HCW := cover hcw
      clear hcw
      go_wp2_with fail
      refine (putI_two hrel.out.1 hrel.out.2 y (by simp; have := HL.out; omega) (by simp; have := HL.out; omega)).mono ?_
      rintro e w3 ⟨rfl, H3⟩
      have hc3 := (HC.out _ H3.out.2).trans HCW.out
      clear hc
      go_wp2_with fail
      refine (putI_two H3.out.1.symm H3.out.2 y (by simp; have := HL.out; omega) (by simp; have := HL.out; omega)).mono ?_
      rintro e w4 ⟨rfl, H4⟩
      have HN : Hid (TwoQ qa w4 qa qb ((len : Int) + 1) ((l.take (j + 1)).map (.int .i64)) ((l.take (j + 1)).map (.int .i64)) ∧ Below qa w w4) := by
        rw [List.take_add_one, hy.out, List.map_append]
        exact cover ⟨H4.out.1.symm, H4.out.2⟩
      clear hc3 H3 H4 hrel
      go_wp2
      go_roundw
      case rel => exact ⟨j + 1, by omega, by go_num, HN⟩
      case measure => simp [intOf]; omega
    · obtain rfl : j = len := by omega
      have h1 := hrel.out
      rw [List.take_of_length_le (by have := HL.out; omega)] at h1
      have HT := cover h1
      clear h1 hrel
      obtain ⟨k, hk⟩ : ∃ k : Nat, (k : Int) = min (max n 0) (j : Int) := ⟨(min (max n 0) (j : Int)).toNat, by omega⟩
      have HKK := cover hk
      go_wp2_with fail
      refine (cutI_two HT.out.1 HT.out.2 n k (by simp; have := HL.out; omega) hn).mono ?_
      rintro e w3 ⟨rfl, H3⟩
      clear HT hk
      have HST : Hid (TwoQ qa w3 qb qa ((j : Int) + 1) ((l.drop 0).map (.int .i64)) ((l.drop k).map (.int .i64)) ∧ Below qa w w3) := by
        have := H3.out
        rw [← List.map_drop] at this
        exact cover ⟨by rw [List.drop_zero]; exact this.1.symm, this.2⟩
      clear H3
      obtain ⟨rs, hrs⟩ : ∃ rs, rs = l.drop k := ⟨_, rfl⟩
      have HRS := cover (show rs.length + k = j by rw [hrs, List.length_drop]; have := HL.out; have := HKK.out; omega)
      have HRK := cover hrs
      clear hrs
      go_upto_block 2 with fail
      go_cut [13] (fun _ wx => Hid (TwoQ qa wx qa qb ((j : Int) + 1) (rs.map (.int .i64)) (rs.map (.int .i64)) ∧ Below qa w wx))
      case first =>
        go_wp2_with fail
        go_loopw [13] (fun i wr => ∃ t : Nat, t ≤ 100 ∧ (t : Int) ≤ max n 0 ∧ i = .int .i64 t ∧ Hid (TwoQ qa wr qb qa ((j : Int) + 1) ((l.drop t).map (.int .i64)) ((l.drop k).map (.int .i64)) ∧ Below qa w wr)) (fun i _ => 100 - (intOf i).toNat)
        case atStart => exact ⟨0, by omega, by omega, rfl, HST⟩
        case round =>
          obtain ⟨t, ht, htn, rfl, hrel⟩ := hrel
          by_cases hgo : (t : Int) < n ∧ t < 100
          · obtain ⟨hg1, hg2⟩ := hgo
            go_wp2_with fail
            refine (takeI_two hrel.out.1 hrel.out.2).mono ?_
            rintro e w4 ⟨v, rfl, H4⟩
            have HN : Hid (TwoQ qa w4 qb qa ((j : Int) + 1) ((l.drop (t + 1)).map (.int .i64)) ((l.drop k).map (.int .i64)) ∧ Below qa w w4) := by
              have := H4.out
              rw [← List.map_drop, List.drop_drop] at this
              exact cover this
            clear H4 hrel
            go_wp2
            go_roundw
            case rel => exact ⟨t + 1, by omega, by omega, by go_num, HN⟩
            case measure => simp [intOf]; omega
          · have hdr : l.drop t = l.drop k := by
              have h1 := HKK.out
              have h2 := HL.out
              by_cases h3 : t = k
              · rw [h3]
              · rw [List.drop_of_length_le (by omega), List.drop_of_length_le (by omega)]
            have h1 := hrel.out
            rw [hdr] at h1
            have HT := cover (And.intro h1.1.symm h1.2)
            clear h1 hrel hdr
            rw [← HRK.out] at HT
            by_cases hgn : (t : Int) < n
            · have hg2 : ¬ ((t : Int) < 100) := by omega
              clear hgo
              go_wp2_with fail
              go_meet
              exact HT
            · clear hgo
              go_wp2_with fail
              go_meet
              exact HT
      case rest =>
        have HT := hcut
        clear hcut
        go_upto_region 14 with fail
        go_cut [79] (fun v wx => v = .bool false ∧ Hid (TwoQ qa wx qa qb ((j : Int) + 1) (rs.map (.int .i64)) (rs.map (.int .i64)) ∧ Below qa w wx))
        case first =>
          have HRL := cover (show rs.length ≤ 1000000 by have := HRS.out; omega)
          have hcase : (n < 0 ∧ k = 0) ∨ (¬ n < 0 ∧ (j : Int) < n ∧ k = j) ∨ (¬ n < 0 ∧ ¬ (j : Int) < n ∧ (k : Int) = n) := by have := HKK.out; omega
          rcases hcase with ⟨hn0, rfl⟩ | ⟨hn0, hnj, rfl⟩ | ⟨hn0, hnj, rfl⟩
          all_goals
            go_wp2_with fail
            refine (all_has HT.out.1.has HRL.out (-1) rs.length (by simp)).mono ?_
            rintro e w5 ⟨A5, c5, G5, rfl, H5⟩
            have HT5 := cover (And.intro (HT.out.1.below H5.out.2.1) (HT.out.2.trans (H5.out.2.1.mono HT.out.1.siz)))
            go_wp2_with fail
            refine (all_has HT5.out.1.symm.has HRL.out (-1) rs.length (by simp)).mono ?_
            rintro e w6 ⟨A6, c6, G6, rfl, H6⟩
            have HT6 := cover (And.intro (HT5.out.1.below H6.out.2.1) (HT5.out.2.trans (H6.out.2.1.mono HT5.out.1.siz)))
            have h5 := (H5.out.1.below H6.out.2.1).rowK
            have h6 := H6.out.1.rowK
            rw [List.take_length] at h5 h6
            have HI := cover (ints_any A5 A6 rs.length rs.length c5 c6 _ _ rs rs w6 h5 h6 (by have := HRL.out; omega) (by have := HRL.out; omega))
            clear h5 h6 H5 H6
            go_wp2_with fail
            refine HI.out.mono ?_
            rintro e w7 ⟨he, d, rfl⟩
            obtain rfl : e = .returned (.bool true) := by rw [he]; simp
            have HN : Hid (TwoQ qa (w6.drewN d) qa qb _ (rs.map (.int .i64)) (rs.map (.int .i64)) ∧ Below qa w (w6.drewN d)) := cover ⟨HT6.out.1.below (below_drewN (Below.refl _ _) d), below_drewN HT6.out.2 d⟩
            clear he HT5 HT6
            go_wp2_with fail
            go_meet
            exact ⟨rfl, HN⟩
        case rest =>
          obtain ⟨rfl, HT'⟩ := hcut
          clear HT
          have HRL := cover (show rs.length ≤ 1000 by have := HRS.out; omega)
          go_wp2_with fail
          refine (all_has HT'.out.1.has (by have := HRL.out; omega) (-1) rs.length (by simp)).mono ?_
          rintro e w5 ⟨A5, c5, G5, rfl, H5⟩
          have HA : Hid (IHas qa w5 qa ((j : Int) + 1) (rs.map (.int .i64)) ∧ Below qa w w5 ∧ qa ≤ w5.heap.size) := cover ⟨HT'.out.1.has.below H5.out.2.1, HT'.out.2.trans (H5.out.2.1.mono HT'.out.1.siz), Nat.le_trans HT'.out.1.siz H5.out.2.1.size⟩
          clear H5 HT'
          have hr0 : (0 : Int) ≤ (rs.length : Int) := by omega
          have hrw : IntKind.i64.wrap ((rs.length : Int) + 1) = (rs.length : Int) + 1 := by have := HRL.out; rw [IntKind.wrap_i64]; omega
          by_cases hv : 0 ≤ at_ ∧ at_ ≤ (rs.length : Int)
          · obtain ⟨hv1, hv2⟩ := hv
            obtain ⟨i, rfl⟩ : ∃ i : Nat, (i : Int) = at_ := ⟨at_.toNat, by omega⟩
            obtain ⟨zs, hzs⟩ : ∃ zs, zs = rs.take i ++ x :: rs.drop i := ⟨_, rfl⟩
            have hzl : zs.length = rs.length + 1 := by rw [hzs]; simp; omega
            have hzi : zs[i]? = some x := by
              rw [hzs, List.getElem?_append_right (by simp; omega)]
              rw [show i - (rs.take i).length = 0 by rw [List.length_take]; omega]; rfl
            have HZ := cover (And.intro hzl (And.intro hzi hzs))
            clear hzl hzi hzs
            go_wp2_with fail
            refine (insertI_has HA.out.1 HA.out.2.2 i x (by simp; omega) (by simp; have := HRS.out; omega) (by simp; have := HRL.out; omega)).mono ?_
            rintro e w6 ⟨rfl, H6⟩
            have HB : Hid (IHas qa w6 qa ((j : Int) + 1) (zs.map (.int .i64)) ∧ Below qa w w6 ∧ qa ≤ w6.heap.size) := by
              refine cover ⟨?_, HA.out.2.1.trans (H6.out.2.below HA.out.2.2), Nat.le_trans HA.out.2.2 H6.out.2.size⟩
              rw [HZ.out.2.2]
              have := H6.out.1
              simpa using this
            clear H6
            go_wp2_with fail
            refine (peekI_has HB.out.1 i (.int .i64 x) (by rw [List.getElem?_map, HZ.out.2.1]; rfl)).mono ?_
            rintro e w7 ⟨rfl, rfl⟩
            have HLN := lenI_has HB.out.1
            rw [List.length_map, HZ.out.1] at HLN
            go_wp2_with (go_at_call 24; refine HLN.mono ?_; rintro e w' ⟨rfl, rfl⟩)
            have HGONE : Hid (1 ≤ (zs.length : Int) - ((zs.filter fun y => b3 y != b3 x).length : Int)) := by
              have hlt : (zs.filter fun y => b3 y != b3 x).length < zs.length := by
                rw [List.length_filter_lt_length_iff_exists]
                exact ⟨x, List.mem_of_getElem? HZ.out.2.1, by simp⟩
              exact cover (by omega)
            go_wp2_with fail
            refine (unlike_any (bits BinOp.and IntKind.i64 x 3) _).mono ?_
            rintro e w7 ⟨rfl, hw7⟩
            have hsz6 := HB.out.2.2
            have hb7 : Below w6.heap.size w6 w7 := by rw [hw7]; exact (Below.refl _ _).alloc (Nat.le_refl _) _
            obtain ⟨bx, hbx⟩ : ∃ bx, bx = w6.heap.size := ⟨_, rfl⟩
            have hcx : w7.cell? ⟨bx, 0, none⟩ = some (.int .i64 (b3 x)) := by
              rw [hw7, hbx, cell_of_row _ _ _ _ _ _ (heap_alloc_new w6 _)]; rfl
            rw [← hbx]
            have HB7 : Hid (IHas qa w7 qa ((j : Int) + 1) (zs.map (.int .i64)) ∧ Below qa w w7 ∧ qa ≤ w7.heap.size) := cover ⟨HB.out.1.below hb7, HB.out.2.1.trans (hb7.mono hsz6), Nat.le_trans hsz6 hb7.size⟩
            have HF := cover (filter_has HB7.out.1 (by have := HRL.out; have := HZ.out.1; omega) hcx)
            clear hw7 hsz6 hb7 hbx hcx
            go_wp2_with fail
            refine HF.out.mono ?_
            rintro e w8 ⟨rfl, H8⟩
            clear HF
            obtain ⟨ys, hys⟩ : ∃ ys, ys = zs.filter fun y => b3 y != b3 x := ⟨_, rfl⟩
            rw [← hys] at H8 HGONE ⊢
            have hyl : ys.length ≤ zs.length := by rw [hys]; exact List.length_filter_le _ _
            have HYS := cover (And.intro hys (show ys.length ≤ 1000000 by have := HRL.out; have := HZ.out.1; omega))
            obtain ⟨gone, hgone⟩ : ∃ gone : Int, gone = (zs.length : Int) - (ys.length : Int) := ⟨_, rfl⟩
            rw [← hgone] at HGONE ⊢
            have HGN := cover (And.intro (show 0 ≤ gone by omega) HGONE.out)
            clear hys hyl hgone
            have HB8 : Hid (IHas qa w8 qa ((j : Int) + 1) (ys.map (.int .i64)) ∧ Below qa w w8 ∧ qa ≤ w8.heap.size) := cover ⟨H8.out.1, HB7.out.2.1.trans (H8.out.2.below HB7.out.2.2), Nat.le_trans HB7.out.2.2 H8.out.2.size⟩
            clear H8 HB7
            go_wp2_with fail
            refine (all_has HB8.out.1 HYS.out.2 (-1) ys.length (by simp)).mono ?_
            rintro e w9 ⟨A9, c9, G9, rfl, H9⟩
            have hv9 := H9.out.1
            rw [List.take_length] at hv9
            have HV9 := cover hv9.rowK
            have HB9 : Hid (Below qa w w9) := cover (HB8.out.2.1.trans (H9.out.2.1.mono HB8.out.2.2))
            clear hv9 H9 HB8
            go_wp2_with fail
            go_loopw [20, 126] (fun _ i wr => ∃ t : Nat, t ≤ ys.length ∧ i = .int .i64 t ∧ wr = w9) (fun _ i _ => ys.length - (intOf i).toNat)
            case atStart => exact ⟨0, Nat.zero_le _, rfl, rfl⟩
            case round =>
              obtain ⟨t, ht, rfl, rfl⟩ := hrel
              by_cases hlt : t < ys.length
              · obtain ⟨ad9, y, rfl, had, hc, hy⟩ := HV9.out.at_ hlt
                have hne : (bits BinOp.and IntKind.i64 y 3 == bits BinOp.and IntKind.i64 x 3) = false := by
                  have h1 := List.mem_of_getElem? hy.out
                  rw [HYS.out.1] at h1
                  have h2 := (List.mem_filter.1 h1).2
                  simpa [b3, bne] using h2
                have hyl := HYS.out.2
                go_wp2
                go_roundw
                case rel => exact ⟨t + 1, by omega, by go_num, trivial⟩
                case measure => simp [intOf]; omega
              · obtain rfl : t = ys.length := by omega
                go_wp2_with fail
                refine (awake_any _).mono ?_
                rintro e w10 ⟨rfl, hb10⟩
                have HN9 : Hid (Below w.heap.size w w10) := by
                  have := HB9.out.trans (hb10.mono (show qa ≤ wr.heap.size by have h1 := HB9.out.size; have := HQA.out; omega))
                  rw [HQA.out] at this; exact cover this
                have h0g : (0 : Int) ≤ gone := HGN.out.1
                clear hb10
                have h1g : (1 : Int) ≤ gone := HGN.out.2
                go_wp2
                go_ret
                exact ⟨rfl, HN9.out⟩
          · have hv' : at_ < 0 ∨ (rs.length : Int) < at_ := by omega
            have HV := cover hv'
            go_wp2_with fail
            refine (insertI_hasnt HA.out.1 at_ x (.inr (by simpa using hv'))).mono ?_
            rintro e w6 ⟨rfl, rfl⟩
            obtain ⟨zs, hzs⟩ : ∃ zs, zs = rs := ⟨_, rfl⟩
            have HZ0 := cover hzs
            have HB : Hid (IHas qa w5 qa ((j : Int) + 1) (zs.map (.int .i64)) ∧ Below qa w w5 ∧ qa ≤ w5.heap.size) := by rw [hzs]; exact HA
            have HZ : Hid (zs.length ≤ rs.length + 1) := by rw [hzs]; exact cover (by omega)
            clear hzs
            have HGONE : Hid (0 ≤ (zs.length : Int) - ((zs.filter fun y => b3 y != b3 x).length : Int)) := cover (by have := List.length_filter_le (fun y => b3 y != b3 x) zs; omega)
            rcases HV.out with hv1 | hv2
            · clear hv hv'
              go_wp2_with fail
              refine (unlike_any (bits BinOp.and IntKind.i64 x 3) _).mono ?_
              rintro e w7 ⟨rfl, hw7⟩
              have hsz6 := HB.out.2.2
              have hb7 : Below w5.heap.size w5 w7 := by rw [hw7]; exact (Below.refl _ _).alloc (Nat.le_refl _) _
              obtain ⟨bx, hbx⟩ : ∃ bx, bx = w5.heap.size := ⟨_, rfl⟩
              have hcx : w7.cell? ⟨bx, 0, none⟩ = some (.int .i64 (b3 x)) := by
                rw [hw7, hbx, cell_of_row _ _ _ _ _ _ (heap_alloc_new w5 _)]; rfl
              rw [← hbx]
              have HB7 : Hid (IHas qa w7 qa ((j : Int) + 1) (zs.map (.int .i64)) ∧ Below qa w w7 ∧ qa ≤ w7.heap.size) := cover ⟨HB.out.1.below hb7, HB.out.2.1.trans (hb7.mono hsz6), Nat.le_trans hsz6 hb7.size⟩
              have HF := cover (filter_has HB7.out.1 (by have := HRL.out; have := HZ.out; omega) hcx)
              clear hw7 hsz6 hb7 hbx hcx
              go_wp2_with fail
              refine HF.out.mono ?_
              rintro e w8 ⟨rfl, H8⟩
              clear HF
              obtain ⟨ys, hys⟩ : ∃ ys, ys = zs.filter fun y => b3 y != b3 x := ⟨_, rfl⟩
              rw [← hys] at H8 HGONE ⊢
              have hyl : ys.length ≤ zs.length := by rw [hys]; exact List.length_filter_le _ _
              have HYS := cover (And.intro hys (show ys.length ≤ 1000000 by have := HRL.out; have := HZ.out; omega))
              obtain ⟨gone, hgone⟩ : ∃ gone : Int, gone = (zs.length : Int) - (ys.length : Int) := ⟨_, rfl⟩
              rw [← hgone] at HGONE ⊢
              have HGN := cover (And.intro (show 0 ≤ gone by omega) HGONE.out)
              clear hys hyl hgone
              have HB8 : Hid (IHas qa w8 qa ((j : Int) + 1) (ys.map (.int .i64)) ∧ Below qa w w8 ∧ qa ≤ w8.heap.size) := cover ⟨H8.out.1, HB7.out.2.1.trans (H8.out.2.below HB7.out.2.2), Nat.le_trans HB7.out.2.2 H8.out.2.size⟩
              clear H8 HB7
              go_wp2_with fail
              refine (all_has HB8.out.1 HYS.out.2 (-1) ys.length (by simp)).mono ?_
              rintro e w9 ⟨A9, c9, G9, rfl, H9⟩
              have hv9 := H9.out.1
              rw [List.take_length] at hv9
              have HV9 := cover hv9.rowK
              have HB9 : Hid (Below qa w w9) := cover (HB8.out.2.1.trans (H9.out.2.1.mono HB8.out.2.2))
              clear hv9 H9 HB8
              go_wp2_with fail
              go_loopw [20, 126] (fun _ i wr => ∃ t : Nat, t ≤ ys.length ∧ i = .int .i64 t ∧ wr = w9) (fun _ i _ => ys.length - (intOf i).toNat)
              case atStart => exact ⟨0, Nat.zero_le _, rfl, rfl⟩
              case round =>
                obtain ⟨t, ht, rfl, rfl⟩ := hrel
                by_cases hlt : t < ys.length
                · obtain ⟨ad9, y, rfl, had, hc, hy⟩ := HV9.out.at_ hlt
                  have hne : (bits BinOp.and IntKind.i64 y 3 == bits BinOp.and IntKind.i64 x 3) = false := by
                    have h1 := List.mem_of_getElem? hy.out
                    rw [HYS.out.1] at h1
                    have h2 := (List.mem_filter.1 h1).2
                    simpa [b3, bne] using h2
                  have hyl := HYS.out.2
                  go_wp2
                  go_roundw
                  case rel => exact ⟨t + 1, by omega, by go_num, trivial⟩
                  case measure => simp [intOf]; omega
                · obtain rfl : t = ys.length := by omega
                  go_wp2_with fail
                  refine (awake_any _).mono ?_
                  rintro e w10 ⟨rfl, hb10⟩
                  have HN9 : Hid (Below w.heap.size w w10) := by
                    have := HB9.out.trans (hb10.mono (show qa ≤ wr.heap.size by have h1 := HB9.out.size; have := HQA.out; omega))
                    rw [HQA.out] at this; exact cover this
                  have h0g : (0 : Int) ≤ gone := HGN.out.1
                  clear hb10
                  go_wp2
                  go_ret
                  exact ⟨rfl, HN9.out⟩
            · clear hv hv'
              by_cases hv0 : 0 ≤ at_
              · have hv3 : ¬ at_ ≤ (rs.length : Int) := by omega
                go_wp2_with fail
                refine (unlike_any (bits BinOp.and IntKind.i64 x 3) _).mono ?_
                rintro e w7 ⟨rfl, hw7⟩
                have hsz6 := HB.out.2.2
                have hb7 : Below w5.heap.size w5 w7 := by rw [hw7]; exact (Below.refl _ _).alloc (Nat.le_refl _) _
                obtain ⟨bx, hbx⟩ : ∃ bx, bx = w5.heap.size := ⟨_, rfl⟩
                have hcx : w7.cell? ⟨bx, 0, none⟩ = some (.int .i64 (b3 x)) := by
                  rw [hw7, hbx, cell_of_row _ _ _ _ _ _ (heap_alloc_new w5 _)]; rfl
                rw [← hbx]
                have HB7 : Hid (IHas qa w7 qa ((j : Int) + 1) (zs.map (.int .i64)) ∧ Below qa w w7 ∧ qa ≤ w7.heap.size) := cover ⟨HB.out.1.below hb7, HB.out.2.1.trans (hb7.mono hsz6), Nat.le_trans hsz6 hb7.size⟩
                have HF := cover (filter_has HB7.out.1 (by have := HRL.out; have := HZ.out; omega) hcx)
                clear hw7 hsz6 hb7 hbx hcx
                go_wp2_with fail
                refine HF.out.mono ?_
                rintro e w8 ⟨rfl, H8⟩
                clear HF
                obtain ⟨ys, hys⟩ : ∃ ys, ys = zs.filter fun y => b3 y != b3 x := ⟨_, rfl⟩
                rw [← hys] at H8 HGONE ⊢
                have hyl : ys.length ≤ zs.length := by rw [hys]; exact List.length_filter_le _ _
                have HYS := cover (And.intro hys (show ys.length ≤ 1000000 by have := HRL.out; have := HZ.out; omega))
                obtain ⟨gone, hgone⟩ : ∃ gone : Int, gone = (zs.length : Int) - (ys.length : Int) := ⟨_, rfl⟩
                rw [← hgone] at HGONE ⊢
                have HGN := cover (And.intro (show 0 ≤ gone by omega) HGONE.out)
                clear hys hyl hgone
                have HB8 : Hid (IHas qa w8 qa ((j : Int) + 1) (ys.map (.int .i64)) ∧ Below qa w w8 ∧ qa ≤ w8.heap.size) := cover ⟨H8.out.1, HB7.out.2.1.trans (H8.out.2.below HB7.out.2.2), Nat.le_trans HB7.out.2.2 H8.out.2.size⟩
                clear H8 HB7
                go_wp2_with fail
                refine (all_has HB8.out.1 HYS.out.2 (-1) ys.length (by simp)).mono ?_
                rintro e w9 ⟨A9, c9, G9, rfl, H9⟩
                have hv9 := H9.out.1
                rw [List.take_length] at hv9
                have HV9 := cover hv9.rowK
                have HB9 : Hid (Below qa w w9) := cover (HB8.out.2.1.trans (H9.out.2.1.mono HB8.out.2.2))
                clear hv9 H9 HB8
                go_wp2_with fail
                go_loopw [20, 126] (fun _ i wr => ∃ t : Nat, t ≤ ys.length ∧ i = .int .i64 t ∧ wr = w9) (fun _ i _ => ys.length - (intOf i).toNat)
                case atStart => exact ⟨0, Nat.zero_le _, rfl, rfl⟩
                case round =>
                  obtain ⟨t, ht, rfl, rfl⟩ := hrel
                  by_cases hlt : t < ys.length
                  · obtain ⟨ad9, y, rfl, had, hc, hy⟩ := HV9.out.at_ hlt
                    have hne : (bits BinOp.and IntKind.i64 y 3 == bits BinOp.and IntKind.i64 x 3) = false := by
                      have h1 := List.mem_of_getElem? hy.out
                      rw [HYS.out.1] at h1
                      have h2 := (List.mem_filter.1 h1).2
                      simpa [b3, bne] using h2
                    have hyl := HYS.out.2
                    go_wp2
                    go_roundw
                    case rel => exact ⟨t + 1, by omega, by go_num, trivial⟩
                    case measure => simp [intOf]; omega
                  · obtain rfl : t = ys.length := by omega
                    go_wp2_with fail
                    refine (awake_any _).mono ?_
                    rintro e w10 ⟨rfl, hb10⟩
                    have HN9 : Hid (Below w.heap.size w w10) := by
                      have := HB9.out.trans (hb10.mono (show qa ≤ wr.heap.size by have h1 := HB9.out.size; have := HQA.out; omega))
                      rw [HQA.out] at this; exact cover this
                    have h0g : (0 : Int) ≤ gone := HGN.out.1
                    clear hb10
                    go_wp2
                    go_ret
                    exact ⟨rfl, HN9.out⟩
              · omega

theorem cells_three (w : World) (a b c : Int) : (w.alloc (.cells #[.int .i64 a, .int .i64 b, .int .i64 c] 57)).cell? ⟨w.heap.size, 0, none⟩ = some (.int .i64 a) ∧ (w.alloc (.cells #[.int .i64 a, .int .i64 b, .int .i64 c] 57)).cell? ⟨w.heap.size, 1, none⟩ = some (.int .i64 b) ∧ (w.alloc (.cells #[.int .i64 a, .int .i64 b, .int .i64 c] 57)).cell? ⟨w.heap.size, 2, none⟩ = some (.int .i64 c) := by
  refine ⟨?_, ?_, ?_⟩ <;> (rw [cell_of_row _ _ _ _ _ _ (heap_alloc_new w _)]; rfl)

set_option maxRecDepth 100000 in
theorem walk_QueueMoves (A : Option Addr) (len cap : Nat) (l : List Int) (a b c : Int) (w : World) (hlc : len ≤ cap) (hcm : cap ≤ maxLen) (hr : RowK .i64 w w.heap.size A len l) (hb : ∀ x ∈ l, (Lit.int .i64 x).wf = true) (hc : c ≤ 9223372036854775807) :
    Calls Try.prog 7 #[.slice A len cap, .agg #[.int .i64 a, .int .i64 b, .int .i64 c]] w fun e w' => e = .returned (.bool true) ∧ Below w.heap.size w w' := by
  unfold maxLen at hcm
  obtain ⟨g, hg⟩ : ∃ g, g = w.heap.size := ⟨_, rfl⟩
  obtain ⟨w1, hw1⟩ : ∃ w1, w1 = w.alloc (.cells #[.int .i64 a, .int .i64 b, .int .i64 c] 57) := ⟨_, rfl⟩
  have hb1 : Below w.heap.size w w1 := by rw [hw1]; exact (Below.refl _ _).alloc (Nat.le_refl _) _
  obtain ⟨k0, k1, k2⟩ := cells_three w a b c
  rw [← hw1, ← hg] at k0 k1 k2
  have HB := cover (And.intro hb1 hg)
  have hs1 : w1.heap.size = w.heap.size + 1 := by rw [hw1]; simp
  have HS := cover hs1
  clear hb hs1 hb1
  go_enter Try.func7, Try.ntmps7
  go_wp2_with fail
  rw [← hw1, ← hg]
  refine (awake_any w1).mono ?_
  rintro e w2 ⟨rfl, hb2⟩
  have hlt : g < w1.heap.size := by rw [HS.out, hg]; omega
  have j0 := (hb2.cell (p := ⟨g, 0, none⟩) hlt).trans k0
  have j1 := (hb2.cell (p := ⟨g, 1, none⟩) hlt).trans k1
  have j2 := (hb2.cell (p := ⟨g, 2, none⟩) hlt).trans k2
  have HB2 := cover (HB.out.1.trans (hb2.mono (by rw [HS.out]; omega)))
  have hr2 : RowK .i64 w2 w.heap.size A len l := hr.below HB2.out
  have hsz := HB2.out.size
  have HR2 := cover (hr2.more hsz)
  clear hw1 hg hb2 hlt k0 k1 k2 hr hr2 hsz
  by_cases hl : 60 < len
  · have HM : Calls Try.prog 32 #[.slice A len cap, .int .i64 a, .int .i64 b, .int .i64 c] w2 fun e w' => e = .returned (.bool true) ∧ Below w2.heap.size w2 w' := by
      clear j0 j1 j2
      go_enter Try.func32, Try.ntmps32
      go_wp2_with fail
      refine (awake_any w2).mono ?_
      rintro e w0 ⟨rfl, hb0⟩
      have HB0 := cover hb0
      clear hb0
      go_wp2
      go_ret
      exact ⟨rfl, HB0.out⟩
    go_wp2_with fail
    refine HM.mono ?_
    rintro e w3 ⟨rfl, hb3⟩
    have HB3 := cover (HB2.out.trans (hb3.mono HB2.out.size))
    clear hb3 j0 j1 j2 HM
    go_wp2
    go_ret
    exact ⟨rfl, HB3.out⟩
  · go_wp2_with fail
    refine (moves_in A len cap l a b c w2 hlc (by omega) HR2.out hc).mono ?_
    rintro e w3 ⟨rfl, hb3⟩
    have HB3 := cover (HB2.out.trans (hb3.mono HB2.out.size))
    clear hb3 j0 j1 j2
    go_wp2
    go_ret
    exact ⟨rfl, HB3.out⟩
end Go.Proofs.Ythfmkhjafkhpdaa
