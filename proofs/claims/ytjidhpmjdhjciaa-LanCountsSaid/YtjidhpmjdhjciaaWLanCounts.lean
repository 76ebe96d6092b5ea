/- The walk of LanCounts. -/
import Derived.Deep.CutBlock
import Derived.Deep.DeepCutAuto
import Derived.Test.YtjidhpmjdhjciaaFCnt
import Derived.Test.YtjidhpmjdhjciaaFDeed
namespace Go.Proofs.Ytjidhpmjdhjciaa
open Go.RowKit
set_option linter.unusedVariables false

set_option maxRecDepth 100000 in
set_option maxHeartbeats 6400000 in
theorem counts_walk (A : Option Addr) (n c : Nat) (ds : List DV) (w : World) (hn : n ≤ 150) (hd : DeedsL w w.heap.size A n ds) (hok : ∀ q ∈ ds, DOk q) (hs : small ds) :
    Calls Try.prog 6 #[.slice A n c] w fun e w' => e = .returned (.bool true) ∧ Below w.heap.size w w' := by
  have HD := cover (And.intro hd (And.intro hok hs))
  clear hd hok hs
  go_enter Try.func6, Try.ntmps6
  go_wp2_with fail
  refine (awake_any w).mono ?_
  rintro e w0 ⟨rfl, hb0⟩
  have H0 := cover hb0
  clear hb0
  have hroom := room_any (w := w0) (c := c) 150 (by omega) (by omega) (HD.out.1.below H0.out) true (by simp; exact HD.out.2.2)
  go_wp2_with fail
  refine hroom.mono ?_
  rintro e w' ⟨rfl, rfl⟩
  clear hroom
  go_wp2_with fail
  refine (new_has (W := w) 3 4 5 H0.out (by decide) (by decide) (by decide)).mono ?_
  rintro e w1 ⟨l, rfl, H1⟩
  go_wp2_with fail
  go_loopw [5, 6, 7] (fun a b i wr => ∃ (k inn out : Nat) (s : LS), k ≤ n ∧ a = .int .i64 inn ∧ b = .int .i64 out ∧ i = .int .i64 k ∧ Hid (LHas w [] l s wr ∧ Cnt s inn out k)) (fun _ _ i _ => n - (intOf i).toNat)
  case atStart => exact ⟨0, 0, 0, _, Nat.zero_le _, rfl, rfl, rfl, cover ⟨H1.out, cnt_fresh⟩⟩
  case round =>
    clear H1
    obtain ⟨k, inn, out, s, hk, rfl, rfl, rfl, hout⟩ := hrel
    by_cases hlt : k < n
    · obtain ⟨q, hq⟩ : ∃ q, ds[k]? = some q := ⟨_, List.getElem?_eq_getElem (by rw [HD.out.1.len]; exact hlt)⟩
      obtain ⟨ad, rfl, hc⟩ := (HD.out.1.below hout.out.1.bel).at_ k q hq
      have h0 := hc.c0
      have h1 := hc.c1
      have h2 := hc.c2
      have h3 := hc.c3
      have h4 := hc.c4
      have hk0 : (0 : Int) ≤ (k : Int) := by omega
      have hk1 : (k : Int) < (n : Int) := by omega
      have hi0 : inn ≤ k ∧ out ≤ k := by have := hout.out.2.few; have := hout.out.2.bal; omega
      have HQ := cover hq
      clear hc hq
      have e1 := cover (hout.out.1.keep_new (dobj q))
      have o0 := cover hout.out.2
      clear hout
      go_wp2_with fail
      refine (lost_has e1.out).mono ?_
      rintro e w' ⟨rfl, rfl⟩
      clear h0 h1 h2 h3 h4
      obtain ⟨wa, hwa⟩ : ∃ wa, wa = wr.alloc (dobj q) := ⟨_, rfl⟩
      obtain ⟨bd, hbd⟩ : ∃ bd, bd = wr.heap.size := ⟨_, rfl⟩
      have E1 : Hid (LHas w [(bd, dobj q)] l s wa) := cover (by rw [hbd, hwa]; exact e1.out)
      rw [← hwa, ← hbd]
      clear e1 hwa hbd
      obtain ⟨d0, d1, d2, d3, d4⟩ := dobj_cells E1.out.block
      obtain ⟨lo, hlo⟩ : ∃ lo, lo = s.lost := ⟨_, rfl⟩
      have hlo1 : lo ≤ k := by rw [hlo]; exact o0.out.lost
      rw [← hlo]
      have HLO := cover hlo
      clear hlo
      go_upto_block 2 with fail
      go_cut [5, 6] (fun a b wx => ∃ (inn' out' : Nat) (s' : LS), a = .int .i64 inn' ∧ b = .int .i64 out' ∧ Hid (LHas w [(bd, dobj q)] l s' wx ∧ Cnt s' inn' out' (k + 1)))
      case first =>
        by_cases c2 : q.what ≤ 2
        · as_aux_lemma =>
            have hs2 := HD.out.2.2 q (List.mem_of_getElem? HQ.out)
            have hk2 := HD.out.2.1 q (List.mem_of_getElem? HQ.out)
            have hrb : Row wa w.heap.size q.A q.b.length q.b := (HD.out.1.at_ k q HQ.out).elim fun _ h => h.2.row.below E1.out.bel
            have hS := send_has E1.out q.f q.t q.A q.b.length q.c _ q.b hrb E1.out.siz (by omega) (by have := o0.out.now; omega) (by have := o0.out.lost; omega)
            have hsm : Sm (q.b, 0) := ⟨hs2, hk2.2.2.2.2.1⟩
            clear hrb hs2 hk2
            by_cases ho : okP s.n q.f q.t
            · by_cases hm : (theRow s q.f q.t).length < s.m
              · obtain ⟨b1, c1⟩ := o0.out.send_in ho hm hsm
                have C1 := cover c1
                rw [b1] at hS
                clear c1 ho hm b1 hsm
                go_wp2_with fail
                refine hS.mono ?_
                rintro e w2 ⟨rfl, H2⟩
                clear hS d0 d1 d2 d3 d4
                go_wp2_with fail
                go_meet
                exact ⟨inn + 1, out, _, by go_num, rfl, cover ⟨H2.out, C1.out⟩⟩
              · obtain ⟨b1, b2, c1⟩ := o0.out.send_full ho hm q.b
                have C1 := cover c1
                rw [b1] at hS
                rw [← HLO.out] at b2
                have B2 := cover b2
                clear c1 ho hm b1 hsm b2
                go_wp2_with fail
                refine hS.mono ?_
                rintro e w2 ⟨rfl, H2⟩
                clear hS d0 d1 d2 d3 d4
                have hL := lost_has H2.out
                rw [B2.out] at hL
                go_wp2_with fail
                refine hL.mono ?_
                rintro e w' ⟨rfl, rfl⟩
                clear hL
                have hgt : (lo : Int) < ((lo + 1 : Nat) : Int) := by omega
                go_wp2_with fail
                go_meet
                exact ⟨inn + 1, out, _, by go_num, rfl, cover ⟨H2.out, C1.out⟩⟩
            · obtain ⟨b1, c1⟩ := o0.out.send_no ho q.b
              rw [b1, c1] at hS
              clear c1 ho b1 hsm
              go_wp2_with fail
              refine hS.mono ?_
              rintro e w2 ⟨rfl, H2⟩
              clear hS d0 d1 d2 d3 d4
              have hL := lost_has H2.out
              rw [← HLO.out] at hL
              go_wp2_with fail
              refine hL.mono ?_
              rintro e w' ⟨rfl, rfl⟩
              clear hL
              go_wp2_with fail
              go_meet
              exact ⟨inn, out, _, rfl, rfl, cover ⟨H2.out, o0.out.later (Nat.le_succ k)⟩⟩
        · by_cases c6 : q.what ≤ 6
          · as_aux_lemma =>
              have hP := pass_has E1.out q.f q.t
              go_wp2_with fail
              refine hP.mono ?_
              rintro e w2 ⟨A2, c2', xs2, rfl, i2, k2, h2⟩
              clear hP d0 d1 d2 d3 d4 k2
              have H2 : Hid (LHas w [(bd, dobj q)] l (passS s q.f q.t) w2) := cover (h2.sub i2)
              clear h2 i2
              rcases hrow : theRow s q.f q.t with _ | ⟨x, r⟩
              · obtain ⟨p1, p2, p3⟩ := pass_none hrow
                rw [p3] at H2
                rw [p2]
                clear p1 p2 p3 hrow
                go_wp2_with fail
                go_meet
                exact ⟨inn, out, _, rfl, rfl, cover ⟨H2.out, o0.out.later (Nat.le_succ k)⟩⟩
              · obtain ⟨p1, p2, p3⟩ := pass_row hrow
                rw [p3] at H2
                rw [p2]
                have C1 := cover (o0.out.pass hrow)
                clear p1 p2 p3 hrow
                go_wp2_with fail
                go_meet
                exact ⟨inn, out + 1, _, rfl, by go_num, cover ⟨H2.out, C1.out⟩⟩
          · by_cases c7 : q.what = 7
            · as_aux_lemma =>
                have hS := drop_has E1.out q.f q.t (by have := o0.out.lost; omega)
                go_wp2_with fail
                refine hS.mono ?_
                rintro e w2 ⟨rfl, H2⟩
                clear hS d0 d1 d2 d3 d4
                go_wp2_with fail
                go_meet
                exact ⟨inn, out, _, rfl, rfl, cover ⟨H2.out, o0.out.drop q.f q.t⟩⟩
            · by_cases c8 : q.what = 8
              · as_aux_lemma =>
                  have hS := twice_has E1.out q.f q.t (o0.out.max q.f q.t)
                  rcases o0.out.twice_or q.f q.t with ⟨b1, c1⟩ | ⟨b1, c1⟩
                  · have C1 := cover c1
                    rw [b1] at hS
                    clear c1 b1
                    go_wp2_with fail
                    refine hS.mono ?_
                    rintro e w2 ⟨rfl, H2⟩
                    clear hS d0 d1 d2 d3 d4
                    go_wp2_with fail
                    go_meet
                    exact ⟨inn + 1, out, _, by go_num, rfl, cover ⟨H2.out, C1.out⟩⟩
                  · have C1 := cover c1
                    rw [b1] at hS
                    clear c1 b1
                    go_wp2_with fail
                    refine hS.mono ?_
                    rintro e w2 ⟨rfl, H2⟩
                    clear hS d0 d1 d2 d3 d4
                    go_wp2_with fail
                    go_meet
                    exact ⟨inn, out, _, rfl, rfl, cover ⟨H2.out, C1.out⟩⟩
              · by_cases c10 : q.what = 10
                · as_aux_lemma =>
                    have hS := age_has E1.out (by have := o0.out.now; omega) (by have := o0.out.lost; omega)
                    go_wp2_with fail
                    refine hS.mono ?_
                    rintro e w2 ⟨rfl, H2⟩
                    clear hS d0 d1 d2 d3 d4
                    go_wp2_with fail
                    go_meet
                    exact ⟨inn, out, _, rfl, rfl, cover ⟨H2.out, o0.out.age⟩⟩
                · by_cases c11 : q.what = 11
                  · as_aux_lemma =>
                      have hS := cut_has E1.out q.f (by have := o0.out.lost; omega)
                      go_wp2_with fail
                      refine hS.mono ?_
                      rintro e w2 ⟨rfl, H2⟩
                      clear hS d0 d1 d2 d3 d4
                      go_wp2_with fail
                      go_meet
                      exact ⟨inn, out, _, rfl, rfl, cover ⟨H2.out, o0.out.cut q.f⟩⟩
                  · as_aux_lemma =>
                      go_wp2_with fail
                      go_meet
                      exact ⟨inn, out, _, rfl, rfl, cover ⟨E1.out, o0.out.later (Nat.le_succ k)⟩⟩
      case rest =>
        clear E1 o0 HLO d0 d1 d2 d3 d4 hi0 hlo1
        obtain ⟨inn2, out2, s2, rfl, rfl, hcu⟩ := hcut
        have hb2 : out2 ≤ inn2 ∧ inn2 ≤ k + 1 ∧ s2.lost ≤ inn2 ∧ tot s2 9 ≤ inn2 := by have h1 := hcu.out.2.few; have h2 := hcu.out.2.bal; omega
        have E2 := cover hcu.out.1.drop
        have O2 := cover hcu.out.2
        have HBL := cover hcu.out.2.bal
        have HT := cover (fun a b (ha : a < 3) (hb : b < 3) => tot_step (a := a) (b := b) O2.out.en E2.out.diags ha hb)
        have HM := cover (fun m (hm : m ≤ 9) => Nat.le_trans (tot_mono s2 hm) (show tot s2 9 ≤ 200 by omega))
        have HL4 := cover (fun (a b : Int) (W : World) (h : LHas w [] l s2 W) => Nat.le_trans (LHas.len4 h a b) (Nat.le_of_eq O2.out.em))
        clear hcu
        go_wp2_with fail
        go_loopw [12, 13] (fun f a wr => ∃ j : Nat, j ≤ 3 ∧ f = .int .i64 (tot s2 (3 * j)) ∧ a = .int .i64 j ∧ Hid (LHas w [] l s2 wr)) (fun _ a _ => 3 - (intOf a).toNat)
        case atStart => exact ⟨0, Nat.zero_le _, rfl, rfl, E2⟩
        case round =>
          clear E2
          obtain ⟨j, hj, rfl, rfl, hj2⟩ := hrel
          by_cases hj3 : j < 3
          · obtain ⟨t0, ht0⟩ : ∃ t0, t0 = tot s2 (3 * j) := ⟨_, rfl⟩
            rw [← ht0]
            have HT0 := cover ht0
            have hj3i : (j : Int) < 3 := by omega
            clear ht0
            go_wp2_with fail
            go_loopw [12, 14] (fun f b wr => ∃ i : Nat, i ≤ 3 ∧ f = .int .i64 (tot s2 (3 * j + i)) ∧ b = .int .i64 i ∧ Hid (LHas w [] l s2 wr)) (fun _ b _ => 3 - (intOf b).toNat)
            case atStart => exact ⟨0, Nat.zero_le _, by rw [HT0.out]; rfl, rfl, hj2⟩
            case round =>
              clear hj2
              obtain ⟨i, hi, rfl, rfl, hi2⟩ := hrel
              by_cases hi3 : i < 3
              · have hR := row_has hi2.out j i (by have := O2.out.now; omega) (O2.out.max j i)
                have hx4 := HL4.out j i _ hi2.out
                have hst := HT.out j i hj3 hi3
                have hm1 := HM.out (3 * j + i) (by omega)
                obtain ⟨x, hx⟩ : ∃ x, x = (theRow s2 j i).length := ⟨_, rfl⟩
                obtain ⟨t1, ht1⟩ : ∃ t1, t1 = tot s2 (3 * j + i) := ⟨_, rfl⟩
                rw [← hx] at hR hx4 hst
                rw [← ht1] at hst hm1 ⊢
                have HST := cover hst
                have hx5 : ¬ ((4 : Int) < (x : Int)) := by omega
                clear hx ht1 hst hi2
                go_wp2_with fail
                refine hR.mono ?_
                rintro e w3 ⟨A3, c3, rfl, H3⟩
                have E3 := cover H3.out.2
                clear hR H3
                go_wp2
                go_roundw
                case rel =>
                  exact ⟨i + 1, by omega, by rw [show 3 * j + (i + 1) = 3 * j + i + 1 from rfl, HST.out]; go_num, by go_num, E3⟩
                case measure => simp [intOf]; omega
              · obtain rfl : i = 3 := by omega
                have HE : Hid (tot s2 (3 * j + 3) = tot s2 (3 * (j + 1))) := cover (by rw [show 3 * j + 3 = 3 * (j + 1) by omega])
                obtain ⟨t1, ht1⟩ : ∃ t1, t1 = tot s2 (3 * j + 3) := ⟨_, rfl⟩
                rw [← ht1] at HE ⊢
                clear ht1
                go_wp2
                go_roundw
                case rel => exact ⟨j + 1, by omega, by rw [HE.out], by go_num, hi2⟩
                case measure => simp [intOf]; omega
          · obtain rfl : j = 3 := by omega
            have hm9 := HM.out 9 (Nat.le_refl _)
            have hbl := HBL.out
            have hL := lost_has hj2.out
            rw [show 3 * 3 = 9 from rfl]
            obtain ⟨t9, ht9⟩ : ∃ t9, t9 = tot s2 9 := ⟨_, rfl⟩
            obtain ⟨lo2, hlo2⟩ : ∃ lo2, lo2 = s2.lost := ⟨_, rfl⟩
            rw [← ht9] at hm9 hbl hb2 ⊢
            rw [← hlo2] at hbl hb2 hL
            clear ht9 hlo2
            have hbz : (out2 : Int) + (t9 : Int) + (lo2 : Int) = (inn2 : Int) := by omega
            clear hbl
            go_wp2_with fail
            refine hL.mono ?_
            rintro e w' ⟨rfl, rfl⟩
            clear hL
            go_wp2
            go_roundw
            case rel => exact ⟨k + 1, inn2, out2, s2, by omega, rfl, rfl, by go_num, cover ⟨hj2.out, O2.out⟩⟩
            case measure => simp [intOf]; omega
    · obtain rfl : k = n := by omega
      have HF := cover hout.out.1.bel
      clear hout
      go_wp2
      go_ret
      exact ⟨rfl, HF.out⟩
theorem walk_LanCounts (A : Option Addr) (n c : Nat) (ds : List DV) (w : World) (hlc : n ≤ c) (hcm : c ≤ maxLen) (hdk : DeedsL w w.heap.size A n ds ∧ ∀ q ∈ ds, DOk q) :
    Calls Try.prog 6 #[.slice A n c] w fun e w' => e = .returned (.bool true) ∧ Below w.heap.size w w' := by
  obtain ⟨hd, hok⟩ := hdk
  by_cases hn : n ≤ 150
  · by_cases hs : small ds
    · exact counts_walk A n c ds w hn hd hok hs
    · have HD := cover (And.intro hd hs)
      clear hd hok hs
      go_enter Try.func6, Try.ntmps6
      go_wp2_with fail
      refine (awake_any w).mono ?_
      rintro e w0 ⟨rfl, hb0⟩
      have H0 := cover hb0
      clear hb0
      have hroom := room_any (w := w0) (c := c) 150 (by omega) (by omega) (HD.out.1.below H0.out) false (by simp; exact HD.out.2)
      go_wp2_with fail
      refine hroom.mono ?_
      rintro e w' ⟨rfl, rfl⟩
      clear hroom
      go_wp2
      go_ret
      exact ⟨rfl, H0.out⟩
  · have hn' : (150 : Int) < (n : Int) := by omega
    clear hd hok
    go_enter Try.func6, Try.ntmps6
    go_wp2_with fail
    refine (awake_any w).mono ?_
    rintro e w0 ⟨rfl, hb0⟩
    go_wp2_with fail
    refine (room_long 150 hn').mono ?_
    rintro e w' ⟨rfl, rfl⟩
    go_wp2
    go_ret
    exact ⟨rfl, hb0⟩
end Go.Proofs.Ytjidhpmjdhjciaa
