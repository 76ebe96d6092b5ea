/- The walk of ClockPlays. -/
import Derived.Deep.CutBlock
import Derived.Deep.DeepCutAuto
import Derived.Deep.RegionHeld3
import Derived.Test.YtodiocioldakjaaKDeeds
import Derived.Test.YtodiocioldakjaaKDuo
namespace Go.Proofs.Ytodiocioldakjaa
open Go.RowKit
set_option linter.unusedVariables false

abbrev deedP (a b c : Int) : Obj := .cells #[.int .i64 a, .int .i64 b, .int .i64 c] 37 (0, 0)
/-- both clocks stand alike -/
def Alike (K : Foot) (B : Nat) (w : World) (c r m : Nat) (j : Nat) (wr : World) : Prop := ∃ now l, now ≤ j ∧ Duo K B w c r m now l now l wr
abbrev fZ : Foot := fun _ => False
set_option maxRecDepth 100000 in
set_option maxHeartbeats 3200000 in
theorem plays_walk (most : Int) (A : Option Addr) (len cap : Nat) (ds : List (Int × Int × Int)) (w : World) (hm1 : most ≤ 1000) (hlen : (len : Int) ≤ 200) (hd : Deeds w w.heap.size A len ds) :
    Calls Try.prog 4 #[.int .i64 most, .slice A len cap] w fun e w' => e = .returned (.bool true) ∧ Below w.heap.size w w' := by
  have HDS := cover hd
  obtain ⟨B, hB⟩ : ∃ B, w.heap.size = B := ⟨_, rfl⟩
  rw [hB]
  have hBw : B ≤ w.heap.size := by omega
  have HBE := cover hB
  clear hB hd
  obtain ⟨m, hm⟩ : ∃ m : Nat, m = most.toNat := ⟨_, rfl⟩
  have hm2 : m ≤ 1000 := by omega
  go_enter Try.func4, Try.ntmps4
  go_wp2_with fail
  refine (awake_any w).mono ?_
  rintro e w0 ⟨rfl, hb0⟩
  have HB0 : Hid (Below B w w0) := cover (hb0.mono hBw)
  have hs0 : B ≤ w0.heap.size := Nat.le_trans hBw hb0.size
  clear hb0
  have hm1' : ¬ most > 1000 := by omega
  have hl1' : ¬ (len : Int) > 200 := by omega
  go_wp2_with fail
  refine (newI_has most (by omega) hs0).mono ?_
  rintro e w1 ⟨c, rfl, H1'⟩
  have HR : Hid (∀ w2, w2 = w1.alloc (.cells #[.int .i64 m, .int .i64 0, .slice none 0 0] 35) → Alike fZ B w c w1.heap.size m 0 w2) := cover fun w2 hw2 => by
    obtain ⟨r, hr⟩ : ∃ r, r = w1.heap.size := ⟨_, rfl⟩
    rw [← hr]
    obtain ⟨⟨V, k1, k2⟩, k3⟩ := H1'.out
    rw [← hm] at k1
    have hb : Below w1.heap.size w1 w2 := by rw [hw2]; exact (Below.refl _ _).alloc (Nat.le_refl _) _
    have hs1 : B ≤ w1.heap.size := Nat.le_trans hs0 k3.size
    have hcr : ∀ i, cfoot c V i → i < r := fun i hi => by rw [hr]; exact k1.lt hi
    have hcf : ∀ i, cfoot r (.slice none 0 0) i → i = r := fun i hi => hi.elim id (fun h => by cases h)
    refine ⟨0, [], Nat.le_refl _, ⟨V, .slice none 0 0, k1.below hb, ⟨by rw [hw2, hr]; exact heap_alloc_new _ _, World.ownsRow_nil _ _ _ _, ⟨List.nodup_nil, Nat.zero_le _, fun x hx => (by cases hx)⟩, by omega, by omega⟩, k2, fun i hi => by rw [hcf i hi, hr]; exact hs1, fun i hi h => by have := hcr i hi; have := hcf i h; omega, fun i hi => hi.elim⟩, HB0.out.trans (k3.trans (hb.mono hs1)), Nat.le_trans hs1 hb.size⟩
  have hmost : (most < 0 ∧ m = 0) ∨ (m = 0 ∧ most = 0) ∨ (0 < most ∧ most = (m : Int)) := by omega
  clear H1' HB0 hm
  go_upto_region 6 with fail
  go_cut [6] (fun v wx => ∃ r, v = ptr r ∧ Hid (Alike fZ B w c r m 0 wx))
  case first =>
    rcases hmost with ⟨h1, rfl⟩ | ⟨rfl, rfl⟩ | ⟨h1, rfl⟩
    · have HR' := cover (HR.out _ rfl)
      clear HR
      go_wp2_with fail
      go_meet
      exact ⟨_, rfl, HR'⟩
    · have HR' := cover (HR.out _ rfl)
      clear HR
      go_wp2_with fail
      go_meet
      exact ⟨_, rfl, HR'⟩
    · have HR' := cover (HR.out _ rfl)
      have h2 : ¬ ((m : Int) ≤ 0) := by omega
      clear HR
      go_wp2_with fail
      go_meet
      exact ⟨_, rfl, HR'⟩
  case rest =>
  obtain ⟨r, rfl, H2⟩ := hcut
  clear HR hmost
  go_wp2_with fail
  go_loopw [7] (fun i wr => ∃ j : Nat, j ≤ len ∧ i = .int .i64 j ∧ Hid (Alike fZ B w c r m j wr)) (fun i _ => len - (intOf i).toNat)
  case atStart => exact ⟨0, Nat.zero_le _, rfl, H2⟩
  case round =>
    obtain ⟨j, hj, rfl, hrel⟩ := hrel
    by_cases hlt : j < len
    · obtain ⟨⟨d0, dk, dn⟩, hdk⟩ : ∃ q, ds[j]? = some q := ⟨_, List.getElem?_eq_getElem (by rw [HDS.out.len]; omega)⟩
      obtain ⟨now, l, hnow, hduo⟩ := hrel.out
      have hjl' : j < ds.length := (List.getElem?_eq_some_iff.1 hdk).1
      obtain ⟨ad, rfl, hab, c0, c1, c2⟩ := (HDS.out.below (by rw [HBE.out]; exact hduo.bel)).cells j hjl'
      have hdq : ds[j] = (d0, dk, dn) := (List.getElem?_eq_some_iff.1 hdk).2
      rw [hdq] at c0 c1 c2
      simp only [] at c0 c1 c2
      obtain ⟨y, hy⟩ : ∃ y, y = wr.heap.size := ⟨_, rfl⟩
      obtain ⟨w3, hw3⟩ : ∃ w3, w3 = wr.alloc (deedP d0 dk dn) := ⟨_, rfl⟩
      have hb3 : Below wr.heap.size wr w3 := by rw [hw3]; exact (Below.refl _ _).alloc (Nat.le_refl _) _
      have hn3 : w3.heap[y]? = some (deedP d0 dk dn) := by rw [hw3, hy]; exact heap_alloc_new wr _
      have HD3 : Hid (Duo (fun i => fZ i ∨ i = y) B w c r m now l now l w3) := cover (hduo.keepNew hb3 y ⟨by omega, block_lt hn3⟩)
      have HN3 := cover hn3
      go_upto_region 13 with fail
      rw [← hy, ← hw3]
      clear c0 c1 c2 hdk hdq hjl' hab hy hw3 hb3 hn3 hduo hrel
      go_upto_block 2 with fail
      go_cut [9] (fun v wx => v = .bool true ∧ Hid (wx.heap[y]? = some (deedP d0 dk dn) ∧ ∃ now' l', now' ≤ j + 1 ∧ Duo (fun i => fZ i ∨ i = y) B w c r m now' l' now' l' wx))
      case first =>
        have q0 : w3.cell? ⟨y, 0, none⟩ = some (.int .i64 d0) := by rw [cell_of_row _ _ _ _ _ _ HN3.out]; rfl
        have q1 : w3.cell? ⟨y, 1, none⟩ = some (.int .i64 dk) := by rw [cell_of_row _ _ _ _ _ _ HN3.out]; rfl
        have q2 : w3.cell? ⟨y, 2, none⟩ = some (.int .i64 dn) := by rw [cell_of_row _ _ _ _ _ _ HN3.out]; rfl
        by_cases hd3 : d0 ≤ 3
        · go_wp2_with fail
          refine (duo_start HD3.out dk dn).mono ?_
          rintro e w5 ⟨rfl, H5⟩
          have h5y := (H5.out.2 y (.inr rfl)).trans HN3.out
          have p1 : w5.cell? ⟨y, 1, none⟩ = some (.int .i64 dk) := by rw [cell_of_row _ _ _ _ _ _ h5y]; rfl
          have p2 : w5.cell? ⟨y, 2, none⟩ = some (.int .i64 dn) := by rw [cell_of_row _ _ _ _ _ _ h5y]; rfl
          have H5D := cover H5.out.1
          have H5Y := cover h5y
          clear H5 h5y q0 q1 q2 HD3 HN3
          go_wp2_with fail
          refine (duo_rstart H5D.out dk dn).mono ?_
          rintro e w6 ⟨rfl, H6⟩
          have HN : Hid (w6.heap[y]? = some (deedP d0 dk dn) ∧ ∃ now' l', now' ≤ j + 1 ∧ Duo (fun i => fZ i ∨ i = y) B w c r m now' l' now' l' w6) := cover ⟨(H6.out.2 y (.inr rfl)).trans H5Y.out, now, _, by omega, H6.out.1⟩
          clear H6 H5D H5Y p1 p2
          generalize startB m l dk dn 10000 = sb
          go_wp2_with fail
          go_meet
          exact ⟨rfl, HN⟩
        by_cases hd4 : d0 = 4
        · have h4b : (d0 == 4) = true := by rw [beq_iff_eq]; exact hd4
          go_wp2_with fail
          refine (duo_stop HD3.out dk).mono ?_
          rintro e w5 ⟨rfl, H5⟩
          have h5y := (H5.out.2 y (.inr rfl)).trans HN3.out
          have p1 : w5.cell? ⟨y, 1, none⟩ = some (.int .i64 dk) := by rw [cell_of_row _ _ _ _ _ _ h5y]; rfl
          have H5D := cover H5.out.1
          have H5Y := cover h5y
          clear H5 h5y q0 q1 q2 HD3 HN3
          go_wp2_with fail
          refine (duo_rstop H5D.out dk).mono ?_
          rintro e w6 ⟨rfl, H6⟩
          have HN : Hid (w6.heap[y]? = some (deedP d0 dk dn) ∧ ∃ now' l', now' ≤ j + 1 ∧ Duo (fun i => fZ i ∨ i = y) B w c r m now' l' now' l' w6) := cover ⟨(H6.out.2 y (.inr rfl)).trans H5Y.out, now, _, by omega, H6.out.1⟩
          clear H6 H5D H5Y p1
          generalize hasK l dk = sb
          go_wp2_with fail
          go_meet
          exact ⟨rfl, HN⟩
        · have h4b : (d0 == 4) = false := by rw [beq_eq_false_iff_ne]; exact hd4
          go_wp2_with fail
          refine (duo_tick HD3.out (by omega)).mono ?_
          rintro e w5 ⟨A5, c5, rfl, H5⟩
          have h5y := (H5.out.2.2 y (.inr rfl)).trans HN3.out
          have H5Y := cover h5y
          clear h5y q0 q1 q2 HD3 HN3
          go_wp2_with fail
          refine (duo_rtick H5.out.2.1 (by omega)).mono ?_
          rintro e w6 ⟨A6, c6, rfl, H6⟩
          have HN : Hid (w6.heap[y]? = some (deedP d0 dk dn) ∧ Duo (fun i => fZ i ∨ i = y) B w c r m (now + 1) (tickK l) (now + 1) (tickK l) w6) := cover ⟨(H6.out.2.2 y (.inl (.inr rfl))).trans H5Y.out, H6.out.2.1.sub (fun i hi => .inl hi)⟩
          have hlen5 : (toldK l).length ≤ 1000000 := by
            unfold toldK; rw [List.length_map]
            have := List.length_filter_le (fun x => x.2 == 1) l
            have := H5.out.2.1.lenC.2
            omega
          have hrow5 : w6.ownsRow w3.heap.size 3 1 (.slice A5 (toldK l).length c5) (toldK l).length ((toldK l).map (Value.int .i64)) := row_keeps H5.out.1 (fun i hi => H6.out.2.2 i (.inr hi))
          have HI := cover (ints_same (c := c5) (c' := c6) w6 rfl hlen5 (Nums.of_own hrow5) (Nums.of_own H6.out.1))
          clear H6 H5 H5Y hrow5 hlen5
          generalize (toldK l).length = tn at HI ⊢
          go_wp2_with fail
          refine HI.out.mono ?_
          rintro e w7 ⟨rfl, d, rfl⟩
          have HM : Hid ((w6.drewN d).heap[y]? = some (deedP d0 dk dn) ∧ ∃ now' l', now' ≤ j + 1 ∧ Duo (fun i => fZ i ∨ i = y) B w c r m now' l' now' l' (w6.drewN d)) := cover ⟨HN.out.1, now + 1, _, by omega, HN.out.2.below (below_drewN (Below.refl _ _) d)⟩
          clear HI HN
          go_wp2_with fail
          go_meet
          exact ⟨rfl, HM⟩
      case rest =>
        obtain ⟨rfl, hcut⟩ := hcut
        obtain ⟨hyc, now', l', hn', hduo⟩ := hcut.out
        obtain ⟨AR, cpR, d0', d1, d2, hcpR, hPR, hrR, hgR⟩ := hduo.read
        have HDU := cover hduo
        have q1 : wc.cell? ⟨y, 1, none⟩ = some (.int .i64 dk) := by rw [cell_of_row _ _ _ _ _ _ hyc]; rfl
        have hyl := block_lt hyc
        have HPR := cover (And.intro hPR hgR)
        obtain ⟨n, hnl⟩ : ∃ n, n = l'.length := ⟨_, rfl⟩
        have hn5 : n ≤ 100000 := by rw [hnl]; exact hduo.lenC.1
        have HNL := cover hnl
        obtain ⟨lv, hlv⟩ : ∃ lv, lv = leftK l' dk := ⟨_, rfl⟩
        have HLV := cover hlv
        rw [← hnl] at d2 hcpR
        obtain ⟨n2, hn2⟩ : ∃ n2 : Nat, n2 = if n = 0 then 0 else 1 := ⟨_, rfl⟩
        have hmin : (if (n : Int) < 1 then (n : Int) else 1) = (n2 : Int) := by rw [hn2]; split <;> split <;> omega
        have hn2n : n2 ≤ n := by rw [hn2]; split <;> omega
        have CL : Hid (∀ W', Below wc.heap.size wc W' → Calls Try.prog 22 #[ptr c, .int .i64 dk] W' fun e w' => e = .returned (.int .i64 lv) ∧ Below wc.heap.size wc w') := cover fun W' hb => (duo_left (HDU.out.below hb) dk).mono fun e w' ⟨he, hb'⟩ => ⟨by rw [he, HLV.out], hb.trans (hb'.mono hb.size)⟩
        have CRL : Hid (∀ W', Below wc.heap.size wc W' → Calls Try.prog 23 #[ptr r, .int .i64 dk] W' fun e w' => e = .returned (.int .i64 lv) ∧ Below wc.heap.size wc w') := cover fun W' hb => (duo_rleft (HDU.out.below hb) dk).mono fun e w' ⟨he, hw⟩ => ⟨by rw [he, HLV.out], by rw [← hw]; exact hb⟩
        have CN : Hid (∀ W', Below wc.heap.size wc W' → Calls Try.prog 24 #[ptr c] W' fun e w' => e = .returned (.int .i64 now') ∧ Below wc.heap.size wc w') := cover fun W' hb => (duo_now (HDU.out.below hb)).mono fun e w' ⟨he, hw⟩ => ⟨he, by rw [← hw]; exact hb⟩
        have CLn : Hid (∀ W', Below wc.heap.size wc W' → Calls Try.prog 25 #[ptr c] W' fun e w' => e = .returned (.int .i64 n) ∧ Below wc.heap.size wc w') := cover fun W' hb => (duo_len (HDU.out.below hb)).mono fun e w' ⟨he, hw⟩ => ⟨by rw [he, HNL.out], by rw [← hw]; exact hb⟩
        have CR1 : Hid (∀ W', Below wc.heap.size wc W' → Calls Try.prog 27 #[ptr c, .int .i64 (-1)] W' fun e w' => ∃ A c', e = .returned (.slice A n c') ∧ Hid (Prs w' A l') ∧ Below wc.heap.size wc w') := cover fun W' hb => (duo_runs (HDU.out.below hb) (-1) n (by rw [if_neg (by omega)]; exact HNL.out)).mono fun e w' ⟨A, c', he, ho⟩ => by
          have e1 : l'.take n = l' := by rw [HNL.out, List.take_length]
          rw [e1] at he ho
          exact ⟨A, c', by rw [he, HNL.out], cover (Prs.of_own ho.out.1), hb.trans (ho.out.2.mono hb.size)⟩
        have CR2 : Hid (∀ W', Below wc.heap.size wc W' → Calls Try.prog 27 #[ptr c, .int .i64 1] W' fun e w' => ∃ A c', e = .returned (.slice A n2 c') ∧ Hid (Prs w' A (l'.take n2)) ∧ Below wc.heap.size wc w') := cover fun W' hb => (duo_runs (HDU.out.below hb) 1 (if (1 : Int) < l'.length then 1 else l'.length) (by split <;> split <;> omega)).mono fun e w' ⟨A, c', he, ho⟩ => by
          have e1 : (if (1 : Int) < l'.length then 1 else l'.length) = n2 := by rw [hn2, HNL.out]; split <;> split <;> omega
          rw [e1] at he ho
          have e2 : (l'.take n2).length = n2 := by rw [List.length_take, ← HNL.out]; omega
          rw [e2] at he
          rw [e2] at ho
          exact ⟨A, c', he, cover (Prs.of_own ho.out.1), hb.trans (ho.out.2.mono hb.size)⟩
        have CS1 : Hid (∀ W' A c', Below wc.heap.size wc W' → Prs W' A l' → Calls Try.prog 26 #[.slice A n c', .slice AR n cpR] W' fun e w' => e = .returned (.bool true) ∧ Below wc.heap.size wc w') := cover fun W' A c' hb hp => (same_same W' HNL.out.symm (by omega) hp (fun j x hx => by
            obtain ⟨g, e, k0, k1⟩ := HPR.out.1 j x hx
            exact ⟨g, e, (hb.cell (p := ⟨g, j * 2, none⟩) (HPR.out.2 g e)).trans k0, (hb.cell (p := ⟨g, j * 2 + 1, none⟩) (HPR.out.2 g e)).trans k1⟩)).mono fun e w' ⟨he, d, hw⟩ => ⟨he, by rw [hw]; exact below_drewN hb d⟩
        have CS2 : Hid (∀ W' A c', Below wc.heap.size wc W' → Prs W' A (l'.take n2) → Calls Try.prog 26 #[.slice A n2 c', .slice AR n2 cpR] W' fun e w' => e = .returned (.bool true) ∧ Below wc.heap.size wc w') := cover fun W' A c' hb hp => (same_same W' (by rw [List.length_take, ← HNL.out]; omega) (by omega) hp (Prs.take (fun j x hx => by
            obtain ⟨g, e, k0, k1⟩ := HPR.out.1 j x hx
            exact ⟨g, e, (hb.cell (p := ⟨g, j * 2, none⟩) (HPR.out.2 g e)).trans k0, (hb.cell (p := ⟨g, j * 2 + 1, none⟩) (HPR.out.2 g e)).trans k1⟩) n2)).mono fun e w' ⟨he, d, hw⟩ => ⟨he, by rw [hw]; exact below_drewN hb d⟩
        have HS : Hid (∀ W', Below wc.heap.size wc W' → W'.cell? ⟨y, 1, none⟩ = some (.int .i64 dk) ∧ W'.cell? ⟨r, 1, none⟩ = some (.int .i64 now') ∧ W'.cell? ⟨r, 2, none⟩ = some (.slice AR n cpR) ∧ Below wc.heap.size wc W') := cover fun W' hb => ⟨(hb.cell (p := ⟨y, 1, none⟩) hyl).trans q1, (hb.cell (p := ⟨r, 1, none⟩) hrR).trans d1, (hb.cell (p := ⟨r, 2, none⟩) hrR).trans d2, hb⟩
        have hn2c : n2 ≤ cpR := by omega
        have hn2i : (0 : Int) ≤ (n2 : Int) := by omega
        have hn2ci : (n2 : Int) ≤ (cpR : Int) := by omega
        clear hcut hyc hduo d0' hPR hgR hnl hlv hn2 hnow HD3 HN3 H2
        go_wp2_with fail
        go_region_held3 (fun w' => w'.cell? ⟨y, 1, none⟩ = some (.int .i64 dk) ∧ w'.cell? ⟨r, 1, none⟩ = some (.int .i64 now') ∧ w'.cell? ⟨r, 2, none⟩ = some (.slice AR n cpR) ∧ Below wc.heap.size wc w') (first | exact HS.out _ hbX | exact HS.out _ (below_drewN (Below.refl _ _) 1))
          (first
            | (go_at_call 22; refine (CL.out _ ?_).mono ?_; (go_split_ands; assumption); rintro e w6 ⟨rfl, hbX⟩)
            | (go_at_call 23; refine (CRL.out _ ?_).mono ?_; (go_split_ands; assumption); rintro e w6 ⟨rfl, hbX⟩)
            | (go_at_call 24; refine (CN.out _ ?_).mono ?_; (go_split_ands; assumption); rintro e w6 ⟨rfl, hbX⟩)
            | (go_at_call 25; refine (CLn.out _ ?_).mono ?_; (go_split_ands; assumption); rintro e w6 ⟨rfl, hbX⟩)
            | (go_at_call 27; (first | (with_reducible refine (CR1.out _ ?_).mono ?_) | (with_reducible refine (CR2.out _ ?_).mono ?_)); (go_split_ands; assumption); rintro e w7 ⟨A7, c7, rfl, hp7, hbX⟩)
            | (go_at_call 26; (first | (with_reducible refine (CS1.out _ _ _ ?_ hp7.out).mono ?_) | (with_reducible refine (CS2.out _ _ _ ?_ hp7.out).mono ?_)); (go_split_ands; assumption); rintro e w8 ⟨rfl, hbX⟩))
        all_goals
          have HX : Hid (Alike fZ B w c r m (j + 1) w8) := cover ⟨now', l', hn', (HDU.out.below hbX).sub (fun i hi => hi.elim)⟩
          clear hbX CL CRL CN CLn CR1 CR2 CS1 CS2 HS HDU
          go_wp2
          go_roundw
          case rel => exact ⟨j + 1, by omega, by go_num, HX⟩
          case measure => simp [intOf]; omega
    · obtain ⟨now, l, hnow, hduo⟩ := hrel.out
      have HB := cover hduo.bel
      clear hduo hrel
      go_wp2
      go_ret
      exact ⟨rfl, HB.out⟩
set_option maxRecDepth 100000 in
set_option maxHeartbeats 1600000 in
theorem walk_ClockPlays (most : Int) (A : Option Addr) (len cap : Nat) (ds : List (Int × Int × Int)) (w : World) (hw : (Lit.int .i64 most).wf = true) (hlc : len ≤ cap) (hcm : cap ≤ maxLen) (hd : Deeds w w.heap.size A len ds ∧ ∀ q ∈ ds, (-9223372036854775808 ≤ q.1 ∧ q.1 ≤ 9223372036854775807) ∧ (-9223372036854775808 ≤ q.2.1 ∧ q.2.1 ≤ 9223372036854775807) ∧ (-9223372036854775808 ≤ q.2.2 ∧ q.2.2 ≤ 9223372036854775807)) :
    Calls Try.prog 4 #[.int .i64 most, .slice A len cap] w fun e w' => e = .returned (.bool true) ∧ Below w.heap.size w w' := by
  by_cases h1 : (200 : Int) < (len : Int)
  · clear hd hw hcm
    have h2 : 200 < len := by omega
    go_enter Try.func4, Try.ntmps4
    go_wp2_with fail
    refine (awake_any w).mono ?_
    rintro e w0 ⟨rfl, hb0⟩
    go_wp2
    go_ret
    exact ⟨rfl, hb0⟩
  by_cases h2 : 1000 < most
  · clear hd hw hcm
    have h3 : ¬ 200 < len := by omega
    go_enter Try.func4, Try.ntmps4
    go_wp2_with fail
    refine (awake_any w).mono ?_
    rintro e w0 ⟨rfl, hb0⟩
    go_wp2
    go_ret
    exact ⟨rfl, hb0⟩
  · exact plays_walk most A len cap ds w (by omega) (by omega) hd.1
end Go.Proofs.Ytodiocioldakjaa
