/- The walk of QueueApart. -/
import Derived.Deep.CutBlock
import Derived.Deep.DeepCutAuto
import Derived.Test.YthfmkhjafkhpdaaQAwake
import Derived.Test.YthfmkhjafkhpdaaQSHas
import Derived.Test.YthfmkhjafkhpdaaQAll
import Derived.Test.YthfmkhjafkhpdaaQList
namespace Go.Proofs.Ythfmkhjafkhpdaa
open Go.RowKit
set_option linter.unusedVariables false

theorem all_has {B : Nat} {w : World} {q : Nat} {m : Int} {xs : List Int} (h : IHas B w q m (xs.map (.int .i64))) (hbig : xs.length ≤ 1000000) (n : Int) (k : Nat) (hk : k = if 0 ≤ n ∧ n < xs.length then n.toNat else xs.length) :
    Calls Try.prog 26 #[ptr q, .int .i64 n] w fun e w' => ∃ A c G, e = .returned (.slice A k c) ∧ Hid (VRow 3 w' G A c ((xs.take k).map (.int .i64)) ∧ Below w.heap.size w w') := by
  obtain ⟨G, ps, h, hO⟩ := h
  have hl := h.len
  simp at hl
  refine (all_any h (by omega) n k hk).mono ?_
  rintro e w' ⟨A, c, rfl, h1, h2⟩
  have hkl : ((xs.map (Value.int .i64)).take k).length = k := by
    have : k ≤ xs.length := by rw [hk]; split <;> omega
    simp; omega
  rw [hkl] at h1 ⊢
  obtain ⟨G', hv, _⟩ := VRow.of_own h1
  rw [← List.map_take] at hv
  exact ⟨A, c, G', rfl, cover ⟨hv, h2⟩⟩

/-- the law's two queues, and its list -/
structure ApartAt (W : World) (B qa qb : Nat) (A : Option Addr) (c : Nat) (xs : List Int) (n : Nat) (w : World) : Prop where
  a : IHas B w qa 6 (xs.map (.int .i64))
  b : SHas B w qb 6 (List.replicate n (.string ⟨#[115]⟩))
  x : ∃ G, VRow 3 w G A c (xs.map (.int .i64)) ∧ ∀ g, G = some g → B ≤ g
  bel : Below B W w
  siz : B ≤ w.heap.size
  le : xs.length ≤ 6 ∧ n ≤ 6

set_option maxRecDepth 100000 in
set_option maxHeartbeats 1600000 in
theorem apart_in (A : Option Addr) (len cap : Nat) (ds : List (Int × Int × Int)) (w : World) (hlc : len ≤ cap) (hl : len ≤ 150) (hd : Deeds w w.heap.size A len ds) :
    Calls Try.prog 8 #[.slice A len cap] w fun e w' => e = .returned (.bool true) ∧ Below w.heap.size w w' := by
  obtain ⟨i0, hi, hz0, hz1, hz2⟩ := info_parts int_info
  have HI := cover (And.intro hi (And.intro hz0 (And.intro hz1 hz2)))
  clear hi hz0 hz1 hz2
  go_enter Try.func8, Try.ntmps8
  go_wp2_with fail
  refine (awake_any w).mono ?_
  rintro e w0 ⟨rfl, hb0⟩
  have hs0 := hb0.size
  go_wp2_with fail
  refine (newI_has 6 w.heap.size w0 hs0 6 (by decide)).mono ?_
  rintro e w1 ⟨qa, rfl, H1⟩
  have hs1 := Nat.le_trans hs0 H1.out.2.1.size
  go_wp2_with fail
  refine (newS_has 6 w.heap.size w1 hs1 6 (by decide)).mono ?_
  rintro e w2 ⟨qb, rfl, H2⟩
  have hs2 := Nat.le_trans hs1 H2.out.2.1.size
  have HS : Hid (ApartAt w w.heap.size qa qb none 0 [] 0 w2) := cover ⟨H1.out.1.below H2.out.2.1, H2.out.1, ⟨none, VRow.nil _ _, fun g hg => by cases hg⟩, hb0.trans ((H1.out.2.1.mono hs0).trans (H2.out.2.1.mono hs1)), hs2, by simp⟩
  clear H1 H2 hb0 hs0 hs1 hs2
  go_wp2_with fail
  go_loopw [5, 6, 7] (fun v m i wr => ∃ (j : Nat) (A' : Option Addr) (c' : Nat) (xs : List Int) (n : Nat), j ≤ len ∧ v = .slice A' xs.length c' ∧ m = .int .i64 n ∧ i = .int .i64 j ∧ Hid (ApartAt w w.heap.size qa qb A' c' xs n wr)) (fun _ _ i _ => len - (intOf i).toNat)
  case atStart => exact ⟨0, none, 0, [], 0, Nat.zero_le _, rfl, rfl, rfl, HS⟩
  case round =>
    obtain ⟨j, A', c', xs, n, hj, rfl, rfl, rfl, hrel⟩ := hrel
    by_cases hlt : j < len
    · have hat := hrel.out
      obtain ⟨ad, rfl, had, h0, h1, h2⟩ := (hd.below hat.bel).cells j (by rw [hd.len]; exact hlt)
      have hjd : j < ds.length := by rw [hd.len]; exact hlt
      obtain ⟨do_, hdo⟩ : ∃ z, z = ds[j].1 := ⟨_, rfl⟩
      obtain ⟨x, hx⟩ : ∃ z, z = ds[j].2.1 := ⟨_, rfl⟩
      rw [← hdo] at h0
      rw [← hx] at h1
      have HX := cover (fun (W : World) (hb : Below wr.heap.size wr W) => (hb.cell (p := ⟨(ad.add (j * 3)).block, (ad.add (j * 3)).off + 1, none⟩) (by show (ad.add (j * 3)).block < _; rw [addr_add_block]; have := hat.siz; omega)).trans h1)
      have HY := cover (fun (W : World) (hb : Below w.heap.size wr W) => (hb.cell (p := ⟨(ad.add (j * 3)).block, (ad.add (j * 3)).off + 1, none⟩) (by rw [addr_add_block]; exact had)).trans h1)
      clear h2 hdo hx hat
      go_upto_block 2 with fail
      go_cut [5, 6] (fun v m wx => ∃ (A'' : Option Addr) (c'' : Nat) (ys : List Int) (k : Nat), v = .slice A'' ys.length c'' ∧ m = .int .i64 k ∧ Hid (ApartAt w w.heap.size qa qb A'' c'' ys k wx))
      case first =>
        by_cases d3 : do_ ≤ 3
        · by_cases hfull : xs.length < 6
          · go_wp2_with fail
            refine (putI_has hrel.out.a hrel.out.siz x (by simp; omega) (by simp; omega)).mono ?_
            rintro e w2 ⟨rfl, H2⟩
            have hS := H2.out.2
            have hsz2 := Nat.le_trans hrel.out.siz hS.size
            have h1' := HY.out w2 (hS.below hrel.out.siz)
            obtain ⟨G, hv, hg⟩ := hrel.out.x
            have hv2 := hv.spare hS (by decide)
            obtain ⟨w3, hw3⟩ : ∃ w3, w3 = w2.alloc (.cells #[.int .i64 x] 3) := ⟨_, rfl⟩
            have hb3 : Below w2.heap.size w2 w3 := by rw [hw3]; exact (Below.refl _ _).alloc (Nat.le_refl _) _
            have hl : (xs.map (Value.int .i64)).length = xs.length := by simp
            obtain ⟨A3, c3, G3, w4, hrun, hv4, hT4, hN4, _⟩ := append_vrow (P := Try.prog) (TS := 35) Try.underlying35 HI.out.1 HI.out.2.1 HI.out.2.2.1 HI.out.2.2.2 rfl (hv2.below hb3)
              (src_one Try.underlying35 w2.heap.size (.int .i64 x) (by have := cell_one_new w2 (.int .i64 x) 3 0 _ rfl; rw [add_off] at this; rw [hw3]; exact this) rfl) (.inr (by omega)) (by simp; omega)
            rw [hl] at hrun
            rw [hw3] at hrun
            have HN : Hid (ApartAt w w.heap.size qa qb A3 c3 (xs ++ [x]) n w4) := by
              have hsz3 : w2.heap.size ≤ w3.heap.size := hb3.size
              have hTG : ∀ k ∈ G.toList, w.heap.size ≤ k ∧ ∃ cur, w3.heap[k]? = some (.cells cur 3 (0, 0)) := fun k hk => by simp at hk; exact ⟨hg k hk, (hv2.below hb3).lt hk⟩
              have hS4 : Spare [3] w.heap.size w3 w4 := ⟨hT4.os, hT4.tape, hT4.output, hT4.size, fun k o hk ho => hT4.at_ hk (fun hm => by
                obtain ⟨h3, cur, h4⟩ := hTG k hm
                rcases ho with ho | ho
                · omega
                · rw [h4] at hk; injection hk with hk; exact ho _ _ _ hk.symm (by simp))⟩
              refine cover ⟨?_, ?_, ⟨G3, by simpa using hv4, fun g hgg => ?_⟩, ?_, by have := hS4.size; omega, ⟨by simp; omega, hrel.out.le.2⟩⟩
              · have := (H2.out.1.below hb3).spare hS4 (by decide); simpa using this
              · exact ((hrel.out.b.spare hS (by decide)).below hb3).spare hS4 (by decide)
              · rcases hN4 with rfl | ⟨g', rfl, hg'⟩
                · exact hg g hgg
                · injection hgg with e; omega
              · exact hrel.out.bel.trans ((hS.below hrel.out.siz).trans ((hb3.mono hsz2).trans (hS4.below (by omega))))
            clear hS hv hg hv2 hw3 hb3 hl hv4 hT4 hN4 H2 h0 h1 hsz2
            go_wp2_with (at_builtin; refine Lib.wpList_append_run _ rfl _ _ _ _ rfl _ _ rfl rfl _ _ (hrun _) ?_)
            go_meet
            exact ⟨A3, c3, xs ++ [x], n, by simp, rfl, HN⟩
          · go_wp2_with fail
            refine (putI_hasnt hrel.out.a x (by simp; omega)).mono ?_
            rintro e w2 ⟨rfl, rfl⟩
            clear h0 h1
            go_wp2_with fail
            go_meet
            exact ⟨A', c', xs, n, rfl, rfl, hrel⟩
        · by_cases d5 : do_ ≤ 5
          · rcases xs with _ | ⟨y, ys⟩
            · go_wp2_with fail
              refine (takeI_hasnt (by simpa using hrel.out.a)).mono ?_
              rintro e w2 ⟨rfl, rfl⟩
              clear h0 h1
              go_wp2_with fail
              go_meet
              exact ⟨A', c', [], n, rfl, rfl, hrel⟩
            · go_wp2_with fail
              refine (takeI_has (x := .int .i64 y) (ys := ys.map (.int .i64)) (by simpa using hrel.out.a)).mono ?_
              rintro e w2 ⟨rfl, H2⟩
              have hS := H2.out.2
              obtain ⟨G, hv, hg⟩ := hrel.out.x
              have hv2 := (hv.spare hS (by decide)).drop (k := 1) (by simp)
              have hcap := hv.cap
              simp at hcap
              obtain ⟨g, o, _, rfl, _⟩ := hv.cell (k := 0) (v := .int .i64 y) (by simp)
              have HN : ∀ A3 c3, A3 = (if c' = 1 then some ⟨g, o, none⟩ else (some ⟨g, o, none⟩ : Option Addr).map (·.add 1)) → c3 = c' - 1 → Hid (ApartAt w w.heap.size qa qb A3 c3 ys n w2) := fun A3 c3 e1 e2 => by
                subst e1 e2
                refine cover ⟨H2.out.1, hrel.out.b.spare hS (by decide), ⟨G, by simpa using hv2, hg⟩, hrel.out.bel.trans (hS.below hrel.out.siz), Nat.le_trans hrel.out.siz hS.size, ⟨?_, hrel.out.le.2⟩⟩
                have := hrel.out.le.1
                simp at this; omega
              have HNH := cover HN
              clear hS hv hg hv2 H2 h0 h1 HN
              go_wp2_with fail
              all_goals go_meet
              all_goals exact ⟨_, _, ys, n, rfl, rfl, HNH.out _ _ (by first | rfl | (simp [show c' = 1 by assumption]; done) | (simp [show ¬ c' = 1 by assumption, add_off]; done)) (by first | rfl | (simp [show c' = 1 by assumption]; done))⟩
          · by_cases d6 : do_ = 6
            · by_cases hfull : n < 6
              · subst d6
                go_wp2_with fail
                refine (putS_has hrel.out.b hrel.out.siz ⟨#[115]⟩ (by simp; omega) (by simp; omega)).mono ?_
                rintro e w2 ⟨rfl, H2⟩
                have hS := H2.out.2
                have HN : Hid (ApartAt w w.heap.size qa qb A' c' xs (n + 1) w2) := by
                  obtain ⟨G, hv, hg⟩ := hrel.out.x
                  refine cover ⟨hrel.out.a.spare hS (by decide), ?_, ⟨G, hv.spare hS (by decide), hg⟩, hrel.out.bel.trans (hS.below hrel.out.siz), Nat.le_trans hrel.out.siz hS.size, ⟨hrel.out.le.1, by omega⟩⟩
                  rw [List.replicate_succ']; exact H2.out.1
                clear hS H2 h0 h1
                go_wp2_with fail
                go_meet
                exact ⟨A', c', xs, n + 1, rfl, by go_num, HN⟩
              · subst d6
                go_wp2_with fail
                refine (putS_hasnt hrel.out.b ⟨#[115]⟩ (by simp; omega)).mono ?_
                rintro e w2 ⟨rfl, rfl⟩
                clear h0 h1
                go_wp2_with fail
                go_meet
                exact ⟨A', c', xs, n, rfl, rfl, hrel⟩
            · rcases n with _ | n
              · go_wp2_with fail
                refine (cutS_hasnt (by simpa using hrel.out.b) 1 (.inr (by simp))).mono ?_
                rintro e w2 ⟨rfl, rfl⟩
                clear h0 h1
                go_wp2_with fail
                go_meet
                exact ⟨A', c', xs, 0, rfl, by go_num, hrel⟩
              · have HC := cutS_has hrel.out.b 1 1 (by omega) (by simp) (by omega)
                rw [show ((1 : Nat) : Int) = 1 from rfl] at HC
                have hn6 := hrel.out.le.2
                go_wp2_with fail
                refine HC.mono ?_
                rintro e w2 ⟨rfl, H2⟩
                clear HC
                have hS := H2.out.2
                have HN : Hid (ApartAt w w.heap.size qa qb A' c' xs n w2) := by
                  obtain ⟨G, hv, hg⟩ := hrel.out.x
                  refine cover ⟨hrel.out.a.spare hS (by decide), ?_, ⟨G, hv.spare hS (by decide), hg⟩, hrel.out.bel.trans (hS.below hrel.out.siz), Nat.le_trans hrel.out.siz hS.size, ⟨hrel.out.le.1, by omega⟩⟩
                  have := H2.out.1; simpa using this
                clear hS H2 h0 h1
                go_wp2_with fail
                go_meet
                exact ⟨A', c', xs, n, rfl, by go_num, HN⟩
      case rest =>
        obtain ⟨A2, c2, ys, k, rfl, rfl, HA⟩ := hcut
        clear h0 h1 HX HY hrel
        have hle := HA.out.le
        obtain ⟨hle1, hle2⟩ := hle
        go_wp2_with fail
        refine (all_has HA.out.a (by omega) (-1) ys.length (by simp)).mono ?_
        rintro e w5 ⟨A5, c5, G5, rfl, H5⟩
        obtain ⟨G2, hv2, hg2⟩ := HA.out.x
        have hr5 := H5.out.1.rowK
        rw [List.take_length] at hr5
        have hr2 := (hv2.below H5.out.2).rowK
        have hb5 := H5.out.2
        have hbel5 := HA.out.bel.trans (hb5.mono HA.out.siz)
        have hsz5 := Nat.le_trans HA.out.siz hb5.size
        have HN : Hid (∀ d, ApartAt w w.heap.size qa qb A2 c2 ys k (w5.drewN d)) := cover fun d =>
          ⟨(HA.out.a.below hb5).below (below_drewN (Below.refl _ _) d), (HA.out.b.below hb5).below (below_drewN (Below.refl _ _) d), ⟨G2, (hv2.below hb5).below (below_drewN (Below.refl _ _) d), hg2⟩, below_drewN hbel5 d, hsz5, HA.out.le⟩
        clear hv2 hg2 H5 hb5 hbel5 hsz5
        go_wp2_with fail
        refine (ints_any A5 A2 ys.length ys.length c5 c2 _ _ ys ys w5 hr5 hr2 (by omega) (by omega)).mono ?_
        rintro e w6 ⟨he, d6, rfl⟩
        obtain rfl : e = .returned (.bool true) := by rw [he]; simp
        have HL := lenS_has (HN.out d6).b
        rw [List.length_replicate] at HL
        clear he hr5 hr2
        go_wp2_with (go_at_call 16; refine HL.mono ?_; rintro e w' ⟨rfl, rfl⟩)
        go_roundw
        case rel => exact ⟨j + 1, A2, c2, ys, k, by omega, rfl, rfl, by go_num, cover (HN.out d6)⟩
        case measure => simp [intOf]; omega
    · obtain rfl : j = len := by omega
      go_wp2
      go_ret
      exact ⟨rfl, hrel.out.bel⟩

set_option maxRecDepth 100000 in
theorem walk_QueueApart (A : Option Addr) (len cap : Nat) (ds : List (Int × Int × Int)) (w : World) (hlc : len ≤ cap) (hcm : cap ≤ maxLen) (hd : Deeds w w.heap.size A len ds ∧ ∀ q ∈ ds, -9223372036854775808 ≤ q.2.2 ∧ q.2.2 ≤ 9223372036854775807) :
    Calls Try.prog 8 #[.slice A len cap] w fun e w' => e = .returned (.bool true) ∧ Below w.heap.size w w' := by
  unfold maxLen at hcm
  by_cases hl : 150 < len
  · clear hd
    go_enter Try.func8, Try.ntmps8
    go_wp2_with fail
    refine (awake_any w).mono ?_
    rintro e w0 ⟨rfl, hb0⟩
    go_wp2
    go_ret
    exact ⟨rfl, hb0⟩
  exact apart_in A len cap ds w hlc (by omega) hd.1
end Go.Proofs.Ythfmkhjafkhpdaa
