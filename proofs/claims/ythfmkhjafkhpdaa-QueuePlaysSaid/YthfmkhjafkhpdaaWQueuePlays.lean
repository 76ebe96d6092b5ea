/- The walk of QueuePlays. -/
import Derived.Deep.CutBlock
import Derived.Deep.DeepCutAuto
import Derived.Deep.RegionHeld3
import Derived.Test.YthfmkhjafkhpdaaQAwake
import Derived.Test.YthfmkhjafkhpdaaQTwo
import Derived.Test.YthfmkhjafkhpdaaQApp
namespace Go.Proofs.Ythfmkhjafkhpdaa
open Go.RowKit
set_option linter.unusedVariables false

/-- the law's queue and its list -/
structure PlayAt (W : World) (B q : Nat) (m : Nat) (A : Option Addr) (c : Nat) (xs : List Int) (w : World) : Prop where
  a : IHas B w q m (xs.map (.int .i64))
  x : ∃ G, VRow 3 w G A c (xs.map (.int .i64)) ∧ ∀ g, G = some g → B ≤ g
  bel : Below B W w
  siz : B ≤ w.heap.size
  le : xs.length ≤ 1000
theorem PlayAt.below {W w w' : World} {B q m c : Nat} {A : Option Addr} {xs : List Int} (h : PlayAt W B q m A c xs w) (hb : Below w.heap.size w w') : PlayAt W B q m A c xs w' := by
  obtain ⟨G, hv, hg⟩ := h.x
  exact ⟨h.a.below hb, ⟨G, hv.below hb, hg⟩, h.bel.trans (hb.mono h.siz), Nat.le_trans h.siz hb.size, h.le⟩

theorem cutI_gen {B : Nat} {w : World} {q : Nat} {m : Int} {xs : List Int} (h : IHas B w q m (xs.map (.int .i64))) (n : Int) (k : Nat) (hk : (k : Int) = min (max n 0) xs.length) (hn : n ≤ 9223372036854775807) :
    Calls Try.prog 21 #[ptr q, .int .i64 n] w fun e w' => e = .returned (.int .i64 k) ∧ Hid (IHas B w' q m ((xs.drop k).map (.int .i64)) ∧ ISpare B w w') := by
  by_cases h0 : n < 1 ∨ xs.length = 0
  · have hk0 : k = 0 := by omega
    subst hk0
    refine (cutI_hasnt h n (by simpa using h0)).mono ?_
    rintro e w' ⟨rfl, rfl⟩
    exact ⟨rfl, cover ⟨by simpa using h, Spare.refl _ _ _⟩⟩
  · obtain ⟨n', rfl⟩ : ∃ n' : Nat, (n' : Int) = n := ⟨n.toNat, by omega⟩
    refine (cutI_has h n' k (by omega) (by simp; omega) (by omega)).mono ?_
    rintro e w' ⟨rfl, H⟩
    refine ⟨rfl, cover ⟨?_, H.out.2⟩⟩
    rw [List.map_drop]; exact H.out.1
theorem PlayAt.step {W w w' : World} {B q m c : Nat} {A : Option Addr} {xs ys : List Int} (h : PlayAt W B q m A c xs w) (hS : ISpare B w w') (ha : IHas B w' q m (ys.map (.int .i64))) {G : Option Nat} {A' : Option Addr} {c' : Nat} (hv : VRow 3 w' G A' c' (ys.map (.int .i64))) (hg : ∀ g, G = some g → B ≤ g) (hl : ys.length ≤ 1000) : PlayAt W B q m A' c' ys w' :=
  ⟨ha, ⟨G, hv, hg⟩, h.bel.trans (hS.below h.siz), Nat.le_trans h.siz hS.size, hl⟩
/-- a row of the law's own grows: all else lies as it lay -/
theorem own_spare {B : Nat} {w w' : World} {G : Option Nat} {A : Option Addr} {c : Nat} {vs : List Value} (hv : VRow 3 w G A c vs) (hg : ∀ g, G = some g → B ≤ g) (hT : Turned G.toList w w') : Spare [3] B w w' :=
  ⟨hT.os, hT.tape, hT.output, hT.size, fun k o hk ho => hT.at_ hk (fun hm => by
    have h1 : G = some k := by simpa using hm
    obtain ⟨cur, h4⟩ := hv.lt h1
    have h3 := hg k h1
    rcases ho with ho | ho
    · omega
    · rw [h4] at hk; injection hk with hk; exact ho _ _ _ hk.symm (by simp))⟩

/-- the least of two and a length, by a fact of plain numbers -/
theorem run_min_two {P : Program} {ts : Array TypeId} {t : TypeId} {k k' : IntKind} {n : Nat} {w : World} (h : ¬ n < 2) : (Builtin.min_ ts t #[.int k 2, .int k' (n : Int)]).run P w = .ok (.int k 2) w := by
  rw [run_min_int2, if_neg (by omega)]
attribute [local go_sem high] run_min_two

set_option maxRecDepth 100000 in
set_option maxHeartbeats 40000000 in
theorem plays_in (most : Int) (A : Option Addr) (len cap : Nat) (ds : List (Int × Int × Int)) (w : World) (hlc : len ≤ cap) (hl : len ≤ 200) (hmo : most ≤ 1000) (hd : Deeds w w.heap.size A len ds) (hds : ∀ q ∈ ds, -9223372036854775808 ≤ q.2.2 ∧ q.2.2 ≤ 9223372036854775807) :
    Calls Try.prog 4 #[.int .i64 most, .slice A len cap] w fun e w' => e = .returned (.bool true) ∧ Below w.heap.size w w' := by
  obtain ⟨i0, hi, hz0, hz1, hz2⟩ := info_parts int_info
  have HI := cover (And.intro hi (And.intro hz0 (And.intro hz1 hz2)))
  have HDS := cover hds
  clear hi hz0 hz1 hz2 hds
  obtain ⟨m, hm⟩ : ∃ m : Nat, (m : Int) = max 0 most := ⟨(max 0 most).toNat, by omega⟩
  have HM := cover hm
  have hm1000 : m ≤ 1000 := by omega
  clear hm
  go_enter Try.func4, Try.ntmps4
  go_wp2_with fail
  refine (awake_any w).mono ?_
  rintro e w0 ⟨rfl, hb0⟩
  have hs0 := hb0.size
  go_wp2_with fail
  refine (newI_has most w.heap.size w0 hs0 m HM.out).mono ?_
  rintro e w1 ⟨q, rfl, H1⟩
  have hs1 := Nat.le_trans hs0 H1.out.2.1.size
  have HS : Hid (PlayAt w w.heap.size q m none 0 [] w1) := cover ⟨H1.out.1, ⟨none, VRow.nil _ _, fun g hg => (by cases hg)⟩, hb0.trans (H1.out.2.1.mono hs0), hs1, by simp⟩
  clear H1 hb0 hs0 hs1
  go_upto_region 9 with fail
  go_cut [7] (fun v wx => v = .int .i64 m ∧ wx = w1)
  case first =>
    by_cases hp : most < 0
    · obtain rfl : m = 0 := by have := HM.out; omega
      go_wp2_with fail
      go_meet
      exact ⟨rfl, rfl⟩
    · obtain rfl : (m : Int) = most := by have := HM.out; omega
      go_wp2_with fail
      go_meet
      exact ⟨rfl, rfl⟩
  case rest =>
    obtain ⟨rfl, rfl⟩ := hcut
    go_wp2_with fail
    go_loopw [6, 8] (fun v i wr => ∃ (j : Nat) (A' : Option Addr) (c' : Nat) (xs : List Int), j ≤ len ∧ v = .slice A' xs.length c' ∧ i = .int .i64 j ∧ Hid (PlayAt w w.heap.size q m A' c' xs wr)) (fun _ i _ => len - (intOf i).toNat)
    case atStart => exact ⟨0, none, 0, [], Nat.zero_le _, rfl, rfl, HS⟩
    case round =>
      obtain ⟨j, A', c', xs, hj, rfl, rfl, hrel⟩ := hrel
      by_cases hlt : j < len
      · have hat := hrel.out
        obtain ⟨ad, rfl, had, h0, h1, h2⟩ := (hd.below hat.bel).cells j (by rw [hd.len]; exact hlt)
        have hjd : j < ds.length := by rw [hd.len]; exact hlt
        obtain ⟨do_, hdo⟩ : ∃ z, z = ds[j].1 := ⟨_, rfl⟩
        obtain ⟨x, hx⟩ : ∃ z, z = ds[j].2.1 := ⟨_, rfl⟩
        obtain ⟨n, hn⟩ : ∃ z, z = ds[j].2.2 := ⟨_, rfl⟩
        have HN64 := cover (show -9223372036854775808 ≤ n ∧ n ≤ 9223372036854775807 by rw [hn]; exact HDS.out _ (List.getElem_mem _))
        rw [← hdo] at h0
        rw [← hx] at h1
        rw [← hn] at h2
        clear hdo hx hn hat
        go_upto_block 2 with fail
        obtain ⟨w1', hw1'⟩ : ∃ w1', w1' = wr.alloc (.cells #[.int .i64 do_, .int .i64 x, .int .i64 n] 37) := ⟨_, rfl⟩
        rw [← hw1']
        obtain ⟨bd, hbd⟩ : ∃ bd, bd = wr.heap.size := ⟨_, rfl⟩
        rw [← hbd]
        have hb1 : Below wr.heap.size wr w1' := by rw [hw1']; exact (Below.refl _ _).alloc (Nat.le_refl _) _
        have hblk : w1'.heap[bd]? = some (.cells #[.int .i64 do_, .int .i64 x, .int .i64 n] 37 (0, 0)) := by rw [hw1', hbd]; exact heap_alloc_new wr _
        have HP := cover (hrel.out.below hb1)
        have HBD := cover (And.intro hblk (show w.heap.size ≤ bd by rw [hbd]; exact hrel.out.siz))
        have hd3 : ∀ W : World, W.heap[bd]? = w1'.heap[bd]? → W.cell? ⟨bd, 0, none⟩ = some (.int .i64 do_) ∧ W.cell? ⟨bd, 1, none⟩ = some (.int .i64 x) ∧ W.cell? ⟨bd, 2, none⟩ = some (.int .i64 n) := fun W h => by
          have h' := h.trans hblk
          refine ⟨?_, ?_, ?_⟩ <;> (rw [cell_of_row _ _ _ _ _ _ h']; rfl)
        have HD3 := cover hd3
        obtain ⟨d0, d1, d2⟩ := hd3 w1' rfl
        have hsp : ∀ W, ISpare w.heap.size w1' W → W.heap[bd]? = w1'.heap[bd]? := fun W hS => by
          rw [hS.block bd _ hblk (.inr fun c T f e => by injection e with _ e2; subst e2; decide), hblk]
        have HSP := cover hsp
        clear hw1' hbd hb1 hblk hd3 hsp h0 h1 h2 hrel
        go_cut [6] (fun v wx => ∃ (A'' : Option Addr) (c'' : Nat) (ys : List Int), v = .slice A'' ys.length c'' ∧ Hid (PlayAt w w.heap.size q m A'' c'' ys wx))
        case first =>
          have hxl := HP.out.le
          by_cases k3 : do_ ≤ 3
          · by_cases hfull : xs.length < m
            · as_aux_lemma =>
                have hfi : (xs.length : Int) < (m : Int) := by omega
                go_wp2_with fail
                refine (putI_has HP.out.a HP.out.siz x (by simp; omega) (by simp; omega)).mono ?_
                rintro e w2 ⟨rfl, H2⟩
                have hS := H2.out.2
                obtain ⟨_, d1', _⟩ := HD3.out w2 (HSP.out w2 hS)
                obtain ⟨G, hv, hg⟩ := HP.out.x
                have hv2 := hv.spare hS (by decide)
                obtain ⟨w3, hw3⟩ : ∃ w3, w3 = w2.alloc (.cells #[.int .i64 x] 3) := ⟨_, rfl⟩
                have hb3 : Below w2.heap.size w2 w3 := by rw [hw3]; exact (Below.refl _ _).alloc (Nat.le_refl _) _
                have hl : (xs.map (Value.int .i64)).length = xs.length := by simp
                obtain ⟨A3, c3, G3, w4, hrun, hv4, hT4, hN4, _⟩ := append_vrow (P := Try.prog) (TS := 35) Try.underlying35 HI.out.1 HI.out.2.1 HI.out.2.2.1 HI.out.2.2.2 rfl (hv2.below hb3)
                  (src_one Try.underlying35 w2.heap.size (.int .i64 x) (by have := cell_one_new w2 (.int .i64 x) 3 0 _ rfl; rw [add_off] at this; rw [hw3]; exact this) rfl) (.inr (by omega)) (by simp; omega)
                rw [hl, hw3] at hrun
                have HN : Hid (PlayAt w w.heap.size q m A3 c3 (xs ++ [x]) w4) := by
                  have hsz2 := Nat.le_trans HP.out.siz hS.size
                  have hsz3 : w2.heap.size ≤ w3.heap.size := hb3.size
                  have hS4 := own_spare (hv2.below hb3) hg hT4
                  refine cover ⟨?_, ⟨G3, by simpa using hv4, fun g hgg => ?_⟩, ?_, by have := hS4.size; omega, by simp; omega⟩
                  · have := (H2.out.1.below hb3).spare hS4 (by decide); simpa using this
                  · rcases hN4 with rfl | ⟨g', rfl, hg'⟩
                    · exact hg g hgg
                    · injection hgg with e; omega
                  · exact HP.out.bel.trans ((hS.below HP.out.siz).trans ((hb3.mono hsz2).trans (hS4.below (by omega))))
                clear hS hv hg hv2 hw3 hb3 hl hv4 hT4 hN4 H2 d0 d1 d2
                go_wp2_with (at_builtin; refine Lib.wpList_append_run _ rfl _ _ _ _ rfl _ _ rfl rfl _ _ (hrun _) ?_)
                go_meet
                exact ⟨A3, c3, xs ++ [x], by simp, HN⟩
            · as_aux_lemma =>
                have hfi : ¬ ((xs.length : Int) < (m : Int)) := by omega
                go_wp2_with fail
                refine (putI_hasnt HP.out.a x (by simp; omega)).mono ?_
                rintro e w2 ⟨rfl, rfl⟩
                clear d0 d1 d2
                go_wp2_with fail
                go_meet
                exact ⟨A', c', xs, rfl, HP⟩
          · by_cases k5 : do_ ≤ 5
            · rcases xs with _ | ⟨y, ys⟩
              · as_aux_lemma =>
                  go_wp2_with fail
                  refine (takeI_hasnt (by simpa using HP.out.a)).mono ?_
                  rintro e w2 ⟨rfl, rfl⟩
                  clear d0 d1 d2
                  go_wp2_with fail
                  go_meet
                  exact ⟨A', c', [], rfl, HP⟩
              · as_aux_lemma =>
                  go_wp2_with fail
                  refine (takeI_has (x := .int .i64 y) (ys := ys.map (.int .i64)) (by simpa using HP.out.a)).mono ?_
                  rintro e w2 ⟨rfl, H2⟩
                  have hS := H2.out.2
                  obtain ⟨G, hv, hg⟩ := HP.out.x
                  have hv2 := hv.spare hS (by decide)
                  have hcap := hv.cap
                  simp at hcap
                  obtain ⟨g, o, _, rfl, hcy⟩ := hv2.cell (k := 0) (v := .int .i64 y) (by simp)
                  rw [Nat.add_zero] at hcy
                  have hvd := hv2.drop (k := 1) (by simp)
                  have HN : ∀ A3 c3, A3 = (if c' = 1 then some ⟨g, o, none⟩ else (some ⟨g, o, none⟩ : Option Addr).map (·.add 1)) → c3 = c' - 1 → Hid (PlayAt w w.heap.size q m A3 c3 ys w2) := fun A3 c3 e1 e2 => by
                    subst e1 e2
                    exact cover (HP.out.step hS H2.out.1 (by simpa using hvd) hg (by simp at hxl; omega))
                  have HNH := cover HN
                  have hpos : (0 : Int) < (ys.length : Int) + 1 := by omega
                  clear hS hv hg hv2 hvd H2 d0 d1 d2 HN
                  go_wp2_with fail
                  all_goals go_meet
                  all_goals exact ⟨_, _, ys, rfl, HNH.out _ _ (by first | rfl | (simp [show c' = 1 by assumption]; done) | (simp [show ¬ c' = 1 by assumption, add_off]; done)) (by first | rfl | (simp [show c' = 1 by assumption]; done))⟩
            · by_cases k6 : do_ = 6
              · subst k6
                by_cases hmay : xs.length < m ∧ 0 ≤ n ∧ n ≤ xs.length
                · obtain ⟨hm1, hn0, hn1⟩ := hmay
                  obtain ⟨i, rfl⟩ : ∃ i : Nat, (i : Int) = n := ⟨n.toNat, by omega⟩
                  have hil : i ≤ xs.length := by omega
                  have hmi : (xs.length : Int) < (m : Int) := by omega
                  go_wp2_with fail
                  refine (insertI_has HP.out.a HP.out.siz i x (by simpa using hil) (by simp; omega) (by simp; omega)).mono ?_
                  rintro e w2 ⟨rfl, H2⟩
                  have hS := H2.out.2
                  have ha := H2.out.1
                  obtain ⟨d0', d1', d2'⟩ := HD3.out w2 (HSP.out w2 hS)
                  obtain ⟨G, hv, hg⟩ := HP.out.x
                  have hv2 := hv.spare hS (by decide)
                  have hcap := hv.cap
                  rw [List.length_map] at hcap
                  have HBD2 := cover (show w2.heap[bd]? = w1'.heap[bd]? from HSP.out w2 hS)
                  have hci : (i : Int) ≤ (c' : Int) := by omega
                  have hxi : (i : Int) ≤ (xs.length : Int) := by omega
                  have hi0 : (0 : Int) ≤ (i : Int) := by omega
                  clear d0 d1 d2
                  have HC : Hid (∀ W', Below w2.heap.size w2 W' → W'.cell? ⟨bd, 1, none⟩ = some (.int .i64 x) ∧ W'.cell? ⟨bd, 2, none⟩ = some (.int .i64 i) ∧ Below w2.heap.size w2 W') := cover fun W' h => by
                    obtain ⟨_, e1, e2⟩ := HD3.out W' (by rw [← HBD2.out]; exact h.block bd (by have h1 := HBD2.out.trans HBD.out.1; exact block_lt h1))
                    exact ⟨e1, e2, h⟩
                  have HAL : Hid (∀ W' o, (W'.cell? ⟨bd, 1, none⟩ = some (.int .i64 x) ∧ W'.cell? ⟨bd, 2, none⟩ = some (.int .i64 i) ∧ Below w2.heap.size w2 W') → Below w2.heap.size w2 (W'.alloc o)) := cover fun W' o h => h.2.2.alloc h.2.2.size _
                  have HB1 : Hid (∀ o, Below w2.heap.size w2 (w2.alloc o).drew) := cover fun o => ((Below.refl _ _).alloc (Nat.le_refl _) _).drew
                  have HB2 : Hid (∀ o o', Below w2.heap.size w2 ((w2.alloc o).alloc o').drew) := cover fun o o' => (((Below.refl _ _).alloc (Nat.le_refl _) _).alloc (by simp) _).drew
                  have HB3 : Hid (∀ W o, Below w2.heap.size w2 W → Below w2.heap.size w2 (W.alloc o)) := cover fun W o h => h.alloc h.size _
                  have HA5 := cover (ins_A5 HI.out hv2 hil hxl x)
                  have HB5 := cover (ins_B5 HI.out hv2 hil hxl)
                  have HC5 := cover (ins_C5 HI.out hv2 hil hxl x)
                  have H9 : Hid (∀ (W : World) (A : Option Addr) (c s : Nat), Hid (Own1 w2 W A c (xs.take i)) → Below w2.heap.size w2 W → W.cell? ⟨s, 0, none⟩ = some (.int .i64 x) → Grown Try.prog 35 W (.slice A i c) (.slice (some ⟨s, 0, none⟩) 1 1) (i + 1) (fun A9 c9 w9 => Hid (Own1 w2 w9 A9 c9 (xs.take i ++ [x])) ∧ Below w2.heap.size w2 w9)) := cover fun W A c s h hb hc => ins_9 HI.out h hb (by simp; omega) (by omega) hc
                  have H9b : Hid (∀ (W : World) (A : Option Addr) (c : Nat), Hid (Own1 w2 W A c (xs.take i)) → Below w2.heap.size w2 W → Grown Try.prog 35 (W.alloc (.cells #[.int .i64 x] 3)) (.slice A i c) (.slice (some ⟨W.heap.size, 0, none⟩) 1 1) (i + 1) (fun A9 c9 w9 => Hid (Own1 w2 w9 A9 c9 (xs.take i ++ [x])) ∧ Below w2.heap.size w2 w9)) := cover fun W A c h hb => ins_9b HI.out h hb (by simp; omega) (by omega)
                  have HN : Hid (∀ (A : Option Addr) (c : Nat) (W : World), Hid (Own1 w2 W A c (xs.take i ++ [x] ++ xs.drop i)) → Below w2.heap.size w2 W → Hid (PlayAt w w.heap.size q m A c (xs.take i ++ [x] ++ xs.drop i) W)) := cover fun A c W h hb => by
                    obtain ⟨_, G3, h3, hg3⟩ := h.out
                    have hsz := HP.out.siz
                    have hsz2 := hS.size
                    have hsz3 := hb.size
                    refine cover ⟨?_, ⟨G3, h3, fun g hgg => by have := hg3 g hgg; omega⟩, HP.out.bel.trans ((hS.below hsz).trans (hb.mono (by omega))), by omega, by simp; omega⟩
                    have h4 := ha.below hb
                    rw [← List.map_take, ← List.map_drop] at h4
                    simpa using h4
                  by_cases hck : c' = i
                  · subst hck
                    as_aux_lemma =>
                      have H14 : Hid (∀ (W : World) (A : Option Addr) (c : Nat), Hid (Own1 w2 W A c (xs.take c' ++ [x])) → Below w2.heap.size w2 W → Grown Try.prog 35 W (.slice A (c' + 1) c) (.slice A' 0 0) (c' + 1) (fun A9 c9 w9 => Hid (Own1 w2 w9 A9 c9 (xs.take c' ++ [x] ++ xs.drop c')) ∧ Below w2.heap.size w2 w9)) := cover fun W A c h hb => by
                        have h1 := ins_14 HI.out hv2 hil hxl h hb (l := c' + 1) (by simp; omega) (by omega)
                        rw [if_pos rfl, Nat.sub_self, show xs.length - c' = 0 by omega] at h1; exact h1
                      clear hS ha hv hv2 hg H2
                      go_upto_region 39 with fail
                      go_region_held3 (fun w' => w'.cell? ⟨bd, 1, none⟩ = some (.int .i64 x) ∧ w'.cell? ⟨bd, 2, none⟩ = some (.int .i64 c') ∧ Below w2.heap.size w2 w')
                        (first | exact HC.out _ (Below.refl _ _).drew | exact HC.out _ hbX | exact HC.out _ (HB1.out _) | exact HC.out _ (HB2.out _ _) | exact HC.out _ (HB3.out _ _ hbX) | exact HC.out _ (HAL.out _ _ (by assumption)))
                        (first
                          | (refine append_step rfl _ _ 35 rfl _ _ (by simp [Act.eval]) (by simp [Act.eval]) HA5.out ?_; rintro A5 c5 w5 ⟨h5, hc5, hbX⟩)
                          | (refine append_step rfl _ _ 35 rfl _ _ (by simp [Act.eval]) (by simp [Act.eval]) HC5.out ?_; rintro A5 c5 w5 ⟨h5, hc5, hbX⟩)
                          | (refine append_step rfl _ _ 35 rfl _ _ (by simp [Act.eval]) (by simp [Act.eval]) HB5.out ?_; rintro A5 c5 w5 ⟨h5, hbX⟩)
                          | (refine append_step rfl _ _ 35 rfl _ _ (by simp [Act.eval]) (by simp [Act.eval]) (H9.out _ _ _ _ h5 hbX hc5) ?_; rintro A9 c9 w9 ⟨h9, hbX⟩)
                          | (refine append_step rfl _ _ 35 rfl _ _ (by simp [Act.eval]) (by simp [Act.eval]) (H9b.out _ _ _ h5 hbX) ?_; rintro A9 c9 w9 ⟨h9, hbX⟩)
                          | (refine append_step rfl _ _ 35 rfl _ _ (by simp [Act.eval]) (by simp [Act.eval]) (H14.out _ _ _ h9 hbX) ?_; rintro A14 c14 w14 ⟨h14, hbX⟩))
                      all_goals have HN14 := HN.out _ _ _ h14 hbX
                      all_goals (go_wp2_with fail)
                      all_goals go_meet
                      all_goals exact ⟨A14, c14, _, by simp; omega, HN14⟩
                  · as_aux_lemma =>
                      have H14 : Hid (∀ (W : World) (A : Option Addr) (c : Nat), Hid (Own1 w2 W A c (xs.take i ++ [x])) → Below w2.heap.size w2 W → Grown Try.prog 35 W (.slice A (i + 1) c) (.slice (A'.map (fun y => y.add i)) (xs.length - i) (c' - i)) (i + 1 + (xs.length - i)) (fun A9 c9 w9 => Hid (Own1 w2 w9 A9 c9 (xs.take i ++ [x] ++ xs.drop i)) ∧ Below w2.heap.size w2 w9)) := cover fun W A c h hb => by
                        have h1 := ins_14 HI.out hv2 hil hxl h hb (l := i + 1) (by simp; omega) (by omega)
                        rw [if_neg hck] at h1; exact h1
                      clear hS ha hv hv2 hg H2
                      go_upto_region 39 with fail
                      go_region_held3 (fun w' => w'.cell? ⟨bd, 1, none⟩ = some (.int .i64 x) ∧ w'.cell? ⟨bd, 2, none⟩ = some (.int .i64 i) ∧ Below w2.heap.size w2 w')
                        (first | exact HC.out _ (Below.refl _ _).drew | exact HC.out _ hbX | exact HC.out _ (HB1.out _) | exact HC.out _ (HB2.out _ _) | exact HC.out _ (HB3.out _ _ hbX) | exact HC.out _ (HAL.out _ _ (by assumption)))
                        (first
                          | (refine append_step rfl _ _ 35 rfl _ _ (by simp [Act.eval]) (by simp [Act.eval]) HA5.out ?_; rintro A5 c5 w5 ⟨h5, hc5, hbX⟩)
                          | (refine append_step rfl _ _ 35 rfl _ _ (by simp [Act.eval]) (by simp [Act.eval]) HC5.out ?_; rintro A5 c5 w5 ⟨h5, hc5, hbX⟩)
                          | (refine append_step rfl _ _ 35 rfl _ _ (by simp [Act.eval]) (by simp [Act.eval]) HB5.out ?_; rintro A5 c5 w5 ⟨h5, hbX⟩)
                          | (refine append_step rfl _ _ 35 rfl _ _ (by simp [Act.eval]) (by simp [Act.eval]) (H9.out _ _ _ _ h5 hbX hc5) ?_; rintro A9 c9 w9 ⟨h9, hbX⟩)
                          | (refine append_step rfl _ _ 35 rfl _ _ (by simp [Act.eval]) (by simp [Act.eval]) (H9b.out _ _ _ h5 hbX) ?_; rintro A9 c9 w9 ⟨h9, hbX⟩)
                          | (refine append_step rfl _ _ 35 rfl _ _ (by simp [Act.eval]) (by simp [Act.eval]) (H14.out _ _ _ h9 hbX) ?_; rintro A14 c14 w14 ⟨h14, hbX⟩))
                      all_goals have HN14 := HN.out _ _ _ h14 hbX
                      all_goals (go_wp2_with fail)
                      all_goals go_meet
                      all_goals exact ⟨A14, c14, _, by simp; omega, HN14⟩
                · have hno : (m : Int) ≤ ((xs.map (Value.int .i64)).length : Int) ∨ n < 0 ∨ ((xs.map (Value.int .i64)).length : Int) < n := by simp; omega
                  have hxm : (xs.length : Int) ≤ (m : Int) ∨ (m : Int) < (xs.length : Int) := by omega
                  have HNO := cover (insertI_hasnt HP.out.a n x hno)
                  clear hno hxm
                  by_cases h1 : (xs.length : Int) < (m : Int)
                  · by_cases h2 : n < 0
                    · go_wp2_with fail
                      refine HNO.out.mono ?_
                      rintro e w2 ⟨rfl, rfl⟩
                      clear d0 d1 d2
                      go_wp2_with fail
                      go_meet
                      exact ⟨A', c', xs, rfl, HP⟩
                    · have h3 : (xs.length : Int) < n := by omega
                      have h20 : 0 ≤ n := by omega
                      go_wp2_with fail
                      refine HNO.out.mono ?_
                      rintro e w2 ⟨rfl, rfl⟩
                      clear d0 d1 d2
                      go_wp2_with fail
                      go_meet
                      exact ⟨A', c', xs, rfl, HP⟩
                  · go_wp2_with fail
                    refine HNO.out.mono ?_
                    rintro e w2 ⟨rfl, rfl⟩
                    clear d0 d1 d2
                    go_wp2_with fail
                    go_meet
                    exact ⟨A', c', xs, rfl, HP⟩
              · by_cases k7 : do_ = 7
                · as_aux_lemma =>
                    subst k7
                    by_cases h0 : n < 0
                    · have hl0 : ¬ ((xs.length : Int) < 0) := by omega
                      go_wp2_with fail
                      refine (cutI_gen HP.out.a n 0 (by omega) (by have := HN64.out; omega)).mono ?_
                      rintro e w2 ⟨rfl, H2⟩
                      have hS := H2.out.2
                      obtain ⟨G, hv, hg⟩ := HP.out.x
                      have HN : Hid (PlayAt w w.heap.size q m A' c' xs w2) := cover (HP.out.step hS (by simpa using H2.out.1) (hv.spare hS (by decide)) hg hxl)
                      clear hS hv hg H2 d0 d1 d2
                      by_cases hck : c' = 0
                      · go_wp2_with fail
                        all_goals go_meet
                        all_goals exact ⟨A', c', xs, by rw [hck], HN⟩
                      · go_wp2_with fail
                        all_goals go_meet
                        all_goals exact ⟨A', c', xs, rfl, HN⟩
                    · by_cases h1 : (xs.length : Int) < n
                      · go_wp2_with fail
                        refine (cutI_gen HP.out.a n xs.length (by omega) (by have := HN64.out; omega)).mono ?_
                        rintro e w2 ⟨rfl, H2⟩
                        have hS := H2.out.2
                        obtain ⟨G, hv, hg⟩ := HP.out.x
                        have hv2 := hv.spare hS (by decide)
                        have hcap := hv.cap
                        simp at hcap
                        have hvd := hv2.drop (k := xs.length) (by simp; try omega)
                        have HN : ∀ A3 c3, A3 = (if c' = xs.length then A' else A'.map (·.add xs.length)) → c3 = c' - xs.length → Hid (PlayAt w w.heap.size q m A3 c3 (xs.drop xs.length) w2) := fun A3 c3 e1 e2 => by
                          subst e1 e2
                          exact cover (HP.out.step hS H2.out.1 (by rw [List.map_drop]; exact hvd) hg (by simp only [List.length_drop]; omega))
                        have HNH := cover HN
                        clear hS hv hg hv2 hvd H2 d0 d1 d2 HN
                        by_cases hck : c' = xs.length
                        · go_wp2_with fail
                          all_goals go_meet
                          all_goals refine ⟨A', c' - xs.length, xs.drop xs.length, ?_, HNH.out _ _ (if_pos hck).symm rfl⟩
                          all_goals simp [hck]
                        · go_wp2_with fail
                          all_goals go_meet
                          all_goals refine ⟨A'.map (·.add xs.length), c' - xs.length, xs.drop xs.length, ?_, HNH.out _ _ (if_neg hck).symm rfl⟩
                          all_goals simp
                      · obtain ⟨k, rfl⟩ : ∃ k : Nat, (k : Int) = n := ⟨n.toNat, by omega⟩
                        have hkl : (k : Int) ≤ (xs.length : Int) := by omega
                        have hkn : k ≤ xs.length := by omega
                        have hk0 : (0 : Int) ≤ (k : Int) := by omega
                        go_wp2_with fail
                        refine (cutI_gen HP.out.a k k (by omega) (by have := HN64.out; omega)).mono ?_
                        rintro e w2 ⟨rfl, H2⟩
                        have hS := H2.out.2
                        obtain ⟨G, hv, hg⟩ := HP.out.x
                        have hv2 := hv.spare hS (by decide)
                        have hcap := hv.cap
                        simp at hcap
                        have hvd := hv2.drop (k := k) (by simp; try omega)
                        have HN : ∀ A3 c3, A3 = (if c' = k then A' else A'.map (·.add k)) → c3 = c' - k → Hid (PlayAt w w.heap.size q m A3 c3 (xs.drop k) w2) := fun A3 c3 e1 e2 => by
                          subst e1 e2
                          exact cover (HP.out.step hS H2.out.1 (by rw [List.map_drop]; exact hvd) hg (by simp only [List.length_drop]; omega))
                        have HNH := cover HN
                        clear hS hv hg hv2 hvd H2 d0 d1 d2 HN
                        by_cases hck : c' = k
                        · go_wp2_with fail
                          all_goals go_meet
                          all_goals refine ⟨A', c' - k, xs.drop k, ?_, HNH.out _ _ (if_pos hck).symm rfl⟩
                          all_goals simp [hck]
                        · go_wp2_with fail
                          all_goals go_meet
                          all_goals refine ⟨A'.map (·.add k), c' - k, xs.drop k, ?_, HNH.out _ _ (if_neg hck).symm rfl⟩
                          all_goals simp
                · as_aux_lemma =>
                    go_wp2_with fail
                    go_loopw [14, 15] (fun v i w' => ∃ (t : Nat) (Ak : Option Addr) (ck : Nat) (ks : List Int), t ≤ xs.length ∧ v = .slice Ak ks.length ck ∧ i = .int .i64 t ∧ Hid (ks = (xs.take t).filter (fun y => b3 y != b3 x) ∧ Below w1'.heap.size w1' w' ∧ ∃ G, VRow 3 w' G Ak ck (ks.map (.int .i64)) ∧ ∀ g, G = some g → w1'.heap.size ≤ g)) (fun _ i _ => xs.length - (intOf i).toNat)
                    case atStart => exact ⟨0, none, 0, [], Nat.zero_le _, rfl, rfl, cover ⟨rfl, Below.refl _ _, none, VRow.nil _ _, fun g hg => by cases hg⟩⟩
                    case round =>
                      obtain ⟨t, Ak, ck, ks, ht, rfl, rfl, hrel⟩ := hrel
                      obtain ⟨hks, hbw, Gk, hvk, hgk⟩ := hrel.out
                      obtain ⟨Gm, hvm, hgm⟩ := HP.out.x
                      have hksl : ks.length ≤ 1000 := by
                        rw [hks]; exact Nat.le_trans (List.length_filter_le _ _) (by rw [List.length_take]; omega)
                      obtain ⟨_, d1', _⟩ := HD3.out wr (hbw.block bd (block_lt HBD.out.1))
                      clear d0 d1 d2
                      by_cases hlt : t < xs.length
                      · obtain ⟨am, y, rfl, hamb, hcm, hy⟩ := (hvm.below hbw).rowK.at_ hlt
                        have htk : xs.take (t + 1) = xs.take t ++ [y] := by rw [List.take_add_one, hy.out]; rfl
                        by_cases hne : (bits BinOp.and IntKind.i64 y 3 == bits BinOp.and IntKind.i64 x 3) = true
                        · have HN : ∀ d, Hid (ks = (xs.take (t + 1)).filter (fun y => b3 y != b3 x) ∧ Below w1'.heap.size w1' (wr.drewN d) ∧ ∃ G, VRow 3 (wr.drewN d) G Ak ck (ks.map (.int .i64)) ∧ ∀ g, G = some g → w1'.heap.size ≤ g) := by
                            refine fun d => cover ⟨?_, below_drewN hbw d, Gk, hvk.keep (fun _ _ => rfl), hgk⟩
                            rw [htk, List.filter_append, ← hks]
                            simp [b3, hne, bne]
                          clear hks hbw hvk hgk hvm hgm htk hy hrel
                          go_upto_region 18 with fail
                          go_quiet (fail)
                          go_wp2
                          go_roundw
                          case rel => exact ⟨t + 1, Ak, ck, ks, by omega, rfl, by go_num, HN _⟩
                          case measure => simp [intOf]; omega
                        · have hne : (bits BinOp.and IntKind.i64 y 3 == bits BinOp.and IntKind.i64 x 3) = false := by simpa using hne
                          go_upto_region 18 with fail
                          go_quiet (fail)
                          obtain ⟨wn, hwn⟩ : ∃ wn, wn = wr.drewN nq := ⟨_, rfl⟩
                          rw [← hwn]
                          replace hbw : Below w1'.heap.size w1' wn := by rw [hwn]; exact below_drewN hbw _
                          replace hvk : VRow 3 wn Gk Ak ck (ks.map (.int .i64)) := by rw [hwn]; exact hvk.keep (fun _ _ => rfl)
                          have hcn : wn.cell? (am.add t) = some (.int .i64 y) := by rw [hwn]; exact hcm
                          clear hwn hcm d1'
                          obtain ⟨w3, hw3⟩ : ∃ w3, w3 = wn.alloc (.cells #[.int .i64 y] 3) := ⟨_, rfl⟩
                          have hb3 : Below wn.heap.size wn w3 := by rw [hw3]; exact (Below.refl _ _).alloc (Nat.le_refl _) _
                          have hl : (ks.map (Value.int .i64)).length = ks.length := by simp
                          obtain ⟨A3, c3, G3, w4, hrun, hv4, hT4, hN4, _⟩ := append_vrow (P := Try.prog) (TS := 35) Try.underlying35 HI.out.1 HI.out.2.1 HI.out.2.2.1 HI.out.2.2.2 rfl (hvk.below hb3)
                            (src_one Try.underlying35 wn.heap.size (.int .i64 y) (by have := cell_one_new wn (.int .i64 y) 3 0 _ rfl; rw [add_off] at this; rw [hw3]; exact this) rfl) (.inr (by omega)) (by simp; omega)
                          rw [hl, hw3] at hrun
                          have HN : Hid (ks ++ [y] = (xs.take (t + 1)).filter (fun y => b3 y != b3 x) ∧ Below w1'.heap.size w1' w4 ∧ ∃ G, VRow 3 w4 G A3 c3 ((ks ++ [y]).map (.int .i64)) ∧ ∀ g, G = some g → w1'.heap.size ≤ g) := by
                            have hsz := hbw.size
                            have hsz3 : wn.heap.size ≤ w3.heap.size := hb3.size
                            refine cover ⟨?_, ?_, G3, by simpa using hv4, fun g hgg => ?_⟩
                            · rw [htk, List.filter_append, ← hks]
                              simp [b3, hne, bne]
                            · exact hbw.trans ((hb3.mono hsz).trans ((own_spare (hvk.below hb3) hgk hT4).below (by omega)))
                            · rcases hN4 with rfl | ⟨g', rfl, hg'⟩
                              · exact hgk g hgg
                              · injection hgg with e; omega
                          clear hks hbw hvk hgk hvm hgm htk hy hrel hw3 hb3 hl hv4 hT4 hN4
                          go_wp2_with (at_builtin; refine Lib.wpList_append_run _ rfl _ _ _ _ rfl _ _ rfl rfl _ _ (hrun _) ?_)
                          go_roundw
                          case rel => exact ⟨t + 1, A3, c3, ks ++ [y], by omega, by simp, by go_num, HN⟩
                          case measure => simp [intOf]; omega
                      · obtain rfl : t = xs.length := by omega
                        rw [List.take_length] at hks
                        have hkx : ks.length ≤ xs.length := by rw [hks]; exact List.length_filter_le _ _
                        have HK := cover (And.intro hks (And.intro hkx (And.intro hbw hgk)))
                        have HV := cover hvk
                        clear hks hbw hvk hgk hvm hgm hkx hrel
                        go_wp2_with fail
                        refine (unlike_any (bits BinOp.and IntKind.i64 x 3) _).mono ?_
                        rintro e w7 ⟨rfl, hw7⟩
                        obtain ⟨hks, hkx, hbw, hgk⟩ := HK.out
                        have hb7 : Below wr.heap.size wr w7 := by rw [hw7]; exact (Below.refl _ _).alloc (Nat.le_refl _) _
                        obtain ⟨bx, hbx⟩ : ∃ bx, bx = wr.heap.size := ⟨_, rfl⟩
                        have hcx : w7.cell? ⟨bx, 0, none⟩ = some (.int .i64 (b3 x)) := by
                          rw [hw7, hbx, cell_of_row _ _ _ _ _ _ (heap_alloc_new wr _)]; rfl
                        rw [← hbx]
                        have hb17 : Below w1'.heap.size w1' w7 := hbw.trans (hb7.mono hbw.size)
                        have HF := cover (filter_has (HP.out.a.below hb17) (by omega) hcx)
                        have hvk7 := HV.out.below hb7
                        have HN : ∀ w8, IHas w.heap.size w8 q m (ks.map (.int .i64)) ∧ ISpare w.heap.size w7 w8 → Hid (PlayAt w w.heap.size q m Ak ck ks w8) := fun w8 h8 => by
                          have hs := HP.out.siz
                          have hs7 := hb17.size
                          refine cover ⟨h8.1, ⟨Gk, hvk7.spare h8.2 (by decide), fun g hg => Nat.le_trans hs (hgk g hg)⟩, ?_, ?_, by omega⟩
                          · exact HP.out.bel.trans ((hb17.mono hs).trans (h8.2.below (by omega)))
                          · have := h8.2.size; omega
                        have HNH := cover HN
                        obtain ⟨z, hz⟩ : ∃ z : Int, z = (xs.length : Int) - (ks.length : Int) := ⟨_, rfl⟩
                        rw [← hks, ← hz] at HF
                        have hz0 : 0 ≤ z := by omega
                        have hz1 : z ≤ 1000 := by omega
                        have hzw : IntKind.i64.wrap ((xs.length : Int) - (ks.length : Int)) = z := by rw [IntKind.wrap_i64]; omega
                        clear hw7 hb7 hbx hcx hb17 hvk7 HN hks hkx hbw hgk hz
                        go_wp2_with fail
                        refine HF.out.mono ?_
                        rintro e w8 ⟨rfl, H8⟩
                        have HN8 := HNH.out w8 H8.out
                        clear H8 HF
                        go_wp2_with fail
                        go_meet
                        exact ⟨Ak, ck, ks, rfl, HN8⟩
        case rest =>
          obtain ⟨A2, c2, ys, rfl, HA⟩ := hcut
          go_upto_region 45 with fail
          go_cut [210] (fun v wx => v = .bool false ∧ Hid (PlayAt w w.heap.size q m A2 c2 ys wx))
          case first =>
            have hyl := HA.out.le
            have ha := HA.out.a
            obtain ⟨G2, hv2, hg2⟩ := HA.out.x
            have hcap := hv2.cap
            rw [List.length_map] at hcap
            have HL : Hid (∀ W', Below wc.heap.size wc W' → Calls Try.prog 24 #[ptr q] W' fun e w' => e = .returned (.int .i64 ys.length) ∧ Below wc.heap.size wc w') := cover fun W' h => by
              have h1 := lenI_has (ha.below h)
              rw [List.length_map] at h1
              refine h1.mono ?_
              rintro e w' ⟨rfl, rfl⟩
              exact ⟨rfl, h⟩
            have HG1 : Hid (∀ W', Below wc.heap.size wc W' → Calls Try.prog 26 #[ptr q, .int .i64 (-1)] W' fun e w' => ∃ A c, e = .returned (.slice A ys.length c) ∧ Hid (RowK .i64 w' w'.heap.size A ys.length ys) ∧ Below wc.heap.size wc w') := cover fun W' h => by
              refine (all_has (ha.below h) (by omega) (-1) ys.length (by simp)).mono ?_
              rintro e w' ⟨A, c, G, rfl, H⟩
              have h1 := H.out.1.rowK
              rw [List.take_length] at h1
              exact ⟨A, c, rfl, cover h1, h.trans (H.out.2.1.mono h.size)⟩
            have HI1 : Hid (∀ (W' : World) (A : Option Addr) (c : Nat), Hid (RowK .i64 W' W'.heap.size A ys.length ys) → Below wc.heap.size wc W' → Calls Try.prog 25 #[.slice A ys.length c, .slice A2 ys.length c2] W' fun e w' => e = .returned (.bool true) ∧ Below wc.heap.size wc w') := cover fun W' A c hr h => by
              refine (ints_any A A2 ys.length ys.length c c2 _ _ ys ys W' hr.out (hv2.below h).rowK (by omega) (by omega)).mono ?_
              rintro e w' ⟨rfl, d, rfl⟩
              exact ⟨by simp, below_drewN h d⟩
            have hi2 : (ys.length : Int) ≤ (c2 : Int) := by omega
            by_cases h2 : ys.length < 2
            · have hi : (ys.length : Int) < 2 := by omega
              as_aux_lemma =>
                have HG2 : Hid (∀ W', Below wc.heap.size wc W' → Calls Try.prog 26 #[ptr q, .int .i64 2] W' fun e w' => ∃ A c, e = .returned (.slice A ys.length c) ∧ Hid (RowK .i64 w' w'.heap.size A ys.length (ys.take ys.length)) ∧ Below wc.heap.size wc w') := cover fun W' h => by
                  refine (all_has (ha.below h) (by omega) 2 ys.length (by split <;> omega)).mono ?_
                  rintro e w' ⟨A, c, G, rfl, H⟩
                  have h1 := H.out.1.rowK
                  rw [show (ys.take ys.length).length = ys.length by rw [List.length_take]; omega] at h1
                  exact ⟨A, c, rfl, cover h1, h.trans (H.out.2.1.mono h.size)⟩
                have HI2 : Hid (∀ (W' : World) (A : Option Addr) (c : Nat), Hid (RowK .i64 W' W'.heap.size A ys.length (ys.take ys.length)) → Below wc.heap.size wc W' → Calls Try.prog 25 #[.slice A ys.length c, .slice A2 ys.length c2] W' fun e w' => e = .returned (.bool true) ∧ Below wc.heap.size wc w') := cover fun W' A c hr h => by
                  have h2 : RowK .i64 W' W'.heap.size A2 ys.length (ys.take ys.length) := by
                    have h3 := (hv2.take ys.length).below h
                    rw [← List.map_take] at h3
                    have h4 := h3.rowK
                    rwa [show (ys.take ys.length).length = ys.length by rw [List.length_take]; omega] at h4
                  refine (ints_any A A2 ys.length ys.length c c2 _ _ _ _ W' hr.out h2 (by omega) (by omega)).mono ?_
                  rintro e w' ⟨rfl, d, rfl⟩
                  exact ⟨by simp, below_drewN h d⟩
                clear ha hv2 hg2
                go_region_held3 (fun w' => Below wc.heap.size wc w') (first | exact (Below.refl _ _).drew | exact hbX)
                  (first
                    | (go_at_call 24; refine (HL.out _ ?_).mono ?_; assumption; rintro e w6 ⟨rfl, hbX⟩)
                    | (go_at_call 26; (first | (with_reducible refine (HG1.out _ ?_).mono ?_) | (with_reducible refine (HG2.out _ ?_).mono ?_)); assumption; rintro e w7 ⟨A7, c7, rfl, hr7, hbX⟩)
                    | (go_at_call 25; (first | (with_reducible refine (HI1.out _ _ _ hr7 ?_).mono ?_) | (with_reducible refine (HI2.out _ _ _ hr7 ?_).mono ?_)); assumption; rintro e w8 ⟨rfl, hbX⟩))
                all_goals (go_wp2_with fail)
                all_goals go_meet
                all_goals exact ⟨rfl, cover (HA.out.below hbX)⟩
            · have hi : ¬ ((ys.length : Int) < 2) := by omega
              have hi3 : (2 : Int) ≤ (c2 : Int) := by omega
              have hi4 : 2 ≤ c2 := by omega
              as_aux_lemma =>
                have HG2 : Hid (∀ W', Below wc.heap.size wc W' → Calls Try.prog 26 #[ptr q, .int .i64 2] W' fun e w' => ∃ A c, e = .returned (.slice A 2 c) ∧ Hid (RowK .i64 w' w'.heap.size A 2 (ys.take 2)) ∧ Below wc.heap.size wc w') := cover fun W' h => by
                  refine (all_has (ha.below h) (by omega) 2 2 (by split <;> omega)).mono ?_
                  rintro e w' ⟨A, c, G, rfl, H⟩
                  have h1 := H.out.1.rowK
                  rw [show (ys.take 2).length = 2 by rw [List.length_take]; omega] at h1
                  exact ⟨A, c, rfl, cover h1, h.trans (H.out.2.1.mono h.size)⟩
                have HI2 : Hid (∀ (W' : World) (A : Option Addr) (c : Nat), Hid (RowK .i64 W' W'.heap.size A 2 (ys.take 2)) → Below wc.heap.size wc W' → Calls Try.prog 25 #[.slice A 2 c, .slice A2 2 c2] W' fun e w' => e = .returned (.bool true) ∧ Below wc.heap.size wc w') := cover fun W' A c hr h => by
                  have h2 : RowK .i64 W' W'.heap.size A2 2 (ys.take 2) := by
                    have h3 := (hv2.take 2).below h
                    rw [← List.map_take] at h3
                    have h4 := h3.rowK
                    rwa [show (ys.take 2).length = 2 by rw [List.length_take]; omega] at h4
                  refine (ints_any A A2 2 2 c c2 _ _ _ _ W' hr.out h2 (by omega) (by omega)).mono ?_
                  rintro e w' ⟨rfl, d, rfl⟩
                  exact ⟨by simp, below_drewN h d⟩
                clear ha hv2 hg2
                go_region_held3 (fun w' => Below wc.heap.size wc w') (first | exact (Below.refl _ _).drew | exact hbX)
                  (first
                    | (go_at_call 24; refine (HL.out _ ?_).mono ?_; assumption; rintro e w6 ⟨rfl, hbX⟩)
                    | (go_at_call 26; (first | (with_reducible refine (HG1.out _ ?_).mono ?_) | (with_reducible refine (HG2.out _ ?_).mono ?_)); assumption; rintro e w7 ⟨A7, c7, rfl, hr7, hbX⟩)
                    | (go_at_call 25; (first | (with_reducible refine (HI1.out _ _ _ hr7 ?_).mono ?_) | (with_reducible refine (HI2.out _ _ _ hr7 ?_).mono ?_)); assumption; rintro e w8 ⟨rfl, hbX⟩))
                all_goals (go_wp2_with fail)
                all_goals go_meet
                all_goals exact ⟨rfl, cover (HA.out.below hbX)⟩
          case rest =>
            obtain ⟨rfl, HB⟩ := hcut
            go_wp2
            go_roundw
            case rel => exact ⟨j + 1, A2, c2, ys, by omega, rfl, by go_num, HB⟩
            case measure => simp [intOf]; omega
      · obtain rfl : j = len := by omega
        have HB := cover hrel.out.bel
        have HMo := mostI_has hrel.out.a
        clear hrel
        go_wp2_with (go_at_call 18; refine HMo.mono ?_; rintro e w' ⟨rfl, rfl⟩)
        go_ret
        exact ⟨ret_bool (by simp), HB.out⟩
end Go.Proofs.Ythfmkhjafkhpdaa
