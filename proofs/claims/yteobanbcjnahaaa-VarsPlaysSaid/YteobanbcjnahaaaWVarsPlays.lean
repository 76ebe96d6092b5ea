/- The walk of VarsPlays. -/
import Derived.Deep.CutBlock
import Derived.Deep.DeepCutAuto
import Derived.Deep.RegionHeld3
import Derived.Test.YteobanbcjnahaaaVAwake
import Derived.Test.YteobanbcjnahaaaVRef
import Derived.Test.YteobanbcjnahaaaVDeeds
namespace Go.Proofs.Yteobanbcjnahaaa
open Go.RowKit
set_option linter.unusedVariables false
set_option linter.unusedSimpArgs false

/-- the program's Vars and the document's, that stand the same -/
structure VaDuo (B : Nat) (W0 W : World) (t r : Nat) (v : VV) : Prop where
  one : VaOne B W0 W t v
  two : VaR W r v
  ne : t ≠ r
  lo : B ≤ r
theorem VaDuo.below {B t r : Nat} {W0 W W' : World} {v : VV} (h : VaDuo B W0 W t r v) (hb : Below W.heap.size W W') : VaDuo B W0 W' t r v := ⟨h.one.below hb, h.two.below hb, h.ne, h.lo⟩
theorem VaDuo.drewN {B t r : Nat} {W0 W : World} {v : VV} (h : VaDuo B W0 W t r v) (n : Nat) : VaDuo B W0 (W.drewN n) t r v := ⟨h.one.drewN n, h.two.drewN n, h.ne, h.lo⟩
/-- both have done the same -/
theorem VaDuo.turn {B t r : Nat} {W0 W W1 W2 : World} {v v' : VV} (h : VaDuo B W0 W t r v) (h1 : VaP W1 t v' ∧ OnlyB t W W1) (h2 : VaR W2 r v' ∧ OnlyB r W1 W2) : VaDuo B W0 W2 t r v' := by
  have k1 := h.one.turn h1
  exact ⟨⟨k1.va.only h2.2 h.ne, k1.lo, below_only k1.bel h2.2 h.lo k1.siz, Nat.le_trans k1.siz h2.2.size⟩, h2.1, h.ne, h.lo⟩
/-- the document's still stands as it did, where the program's has turned -/
theorem VaDuo.late {B t r : Nat} {W0 W W1 : World} {v v' : VV} (h : VaDuo B W0 W t r v) (h1 : VaP W1 t v' ∧ OnlyB t W W1) : VaR W1 r v := h.two.only h1.2 (Ne.symm h.ne)

theorem and63 (n : Int) : bits .and .i64 n 63 = n % 64 := by
  have hm : (BitVec.ofInt 64 63).toNat = 2 ^ 6 - 1 := by decide
  have hk : (BitVec.ofInt 64 n &&& BitVec.ofInt 64 63).toNat = (n % ((2 ^ 64 : Nat) : Int)).toNat % 2 ^ 6 := by
    rw [BitVec.toNat_and, BitVec.toNat_ofInt, hm, Nat.and_two_pow_sub_one_eq_mod]
  show IntKind.i64.wrap ((BitVec.ofInt 64 n &&& BitVec.ofInt 64 63).toNat : Nat) = n % 64
  rw [hk, IntKind.wrap_i64]
  omega
set_option maxRecDepth 100000 in
set_option maxHeartbeats 800000 in
theorem walk_VarsPlays (A : Option Addr) (len cap : Nat) (ds : List VDV) (w : World) (hlc : len ≤ cap) (hcm : cap ≤ maxLen) (hd : VDs w w.heap.size A len ds ∧ ∀ q ∈ ds, VDOk q) :
    Calls Try.prog 4 #[.slice A len cap] w fun e w' => e = .returned (.bool true) ∧ Below w.heap.size w w' := by
  obtain ⟨b, hb⟩ : ∃ b, b = w.heap.size := ⟨_, rfl⟩
  have HG := cover hb
  rw [← hb] at hd
  have HD := cover hd
  have HSz : Hid (∀ W, Below b w W → b ≤ W.heap.size) := cover fun W hW => by rw [HG.out]; rw [HG.out] at hW; exact hW.size
  have s0 := cover (fun W => awake_any W)
  clear hb hd
  go_enter Try.func4, Try.ntmps4
  go_wp2_with fail
  refine (s0.out w).mono ?_
  rintro e w0 ⟨rfl, h0⟩
  have H0 : Hid (Below b w w0) := cover (by rw [HG.out]; exact h0)
  clear h0
  by_cases hlong : (600 : Int) < (len : Int)
  · go_wp2
    go_ret
    exact ⟨rfl, by rw [← HG.out]; exact H0.out⟩
  have HL : Hid (len ≤ 600) := cover (by omega)
  have HD6 : Hid (decide ((600 : Int) < (len : Int)) = false) := cover (decide_eq_false hlong)
  have hl : ¬ (600 : Int) < (len : Int) := hlong
  clear hlong
  obtain ⟨t, ht⟩ : ∃ t, t = w0.heap.size := ⟨_, rfl⟩
  obtain ⟨w1, hw1⟩ : ∃ w1, w1 = w0.alloc (.cells (vC 0 0 0) 26) := ⟨_, rfl⟩
  have H1 : Hid (VaOne b w w1 t zVV) := cover (by rw [hw1, ht]; exact VaOne.new H0.out (HSz.out _ H0.out))
  go_upto_region 6 with fail
  rw [← hw1, ← ht]
  clear hw1 ht hl
  obtain ⟨r, hr⟩ : ∃ r, r = w1.heap.size := ⟨_, rfl⟩
  obtain ⟨w2, hw2⟩ : ∃ w2, w2 = w1.alloc (.cells (vC 0 0 0) 32) := ⟨_, rfl⟩
  have H2 : Hid (VaDuo b w w2 t r zVV) := cover (by
    have hbl : Below w1.heap.size w1 w2 := by rw [hw2]; exact (Below.refl _ _).alloc (Nat.le_refl _) _
    exact ⟨H1.out.below hbl, ⟨VOk.zero, by rw [hw2, hr]; exact heap_alloc_new _ _⟩, by have := H1.out.va.lt; omega, by rw [hr]; exact H1.out.siz⟩)
  go_upto_region 7 with fail
  rw [← hw2, ← hr]
  clear hw2 hr H1 H0
  go_wp2_with fail
  refine (s0.out w2).mono ?_
  rintro e w3 ⟨rfl, h3⟩
  have H3 := cover (H2.out.below h3)
  clear h3 H2
  go_wp2_with fail
  simp only [HD6.out]
  go_loopw [5] (fun iv wr => ∃ j : Nat, j ≤ len ∧ iv = .int .i64 j ∧ Hid (∃ v, VaDuo b w wr t r v)) (fun i _ => len - (intOf i).toNat)
  case atStart => exact ⟨0, by omega, rfl, cover ⟨_, H3.out⟩⟩
  case round =>
    clear H3
    obtain ⟨j, hj, rfl, hrel⟩ := hrel
    by_cases hlt : j < len
    · obtain ⟨q, hq⟩ : ∃ q, ds[j]? = some q := ⟨_, List.getElem?_eq_getElem (by rw [HD.out.1.len]; exact hlt)⟩
      obtain ⟨v, h4⟩ := hrel.out
      obtain ⟨ad, hA, hc0⟩ := HD.out.1.at_ j q hq
      have HC : Hid (∀ W, Below b w W → VDAt W b ad j q) := cover fun W hW => hc0.below hW
      subst hA
      have H4 := cover h4
      have hc := HC.out _ h4.one.bel
      have c0 := hc.c0
      have c1 := hc.c1
      have hlt' : (j : Int) < (len : Int) := by omega
      clear hc hc0 h4 hrel hq
      obtain ⟨x, hx⟩ : ∃ x, q.what = x := ⟨_, rfl⟩
      obtain ⟨nr, hnr⟩ : ∃ nr, q.num = nr := ⟨_, rfl⟩
      have HC' : Hid (∀ W, Below b w W → W.cell? (ad.add (j * 2)) = some (.int .i64 x) ∧ W.cell? ⟨(ad.add (j * 2)).block, (ad.add (j * 2)).off + 1, none⟩ = some (.int .i64 nr)) := cover fun W hW => ⟨by rw [← hx]; exact (HC.out W hW).c0, by rw [← hnr]; exact (HC.out W hW).c1⟩
      rw [hx] at c0
      rw [hnr] at c1
      clear hx hnr HC
      go_upto_block 2 with fail
      go_cut [6] (fun ok wx => ok = .bool true ∧ Hid (∃ v, VaDuo b w wx t r v))
      case first =>
        by_cases d3 : x ≤ 3
        case pos =>
          go_wp2_with fail
          refine (sent_any H4.out.one.va).mono ?_
          rintro e w4 ⟨rfl, h5⟩
          have H5 := cover h5.out
          have HR := cover (H4.out.late h5.out)
          have c0 := (HC'.out _ (H4.out.one.turn h5.out).bel).1
          have c1 := (HC'.out _ (H4.out.one.turn h5.out).bel).2
          clear h5
          obtain ⟨y, hy⟩ : ∃ y, Hid (y = sentV v) := ⟨_, cover rfl⟩
          rw [← hy.out]
          go_wp2_with fail
          refine (rsent_any HR.out).mono ?_
          rintro e w5 ⟨rfl, h6⟩
          have HN : Hid (∃ v, VaDuo b w w5 t r v) := cover ⟨_, H4.out.turn H5.out h6.out⟩
          clear h6 HR H5 c0 c1
          rw [← hy.out]
          go_wp2
          go_meet
          exact ⟨rfl, HN⟩
        have hd3 : ¬ x ≤ 3 := d3
        clear d3
        by_cases d4 : x = 4
        case pos =>
          have b4 : (x == 4) = true := by simpa using d4
          clear d4
          go_wp2_with fail
          refine (took_any H4.out.one.va).mono ?_
          rintro e w4 ⟨rfl, h5⟩
          have H5 := cover h5.out
          have HR := cover (H4.out.late h5.out)
          have c0 := (HC'.out _ (H4.out.one.turn h5.out).bel).1
          have c1 := (HC'.out _ (H4.out.one.turn h5.out).bel).2
          clear h5
          obtain ⟨y, hy⟩ : ∃ y, Hid (y = v.vr) := ⟨_, cover rfl⟩
          rw [← hy.out]
          go_wp2_with fail
          refine (rtook_any HR.out).mono ?_
          rintro e w5 ⟨rfl, h6⟩
          have HN : Hid (∃ v, VaDuo b w w5 t r v) := cover ⟨_, H4.out.turn H5.out h6.out⟩
          clear h6 HR H5 c0 c1
          rw [← hy.out]
          go_wp2
          go_meet
          exact ⟨rfl, HN⟩
        have b4 : (x == 4) = false := by simpa using d4
        have hd4 : Hid (x ≠ 4) := cover d4
        clear d4
        by_cases d6 : x ≤ 6
        case pos =>
          go_wp2_with fail
          refine (acked_any H4.out.one.va nr).mono ?_
          rintro e w4 ⟨rfl, h5⟩
          have H5 := cover h5.out
          have HR := cover (H4.out.late h5.out)
          have c0 := (HC'.out _ (H4.out.one.turn h5.out).bel).1
          have c1 := (HC'.out _ (H4.out.one.turn h5.out).bel).2
          clear h5
          obtain ⟨y, hy⟩ : ∃ y, Hid (y = ackV v nr) := ⟨_, cover rfl⟩
          rw [← hy.out]
          go_wp2_with fail
          refine (racked_any HR.out nr).mono ?_
          rintro e w5 ⟨rfl, h6⟩
          have HN : Hid (∃ v, VaDuo b w w5 t r v) := cover ⟨_, H4.out.turn H5.out h6.out⟩
          clear h6 HR H5 c0 c1
          rw [← hy.out]
          go_wp2
          go_meet
          exact ⟨rfl, HN⟩
        have hd6 : ¬ x ≤ 6 := d6
        clear d6
        by_cases d7 : x = 7
        case pos =>
          have b7 : (x == 7) = true := by simpa using d7
          clear d7
          obtain ⟨o, ho⟩ : ∃ o, Hid (outV v = o) := ⟨_, cover rfl⟩
          have HOB : Hid (0 ≤ o ∧ o ≤ 127) := cover (by rw [← ho.out]; exact outV_bd v)
          have CR : Hid (∀ W', (∃ d, W' = wr.drewN d) → Calls Try.prog 17 #[ptr r] W' fun e W'' => e = .returned (.int .i64 o) ∧ ∃ d, W'' = wr.drewN d) := cover fun W' ⟨d, hd⟩ => by
            rw [hd]
            refine (rout_any (H4.out.two.drewN d)).mono ?_
            rintro e W'' ⟨rfl, d', hd'⟩
            exact ⟨by rw [ho.out], d + d', by rw [hd', World.drewN_drewN]⟩
          obtain ⟨r0, r1, r2⟩ := three_cells H4.out.two.hd
          obtain ⟨a, ha⟩ : ∃ a, Hid (v.va = a) := ⟨_, cover rfl⟩
          have HAB : Hid (0 ≤ a ∧ a ≤ 127) := cover (by rw [← ha.out]; exact H4.out.two.ok.2.2)
          rw [ha.out] at r2
          obtain ⟨y, hy⟩ : ∃ y, nr % 64 = y := ⟨_, rfl⟩
          have HYB : Hid (0 ≤ y ∧ y ≤ 63) := cover (by omega)
          have B63 : bits BinOp.and IntKind.i64 nr 63 = y := (and63 nr).trans hy
          obtain ⟨p, hp⟩ : ∃ p, o + 1 = p := ⟨_, rfl⟩
          have HPB : Hid (1 ≤ p ∧ p ≤ 128) := cover (by have := HOB.out; omega)
          have hWp : IntKind.i64.wrap (o + 1) = p := by rw [IntKind.wrap_i64]; have := HOB.out; omega
          have hWp2 : wrap64 (o + 1) = p := (IntWalk.wrap64_in _ ⟨by have := HOB.out; omega, by have := HOB.out; omega⟩).trans hp
          have hp0 : p ≠ 0 := by have := HPB.out; omega
          clear hy hp
          go_upto_region 23 with fail
          go_region_held3 (fun W' : World => W'.cell? ⟨r, 2, none⟩ = some (.int .i64 a) ∧ W'.cell? ⟨(ad.add (j * 2)).block, (ad.add (j * 2)).off + 1, none⟩ = some (.int .i64 nr) ∧ ∃ d, W' = wr.drewN d)
            (first
              | exact ⟨r2, c1, _, rfl⟩)
            ((go_at_call 17; refine (CR.out _ ?_).mono ?_; (go_split_ands; assumption); rintro e wX ⟨rfl, dX, rfl⟩))
          have H7 := cover (H4.out.drewN dX)
          generalize Int.tmod (IntKind.i64.wrap (a + Int.tmod y p)) 128 = z
          clear r0 r1 r2 c0 c1 B63 hWp hWp2 hp0 CR
          go_wp2_with fail
          refine (acked_any H7.out.one.va z).mono ?_
          rintro e w4 ⟨rfl, h5⟩
          have H5 := cover h5.out
          have HR := cover (H7.out.late h5.out)
          clear h5
          obtain ⟨g, hg⟩ : ∃ g, Hid (g = ackV v z) := ⟨_, cover rfl⟩
          rw [← hg.out]
          go_wp2_with fail
          refine (racked_any HR.out z).mono ?_
          rintro e w5 ⟨rfl, h6⟩
          have HN : Hid (∃ v, VaDuo b w w5 t r v) := cover ⟨_, H7.out.turn H5.out h6.out⟩
          clear h6 HR H5
          rw [← hg.out]
          go_wp2
          go_meet
          exact ⟨rfl, HN⟩
        have b7 : (x == 7) = false := by simpa using d7
        clear d7
        by_cases d8 : x = 8
        case pos =>
          have b8 : (x == 8) = true := by simpa using d8
          clear d8
          go_wp2_with fail
          refine (back_any H4.out.one.va).mono ?_
          rintro e w4 ⟨rfl, h5⟩
          have H5 := cover h5.out
          have HR := cover (H4.out.late h5.out)
          have c0 := (HC'.out _ (H4.out.one.turn h5.out).bel).1
          have c1 := (HC'.out _ (H4.out.one.turn h5.out).bel).2
          clear h5
          obtain ⟨y, hy⟩ : ∃ y, Hid (y = outV v) := ⟨_, cover rfl⟩
          rw [← hy.out]
          go_wp2_with fail
          refine (rback_any HR.out).mono ?_
          rintro e w5 ⟨rfl, h6⟩
          have HN : Hid (∃ v, VaDuo b w w5 t r v) := cover ⟨_, H4.out.turn H5.out h6.out⟩
          clear h6 HR H5 c0 c1
          rw [← hy.out]
          go_wp2
          go_meet
          exact ⟨rfl, HN⟩
        have b8 : (x == 8) = false := by simpa using d8
        clear d8
        by_cases d9 : x = 9
        case pos =>
          have b9 : (x == 9) = true := by simpa using d9
          clear d9
          go_wp2_with fail
          refine (clear_any H4.out.one.va).mono ?_
          rintro e w4 ⟨rfl, h5⟩
          have H5 := cover h5.out
          have HR := cover (H4.out.late h5.out)
          clear h5
          obtain ⟨r0, r1, r2⟩ := three_cells HR.out.hd
          obtain ⟨w5, hw5⟩ : ∃ w5, Hid (w5 = w4.setCell ⟨r, 0, none⟩ (.int .i64 0)) := ⟨_, cover rfl⟩
          have T5 : w5.heap[r]? = some (.cells (vC 0 v.vr v.va) 32 (0, 0)) := by rw [hw5.out, set_block HR.out.hd]; rfl
          obtain ⟨w6, hw6⟩ : ∃ w6, Hid (w6 = w5.setCell ⟨r, 1, none⟩ (.int .i64 0)) := ⟨_, cover rfl⟩
          have T6 : w6.heap[r]? = some (.cells (vC 0 0 v.va) 32 (0, 0)) := by rw [hw6.out, set_block T5]; rfl
          obtain ⟨w7, hw7⟩ : ∃ w7, Hid (w7 = w6.setCell ⟨r, 2, none⟩ (.int .i64 0)) := ⟨_, cover rfl⟩
          have T7 : w7.heap[r]? = some (.cells (vC 0 0 0) 32 (0, 0)) := by rw [hw7.out, set_block T6]; rfl
          have HN : Hid (∃ v, VaDuo b w w7 t r v) := cover ⟨zVV, H4.out.turn H5.out ⟨⟨VOk.zero, T7⟩, by rw [hw7.out, hw6.out, hw5.out]; exact (((OnlyB.refl r w4).setCell 0 _).setCell 1 _).setCell 2 _⟩⟩
          have F4 := not_frozen HR.out.hd 0
          have F5 := not_frozen T5 1
          have F6 := not_frozen T6 2
          obtain ⟨s0', s1', s2'⟩ := three_cells T5
          obtain ⟨u0', u1', u2'⟩ := three_cells T6
          clear T5 T6 T7 H5 HR c0 c1
          go_wp2_with (first
            | (rw [← hw5.out])
            | (rw [← hw6.out])
            | (rw [← hw7.out]))
          go_meet
          exact ⟨rfl, HN⟩
        have b9 : (x == 9) = false := by simpa using d9
        clear d9
        have HN : Hid (∃ v, VaDuo b w wr t r v) := cover ⟨v, H4.out⟩
        go_wp2
        go_meet
        exact ⟨rfl, HN⟩
      case rest =>
        obtain ⟨rfl, hdone⟩ := hcut
        obtain ⟨v', h5⟩ := hdone.out
        have H5 := cover h5
        clear h5 hdone c0 c1 H4
        obtain ⟨r0, r1, r2⟩ := three_cells H5.out.two.hd
        obtain ⟨o, ho⟩ : ∃ o, Hid (outV v' = o) := ⟨_, cover rfl⟩
        have CA : Hid (∀ W', Below wc.heap.size wc W' → Calls Try.prog 11 #[ptr t] W' fun e W'' => e = .returned (.int .i64 v'.vs) ∧ Below wc.heap.size wc W'') := cover fun W' hW => (vs_any (H5.out.one.va.below hW)).mono (by rintro e W'' ⟨rfl, hb⟩; exact ⟨rfl, below_any hW hb⟩)
        have CB : Hid (∀ W', Below wc.heap.size wc W' → Calls Try.prog 13 #[ptr t] W' fun e W'' => e = .returned (.int .i64 v'.vr) ∧ Below wc.heap.size wc W'') := cover fun W' hW => (vr_any (H5.out.one.va.below hW)).mono (by rintro e W'' ⟨rfl, hb⟩; exact ⟨rfl, below_any hW hb⟩)
        have CC : Hid (∀ W', Below wc.heap.size wc W' → Calls Try.prog 20 #[ptr t] W' fun e W'' => e = .returned (.int .i64 v'.va) ∧ Below wc.heap.size wc W'') := cover fun W' hW => (va_any (H5.out.one.va.below hW)).mono (by rintro e W'' ⟨rfl, hb⟩; exact ⟨rfl, below_any hW hb⟩)
        have CD : Hid (∀ W', Below wc.heap.size wc W' → Calls Try.prog 21 #[ptr t] W' fun e W'' => e = .returned (.int .i64 o) ∧ Below wc.heap.size wc W'') := cover fun W' hW => (out_any (H5.out.one.va.below hW)).mono (by rintro e W'' ⟨rfl, hb⟩; exact ⟨by rw [ho.out], below_any hW hb⟩)
        have CE : Hid (∀ W', Below wc.heap.size wc W' → Calls Try.prog 17 #[ptr r] W' fun e W'' => e = .returned (.int .i64 o) ∧ Below wc.heap.size wc W'') := cover fun W' hW => (rout_any (H5.out.two.below hW)).mono (by rintro e W'' ⟨rfl, d, rfl⟩; exact ⟨by rw [ho.out], below_drewN hW d⟩)
        have HS : Hid (∀ W', Below wc.heap.size wc W' → W'.cell? ⟨r, 0, none⟩ = some (.int .i64 v'.vs) ∧ W'.cell? ⟨r, 1, none⟩ = some (.int .i64 v'.vr) ∧ W'.cell? ⟨r, 2, none⟩ = some (.int .i64 v'.va) ∧ Below wc.heap.size wc W') := cover fun W' hW => by
          obtain ⟨x0, x1, x2⟩ := three_cells (H5.out.two.below hW).hd
          exact ⟨x0, x1, x2, hW⟩
        go_upto_region 32 with fail
        go_region_held3 (fun w' => w'.cell? ⟨r, 0, none⟩ = some (.int .i64 v'.vs) ∧ w'.cell? ⟨r, 1, none⟩ = some (.int .i64 v'.vr) ∧ w'.cell? ⟨r, 2, none⟩ = some (.int .i64 v'.va) ∧ Below wc.heap.size wc w') (first | exact HS.out _ hbX | exact HS.out _ (below_drewN (Below.refl _ _) 1))
          (first
            | (go_at_call 11; refine (CA.out _ ?_).mono ?_; (go_split_ands; assumption); rintro e w6 ⟨rfl, hbX⟩)
            | (go_at_call 13; refine (CB.out _ ?_).mono ?_; (go_split_ands; assumption); rintro e w6 ⟨rfl, hbX⟩)
            | (go_at_call 20; refine (CC.out _ ?_).mono ?_; (go_split_ands; assumption); rintro e w6 ⟨rfl, hbX⟩)
            | (go_at_call 21; refine (CD.out _ ?_).mono ?_; (go_split_ands; assumption); rintro e w6 ⟨rfl, hbX⟩)
            | (go_at_call 17; refine (CE.out _ ?_).mono ?_; (go_split_ands; assumption); rintro e w6 ⟨rfl, hbX⟩))
        all_goals
          have HX : Hid (∃ v, VaDuo b w w6 t r v) := cover ⟨v', H5.out.below hbX⟩
          clear hbX CA CB CC CD CE HS H5 r0 r1 r2
          go_wp2
          go_roundw
          case rel => exact ⟨j + 1, by omega, by go_num, HX⟩
          case measure => simp [intOf]; omega
    · obtain ⟨v, h4⟩ := hrel.out
      have HN := cover h4.one.bel
      have hlt' : ¬ (j : Int) < (len : Int) := by omega
      clear h4 hrel
      go_wp2
      go_ret
      exact ⟨rfl, by rw [← HG.out]; exact HN.out⟩
end Go.Proofs.Yteobanbcjnahaaa
