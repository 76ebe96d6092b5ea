/- The walk of BackOrder. -/
import Derived.Deep.CutBlock
import Derived.Deep.DeepCutAuto
import Derived.Deep.RegionHeld3
import Derived.Test.YtefbmhkchlhgnaaLAwake
import Derived.Test.YtefbmhkchlhgnaaLRoom
namespace Go.Proofs.Ytefbmhkchlhgnaa
open Go.RowKit
set_option linter.unusedVariables false
set_option linter.unusedSimpArgs false

/-- the two bytes of a number -/
def two (k : Nat) : List Int := [(k : Int) / 256 % 256, (k : Int) % 256]
theorem own_two {w : World} {B c : Nat} {A : Option Addr} {x y : Int} (h : OwnB w B (.slice A 2 c) [x, y]) : ∃ g, A = some ⟨g, 0, none⟩ ∧ w.cell? ⟨g, 0, none⟩ = some (.int .u8 x) ∧ w.cell? ⟨g, 1, none⟩ = some (.int .u8 y) := by
  rcases h.2 with ⟨_, h0⟩ | ⟨g, cap, cur, hv, _, hh, _⟩
  · cases h0
  · injection hv with hv
    subst hv
    exact ⟨g, rfl, World.ownsRow.cellAt h 0 (by decide), World.ownsRow.cellAt h 1 (by decide)⟩
/-- so many were put, acknowledged, sent -/
structure OrdAt (B : Nat) (W0 W : World) (t pt gone next : Nat) : Prop where
  ex : ∃ v, BkOne B W0 W t v ∧ OrdL two pt gone next v ∧ v.m = 20

set_option maxRecDepth 100000 in
set_option maxHeartbeats 1600000 in
theorem walk_BackOrder (A : Option Addr) (len cap : Nat) (ds : List LDDV) (w : World) (hlc : len ≤ cap) (hcm : cap ≤ maxLen) (hd : LDDs w w.heap.size A len ds ∧ ∀ q ∈ ds, LDDOk q) :
    Calls Try.prog 5 #[.slice A len cap] w fun e w' => e = .returned (.bool true) ∧ Below w.heap.size w w' := by
  obtain ⟨b, hb⟩ : ∃ b, b = w.heap.size := ⟨_, rfl⟩
  have HG := cover hb
  rw [← hb] at hd
  have HD := cover hd
  have s0 := cover (awake_any w)
  clear hb hd
  go_enter Try.func5, Try.ntmps5
  go_wp2_with fail
  refine s0.out.mono ?_
  rintro e w0 ⟨rfl, h0⟩
  have H0 : Hid (Below b w w0 ∧ b ≤ w0.heap.size) := cover (by rw [HG.out]; exact ⟨h0, h0.size⟩)
  clear h0 s0
  go_wp2_with fail
  refine (room_any A len cap ds w0 b (HD.out.1.below H0.out.1)).mono ?_
  rintro e w0' ⟨r, rfl, rfl, HR⟩
  rcases r with _ | _
  · go_wp2
    go_ret
    exact ⟨rfl, by rw [← HG.out]; exact H0.out.1⟩
  have HL : Hid (len ≤ 300 ∧ smallLD ds) := cover (HR.out rfl)
  clear HR
  go_wp2_with fail
  refine (one_new (B := b) (W0 := w) 20 (by decide) H0.out.1 H0.out.2).mono ?_
  rintro e w1 ⟨t, rfl, h1⟩
  have H1 : Hid (OrdAt b w w1 t 0 0 0) := cover ⟨_, h1.out.1, OrdL.zero 20, rfl⟩
  clear h1 H0
  go_wp2_with fail
  go_loopw [4, 5, 6, 7] (fun pv gv nv iv wr => ∃ j pt gone next : Nat, (j ≤ len ∧ pt ≤ j ∧ gone ≤ next ∧ next ≤ pt) ∧ pv = .int .i64 pt ∧ gv = .int .i64 gone ∧ nv = .int .i64 next ∧ iv = .int .i64 j ∧ Hid (OrdAt b w wr t pt gone next)) (fun _ _ _ i _ => len - (intOf i).toNat)
  case atStart => exact ⟨0, 0, 0, 0, by omega, rfl, rfl, rfl, rfl, H1⟩
  case round =>
    clear H1
    obtain ⟨j, pt, gone, next, hj, rfl, rfl, rfl, rfl, hrel⟩ := hrel
    by_cases hlt : j < len
    · obtain ⟨q, hq⟩ : ∃ q, ds[j]? = some q := ⟨_, List.getElem?_eq_getElem (by rw [HD.out.1.len]; exact hlt)⟩
      obtain ⟨v, h4, hord, hm⟩ := hrel.out.ex
      obtain ⟨ad, hA, hc0⟩ := HD.out.1.at_ j q hq
      have HC : Hid (∀ W, Below b w W → LDDAt W b ad j q) := cover fun W hW => hc0.below hW
      subst hA
      have H4 := cover h4
      have HO := cover (And.intro hord hm)
      have hc := HC.out _ h4.bel
      have c0 := hc.c0
      have c1 := hc.c1
      have hlt' : (j : Int) < (len : Int) := by omega
      have HLT : Hid (j < len ∧ pt ≤ j ∧ gone ≤ next ∧ next ≤ pt ∧ len ≤ 300) := cover ⟨hlt, hj.2.1, hj.2.2.1, hj.2.2.2, HL.out.1⟩
      clear hc hc0 h4 hrel hq hlt hord hm hj
      obtain ⟨x, hx⟩ : ∃ x, q.what = x := ⟨_, rfl⟩
      obtain ⟨n, hn⟩ : ∃ n, q.num = n := ⟨_, rfl⟩
      rw [hx] at c0
      rw [hn] at c1
      clear hx hn HC
      go_upto_block 2 with fail
      go_cut [4, 5, 6] (fun pv gv nv wx => ∃ pt' gone' next' : Nat, (pt' ≤ pt + 1 ∧ gone' ≤ next' ∧ next' ≤ pt') ∧ pv = .int .i64 pt' ∧ gv = .int .i64 gone' ∧ nv = .int .i64 next' ∧ Hid (OrdAt b w wx t pt' gone' next'))
      case first =>
        by_cases d3 : x ≤ 3
        case pos =>
          go_wp2_with fail
          refine (one_put (H4.out.below ((Below.refl _ _).alloc (Nat.le_refl _) _)) _ _ _ (wr.heap.size + 1) (two pt) (RowK.madeF wr (two pt) #[.int .u8 ((pt : Int) / 256 % 256), .int .u8 ((pt : Int) % 256)] 5 (0, 0) rfl) (by simp) (by show 2 ≤ _; decide)).mono ?_
          have HP := cover HO.out.1.put
          have HM := cover ((putL_m (two pt) v).trans HO.out.2)
          generalize putsL v = r at HP ⊢
          rintro e w2 ⟨rfl, h2⟩
          have H2 := cover h2.out.1
          clear h2 H4 c0 c1
          have hw1 : wrap64 ((pt : Int) + 1) = (pt : Int) + 1 := IntWalk.wrap64_in _ ⟨by omega, by have := HLT.out; omega⟩
          rcases r with _ | _
          · go_wp2
            go_meet
            exact ⟨pt, gone, next, by have := HLT.out; omega, rfl, rfl, rfl, cover ⟨_, H2.out, HP.out, HM.out⟩⟩
          · go_wp2
            go_meet
            exact ⟨pt + 1, gone, next, by have := HLT.out; omega, by go_num, rfl, rfl, cover ⟨_, H2.out, HP.out, HM.out⟩⟩
        have hd3 : ¬ x ≤ 3 := d3
        by_cases d6 : x ≤ 6
        case pos =>
          by_cases hnp : next < pt
          · obtain ⟨hs, hord2⟩ := HO.out.1.next_yes hnp
            have HM := cover ((nextL_m v).1.trans HO.out.2)
            have HO2 := cover hord2
            go_wp2_with fail
            refine (one_next_yes H4.out (by unfold nextsL at hs; exact (List.getElem?_eq_some_iff.1 hs).1) (two next) hs).mono ?_
            rintro e w2 ⟨A2, c2, rfl, h2⟩
            have H2 := cover h2.out.2.1
            obtain ⟨g, rfl, k0, k1⟩ := own_two h2.out.1
            rw [show (two next).length = 2 from rfl]
            clear h2 H4 c0 c1 hs hord2
            go_upto_region 20 with fail
            have hlt2 : (next : Int) < (pt : Int) := by omega
            have hn3 : (next : Int) ≤ 300 := by have := HLT.out; omega
            have hbits : bits BinOp.or IntKind.i64 ((next : Int) / 256 % 256 * 256) ((next : Int) % 256) = (next : Int) := by
              have h9 := or_byte ((next : Int) / 256 % 256) ((next : Int) % 256) (by omega) (by omega) (by omega)
              rw [IntWalk.wrap64_in _ (by omega), IntWalk.wrap64_in _ (by omega)] at h9
              rw [h9]; omega
            go_quiet (fail)
            have H3 := cover (H2.out.drewN nq)
            generalize w2.drewN nq = w3 at H3 ⊢
            have hw1 : wrap64 ((next : Int) + 1) = (next : Int) + 1 := IntWalk.wrap64_in _ ⟨by omega, by omega⟩
            clear H2 k0 k1 hbits
            go_wp2
            go_meet
            exact ⟨pt, gone, next + 1, by have := HLT.out; omega, rfl, rfl, by go_num, cover ⟨_, H3.out, HO2.out, HM.out⟩⟩
          · obtain ⟨hs, hv⟩ := HO.out.1.next_no hnp
            go_wp2_with fail
            refine (one_next_no H4.out (by unfold nextsL at hs; have := List.getElem?_eq_none_iff.1 hs; omega)).mono ?_
            rintro e w2 ⟨rfl, rfl⟩
            have hlt2 : ¬ (next : Int) < (pt : Int) := by omega
            clear c0 c1 hs hv
            go_upto_region 20 with fail
            go_quiet (fail)
            have H3 := cover (H4.out.drewN nq)
            generalize wr.drewN nq = w3 at H3 ⊢
            clear H4
            go_wp2
            go_meet
            exact ⟨pt, gone, next, by have := HLT.out; omega, rfl, rfl, rfl, cover ⟨_, H3.out, HO.out.1, HO.out.2⟩⟩
        have hd6 : ¬ x ≤ 6 := d6
        by_cases d7 : x = 7
        case pos =>
          subst d7
          have HA := cover (HO.out.1.ack n)
          have HM : Hid ((ackL n v).m = 20) := cover HO.out.2
          go_wp2_with fail
          refine (one_acked H4.out n).mono ?_
          generalize goneL n v = k at HA ⊢
          rintro e w2 ⟨rfl, h2⟩
          have H2 := cover h2.out.1
          clear h2 H4 c0 c1 hd3 hd6 d3 d6
          have hk := HA.out.2
          have hL := HLT.out
          have hk0 : ¬ (k : Int) < 0 := by omega
          have hw0 : wrap64 ((next : Int) - (gone : Int)) = (next : Int) - (gone : Int) := IntWalk.wrap64_in _ ⟨by omega, by omega⟩
          have hk1 : ¬ (next : Int) - (gone : Int) < (k : Int) := by omega
          have hw1 : wrap64 ((gone : Int) + (k : Int)) = (gone : Int) + (k : Int) := IntWalk.wrap64_in _ ⟨by omega, by omega⟩
          clear hL hk
          go_wp2
          go_meet
          exact ⟨pt, gone + k, next, by have := HLT.out; have := HA.out.2; omega, rfl, by go_num, rfl, cover ⟨_, H2.out, HA.out.1, HM.out⟩⟩
        have hd7 : ¬ x = 7 := d7
        obtain ⟨ho, hag⟩ := HO.out.1.again
        have HAG := cover hag
        have HM : Hid ((againL v).m = 20) := cover HO.out.2
        go_wp2_with fail
        refine (one_again H4.out).mono ?_
        rw [ho]
        rintro e w2 ⟨rfl, h2⟩
        have H2 := cover h2.out.1
        have hL := HLT.out
        have hw0 : wrap64 ((next : Int) - (gone : Int)) = ((next - gone : Nat) : Int) := (IntWalk.wrap64_in _ ⟨by omega, by omega⟩).trans (by omega)
        clear h2 H4 c0 c1 ho hag hL
        go_wp2
        go_meet
        exact ⟨pt, gone, gone, by have := HLT.out; omega, rfl, rfl, rfl, cover ⟨_, H2.out, HAG.out, HM.out⟩⟩
      case rest =>
        obtain ⟨pt', gone', next', hle, rfl, rfl, rfl, h5⟩ := hcut
        have HLE : Hid (pt' ≤ pt + 1 ∧ gone' ≤ next' ∧ next' ≤ pt') := cover hle
        obtain ⟨v', h6, hord', hm'⟩ := h5.out.ex
        have H6 := cover h6
        have HL6 : Hid (v'.l.length = pt' - gone') := cover hord'.len
        clear h6 hord' hm' hle c0 c1 H4 HO
        have hL := HLT.out
        have hE := HLE.out
        have hw0 : wrap64 ((pt' : Int) - (gone' : Int)) = ((pt' - gone' : Nat) : Int) := (IntWalk.wrap64_in _ ⟨by omega, by omega⟩).trans (by omega)
        have hlen : (len : Int) ≤ 300 := by omega
        clear hL hE
        go_wp2_with fail
        refine (one_len H6.out).mono ?_
        rw [HL6.out]
        rintro e w7 ⟨rfl, rfl⟩
        go_wp2
        go_roundw
        case rel => exact ⟨j + 1, pt', gone', next', by have := HLT.out; have := HLE.out; omega, rfl, rfl, rfl, by go_num, h5⟩
        case measure =>
          have := HLT.out.1
          simp [intOf]; omega
    · obtain ⟨v, h4, _, _⟩ := hrel.out.ex
      have HN := cover h4.bel
      have hlt' : ¬ (j : Int) < (len : Int) := by omega
      clear h4 hrel
      go_wp2
      go_ret
      exact ⟨rfl, by rw [← HG.out]; exact HN.out⟩
end Go.Proofs.Ytefbmhkchlhgnaa
