/- The walk of TwinHears. -/
import Derived.Laws.Bits128
import Derived.Deep.CutBlock
import Derived.Deep.DeepCutAuto
import Derived.Test.YtbhdncbnjlgigaaBAwake
import Derived.Test.YtbhdncbnjlgigaaUIn
namespace Go.Proofs.Ytbhdncbnjlgigaa
open Go.RowKit
set_option linter.unusedVariables false
set_option linter.unusedSimpArgs false

theorem half_8 {n : Int} (h : 0 ≤ n ∧ n ≤ 255) : (bits BinOp.shr IntKind.u8 n 1 = n / 2 ∨ True) ∧ bits BinOp.and IntKind.u8 n 1 = n % 2 := by
  have hh : ∀ m : Nat, m < 256 → bits BinOp.and IntKind.u8 (m : Int) 1 = (m : Int) % 2 := by decide +kernel
  obtain ⟨m, rfl⟩ : ∃ m : Nat, n = (m : Int) := ⟨n.toNat, by omega⟩
  exact ⟨.inr trivial, hh m (by omega)⟩
set_option maxRecDepth 100000 in
set_option maxHeartbeats 1600000 in
theorem go_TwinHears (n ticks : Int) (p : PV) (A : Option Addr) (c : Nat) (w : World) (hn : 0 ≤ n ∧ n ≤ 255) (ht : 0 ≤ ticks ∧ ticks ≤ 255) (hc : p.info.length ≤ c) (hcm : c ≤ maxLen) (hr : Row w w.heap.size A p.info.length p.info) (hbt : Bts p.info) :
    Calls Try.prog 6 #[.int .u8 n, .int .u8 ticks, .agg #[.int .i64 p.to, .int .i64 p.frm, .bool p.resp, .int .i64 p.form, .int .i64 p.kind, .int .i64 p.ns, .int .i64 p.nr, .bool p.poll, .slice A p.info.length c]] w fun e w' => e = .returned (.bool true) ∧ Below w.heap.size w w' := by
  obtain ⟨b, hb⟩ : ∃ b, w.heap.size = b := ⟨_, rfl⟩
  rw [hb] at hr ⊢
  obtain ⟨w1, hw1⟩ : ∃ w1, w1 = w.alloc (.cells #[.int .i64 p.to, .int .i64 p.frm, .bool p.resp, .int .i64 p.form, .int .i64 p.kind, .int .i64 p.ns, .int .i64 p.nr, .bool p.poll, .slice A p.info.length c] 30) := ⟨_, rfl⟩
  have G1 : Hid (w1.heap[b]? = some (.cells #[.int .i64 p.to, .int .i64 p.frm, .bool p.resp, .int .i64 p.form, .int .i64 p.kind, .int .i64 p.ns, .int .i64 p.nr, .bool p.poll, .slice A p.info.length c] 30 (0, 0))) := cover (by rw [hw1, ← hb]; exact heap_alloc_new _ _)
  have H1 : Hid (Below b w w1 ∧ b < w1.heap.size) := cover ⟨by rw [hw1, ← hb]; exact (Below.refl _ _).alloc (Nat.le_refl _) _, by rw [hw1, ← hb]; simp⟩
  have HR : Hid (∀ W, Below b w W → Row W b A p.info.length p.info) := cover fun W hW => hr.below hW
  have HBT := cover hbt
  have HBE := cover hb
  have s0 := awake_any w1
  clear hr hbt
  go_enter Try.func6, Try.ntmps6
  go_upto_region 1 with fail
  rw [← hw1]
  obtain ⟨V, hV⟩ : ∃ V : Value, V = .agg #[.int .i64 p.to, .int .i64 p.frm, .bool p.resp, .int .i64 p.form, .int .i64 p.kind, .int .i64 p.ns, .int .i64 p.nr, .bool p.poll, .slice A p.info.length c] := ⟨_, rfl⟩
  rw [← hV]
  clear hw1 hb hV
  go_wp2_with fail
  refine s0.mono ?_
  rintro e w2 ⟨rfl, hb2⟩
  have G2 := cover ((hb2.block b (block_lt G1.out)).trans G1.out)
  have H2 : Hid (Below b w w2 ∧ b < w2.heap.size) := cover ⟨H1.out.1.trans (hb2.mono (Nat.le_of_lt H1.out.2)), Nat.lt_of_lt_of_le H1.out.2 hb2.size⟩
  obtain ⟨p0, p1, p2, p3, p4, p5, p6, p7, p8⟩ := pdu_cells G2.out
  clear hb2 s0 G1 H1
  by_cases hl : 2000 < p.info.length
  · have hl2 : (2000 : Int) < (p.info.length : Int) := by omega
    clear hl
    go_wp2
    go_ret
    exact ⟨rfl, H2.out.1⟩
  have hl2 : ¬ (2000 : Int) < (p.info.length : Int) := by omega
  clear hl
  obtain ⟨m, hm⟩ : ∃ m, 1 + n / 2 % 5 = m := ⟨_, rfl⟩
  have s1 := cover (new_yes (n := m) (wt := 3) (okB_of (by omega) (by omega) (by omega) (by omega)) w2)
  have hx : bits BinOp.and IntKind.u8 n 1 = n % 2 := (half_8 hn).2
  obtain ⟨x, hxx⟩ : ∃ x, n % 2 = x := ⟨_, rfl⟩
  rw [hxx] at hx
  clear hxx
  go_wp2_with fail
  clear hm p0 p1 p2 p3 p4 p5 p6 p7 p8
  refine s1.out.mono ?_
  rintro e w3 ⟨t, rfl, H3'⟩
  have H3 : Hid (∃ v, TwOne (b + 1) w2 w3 t v) := cover ⟨_, TwOne.made (Below.refl _ _) (by have := H2.out.2; omega) ⟨H3'.out.1, H3'.out.2.1, H3'.out.2.2⟩⟩
  clear s1 H3'
  go_upto_if 32 with fail
  go_cut [] (fun wx => Hid (∃ v, TwOne (b + 1) w2 wx t v))
  case first =>
    obtain ⟨v, h3⟩ := H3.out
    have s2 := cover (start_any h3.tw)
    have H3 := cover h3
    clear h3
    by_cases h1 : x = 1
    · go_wp2_with fail
      refine s2.out.mono ?_
      rintro e w4 ⟨rfl, H4'⟩
      have H4 := cover (H3.out.turn H4'.out)
      go_wp2
      go_meet
      exact cover ⟨_, H4.out⟩
    · go_wp2
      go_meet
      exact cover ⟨_, H3.out⟩
  case rest =>
    have HC := cover hcut.out
    clear hcut
    obtain ⟨T, hT, hT2⟩ : ∃ T : Nat, ticks % 20 = (T : Int) ∧ T < 20 := ⟨(ticks % 20).toNat, by omega, by omega⟩
    go_wp2_with fail
    go_loopw [9] (fun iv wr => ∃ j : Nat, j ≤ T ∧ iv = .int .i64 j ∧ Hid (∃ v, TwOne (b + 1) w2 wr t v)) (fun i _ => T - (intOf i).toNat)
    case atStart => exact ⟨0, by omega, rfl, HC⟩
    case round =>
      obtain ⟨j, hj, rfl, hrel⟩ := hrel
      by_cases hlt : j < T
      · obtain ⟨v, h4⟩ := hrel.out
        have s4 := cover (tick_any h4.tw)
        have H4 := cover h4
        clear h4 hrel
        go_wp2_with fail
        refine s4.out.mono ?_
        rintro e w5 ⟨rfl, H5'⟩
        have H5 := cover (H4.out.turn H5'.out)
        clear s4 H4 H5'
        go_wp2
        go_roundw
        case rel => exact ⟨j + 1, by omega, by go_num, cover ⟨_, H5.out⟩⟩
        case measure => simp [intOf]; omega
      · obtain rfl : j = T := by omega
        obtain ⟨v, h4⟩ := hrel.out
        obtain ⟨u, hh, _⟩ := h4.tw.hd
        have s5 := cover (state_any hh)
        have H4 := cover h4
        have sM := cover (ref_may_any p A c wr)
        have G4 := cover ((H4.out.bel.block b (by omega)).trans G2.out)
        obtain ⟨p0, p1, p2, p3, p4, p5, p6, p7, p8⟩ := pdu_cells G4.out
        clear hrel h4 hh
        go_wp2_with fail
        refine s5.out.mono ?_
        rintro e w5 ⟨rfl, rfl⟩
        go_upto_region 15 with fail
        go_cut [11] (fun x wx => x = .bool (ansB p) ∧ Hid (TwOne (b + 1) w2 wx t v))
        case first =>
          go_wp2_with fail
          refine sM.out.mono ?_
          rintro e w6 ⟨rfl, hb6⟩
          have G6 := (hb6.block b (block_lt G4.out)).trans G4.out
          have H6 := cover (H4.out.below hb6)
          clear hb6 p0 p1 p2 p3 p4 p5 p6 p7 p8
          obtain ⟨p0, p1, p2, p3, p4, p5, p6, p7, p8⟩ := pdu_cells G6
          clear G6
          rcases h0 : mayB p with _ | _
          case false =>
            have HE : Hid (ansB p = false) := cover (ansB_no (fun e => by have := mayB_iff.2 e.1; rw [h0] at this; cases this))
            clear h0
            go_wp2
            go_meet
            exact ⟨by rw [HE.out], cover H6.out⟩
          by_cases h1 : p.form = 2
          case neg =>
            have HE : Hid (ansB p = false) := cover (ansB_no (fun e => h1 e.2.1))
            have hb1 : (p.form == 2) = false := by simpa using h1
            clear h0
            go_wp2
            go_meet
            exact ⟨by rw [HE.out], cover H6.out⟩
          by_cases h2 : p.kind = 2
          case neg =>
            have HE : Hid (ansB p = false) := cover (ansB_no (fun e => h2 e.2.2.1))
            have hb2 : (p.kind == 2) = false := by simpa using h2
            clear h0
            go_wp2
            go_meet
            exact ⟨by rw [HE.out], cover H6.out⟩
          rcases h3 : p.resp with _ | _
          case false =>
            have HE : Hid (ansB p = false) := cover (ansB_no (fun e => by have := e.2.2.2.1; rw [h3] at this; cases this))
            clear h0
            go_wp2
            go_meet
            exact ⟨by rw [HE.out], cover H6.out⟩
          rcases h4 : p.poll with _ | _
          case false =>
            have HE : Hid (ansB p = false) := cover (ansB_no (fun e => by have := e.2.2.2.2.2.2; rw [h4] at this; cases this))
            clear h0
            go_wp2
            go_meet
            exact ⟨by rw [HE.out], cover H6.out⟩
          by_cases h5 : p.to = 0
          case neg =>
            have HE : Hid (ansB p = false) := cover (ansB_no (fun e => h5 e.2.2.2.2.1))
            have hb5 : (p.to == 0) = false := by simpa using h5
            clear h0
            go_wp2
            go_meet
            exact ⟨by rw [HE.out], cover H6.out⟩
          by_cases h6 : p.frm = 0
          case neg =>
            have HE : Hid (ansB p = false) := cover (ansB_no (fun e => h6 e.2.2.2.2.2.1))
            have hb6 : (p.frm == 0) = false := by simpa using h6
            clear h0
            go_wp2
            go_meet
            exact ⟨by rw [HE.out], cover H6.out⟩
          have HE : Hid (ansB p = true) := cover (ansB_iff.2 ⟨mayB_iff.1 h0, h1, h2, h3, h5, h6, h4⟩)
          clear h0
          go_wp2
          go_meet
          exact ⟨by rw [HE.out], cover H6.out⟩
        case rest =>
          obtain ⟨rfl, HC6⟩ := hcut
          have H6 := cover HC6.out
          have G6 := (H6.out.bel.block b (by omega)).trans G2.out
          have s7 := cover (hear_any H6.out.tw p A c b (HR.out wc (H2.out.1.trans (H6.out.bel.mono (by omega)))) (by have := H6.out.siz; omega) HBT.out)
          obtain ⟨v', hv'⟩ : ∃ v', Hid (v' = hearB (ansB p) v) := ⟨_, cover rfl⟩
          obtain ⟨y, hy⟩ : ∃ y, Hid (y = hearsB (ansB p) v) := ⟨_, cover rfl⟩
          have HV : Hid (y = true ∧ v'.s = 3 ∧ v.s = 1 ∧ ansB p = true ∨ y = false ∧ v'.s = v.s ∧ ¬ (v.s = 1 ∧ ansB p = true)) := cover (by
            rw [hv'.out, hy.out]
            by_cases hs : v.s = 1
            · cases ha : ansB p
              · rw [(hearB_not v).1, (hearB_not v).2]
                exact .inr ⟨rfl, rfl, fun e => by cases e.2⟩
              · rw [(hearB_yes hs).1, (hearB_yes hs).2]
                exact .inl ⟨rfl, rfl, hs, rfl⟩
            · rw [(hearB_rest _ hs).1, (hearB_rest _ hs).2]
              exact .inr ⟨rfl, rfl, fun e => hs e.1⟩)
          rw [← hv'.out, ← hy.out] at s7
          obtain ⟨a, ha⟩ : ∃ a, a = ansB p := ⟨_, rfl⟩
          rw [← ha] at HV ⊢
          obtain ⟨sv, hsv⟩ : ∃ sv, sv = v.s := ⟨_, rfl⟩
          rw [← hsv] at HV ⊢
          obtain ⟨p0, p1, p2, p3, p4, p5, p6, p7, p8⟩ := pdu_cells G6
          clear HC6 G6 hv' hy ha hsv
          go_wp2_with fail
          refine s7.out.mono ?_
          rintro e w7 ⟨rfl, H7'⟩
          have H7 := H6.out.turn H7'.out
          obtain ⟨u, hh, _⟩ := H7.tw.hd
          have s8 := cover (state_any hh)
          have H8 : Hid (Below b w w7) := cover (H2.out.1.trans (H7.bel.mono (by omega)))
          clear p0 p1 p2 p3 p4 p5 p6 p7 p8 H7 hh s7 H7' H6
          rcases HV.out with ⟨h1, h2, h3, h4⟩ | ⟨h1, h2, h3⟩
          · subst h1 h3 h4
            rw [h2] at s8
            clear h2 HV
            go_wp2_with fail
            refine s8.out.mono ?_
            rintro e w8 ⟨rfl, rfl⟩
            go_wp2
            go_ret
            exact ⟨rfl, H8.out⟩
          · subst h1
            rw [h2] at s8
            clear h2 HV
            have hd : ((sv == 1) && a) = false := by
              cases a
              · simp
              · simp
                exact fun e => h3 ⟨e, rfl⟩
            rcases a with _ | _
            · by_cases hs : sv = 1
              · clear h3 hd
                go_wp2_with fail
                refine s8.out.mono ?_
                rintro e w8 ⟨rfl, rfl⟩
                go_wp2
                go_ret
                exact ⟨ret_bool (by simp), H8.out⟩
              · clear h3 hd
                go_wp2_with fail
                refine s8.out.mono ?_
                rintro e w8 ⟨rfl, rfl⟩
                go_wp2
                go_ret
                exact ⟨ret_bool (by simp), H8.out⟩
            · have hs : ¬ sv = 1 := fun e => h3 ⟨e, rfl⟩
              clear h3 hd
              go_wp2_with fail
              refine s8.out.mono ?_
              rintro e w8 ⟨rfl, rfl⟩
              go_wp2
              go_ret
              exact ⟨ret_bool (by simp), H8.out⟩
theorem walk_TwinHears (n ticks : Int) (p : PV) (A : Option Addr) (c : Nat) (w : World) (hn : (Lit.int .u8 n).wf = true) (ht : (Lit.int .u8 ticks).wf = true) (hc : p.info.length ≤ c) (hcm : c ≤ maxLen) (hr : Row w w.heap.size A p.info.length p.info) (hbt : Bts p.info) (hnil : A = none → c = 0) :
    Calls Try.prog 6 #[.int .u8 n, .int .u8 ticks, .agg #[.int .i64 p.to, .int .i64 p.frm, .bool p.resp, .int .i64 p.form, .int .i64 p.kind, .int .i64 p.ns, .int .i64 p.nr, .bool p.poll, .slice A p.info.length c]] w fun e w' => e = .returned (.bool true) ∧ Below w.heap.size w w' :=
  go_TwinHears n ticks p A c w (byte_wf hn) (byte_wf ht) hc hcm hr hbt
end Go.Proofs.Ytbhdncbnjlgigaa
