/- The walk of LanOrder. -/
import Derived.Test.YtjidhpmjdhjciaaFOrd
import Derived.Test.YtjidhpmjdhjciaaFDeed
namespace Go.Proofs.Ytjidhpmjdhjciaa
open Go.RowKit
set_option linter.unusedVariables false

set_option maxRecDepth 100000 in
set_option maxHeartbeats 3200000 in
theorem order_walk (A : Option Addr) (n c : Nat) (ds : List DV) (w : World) (hn : n ≤ 150) (hd : DeedsL w w.heap.size A n ds) (hok : ∀ q ∈ ds, DOk q) (hs : small ds) :
    Calls Try.prog 5 #[.slice A n c] w fun e w' => e = .returned (.bool true) ∧ Below w.heap.size w w' := by
  have HD := cover (And.intro hd (And.intro hok hs))
  clear hd hok hs
  go_enter Try.func5, Try.ntmps5
  go_wp2_with fail
  refine (awake_any w).mono ?_
  rintro e w0 ⟨rfl, hb0⟩
  have H0 := cover hb0
  clear hb0
  have hroom := room_any (w := w0) (c := c) 150 (by omega) (by omega) (HD.out.1.below H0.out) true (by simp; exact HD.out.2.2)
  go_wp2_with fail
  refine hroom.mono ?_
  rintro e w' ⟨rfl, rfl⟩
  clear hroom
  go_wp2_with fail
  refine (new_has (W := w) 3 8 20 H0.out (by decide) (by decide) (by decide)).mono ?_
  rintro e w1 ⟨l, rfl, H1⟩
  go_wp2_with fail
  go_loopw [5, 6, 7] (fun a b i wr => ∃ (k N : Nat) (last : Int) (s : LS), k ≤ n ∧ N ≤ k ∧ a = .int .i64 N ∧ b = .int .i64 last ∧ i = .int .i64 k ∧ Hid (LHas w [] l s wr ∧ Ord s last N (2 * k) ∧ last < N)) (fun _ _ i _ => n - (intOf i).toNat)
  case atStart => exact ⟨0, 0, -1, _, Nat.zero_le _, Nat.le_refl _, rfl, rfl, rfl, cover ⟨H1.out, ord_fresh, by decide⟩⟩
  case round =>
    clear H1
    obtain ⟨k, N, last, s, hk, hN, rfl, rfl, rfl, hout⟩ := hrel
    by_cases hlt : k < n
    · obtain ⟨q, hq⟩ : ∃ q, ds[k]? = some q := ⟨_, List.getElem?_eq_getElem (by rw [HD.out.1.len]; exact hlt)⟩
      obtain ⟨ad, rfl, hc⟩ := (HD.out.1.below hout.out.1.bel).at_ k q hq
      have h0 := hc.c0
      have h1 := hc.c1
      have h2 := hc.c2
      have h3 := hc.c3
      have h4 := hc.c4
      have hk0 : (0 : Int) ≤ (k : Int) := by omega
      have hk1 : (k : Int) < (n : Int) := by omega
      have HQ := cover (And.intro hq hc.row)
      clear hc hq
      by_cases c3 : q.what ≤ 3
      · have hN8 : (N : Int) / 256 = 0 := by omega
        have e1 := hout.out.1.keep_new (dobj q)
        have a2 := cover (RowK.madeF (κ := .u8) (wr.alloc (dobj q)) [0, (N : Int), 7, 7, 7, 7, 7, 7] #[.int .u8 0, .int .u8 (N : Int), .int .u8 7, .int .u8 7, .int .u8 7, .int .u8 7, .int .u8 7, .int .u8 7] 5 (0, 0) rfl)
        have e2 := e1.below ((Below.refl _ _).alloc (Nat.le_refl _) (.cells #[.int .u8 0, .int .u8 (N : Int), .int .u8 7, .int .u8 7, .int .u8 7, .int .u8 7, .int .u8 7, .int .u8 7] 5))
        have o0 := cover hout.out.2
        have hS := send_has e2 0 1 (some ⟨wr.heap.size + 1, 0, none⟩) 8 8 _ [0, (N : Int), 7, 7, 7, 7, 7, 7] (by simpa using a2.out) (by simp) (by decide) (by have := o0.out.1.now; omega) (by have := o0.out.1.lost; omega)
        clear hout e1 a2 e2
        go_wp2_with fail
        refine hS.mono ?_
        rintro e w2 ⟨rfl, H2⟩
        clear hS
        obtain ⟨d0, d1, d2, d3, d4⟩ := dobj_cells H2.out.block
        have o1 := cover (And.intro (o0.out.1.send01 (by omega) o0.out.2) o0.out.2)
        have hs2 := HD.out.2.2 q (List.mem_of_getElem? HQ.out.1)
        have hk2 := HD.out.2.1 q (List.mem_of_getElem? HQ.out.1)
        have hrb : Row w2 w.heap.size q.A q.b.length q.b := (HD.out.1.at_ k q HQ.out.1).elim fun _ h => h.2.row.below H2.out.bel
        have ht1 : bits BinOp.and IntKind.i64 q.t 2 ≠ 1 := by rcases and_two q.t with h | h <;> rw [h] <;> decide
        have hS := send_has H2.out q.f (bits BinOp.and IntKind.i64 q.t 2) q.A q.b.length q.c _ q.b hrb H2.out.siz (by omega) (by have := o1.out.1.now; omega) (by have := o1.out.1.lost; omega)
        have o2 := cover (And.intro (o1.out.1.sendO q.f (bits BinOp.and IntKind.i64 q.t 2) ht1 (b := q.b) ⟨hs2, hk2.2.2.2.2.1⟩) o1.out.2)
        clear H2 hrb ht1 o1 o0 hs2 hk2
        go_wp2_with fail
        refine hS.mono ?_
        rintro e w3 ⟨rfl, H3⟩
        clear hS
        go_wp2
        go_roundw
        case rel => exact ⟨k + 1, N + 1, last, _, by omega, by omega, by go_num, rfl, by go_num, cover ⟨H3.out.drop, o2.out.1.later (by omega), by have := o2.out.2; omega⟩⟩
        case measure => simp [intOf]; omega
      · by_cases c6 : q.what ≤ 6
        · skip
          have e1 := cover (hout.out.1.keep_new (dobj q))
          have o0 := cover hout.out.2
          have hP := pass_has e1.out 0 1
          clear hout
          go_wp2_with fail
          refine hP.mono ?_
          rintro e w2 ⟨A2, c2, xs2, rfl, _, k2, h2⟩
          clear hP
          rcases hrow : theRow s 0 1 with _ | ⟨x, r⟩
          · obtain ⟨p1, p2, p3⟩ := pass_none hrow
            rw [p1, p2] at *
            rw [p3] at h2
            have H2 := cover h2
            clear h2 k2 p1 p2 p3 hrow
            go_wp2
            go_roundw
            case rel => exact ⟨k + 1, N, last, _, by omega, by omega, rfl, rfl, by go_num, cover ⟨H2.out.drop, o0.out.1.later (by omega), o0.out.2⟩⟩
            case measure => simp [intOf]; omega
          · obtain ⟨p1, p2, p3⟩ := pass_row hrow
            rw [p3] at h2
            have H2 := cover h2
            obtain ⟨m, rest, x1, x2, x3, x4, x5, x6, x7⟩ := o0.out.1.pass hrow
            obtain ⟨r0, r1, t4, rfl, hr4⟩ : ∃ r0 r1 t4, rest = r0 :: r1 :: t4 ∧ t4.length = 4 := by
              match rest, x2 with
              | r0 :: r1 :: t4, h => exact ⟨r0, r1, t4, rfl, by simpa using h⟩
            have hl8 : (passL s 0 1).length = 8 := by rw [p1, x1]; simp [hr4]
            have hk8 : Row w2 w2.heap.size A2 8 (0 :: m :: r0 :: r1 :: t4) := by have := h2.kept k2; rw [hl8, p1, x1] at this; exact this
            have hb8 : Bts (0 :: m :: r0 :: r1 :: t4) := by rw [← x1]; exact (rows_small o0.out.1.sm 0 1 x (by rw [hrow]; simp)).2
            have b0 : 0 ≤ r0 ∧ r0 ≤ 255 := hb8 r0 (by simp)
            have b1 : 0 ≤ r1 ∧ r1 ≤ 255 := hb8 r1 (by simp)
            rw [hl8, p2]
            obtain ⟨ad8, y0, rfl, had, hc0, hy0⟩ := hk8.at_ (k := 0) (by decide)
            obtain ⟨ad1, y1, ea1, _, hc1, hy1⟩ := hk8.at_ (k := 1) (by decide)
            obtain ⟨ad2, y2, ea2, _, hc2, hy2⟩ := hk8.at_ (k := 2) (by decide)
            obtain ⟨ad3, y3, ea3, _, hc3, hy3⟩ := hk8.at_ (k := 3) (by decide)
            injection ea1 with ea1; subst ea1
            injection ea2 with ea2; subst ea2
            injection ea3 with ea3; subst ea3
            have hy0 := hy0.out
            have hy1 := hy1.out
            have hy2 := hy2.out
            have hy3 := hy3.out
            simp at hy0 hy1 hy2 hy3
            subst hy0 hy1 hy2 hy3
            have hc0 : w2.cell? ad8 = _ := hc0
            have hc1 : w2.cell? ⟨ad8.block, ad8.off + 1, none⟩ = _ := hc1
            have hc2 : w2.cell? ⟨ad8.block, ad8.off + 2, none⟩ = _ := hc2
            have hc3 : w2.cell? ⟨ad8.block, ad8.off + 3, none⟩ = _ := hc3
            have O6 := cover (And.intro x6 x7)
            clear h2 k2 p1 p2 p3 hrow x1 x2 x6 x7 hl8 hk8 hb8 hr4 had
            by_cases e7 : r0 = 7
            · subst e7
              by_cases e8 : r1 = 7
              · subst e8
                have hor := or_zero x5
                have hw0 : IntKind.i64.wrap (0 * 256) = 0 := by decide
                have hl1 : ¬ m < last := by omega
                have hl2 : ¬ (N : Int) ≤ m := by omega
                go_wp2_with fail
                go_quiet (fail)
                have H3 := cover (H2.out.drewN nq)
                generalize w2.drewN nq = w3 at H3 ⊢
                clear hc0 hc1 hc2 hc3 H2
                go_wp2
                go_roundw
                case rel => exact ⟨k + 1, N, m, _, by omega, by omega, rfl, rfl, by go_num, cover ⟨H3.out.drop, O6.out.2.later (by omega), by omega⟩⟩
                case measure => simp [intOf]; omega
              · have e8' : (r1 == 7) = false := by simp [e8]
                go_wp2
                go_roundw
                case rel => exact ⟨k + 1, N, last, _, by omega, by omega, rfl, rfl, by go_num, cover ⟨H2.out.drop, O6.out.1.later (by omega), o0.out.2⟩⟩
                case measure => simp [intOf]; omega
            · have e7' : (r0 == 7) = false := by simp [e7]
              go_wp2
              go_roundw
              case rel => exact ⟨k + 1, N, last, _, by omega, by omega, rfl, rfl, by go_num, cover ⟨H2.out.drop, O6.out.1.later (by omega), o0.out.2⟩⟩
              case measure => simp [intOf]; omega
        · by_cases c7 : q.what = 7
          · skip
            have e1 := cover (hout.out.1.keep_new (dobj q))
            have o0 := cover hout.out.2
            have hS := drop_has e1.out 0 1 (by have := o0.out.1.lost; omega)
            clear hout
            unfold dobj at hS; rw [c7] at hS
            go_wp2_with fail
            refine hS.mono ?_
            rintro e w2 ⟨rfl, H2⟩
            clear hS
            go_wp2
            go_roundw
            case rel => exact ⟨k + 1, N, last, _, by omega, by omega, rfl, rfl, by go_num, cover ⟨H2.out.drop, (o0.out.1.drop).later (by omega), o0.out.2⟩⟩
            case measure => simp [intOf]; omega
          · by_cases c8 : q.what = 8
            · skip
              have e1 := cover (hout.out.1.keep_new (dobj q))
              have o0 := cover hout.out.2
              have hS := twice_has e1.out 0 1 (fun x hx => by have := rows_small o0.out.1.sm 0 1 x hx; have := this.1; omega)
              clear hout
              unfold dobj at hS; rw [c8] at hS
              go_wp2_with fail
              refine hS.mono ?_
              rintro e w2 ⟨rfl, H2⟩
              clear hS
              go_wp2
              go_roundw
              case rel => exact ⟨k + 1, N, last, _, by omega, by omega, rfl, rfl, by go_num, cover ⟨H2.out.drop, (o0.out.1.twice).later (by omega), o0.out.2⟩⟩
              case measure => simp [intOf]; omega
            · by_cases c9 : q.what = 9
              · skip
                have hz1 : 0 ≤ bits BinOp.and IntKind.i64 q.bit 31 ∧ bits BinOp.and IntKind.i64 q.bit 31 ≤ 31 := by have := and_small q.bit 31 (by decide); exact ⟨this.1, this.2.1⟩
                have e1 := cover (hout.out.1.keep_new (dobj q))
                have o0 := cover hout.out.2
                have hS := spoil_has e1.out 0 1 (16 + bits BinOp.and IntKind.i64 q.bit 31) (fun x hx => by have := rows_small o0.out.1.sm 0 1 x hx; have h1 := this.1; exact ⟨by omega, this.2⟩)
                clear hout
                unfold dobj at hS; rw [c9] at hS
                go_wp2_with fail
                refine hS.mono ?_
                rintro e w2 ⟨rfl, H2⟩
                clear hS
                go_wp2
                go_roundw
                case rel => exact ⟨k + 1, N, last, _, by omega, by omega, rfl, rfl, by go_num, cover ⟨H2.out.drop, (o0.out.1.spoil (16 + bits BinOp.and IntKind.i64 q.bit 31) (by omega)).later (by omega), o0.out.2⟩⟩
                case measure => simp [intOf]; omega
              · by_cases c10 : q.what = 10
                · skip
                  have e1 := cover (hout.out.1.keep_new (dobj q))
                  have o0 := cover hout.out.2
                  have hS := age_has e1.out (by have := o0.out.1.now; omega) (by have := o0.out.1.lost; omega)
                  clear hout
                  unfold dobj at hS; rw [c10] at hS
                  go_wp2_with fail
                  refine hS.mono ?_
                  rintro e w2 ⟨rfl, H2⟩
                  clear hS
                  go_wp2
                  go_roundw
                  case rel => exact ⟨k + 1, N, last, _, by omega, by omega, rfl, rfl, by go_num, cover ⟨H2.out.drop, (o0.out.1.age (fun k => by have := LHas.lens e1.out k; rw [o0.out.1.em] at this; exact this)).later (by omega), o0.out.2⟩⟩
                  case measure => simp [intOf]; omega
                · skip
                  have e1 := cover (hout.out.1.keep_new (dobj q))
                  have o0 := cover hout.out.2
                  clear hout
                  go_wp2
                  go_roundw
                  case rel => exact ⟨k + 1, N, last, s, by omega, by omega, rfl, rfl, by go_num, cover ⟨e1.out.drop, o0.out.1.later (by omega), o0.out.2⟩⟩
                  case measure => simp [intOf]; omega
    · obtain rfl : k = n := by omega
      have HF := cover hout.out.1.bel
      clear hout
      go_wp2
      go_ret
      exact ⟨rfl, HF.out⟩
theorem walk_LanOrder (A : Option Addr) (n c : Nat) (ds : List DV) (w : World) (hlc : n ≤ c) (hcm : c ≤ maxLen) (hdk : DeedsL w w.heap.size A n ds ∧ ∀ q ∈ ds, DOk q) :
    Calls Try.prog 5 #[.slice A n c] w fun e w' => e = .returned (.bool true) ∧ Below w.heap.size w w' := by
  obtain ⟨hd, hok⟩ := hdk
  by_cases hn : n ≤ 150
  · by_cases hs : small ds
    · exact order_walk A n c ds w hn hd hok hs
    · have HD := cover (And.intro hd hs)
      clear hd hok hs
      go_enter Try.func5, Try.ntmps5
      go_wp2_with fail
      refine (awake_any w).mono ?_
      rintro e w0 ⟨rfl, hb0⟩
      have H0 := cover hb0
      clear hb0
      have hroom := room_any (w := w0) (c := c) 150 (by omega) (by omega) (HD.out.1.below H0.out) false (by simp; exact HD.out.2)
      go_wp2_with fail
      refine hroom.mono ?_
      rintro e w' ⟨rfl, rfl⟩
      clear hroom
      go_wp2
      go_ret
      exact ⟨rfl, H0.out⟩
  · have hn' : (150 : Int) < (n : Int) := by omega
    clear hd hok
    go_enter Try.func5, Try.ntmps5
    go_wp2_with fail
    refine (awake_any w).mono ?_
    rintro e w0 ⟨rfl, hb0⟩
    go_wp2_with fail
    refine (room_long 150 hn').mono ?_
    rintro e w' ⟨rfl, rfl⟩
    go_wp2
    go_ret
    exact ⟨rfl, hb0⟩
end Go.Proofs.Ytjidhpmjdhjciaa
