/- The walk of ClockOnce. -/
import Derived.Deep.CutBlock
import Derived.Deep.DeepCutAuto
import Derived.Test.YtodiocioldakjaaKDeeds
namespace Go.Proofs.Ytodiocioldakjaa
open Go.RowKit
set_option linter.unusedVariables false

/-- how it stands with the timer that nobody touches: still so many ticks, or told -/
def OnceI (l : List (Int × Int)) (n now told : Nat) : Prop := (told = 0 ∧ now < n ∧ leftK l (-1) = (n : Int) - now) ∨ (told = 1 ∧ n ≤ now ∧ leftK l (-1) = 0)
/-- at the head of a round -/
def OnceAt (B : Nat) (w : World) (c n len j now told : Nat) (wr : World) : Prop := ∃ l, CIHas B wr c 50 now l ∧ Below B w wr ∧ OnceI l n now told
theorem OnceI.stop {l : List (Int × Int)} {n now told : Nat} (h : OnceI l n now told) {k : Int} (hk : k ≠ -1) : OnceI (stopK l k) n now told := by
  unfold OnceI at *; rw [leftK_stop_other hk]; exact h
theorem OnceI.start {l : List (Int × Int)} {n now told : Nat} (h : OnceI l n now told) {k t : Int} (hk : k ≠ -1) : OnceI (startK l k t) n now told := by
  unfold OnceI at *; rw [leftK_start_other hk]; exact h
/-- a tick: how often it is told -/
theorem OnceI.tick {l : List (Int × Int)} {n now told : Nat} (h : OnceI l n now told) (hok : InK 50 10000 l) : OnceI (tickK l) n (now + 1) (told + (toldK l).count (-1)) ∧ (0 < (toldK l).count (-1) → now + 1 = n) := by
  have hl : ∀ x ∈ l, 1 ≤ x.2 := fun x hx => (hok.left x hx).1
  have e1 := leftK_tick (k := (-1 : Int)) hok.once hl
  have e2 := told_count (k := (-1 : Int)) hok.once hl
  unfold OnceI at *
  rcases h with ⟨h1, h2, h3⟩ | ⟨h1, h2, h3⟩
  · rw [h3] at e1 e2
    by_cases hq : (n : Int) - now = 1
    · rw [if_neg (by omega)] at e1
      rw [if_pos hq] at e2
      rw [e1, e2]
      exact ⟨.inr ⟨by omega, by omega, by omega⟩, fun _ => by omega⟩
    · rw [if_neg (by omega)] at e1
      rw [if_neg hq] at e2
      rw [e1, e2]
      exact ⟨.inl ⟨by omega, by omega, by omega⟩, fun h => absurd h (by decide)⟩
  · rw [h3, if_pos rfl] at e1
    rw [h3, if_neg (by decide)] at e2
    rw [e1, e2]
    exact ⟨.inr ⟨by omega, by omega, rfl⟩, fun h => absurd h (by decide)⟩
theorem OnceI.once {l : List (Int × Int)} {n now told : Nat} (h : OnceI l n now told) : (told : Int) ≤ 1 := by
  unfold OnceI at h; omega
theorem deed_size : (Try.prog.info? 37).map (fun x => x.size) = some 3 := by kernel_rfl
theorem deed_one (a b c : Int) : ((#[.int .i64 a, .int .i64 b, .int .i64 c] : Array Value).all fun x => x.oneCell') = true := by simp [Value.oneCell']
abbrev deedO (a b c : Int) : Obj := .cells #[.int .i64 a, .int .i64 b, .int .i64 c] 37 (0, 0)
theorem count_step {l : List Int} {k : Nat} {x : Int} (h : l[k]? = some x) : (l.take (k + 1)).count (-1) = (l.take k).count (-1) + (if x = -1 then 1 else 0) := by
  rw [List.take_add_one, h, List.count_append]
  by_cases hx : x = -1
  · subst hx; rfl
  · rw [if_neg hx]
    have : List.count (-1) (some x).toList = 0 := by
      simp [hx]
    rw [this]
set_option maxRecDepth 100000 in
set_option maxHeartbeats 1600000 in
theorem walk_ClockOnce (A : Option Addr) (len cap : Nat) (ds : List (Int × Int × Int)) (a1 : Int) (w : World) (hlc : len ≤ cap) (hcm : cap ≤ maxLen) (hd : Deeds w w.heap.size A len ds ∧ ∀ q ∈ ds, (-9223372036854775808 ≤ q.1 ∧ q.1 ≤ 9223372036854775807) ∧ (-9223372036854775808 ≤ q.2.1 ∧ q.2.1 ≤ 9223372036854775807) ∧ (-9223372036854775808 ≤ q.2.2 ∧ q.2.2 ≤ 9223372036854775807)) (h1' : (Lit.int .u8 a1).wf = true) :
    Calls Try.prog 5 #[.slice A len cap, .int .u8 a1] w fun e w' => e = .returned (.bool true) ∧ Below w.heap.size w w' := by
  have h1 := u8_wf h1'
  have HDS := cover hd
  obtain ⟨B, hB⟩ : ∃ B, w.heap.size = B := ⟨_, rfl⟩
  rw [hB]
  have hBw : B ≤ w.heap.size := by omega
  have HBE := cover hB
  clear hB hd h1'
  have hcm' := cover hcm
  clear hcm
  by_cases hbig : 200 < len
  · go_enter Try.func5, Try.ntmps5
    go_wp2_with fail
    refine (awake_any w).mono ?_
    rintro e w0 ⟨rfl, hb0⟩
    have HB0 : Hid (Below B w w0) := cover (hb0.mono hBw)
    clear hb0
    go_wp2
    go_ret
    exact ⟨rfl, HB0.out⟩
  obtain ⟨n, hn⟩ : ∃ n : Nat, (1 : Int) + a1 % 100 = n := ⟨(1 + a1 % 100).toNat, by omega⟩
  have hn1 : (1 : Int) ≤ (n : Int) ∧ (n : Int) ≤ 100 := by omega
  have hlen : (len : Int) ≤ 200 := by omega
  go_enter Try.func5, Try.ntmps5
  go_wp2_with fail
  refine (awake_any w).mono ?_
  rintro e w0 ⟨rfl, hb0⟩
  have HB0 : Hid (Below B w w0) := cover (hb0.mono hBw)
  have hs0 : B ≤ w0.heap.size := Nat.le_trans hBw hb0.size
  clear hb0
  go_wp2_with fail
  refine (newI_has 50 (by decide) hs0).mono ?_
  rintro e w1 ⟨c, rfl, H1'⟩
  have H1 : Hid (CIHas B w1 c 50 0 [] ∧ Below B w w1) := cover ⟨H1'.out.1, HB0.out.trans H1'.out.2⟩
  clear H1' HB0
  have s1 := startI_has H1.out.1 (-1) (n : Int)
  have b1 : startB 50 ([] : List (Int × Int)) (-1) (n : Int) 10000 = true := by rw [startB_is (by omega) (by omega)]; rfl
  rw [b1, if_pos rfl] at s1
  go_wp2_with fail
  refine s1.mono ?_
  rintro e w2 ⟨rfl, H2'⟩
  have H2 : Hid (OnceAt B w c n len 0 0 0 w2) := cover ⟨_, H2'.out.1, H1.out.2.trans H2'.out.2, .inl ⟨rfl, by omega, by rw [leftK_start_own]; omega⟩⟩
  clear s1 H2' H1 b1
  go_wp2_with fail
  go_loopw [7, 8, 9] (fun a b i wr => ∃ now told j : Nat, (j : Int) ≤ (len : Int) + (n : Int) ∧ (now : Int) ≤ (j : Int) ∧ (j : Int) ≤ (len : Int) + (now : Int) ∧ (told : Int) ≤ 1 ∧ a = .int .i64 now ∧ b = .int .i64 told ∧ i = .int .i64 j ∧ Hid (OnceAt B w c n len j now told wr)) (fun _ _ i _ => len + n - (intOf i).toNat)
  case atStart => exact ⟨0, 0, 0, by omega, by omega, by omega, by omega, rfl, rfl, rfl, H2⟩
  case round =>
    obtain ⟨now, told, j, hj, hnj, hjn, ht1, rfl, rfl, rfl, hrel⟩ := hrel
    have hsum : IntKind.i64.wrap ((len : Int) + (n : Int)) = (len : Int) + n := by rw [IntKind.wrap_i64]; omega
    by_cases hlt : (j : Int) < (len : Int) + (n : Int)
    · obtain ⟨y, hy⟩ : ∃ y, y = wr.heap.size := ⟨_, rfl⟩
      go_upto_region 14 with fail
      obtain ⟨w3, hw3⟩ : ∃ w3, w3 = wr.alloc (deedO 9 0 0) := ⟨_, rfl⟩
      have H3 : Hid (w3.heap[y]? = some (deedO 9 0 0) ∧ Below wr.heap.size wr w3 ∧ wr.heap.size ≤ y) := by
        have hb : Below wr.heap.size wr w3 := by rw [hw3]; exact (Below.refl _ _).alloc (Nat.le_refl _) _
        exact cover ⟨by rw [hw3, hy]; exact heap_alloc_new _ _, hb, by omega⟩
      have HO : Hid (∀ wx, Below wr.heap.size wr wx → OnceAt B w c n len j now told wx) := cover fun wx hb => by
        obtain ⟨l, k1, k2, k3⟩ := hrel.out
        exact ⟨l, k1.below hb, k2.trans (hb.mono k1.size), k3⟩
      rw [← hy, ← hw3]
      clear hy hrel hw3
      go_upto_if 43 with fail
      obtain ⟨cb, hcb⟩ : ∃ cb, cb = decide (j < len) := ⟨_, rfl⟩
      rw [← hcb]
      have HCB := cover hcb
      clear hcb
      go_cut [] (fun wx => Hid (∃ d0 dk dn : Int, wx.heap[y]? = some (deedO d0 dk dn) ∧ OnceAt B w c n len j now told wx ∧ ((len : Int) ≤ (j : Int) → d0 = 9)))
      case first =>
        rcases cb with _ | _
        · have HN : Hid (∃ d0 dk dn : Int, w3.heap[y]? = some (deedO d0 dk dn) ∧ OnceAt B w c n len j now told w3 ∧ ((len : Int) ≤ (j : Int) → d0 = 9)) := cover ⟨9, 0, 0, H3.out.1, HO.out _ H3.out.2.1, fun _ => rfl⟩
          clear H3 HO
          go_wp2_with fail
          go_meet
          exact HN
        · have hjl : j < len := by simpa using HCB.out.symm
          obtain ⟨⟨d0, dk, dn⟩, hdk⟩ : ∃ q, ds[j]? = some q := ⟨_, List.getElem?_eq_getElem (by rw [HDS.out.1.len]; omega)⟩
          obtain ⟨hd3, hb3, hwy⟩ := H3.out
          obtain ⟨l, hl1, hl2, hl3⟩ := HO.out _ hb3
          have hjl' : j < ds.length := (List.getElem?_eq_some_iff.1 hdk).1
          obtain ⟨ad, rfl, hab, c0, c1, c2⟩ := (HDS.out.1.below (by rw [HBE.out]; exact hl2)).cells j hjl'
          have hdq : ds[j] = (d0, dk, dn) := (List.getElem?_eq_some_iff.1 hdk).2
          rw [hdq] at c0 c1 c2
          simp only [] at c0 c1 c2
          have HN : Hid (∃ x0 xk xn : Int, (w3.setRow y #[.int .i64 d0, .int .i64 dk, .int .i64 dn]).heap[y]? = some (deedO x0 xk xn) ∧ OnceAt B w c n len j now told (w3.setRow y #[.int .i64 d0, .int .i64 dk, .int .i64 dn]) ∧ ((len : Int) ≤ (j : Int) → x0 = 9)) :=
            cover ⟨d0, dk, dn, setRow_heap w3 y _ _ _ _ hd3, HO.out _ (Go.below_setRow hb3 hwy _), fun h => by omega⟩
          have HD3 := cover hd3
          clear H3 HO hl1 hl2 hl3 hdk hdq hd3 hb3 hwy
          go_wp2_with (refine wpList_store_row rfl _ _ _ rfl y #[.int .i64 d0, .int .i64 dk, .int .i64 dn] rfl rfl 37 _ HD3.out deed_size rfl (deed_one _ _ _) ?_)
          go_meet
          exact HN
      case rest =>
        obtain ⟨d0, dk, dn, hdy, hat, h9⟩ := hcut.out
        have q0 : wc.cell? ⟨y, 0, none⟩ = some (.int .i64 d0) := by rw [cell_of_row _ _ _ _ _ _ hdy]; rfl
        have q1 : wc.cell? ⟨y, 1, none⟩ = some (.int .i64 dk) := by rw [cell_of_row _ _ _ _ _ _ hdy]; rfl
        have q2 : wc.cell? ⟨y, 2, none⟩ = some (.int .i64 dn) := by rw [cell_of_row _ _ _ _ _ _ hdy]; rfl
        obtain ⟨l, hl1, hl2, hl3⟩ := hat
        have HL := cover (And.intro hl1 (And.intro hl2 hl3))
        have H9 := cover h9
        obtain ⟨kk, hkk⟩ : ∃ kk, kk = dk % 16 := ⟨_, rfl⟩
        have hb15 : bits BinOp.and IntKind.i64 dk 15 = kk := by rw [hkk]; exact and15 dk
        have hkn : kk ≠ -1 := by omega
        clear hcut H3 HO hdy hl1 hl2 hl3 h9 hkk HCB
        by_cases hd3 : d0 ≤ 3
        · have hst := startI_has HL.out.1 kk dn
          go_wp2_with fail
          refine hst.mono ?_
          rintro e w5 ⟨rfl, H5⟩
          have HN : Hid (OnceAt B w c n len (j + 1) now told w5) := by
            obtain ⟨k1, k2⟩ := H5.out
            refine cover ⟨_, k1, HL.out.2.1.trans k2, ?_⟩
            split
            · exact HL.out.2.2.start hkn
            · exact HL.out.2.2
          have hjl : (j : Int) < (len : Int) := by
            rcases Int.lt_or_le (j : Int) (len : Int) with h | h
            · exact h
            · have := H9.out h; omega
          clear hst H5 q0 q1 q2 HL hb15
          go_wp2
          go_roundw
          case rel => exact ⟨now, told, j + 1, by omega, by omega, by omega, by omega, rfl, rfl, by go_num, HN⟩
          case measure => simp [intOf]; omega
        by_cases hd4 : d0 = 4
        · have hst := stopI_has HL.out.1 kk
          have h4b : (d0 == 4) = true := by rw [beq_iff_eq]; exact hd4
          go_wp2_with fail
          refine hst.mono ?_
          rintro e w5 ⟨rfl, H5⟩
          have HN : Hid (OnceAt B w c n len (j + 1) now told w5) := by
            obtain ⟨k1, k2⟩ := H5.out
            exact cover ⟨_, k1, HL.out.2.1.trans k2, HL.out.2.2.stop hkn⟩
          have hjl : (j : Int) < (len : Int) := by
            rcases Int.lt_or_le (j : Int) (len : Int) with h | h
            · exact h
            · have := H9.out h; omega
          clear hst H5 q0 q1 q2 HL hb15
          go_wp2
          go_roundw
          case rel => exact ⟨now, told, j + 1, by omega, by omega, by omega, by omega, rfl, rfl, by go_num, HN⟩
          case measure => simp [intOf]; omega
        · have h4b : (d0 == 4) = false := by rw [beq_eq_false_iff_ne]; exact hd4
          have hst := tickI_has HL.out.1 (by omega)
          go_wp2_with fail
          refine hst.mono ?_
          rintro e w5 ⟨A5, c5, rfl, H5⟩
          have htk := HL.out.2.2.tick HL.out.1.ok
          obtain ⟨tl, htl⟩ : ∃ tl, tl = toldK l := ⟨_, rfl⟩
          rw [← htl] at H5 htk ⊢
          have HN : Hid (OnceAt B w c n len (j + 1) (now + 1) (told + tl.count (-1)) w5 ∧ (0 < tl.count (-1) → now + 1 = n) ∧ ((told + tl.count (-1) : Nat) : Int) ≤ 1) :=
            cover ⟨⟨_, H5.out.2.1, HL.out.2.1.trans H5.out.2.2, htk.1⟩, htk.2, htk.1.once⟩
          have HX : Hid (∀ (k : Nat) (x : Int), tl[k]? = some x → ∃ g, A5 = some ⟨g, 0, none⟩ ∧ w5.cell? ⟨g, k, none⟩ = some (.int .i64 x)) := cover fun k x hx => by
            obtain ⟨g, hA, _, _, hc⟩ := own_cell H5.out.1 (j := k) (x := .int .i64 x) (by rw [List.getElem?_map, hx]; rfl)
            exact ⟨g, hA, hc⟩
          obtain ⟨L, hL⟩ : ∃ L, L = tl.length := ⟨_, rfl⟩
          rw [← hL]
          have hL50 : L ≤ 100000 := by
            rw [hL, htl]; unfold toldK
            rw [List.length_map]
            have h1 : (l.filter (fun x => x.2 == 1)).length ≤ l.length := List.length_filter_le _ _
            have h2 := HL.out.1.ok.room
            omega
          have HLT := cover hL
          have hw1 : IntKind.i64.wrap ((now : Int) + 1) = (now : Int) + 1 := by rw [IntKind.wrap_i64]; omega
          clear hst H5 q0 q1 q2 HL hb15 htk htl hL h4b
          go_wp2_with fail
          go_loopw [8, 12] (fun a k wr => ∃ tt kk : Nat, kk ≤ L ∧ a = .int .i64 tt ∧ k = .int .i64 kk ∧ Hid (tt = told + (tl.take kk).count (-1)) ∧ wr = w5) (fun _ k _ => L - (intOf k).toNat)
          case atStart => exact ⟨told, 0, Nat.zero_le _, rfl, rfl, cover (by simp), rfl⟩
          case round =>
            obtain ⟨tt, kk, hkL, rfl, rfl, htt, rfl⟩ := hrel
            by_cases hlk : kk < L
            · obtain ⟨x, hx⟩ : ∃ x, tl[kk]? = some x := ⟨_, List.getElem?_eq_getElem (by rw [← HLT.out]; exact hlk)⟩
              obtain ⟨g, rfl, hc⟩ := HX.out kk x hx
              have hcs := count_step hx
              have hcl : (tl.take (kk + 1)).count (-1) ≤ tl.count (-1) := (List.take_sublist _ _).count_le _
              by_cases hx1 : x = -1
              · rw [if_pos hx1] at hcs
                have hbx : (x == -1) = true := by rw [beq_iff_eq]; exact hx1
                have hnn : (now : Int) + 1 = (n : Int) := by have := HN.out.2.1 (by omega); omega
                have hnb : ((now : Int) + 1 == (n : Int)) = true := by rw [beq_iff_eq]; exact hnn
                have htt1 : (tt : Int) + 1 ≤ 1 := by have := HN.out.2.2; have := htt.out; omega
                have HT : Hid (tt + 1 = told + (tl.take (kk + 1)).count (-1)) := cover (by have := htt.out; omega)
                clear hcs hcl htt hx hx1
                go_wp2
                go_roundw
                case rel => exact ⟨tt + 1, kk + 1, by omega, by go_num, by go_num, HT, trivial⟩
                case measure => simp [intOf]; omega
              · rw [if_neg hx1] at hcs
                have hbx : (x == -1) = false := by rw [beq_eq_false_iff_ne]; exact hx1
                have HT : Hid (tt = told + (tl.take (kk + 1)).count (-1)) := cover (by have := htt.out; omega)
                clear hcs hcl htt hx hx1
                go_wp2
                go_roundw
                case rel => exact ⟨tt, kk + 1, by omega, rfl, by go_num, HT, trivial⟩
                case measure => simp [intOf]; omega
            · obtain rfl : kk = L := by omega
              have HT : Hid (OnceAt B w c n len (j + 1) (now + 1) tt wr) := by
                have h1 := HN.out.1
                have h2 := htt.out
                rw [HLT.out, List.take_length] at h2
                rw [h2]; exact cover h1
              have ht1' : (tt : Int) ≤ 1 := by
                have h1 := HN.out.2.2
                have h2 := htt.out
                rw [HLT.out, List.take_length] at h2
                rw [h2]; exact h1
              clear htt
              go_wp2
              go_roundw
              case rel => exact ⟨now + 1, tt, j + 1, by omega, by omega, by omega, by omega, by go_num, rfl, by go_num, HT⟩
              case measure => simp [intOf]; omega
    · have hnn : n ≤ now := by omega
      obtain ⟨l, hl1, hl2, hl3⟩ := hrel.out
      have ht : told = 1 := by
        rcases hl3 with ⟨h1, h2, h3⟩ | ⟨h1, h2, h3⟩
        · omega
        · exact h1
      subst ht
      have HB := cover hl2
      clear hl1 hl2 hl3 hrel
      go_wp2
      go_ret
      exact ⟨rfl, HB.out⟩
end Go.Proofs.Ytodiocioldakjaa
