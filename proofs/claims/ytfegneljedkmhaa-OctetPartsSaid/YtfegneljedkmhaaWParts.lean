/- The walk of OctetParts. -/
import Derived.Test.YtfegneljedkmhaaOAwake
import Derived.Test.YtfegneljedkmhaaOFrame
namespace Go.Proofs.Ytfegneljedkmhaa
open Go.RowKit
set_option linter.unusedVariables false

/-- at the head of a round: what was got, and what is left -/
def PartsAt (w : World) (l : List Int) (g : Nat) (v : Value) (wr : World) : Prop :=
  ∃ xs ys, xs ++ ys = l ∧ Rd 52 wr g g ys false ∧ wr.ownsRow (g + 1) 5 1 v xs.length (xs.map (Value.int .u8)) ∧ Below w.heap.size w wr

theorem parts_step {w w1 w2 : World} {l xs ys : List Int} {g k : Nat} {v v' : Value} (hl : xs ++ ys = l) (hr1 : Rd 52 w1 g g (ys.drop k) false) (hown1 : w1.ownsRow (g + 1) 5 1 v xs.length (xs.map (Value.int .u8)))
    (hb1 : Below w.heap.size w w1) (hg : w.heap.size ≤ g) (hk : k ≤ ys.length)
    (hown2 : w2.ownsRow (g + 1) 5 1 v' (xs.length + k) (xs.map (Value.int .u8) ++ (ys.take k).map (Value.int .u8))) (hg2 : w1.grownBy w2 v.ownBlock) : PartsAt w l g v' w2 := by
  refine ⟨xs ++ ys.take k, ys.drop k, by rw [List.append_assoc, List.take_append_drop]; exact hl, hr1.grown_own hown1 hg2 (by omega), ?_, hb1.grown hg2 hb1.size (fun b hb => by have := (hown1.lt b hb).1; omega)⟩
  have e : (xs ++ ys.take k).length = xs.length + k := by rw [List.length_append, List.length_take]; omega
  rw [e, List.map_append]
  exact hown2

set_option maxRecDepth 100000 in
set_option maxHeartbeats 1600000 in
theorem parts_in (A Ap : Option Addr) (len cap np cp : Nat) (l p : List Int) (w : World) (hr : Row w w.heap.size A len l) (hb : Bts l) (hl : len ≤ 500) (hp : Row w w.heap.size Ap np p) (hpb : Bts p) (hnp : np ≤ 100) :
    Calls Try.prog 8 #[.slice A len cap, .slice Ap np cp] w fun e w' => e = .returned (.bool true) ∧ Below w.heap.size w w' := by
  obtain ⟨i0, hi, hz0, hz1, hz2⟩ := info_parts u8_info
  have HB := cover hb
  have HPB := cover hpb
  have HLL := cover hr.len
  have HPL := cover hp.len
  clear hb hpb
  go_enter Try.func8, Try.ntmps8
  go_wp2_with fail
  refine (awake_any w).mono ?_
  rintro e w0 ⟨rfl, hb0⟩
  have hsz0 := hb0.size
  go_wp2_with fail
  refine (new_any A len cap _ l _ (hr.below hb0) hsz0 (by omega)).mono ?_
  rintro e w1 ⟨g, rfl, hr1, hg1, hb1⟩
  have hsz1 := hb1.size
  have hstart : Hid (PartsAt w l g (.slice none 0 0) w1) := cover ⟨[], l, rfl, hr1, World.ownsRow_nil _ _ _ _, hb0.trans (hb1.mono hsz0)⟩
  clear hr1
  go_wp2_with fail
  go_loopw [6, 7] (fun v i wr => ∃ j : Nat, j ≤ np ∧ i = .int .i64 j ∧ Hid (PartsAt w l g v wr)) (fun _ i _ => np - (intOf i).toNat)
  case atStart => exact ⟨0, Nat.zero_le _, rfl, hstart⟩
  case round =>
    obtain ⟨j, hj, rfl, hrel⟩ := hrel
    obtain ⟨xs, ys, hxy, hrd, hown, hbel⟩ := hrel.out
    have hxl : xs.length + ys.length ≤ 500 := by
      have := congrArg List.length hxy; rw [List.length_append, HLL.out] at this; omega
    have HXY := cover hxy
    clear hxy
    have hsz := hbel.size
    by_cases hlt : j < np
    · obtain ⟨ad, x, rfl, had, hc, hx⟩ := (hp.below hbel).at_ hlt
      have hx255 : 0 ≤ x ∧ x ≤ 255 := by
        have := hx.out
        obtain ⟨hj', rfl⟩ := List.getElem?_eq_some_iff.1 this
        exact HPB.out.at hj'
      obtain ⟨k, hk⟩ : ∃ k : Nat, x % 9 = (k : Int) := ⟨(x % 9).toNat, by omega⟩
      by_cases hn : k ≤ ys.length
      · go_wp2_with fail
        refine (left_any g g ys false _ hrd).mono ?_
        rintro e w2 ⟨rfl, rfl⟩
        go_wp2_with fail
        refine (raw_yes g g k ys _ hrd hn (by omega)).mono ?_
        rintro e w2 ⟨A2, c2, rfl, hown2, hrd2, ho2⟩
        have hsz2 := ho2.size
        have hbel2 := below_only hbel ho2 (by omega) hsz
        go_wp2_with fail
        refine (failed_any g g _ false _ hrd2).mono ?_
        rintro e w3 ⟨rfl, rfl⟩
        have hownw := hown.kept ho2 (.inr (own_ne_rd hrd hown (by decide)))
        have hown3 : w2.ownsRow wr.heap.size 5 1 (.slice A2 k c2) k ((ys.take k).map (Value.int .u8)) := by
          have := hown2; unfold OwnB at this; rw [List.length_take, Nat.min_eq_left hn] at this; exact this
        have hnews : Row w2 w2.heap.size A2 k (ys.take k) := RowK.of_own hown3 (by rw [List.length_take]; omega)
        have hnil := own_nil_cap hown3
        have HO := cover hownw
        have HD := cover hrd2
        clear hown3 hown2 hrd hown
        go_wp2_with (at_builtin; refine append_row rfl _ _ 25 rfl (g + 1) 5 i0 (.int .u8 0) 1 Try.underlying25 hi hz0 hz1 hz2 rfl _ _ _ rfl hownw w2.heap.size A2 k c2 (ys.take k) rfl hnews hnil ?n1 ?n2 ?n3 ?_)
        case n1 => unfold maxLen; omega
        case n2 => omega
        case n3 => have := hrd2.lt; omega
        intro v' w3 hown4 hg4
        rw [← List.map_take] at hown4
        have HN := cover (parts_step HXY.out HD.out HO.out hbel2 (by omega) hn hown4 hg4)
        clear hown4 hg4 hownw hnews hnil
        go_wp2
        go_roundw
        case rel => exact ⟨j + 1, by omega, by go_num, HN⟩
        case measure => simp [intOf]; omega
      · have hok : Hid (okR ys false k = false) := cover (by
          cases h : okR ys false k
          · rfl
          · have := (okR_iff ys false k).1 h; omega)
        go_wp2_with fail
        refine (left_any g g ys false _ hrd).mono ?_
        rintro e w2 ⟨rfl, rfl⟩
        go_wp2_with fail
        refine (raw_no g g ys false k _ hrd hok.out).mono ?_
        rintro e w2 ⟨rfl, hrd2, ho2⟩
        have hbel2 := below_only hbel ho2 (by omega) hsz
        go_wp2_with fail
        refine (num_no g g ys true 1 _ hrd2 (by simp [okR])).mono ?_
        rintro e w3 ⟨rfl, hrd3, ho3⟩
        have hbel3 := below_only hbel2 ho3 (by omega) hbel2.size
        go_wp2_with fail
        refine (raw_no g g ys true 0 _ hrd3 (by simp [okR])).mono ?_
        rintro e w4 ⟨rfl, hrd4, ho4⟩
        have hbel4 := below_only hbel3 ho4 (by omega) hbel3.size
        go_wp2_with fail
        refine (failed_any g g ys true _ hrd4).mono ?_
        rintro e w5 ⟨rfl, rfl⟩
        go_wp2_with fail
        refine (left_any g g ys true _ hrd4).mono ?_
        rintro e w5 ⟨rfl, rfl⟩
        go_wp2_with fail
        refine (rest_no g g ys _ hrd4).mono ?_
        rintro e w5 ⟨rfl, hrd5, ho5⟩
        have hbel5 := below_only hbel4 ho5 (by omega) hbel4.size
        go_wp2
        go_ret
        exact ⟨rfl, hbel5⟩
    · go_wp2_with fail
      refine (rest_yes g g ys _ hrd (by omega)).mono ?_
      rintro e w2 ⟨A2, c2, rfl, hown2, hrd2, ho2⟩
      have hbel2 := below_only hbel ho2 (by omega) hsz
      have hownw := hown.kept ho2 (.inr (own_ne_rd hrd hown (by decide)))
      have hown3 : w2.ownsRow wr.heap.size 5 1 (.slice A2 ys.length c2) ys.length ((ys.take ys.length).map (Value.int .u8)) := by
        have := hown2; unfold OwnB at this; rw [List.length_take, Nat.min_self] at this; exact this
      have hnews : Row w2 w2.heap.size A2 ys.length (ys.take ys.length) := RowK.of_own hown3 (by rw [List.length_take]; omega)
      have hnil := own_nil_cap hown3
      have HO := cover hownw
      have HD := cover hrd2
      clear hown3 hown2 hrd hown
      go_wp2_with (at_builtin; refine append_row rfl _ _ 25 rfl (g + 1) 5 i0 (.int .u8 0) 1 Try.underlying25 hi hz0 hz1 hz2 rfl _ _ _ rfl hownw w2.heap.size A2 ys.length c2 (ys.take ys.length) rfl hnews hnil ?m1 ?m2 ?m3 ?_)
      case m1 => unfold maxLen; omega
      case m2 => omega
      case m3 => have := hrd2.lt; omega
      intro v' w3 hown4 hg4
      have hrd3 := HD.out.grown_own HO.out hg4 (by omega)
      rw [List.drop_length] at hrd3
      have hbel3 : Below w.heap.size w w3 := hbel2.grown hg4 hbel2.size (fun b hb => by have := (HO.out.lt b hb).1; omega)
      obtain ⟨A3, c3, rfl, _⟩ := own_shape hown4
      have hll : xs.length + ys.length = len := by rw [← HLL.out, ← HXY.out, List.length_append]
      rw [hll, ← List.map_append, HXY.out] at hown4
      have hrow3 : Row w3 w3.heap.size A3 len l := RowK.of_own hown4 HLL.out
      have HR := cover hrow3
      have HR0 := cover (hr.below hbel3)
      have HLN := cover hll
      clear hown4 hg4 hownw hnews hnil hll hrow3
      go_wp2_with fail
      rw [HLN.out]
      refine (same_any A3 A len c3 cap _ _ l l w3 HR.out HR0.out (by omega)).mono ?_
      rintro e w4 ⟨rfl, d4, rfl⟩
      go_wp2_with fail
      refine (left_any g g [] false _ (hrd3.drewN d4)).mono ?_
      rintro e w5 ⟨rfl, rfl⟩
      go_wp2_with fail
      refine (failed_any g g [] false _ (hrd3.drewN d4)).mono ?_
      rintro e w5 ⟨rfl, rfl⟩
      go_wp2
      go_ret
      exact ⟨rfl, below_drewN hbel3 _⟩

set_option maxRecDepth 100000 in
theorem walk_OctetParts (A : Option Addr) (len cap : Nat) (l : List Int) (Ap : Option Addr) (np cp : Nat) (p : List Int) (w : World) (hlc : len ≤ cap) (hcm : cap ≤ maxLen) (hr : Row w w.heap.size A len l) (hb : ∀ x ∈ l, (Lit.int .u8 x).wf = true)
    (hlc' : np ≤ cp) (hcm' : cp ≤ maxLen) (hp : Row w w.heap.size Ap np p) (hpb : ∀ x ∈ p, (Lit.int .u8 x).wf = true) :
    Calls Try.prog 8 #[.slice A len cap, .slice Ap np cp] w fun e w' => e = .returned (.bool true) ∧ Below w.heap.size w w' := by
  unfold maxLen at hcm hcm'
  have h1 := bts_of_wf hb
  have h2 := bts_of_wf hpb
  by_cases hl : 500 < len
  · clear hb hpb h1 h2 hr hp
    go_enter Try.func8, Try.ntmps8
    go_wp2_with fail
    refine (awake_any w).mono ?_
    rintro e w0 ⟨rfl, hb0⟩
    go_wp2
    go_ret
    exact ⟨rfl, hb0⟩
  by_cases hn : 100 < np
  · clear hb hpb h1 h2 hr hp
    go_enter Try.func8, Try.ntmps8
    go_wp2_with fail
    refine (awake_any w).mono ?_
    rintro e w0 ⟨rfl, hb0⟩
    go_wp2
    go_ret
    exact ⟨rfl, hb0⟩
  exact parts_in A Ap len cap np cp l p w hr h1 (by omega) hp h2 (by omega)
end Go.Proofs.Ytfegneljedkmhaa
