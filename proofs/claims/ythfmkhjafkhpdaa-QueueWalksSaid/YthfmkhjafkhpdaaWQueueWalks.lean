/- The walk of QueueWalks. -/
import Derived.Deep.CutBlock
import Derived.Deep.DeepCutAuto
import Derived.Test.YthfmkhjafkhpdaaQAwake
import Derived.Test.YthfmkhjafkhpdaaQWalk
import Derived.Test.YthfmkhjafkhpdaaQList
namespace Go.Proofs.Ythfmkhjafkhpdaa
open Go.RowKit
set_option linter.unusedVariables false

/-- the queue that the law fills -/
structure FillAt (W : World) (B q : Nat) (xs : List Int) (w : World) : Prop where
  a : IHas B w q 100 (xs.map (.int .i64))
  bel : Below B W w
  siz : B ≤ w.heap.size

set_option maxRecDepth 100000 in
set_option maxHeartbeats 1600000 in
theorem walks_in (A : Option Addr) (len cap : Nat) (l : List Int) (st ch : Nat) (w : World) (hlc : len ≤ cap) (hcm : cap ≤ 9223372036854775807) (hl : len ≤ 60) (hr : RowK .i64 w w.heap.size A len l) (hst : st ≤ 255) (hch : ch ≤ 255) :
    Calls Try.prog 6 #[.slice A len cap, .int .u8 st, .int .u8 ch] w fun e w' => e = .returned (.bool true) ∧ Below w.heap.size w w' := by
  have HST := cover (And.intro hst hch)
  clear hst hch
  go_enter Try.func6, Try.ntmps6
  go_wp2_with fail
  refine (awake_any w).mono ?_
  rintro e w0 ⟨rfl, hb0⟩
  have hs0 := hb0.size
  go_wp2_with fail
  refine (newI_has 100 w.heap.size w0 hs0 100 (by decide)).mono ?_
  rintro e w1 ⟨q, rfl, H1⟩
  have hs1 := Nat.le_trans hs0 H1.out.2.1.size
  have HS : Hid (FillAt w w.heap.size q [] w1) := cover ⟨H1.out.1, hb0.trans (H1.out.2.1.mono hs0), hs1⟩
  clear H1 hb0 hs0 hs1
  go_wp2_with fail
  go_loopw [8] (fun i wr => ∃ j : Nat, j ≤ len ∧ i = .int .i64 j ∧ Hid (FillAt w w.heap.size q (l.take j) wr)) (fun i _ => len - (intOf i).toNat)
  case atStart => exact ⟨0, Nat.zero_le _, rfl, HS⟩
  case round =>
    obtain ⟨j, hj, rfl, hrel⟩ := hrel
    by_cases hlt : j < len
    · have hat := hrel.out
      have hrl := hr.len
      obtain ⟨ad, x, rfl, had, hc, hx⟩ := (hr.below hat.bel).at_ hlt
      have hlen : (l.take j).length = j := by rw [List.length_take]; omega
      clear hat hrl
      go_wp2_with fail
      refine (putI_has hrel.out.a hrel.out.siz x (by simp; omega) (by simp; omega)).mono ?_
      rintro e w2 ⟨rfl, H2⟩
      have HN : Hid (FillAt w w.heap.size q (l.take (j + 1)) w2) := by
        refine cover ⟨?_, hrel.out.bel.trans (H2.out.2.below hrel.out.siz), Nat.le_trans hrel.out.siz H2.out.2.size⟩
        rw [List.take_add_one, hx.out, List.map_append]; exact H2.out.1
      clear H2 hc hlen
      go_wp2
      go_roundw
      case rel => exact ⟨j + 1, by omega, by go_num, HN⟩
      case measure => simp [intOf]; omega
    · obtain rfl : j = len := by omega
      have hrl := hr.len
      have hat := hrel.out
      rw [List.take_of_length_le (by omega)] at hat
      have HA := cover hat
      have HRL := cover hrl
      clear hat hrl hrel
      obtain ⟨n, hn⟩ : ∃ n : Nat, n = st % 70 := ⟨_, rfl⟩
      obtain ⟨c, hc⟩ : ∃ c : Nat, c = ch % 3 := ⟨_, rfl⟩
      have hm1 : (wrap64 (st : Int)).tmod 70 = (n : Int) := by
        have := HST.out.1
        rw [IntWalk.wrap64_in _ ⟨by omega, by omega⟩, Int.tmod_eq_emod_of_nonneg (by omega)]; omega
      have hm2 : (wrap64 (ch : Int)).tmod 3 = (c : Int) := by
        have := HST.out.2
        rw [IntWalk.wrap64_in _ ⟨by omega, by omega⟩, Int.tmod_eq_emod_of_nonneg (by omega)]; omega
      have HC := cover (show (c = 0 ∨ c = 1 ∨ c = 2) ∧ n ≤ 69 by omega)
      clear hn hc
      obtain ⟨k, hk⟩ : ∃ k : Nat, k = min n l.length := ⟨_, rfl⟩
      have HK := cover (show k ≤ n ∧ k ≤ j ∧ (k = n ∨ k = j) by have := HRL.out; omega)
      obtain ⟨G, ps, hI, hO⟩ := HA.out.a
      have hpl := hI.len
      have HW := walk_any hI (by have := HRL.out; simp at hpl; omega) n c k hk HC.out.1
      have hfin : ∀ e w5, WalkOut ((l.map (.int .i64)).take k) wr q G e w5 → ∃ A5 c5, e = .returned (.slice A5 k c5) ∧ RowK .i64 w5 w5.heap.size A5 k (l.take k) ∧ RowK .i64 w5 w.heap.size A k (l.take k) ∧ Below w.heap.size w w5 := fun e w5 h5 => by
        obtain ⟨A5, c5, he, h6, h7⟩ := h5
        have hkl : ((l.map (Value.int .i64)).take k).length = k := by have := HK.out; have := HRL.out; simp; omega
        rw [hkl] at he h6
        obtain ⟨G5, hv5, _⟩ := VRow.of_own h6
        rw [← List.map_take] at hv5
        have hrk := hv5.rowK
        have hb5 : Below w.heap.size w w5 := h7.below HA.out.bel (fun i hi => by
          rcases List.mem_cons.1 hi with rfl | hi
          · exact hO.q_le
          · exact hO.g_le i (by simpa using hi)) HA.out.siz
        refine ⟨A5, c5, he, ?_, (hr.below hb5).take (by have := HK.out; omega), hb5⟩
        rwa [show (l.take k).length = k by have := HK.out; have := HRL.out; simp; omega] at hrk
      have HFIN := cover hfin
      clear hk hI hO hpl hfin hr HA
      go_wp2_with fail
      refine HW.mono ?_
      clear HW
      rintro e w5 h5
      obtain ⟨A5, c5, rfl, hr5, hr6, hb5⟩ := HFIN.out e w5 h5
      have HN := cover hb5
      have hI5 := ints_any A5 A k k c5 cap _ _ (l.take k) (l.take k) w5 hr5 hr6 (by have := HK.out; omega) (by have := HK.out; omega)
      have HI5 := cover hI5
      have hkj : (k : Int) ≤ (j : Int) := by have := HK.out; omega
      clear h5 hb5 hr5 hr6 hI5
      by_cases hnj : (n : Int) < (j : Int)
      · obtain rfl : k = n := by have := HK.out; omega
        go_wp2_with fail
        refine HI5.out.mono ?_
        rintro e w6 ⟨he, d, rfl⟩
        obtain rfl : e = .returned (.bool true) := by rw [he]; simp
        clear he
        go_wp2
        go_ret
        exact ⟨rfl, below_drewN HN.out d⟩
      · obtain rfl : k = j := by have := HK.out; omega
        go_wp2_with fail
        refine HI5.out.mono ?_
        rintro e w6 ⟨he, d, rfl⟩
        obtain rfl : e = .returned (.bool true) := by rw [he]; simp
        clear he
        go_wp2
        go_ret
        exact ⟨rfl, below_drewN HN.out d⟩

set_option maxRecDepth 100000 in
theorem walk_QueueWalks (A : Option Addr) (len cap : Nat) (l : List Int) (st ch : Int) (w : World) (hlc : len ≤ cap) (hcm : cap ≤ maxLen) (hr : RowK .i64 w w.heap.size A len l) (hb : ∀ x ∈ l, (Lit.int .i64 x).wf = true) (h1 : (Lit.int .u8 st).wf = true) (h2 : (Lit.int .u8 ch).wf = true) :
    Calls Try.prog 6 #[.slice A len cap, .int .u8 st, .int .u8 ch] w fun e w' => e = .returned (.bool true) ∧ Below w.heap.size w w' := by
  unfold maxLen at hcm
  by_cases hl : 60 < len
  · clear hr hb h1 h2
    go_enter Try.func6, Try.ntmps6
    go_wp2_with fail
    refine (awake_any w).mono ?_
    rintro e w0 ⟨rfl, hb0⟩
    go_wp2
    go_ret
    exact ⟨rfl, hb0⟩
  have hmin : IntKind.u8.min = 0 := rfl
  have hmax : IntKind.u8.max = 255 := rfl
  simp only [Lit.wf, Bool.and_eq_true, decide_eq_true_eq] at h1 h2
  obtain ⟨a, rfl⟩ : ∃ a : Nat, (a : Int) = st := ⟨st.toNat, by omega⟩
  obtain ⟨b, rfl⟩ : ∃ b : Nat, (b : Int) = ch := ⟨ch.toNat, by omega⟩
  exact walks_in A len cap l a b w hlc (by omega) (by omega) hr (by omega) (by omega)
end Go.Proofs.Ythfmkhjafkhpdaa
