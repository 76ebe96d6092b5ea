/- The walk of LanFan. -/
import Derived.Deep.CutBlock
import Derived.Deep.DeepCutAuto
import Derived.Test.YtjidhpmjdhjciaaFFan
import Derived.Test.YtjidhpmjdhjciaaFDeed
import Derived.Test.YtjidhpmjdhjciaaFRowH
namespace Go.Proofs.Ytjidhpmjdhjciaa
open Go.RowKit
set_option linter.unusedVariables false

set_option maxRecDepth 100000 in
set_option maxHeartbeats 6400000 in
theorem fan_walk (n0 n1 n2 t0 t1 t2 t3 t4 t5 : Int) (A : Option Addr) (m c : Nat) (b : List Int) (w : World) (hn0 : 0 ≤ n0 ∧ n0 ≤ 255) (hn1 : 0 ≤ n1 ∧ n1 ≤ 255) (ht : Bts [t0, t1, t2, t3, t4, t5]) (hm : m ≤ 100) (hmc : m ≤ c) (hr : Row w w.heap.size A m b) (hb : Bts b) (hnil : A = none → c = 0) :
    Calls Try.prog 7 #[.agg #[.int .u8 n0, .int .u8 n1, .int .u8 n2], .agg #[.int .u8 t0, .int .u8 t1, .int .u8 t2, .int .u8 t3, .int .u8 t4, .int .u8 t5], .slice A m c] w fun e w' => e = .returned (.bool true) ∧ Below w.heap.size w w' := by
  obtain ⟨i0, hi, hz0, hz1, hz2⟩ := info_parts u8_info
  obtain ⟨g, hg⟩ : ∃ g, g = w.heap.size := ⟨_, rfl⟩
  obtain ⟨w1, hw1⟩ : ∃ w1, w1 = (w.alloc (.cells #[.int .u8 n0, .int .u8 n1, .int .u8 n2] 56)).alloc (.cells #[.int .u8 t0, .int .u8 t1, .int .u8 t2, .int .u8 t3, .int .u8 t4, .int .u8 t5] 58) := ⟨_, rfl⟩
  have hb1 : Below w.heap.size w w1 := by rw [hw1]; exact ((Below.refl _ _).alloc (Nat.le_refl _) _).alloc (by simp) _
  have hs1 : w1.heap.size = w.heap.size + 1 + 1 := by rw [hw1]; simp
  have hk0 : w1.heap[w.heap.size]? = some (.cells #[.int .u8 n0, .int .u8 n1, .int .u8 n2] 56 (0, 0)) := by
    rw [hw1]
    have h2 := heap_alloc_new w (.cells #[.int .u8 n0, .int .u8 n1, .int .u8 n2] 56)
    have h3 : Below (w.heap.size + 1) (w.alloc (.cells #[.int .u8 n0, .int .u8 n1, .int .u8 n2] 56)) ((w.alloc (.cells #[.int .u8 n0, .int .u8 n1, .int .u8 n2] 56)).alloc (.cells #[.int .u8 t0, .int .u8 t1, .int .u8 t2, .int .u8 t3, .int .u8 t4, .int .u8 t5] 58)) := (Below.refl _ _).alloc (by simp) _
    exact (h3.block _ (Nat.lt_succ_self _)).trans h2
  have hk1 : w1.heap[w.heap.size + 1]? = some (.cells #[.int .u8 t0, .int .u8 t1, .int .u8 t2, .int .u8 t3, .int .u8 t4, .int .u8 t5] 58 (0, 0)) := by
    rw [hw1]
    have h2 := heap_alloc_new (w.alloc (.cells #[.int .u8 n0, .int .u8 n1, .int .u8 n2] 56)) (.cells #[.int .u8 t0, .int .u8 t1, .int .u8 t2, .int .u8 t3, .int .u8 t4, .int .u8 t5] 58)
    have h3 : (w.alloc (.cells #[.int .u8 n0, .int .u8 n1, .int .u8 n2] 56)).heap.size = w.heap.size + 1 := by simp
    rw [h3] at h2; exact h2
  have HB1 := cover (And.intro hb1 (And.intro hs1 (And.intro hk0 hk1)))
  have HR := cover (And.intro hr (And.intro hb (And.intro ht hnil)))
  clear hb1 hs1 hk0 hk1 hr hb ht hnil
  go_enter Try.func7, Try.ntmps7
  go_wp2_with fail
  rw [← hw1, ← hg]
  have HW1 := cover hw1
  have HG := cover hg
  clear hw1 hg
  refine (awake_any w1).mono ?_
  rintro e w2 ⟨rfl, hb2⟩
  have hlt : g < w1.heap.size ∧ g + 1 < w1.heap.size := by have := HB1.out.2.1; have := HG.out; omega
  have q0 : w2.cell? ⟨g, 0, none⟩ = some (.int .u8 n0) := by
    rw [hb2.cell (p := ⟨g, 0, none⟩) hlt.1, HG.out, cell_of_row _ _ _ _ _ _ HB1.out.2.2.1]; rfl
  have H2 := cover hb2
  clear hb2
  obtain ⟨n, hn⟩ : ∃ n : Nat, 1 + n0 % 16 = (n : Int) := ⟨(1 + n0 % 16).toNat, by omega⟩
  have hn16 : 1 ≤ n ∧ n ≤ 16 := by omega
  have hm1 : ¬ (100 : Int) < (m : Int) := by omega
  go_wp2_with fail
  clear hn q0
  refine (new_has (W := w1) n 3 9 H2.out hn16 (by decide) (by decide)).mono ?_
  rintro e w3 ⟨l, rfl, H3⟩
  have q1 : w3.cell? ⟨g, 1, none⟩ = some (.int .u8 n1) := by
    rw [H3.out.bel.cell (p := ⟨g, 1, none⟩) hlt.1, HG.out, cell_of_row _ _ _ _ _ _ HB1.out.2.2.1]; rfl
  obtain ⟨f, hf⟩ : ∃ f : Nat, n1 % (n : Int) = (f : Int) := ⟨(n1 % (n : Int)).toNat, by have := Int.emod_nonneg n1 (show (n : Int) ≠ 0 by omega); omega⟩
  have hfn : f < n := by have := Int.emod_lt_of_pos n1 (show (0 : Int) < (n : Int) by omega); omega
  have s6 : Row (w3.alloc (.cells #[] 5)) (g + 2) (some ⟨g + 1, 0, none⟩) 6 [t0, t1, t2, t3, t4, t5] := by
    have h1 : Six w1 (g + 1) 0 [t0, t1, t2, t3, t4, t5] := fun j hj => by
      rw [HG.out, cell_of_row _ _ _ _ _ _ HB1.out.2.2.2]
      match j, hj with
      | 0, _ | 1, _ | 2, _ | 3, _ | 4, _ | 5, _ => rfl
      | j + 6, h => simp at h; omega
    have h2 : Six (w3.alloc (.cells #[] 5)) (g + 1) 0 [t0, t1, t2, t3, t4, t5] := h1.below (H3.out.bel.alloc H3.out.siz _) hlt.2
    exact row_of_six h2 (by omega)
  have S6 := cover s6
  have RB := cover ((HR.out.1.below HB1.out.1).below (by have := H3.out.bel; exact this.mono (by have := HB1.out.2.1; omega)))
  have hs3 := H3.out.siz
  have own0 := cover (World.ownsRow_made (base := w3.heap.size) (e := 5) (size := 1) w3 #[] 0 (Nat.le_refl _) (by unfold maxLen; omega) rfl)
  have hgw := HB1.out.2.1
  clear s6
  go_wp2_with (at_builtin; refine append_row rfl _ _ 28 rfl w3.heap.size 5 i0 (.int .u8 0) 1 Try.underlying28 hi hz0 hz1 hz2 rfl _ 0 [] rfl own0.out (g + 2) _ 6 6 [t0, t1, t2, t3, t4, t5] rfl S6.out (fun h => by cases h) (by unfold maxLen; omega) (by omega) (by simp) ?_)
  intro v4 w4 hown4 hg4
  have hb4 : Below w3.heap.size w3 w4 := ((Below.refl w3.heap.size w3).alloc (Nat.le_refl _) (.cells #[] 5)).grown hg4 (by simp) (fun k hk => (own0.out.lt k hk).1)
  have HB4 := cover hb4
  have hs4 := hb4.size
  have HO4 := cover hown4
  have RB4 := cover (RB.out.below (hb4.mono (by omega)))
  have hnil := HR.out.2.2.2
  clear hown4 hg4 hb4 S6 RB
  go_wp2_with (at_builtin; refine append_row rfl _ _ 28 rfl w3.heap.size 5 i0 (.int .u8 0) 1 Try.underlying28 hi hz0 hz1 hz2 rfl _ _ _ rfl HO4.out w.heap.size A m c b rfl RB4.out hnil (by unfold maxLen; omega) (by omega) (by omega) ?_)
  intro v5 w5 hown5 hg5
  have hb5 : Below w3.heap.size w3 w5 := HB4.out.grown hg5 (by omega) (fun k hk => (HO4.out.lt k hk).1)
  have hlb : b.length = m := RB4.out.len
  obtain ⟨F, hF⟩ : ∃ F, F = [t0, t1, t2, t3, t4, t5] ++ b := ⟨_, rfl⟩
  have hFl : F.length = 6 + m := by rw [hF, List.length_append, hlb]; rfl
  have hFb : Bts F := by
    intro y hy; rw [hF] at hy
    rcases List.mem_append.1 hy with hy | hy
    · exact HR.out.2.2.1 y hy
    · exact HR.out.2.1 y hy
  have hFn : numB F = num6 [t0, t1, t2, t3, t4, t5] t5 := by rw [hF]; rfl
  have hown : OwnB w5 w3.heap.size v5 F := by
    unfold OwnB
    rw [hFl, hF, List.map_append]
    simpa using hown5
  obtain ⟨A5, c5, hv5, _⟩ := own_shape hown
  obtain ⟨ys, ky, py⟩ := kept_of_own (own_base (by rw [← hv5]; exact hown) (Nat.zero_le _) : OwnB w5 0 (.slice A5 F.length c5) F)
  have hcap : F.length ≤ c5 := own_cap6 (by rw [← hv5]; exact hown)
  have HL5 := cover (H3.out.keep_more hb5 (ys := ys) (fun p hp => ⟨(py p hp).1, by
    have := hown.lt p.1 (by rw [hv5]; exact (py p hp).2); exact this.1⟩))
  have KF : Hid (Kept2 w1 (ys ++ []) A5 F.length F) := cover (fun W _ hp => ky W (fun p hp' => hp p (List.mem_append_left _ hp')))
  have HFB := cover (And.intro hFb (And.intro hFn hFl))
  subst hv5
  obtain ⟨fl, hfl⟩ : ∃ fl, fl = F.length := ⟨_, rfl⟩
  have hfl6 : 6 ≤ fl ∧ fl ≤ 106 := by rw [hfl, hFl]; omega
  rw [← hfl] at hcap KF ⊢
  have HFL := cover hfl
  clear hown5 hg5 hb5 hlb hF hFl hFb hFn hown ky py hfl HO4 RB4 own0 hnil H3 HB4 q1
  have hput := put_has HL5.out f A5 fl c5 F KF.out (by omega) (by show (0 : Nat) ≤ _; omega) (by show (0 : Nat) ≤ _; omega) HFB.out.1 hcap
  obtain ⟨p1, p2, p3, p4, p5⟩ := fan_put n f hn16.2 hfn F (by rw [← HFL.out]; omega)
  rw [HFB.out.2.1] at p1 p3
  obtain ⟨s1, hs1⟩ : ∃ s1, s1 = (putR (LS.fresh n 3 9) f F).1 := ⟨_, rfl⟩
  obtain ⟨x, hx⟩ : ∃ x, x = num6 [t0, t1, t2, t3, t4, t5] t5 := ⟨_, rfl⟩
  rw [← hs1] at hput p1 p2 p4 p5
  rw [p3] at hput
  rw [← hx] at p1 hput
  have HP := cover (And.intro p1 (And.intro p2 (And.intro p4 p5)))
  have HX := cover hx
  have hwl := wantTo_le n f x n
  clear p1 p2 p3 p4 p5 hs1 hx HL5
  go_wp2_with fail
  clear hf
  refine hput.mono ?_
  rintro e w6 ⟨rfl, H6⟩
  clear hput
  obtain ⟨kp, hkp⟩ : ∃ kp, kp = wantTo n f x n := ⟨_, rfl⟩
  rw [← hkp] at hwl ⊢
  have HKP := cover hkp
  clear hkp
  go_wp2_with fail
  go_loopw [13, 14] (fun v i wr => ∃ j : Nat, j ≤ n ∧ v = .int .i64 (wantTo n f x j) ∧ i = .int .i64 j ∧ Hid (LHas w1 (ys ++ []) l s1 wr)) (fun _ i _ => n - (intOf i).toNat)
  case atStart => exact ⟨0, Nat.zero_le _, rfl, rfl, H6⟩
  case round =>
    clear H6
    obtain ⟨j, hj, rfl, rfl, hrel⟩ := hrel
    have hwj := wantTo_le n f x j
    by_cases hjn : j < n
    · have hjni : (j : Int) < (n : Int) := by omega
      have hrow := HP.out.1 j hjn
      have hR := row_has hrel.out f j (by rw [HP.out.2.2.2]; decide) (fun y hy => by
        rw [hrow] at hy
        split at hy
        · simp at hy; subst hy; show F.length ≤ _; rw [← HFL.out]; omega
        · cases hy)
      rw [hrow] at hR
      have HH : Hid (wantTo n f x (j + 1) = wantTo n f x j + (hearsB n f x j).toNat) := cover rfl
      obtain ⟨hb, hhb⟩ : ∃ hb, hb = hearsB n f x j := ⟨_, rfl⟩
      rw [← hhb] at hR HH
      have HHB := cover hhb
      obtain ⟨R, hRr⟩ : ∃ R : List (List Int × Nat), R = (if hb = true then [(F, 0)] else []) := ⟨_, rfl⟩
      rw [← hRr] at hR
      obtain ⟨rl, hrl⟩ : ∃ rl, rl = R.length := ⟨_, rfl⟩
      rw [← hrl] at hR
      have HRR := cover (And.intro hRr hrl)
      clear hrel hrow hhb hRr hrl
      go_wp2_with fail
      refine hR.mono ?_
      rintro e w8 ⟨A8, c8, rfl, H8⟩
      clear hR
      have t0' : ∀ o, w8.cell? ⟨g + 1, o, none⟩ = (#[(.int .u8 t0 : Value), .int .u8 t1, .int .u8 t2, .int .u8 t3, .int .u8 t4, .int .u8 t5])[o]? := fun o => by
        rw [H8.out.2.bel.cell (p := ⟨g + 1, o, none⟩) hlt.2, HG.out, cell_of_row _ _ _ _ _ _ HB1.out.2.2.2]
      have u0 : w8.cell? ⟨g + 1, 0, none⟩ = some (.int .u8 t0) := t0' 0
      have u1 : w8.cell? ⟨g + 1, 1, none⟩ = some (.int .u8 t1) := t0' 1
      have u2 : w8.cell? ⟨g + 1, 2, none⟩ = some (.int .u8 t2) := t0' 2
      have u3 : w8.cell? ⟨g + 1, 3, none⟩ = some (.int .u8 t3) := t0' 3
      have u4 : w8.cell? ⟨g + 1, 4, none⟩ = some (.int .u8 t4) := t0' 4
      have u5 : w8.cell? ⟨g + 1, 5, none⟩ = some (.int .u8 t5) := t0' 5
      clear t0'
      have ht5 := HR.out.2.2.1 t5 (by simp)
      have hnum := ref_number_any t0 t1 t2 t3 t4 t5 ht5.1 (by omega) w8
      rw [← HX.out] at hnum
      clear ht5
      go_wp2_with fail
      refine hnum.mono ?_
      rintro e w9 ⟨rfl, hb9⟩
      have H9 := cover (And.intro (H8.out.1.below hb9) (H8.out.2.below hb9))
      clear hnum hb9 H8 u0 u1 u2 u3 u4 u5
      go_upto_region 18 with fail
      go_cut [17] (fun v wx => v = .bool hb ∧ wx = w9)
      case first =>
        by_cases z1 : j = f
        · subst z1
          go_wp2_with fail
          go_meet
          exact ⟨by rw [HHB.out]; simp [hearsB], rfl⟩
        · have z1' : ¬ (j : Int) = (f : Int) := by omega
          have z1b : ((j : Int) == (f : Int)) = false := by simp; omega
          by_cases z2 : x = (f : Int)
          · subst z2
            go_wp2_with fail
            go_meet
            exact ⟨by rw [HHB.out]; simp [hearsB], rfl⟩
          · have z2b : (x == (f : Int)) = false := by simpa using z2
            by_cases z3 : x = (j : Int)
            · subst z3
              go_wp2_with fail
              go_meet
              exact ⟨by rw [HHB.out]; simp [hearsB, z1, z1'], rfl⟩
            · have z3b : (x == (j : Int)) = false := by simpa using z3
              by_cases z4 : x < 0
              · go_wp2_with fail
                go_meet
                exact ⟨by rw [HHB.out]; simp [hearsB, z1, z2, z4]; omega, rfl⟩
              · by_cases z5 : (n : Int) ≤ x
                · go_wp2_with fail
                  go_meet
                  exact ⟨by rw [HHB.out]; simp [hearsB, z1, z2, z5]; omega, rfl⟩
                · go_wp2_with fail
                  go_meet
                  exact ⟨by rw [HHB.out]; simp [hearsB, z3, z4, z5], rfl⟩
      case rest =>
        obtain ⟨rfl, rfl⟩ := hcut
        obtain ⟨h9, h9'⟩ := H9.out
        rcases hb with _ | _
        · obtain ⟨rfl, rfl⟩ : R = [] ∧ rl = 0 := by obtain ⟨a1, a2⟩ := HRR.out; simp at a1; subst a1; exact ⟨rfl, a2⟩
          have HN := cover h9'
          have HW : Hid (wantTo n f x (j + 1) = wantTo n f x j) := cover (by rw [HH.out]; rfl)
          clear h9 h9' H9 HRR HH
          go_wp2
          go_roundw
          case rel => exact ⟨j + 1, by omega, by rw [HW.out], by go_num, HN⟩
          case measure => simp [intOf]; omega
        · obtain ⟨rfl, rfl⟩ : R = [(F, 0)] ∧ rl = 1 := by obtain ⟨a1, a2⟩ := HRR.out; simp at a1; subst a1; exact ⟨rfl, a2⟩
          obtain ⟨g0, B0, d0, rfl, hg0, k0, _, r0⟩ := h9.at_ 0 (F, 0) rfl
          simp at k0
          rw [← HFL.out] at k0
          have hfr := h9'.kept2 KF.out
          rw [← HFL.out] at r0
          have hsm := same_yes (c := d0) (c' := c5) r0 hfr (by omega) rfl
          have HN := cover h9'
          have HW : Hid (wantTo n f x (j + 1) = wantTo n f x j + 1) := cover (by rw [HH.out]; rfl)
          clear h9 h9' H9 HRR HH r0 hfr
          go_wp2_with fail
          refine hsm.mono ?_
          rintro e w10 ⟨rfl, d10, hw10⟩
          have HN10 : Hid (LHas w1 (ys ++ []) l s1 w10) := cover (by rw [hw10]; exact HN.out.drewN _)
          clear hw10 hsm HN k0
          go_wp2
          go_roundw
          case rel => exact ⟨j + 1, by omega, by rw [HW.out]; go_num, by go_num, HN10⟩
          case measure => simp [intOf]; omega
    · obtain rfl : n = j := by omega
      have hkk : Hid (wantTo n f x n = kp) := cover HKP.out.symm
      rw [hkk.out]
      have hP2 := put_has hrel.out (-1) A5 fl c5 F KF.out (by omega) (by rw [HP.out.2.2.2]; omega) (by rw [HP.out.2.1]; omega) HFB.out.1 hcap
      rw [put_from_no] at hP2
      have h5c : 5 ≤ c5 := by omega
      go_wp2_with fail
      refine (put_short (l := l) (c := c5) (A := A5) (f : Int) (show 5 < 6 by decide)).mono ?_
      rintro e w' ⟨rfl, rfl⟩
      go_wp2_with fail
      refine hP2.mono ?_
      rintro e w11 ⟨rfl, H11⟩
      have HF := cover (HB1.out.1.trans (H11.out.bel.mono HB1.out.1.size))
      clear H11 hP2 hrel
      go_wp2
      go_ret
      exact ⟨rfl, HF.out⟩
theorem walk_LanFan3 (n0 n1 n2 t0 t1 t2 t3 t4 t5 : Int) (A : Option Addr) (m c : Nat) (b : List Int) (w : World) (hn : Bts [n0, n1, n2]) (ht : Bts [t0, t1, t2, t3, t4, t5]) (hmc : m ≤ c) (hcm : c ≤ maxLen) (hr : Row w w.heap.size A m b ∧ Bts b ∧ (A = none → c = 0)) :
    Calls Try.prog 7 #[.agg #[.int .u8 n0, .int .u8 n1, .int .u8 n2], .agg #[.int .u8 t0, .int .u8 t1, .int .u8 t2, .int .u8 t3, .int .u8 t4, .int .u8 t5], .slice A m c] w fun e w' => e = .returned (.bool true) ∧ Below w.heap.size w w' := by
  have hn0 := hn n0 (by simp)
  have hn1 := hn n1 (by simp)
  by_cases hm : m ≤ 100
  · exact fan_walk n0 n1 n2 t0 t1 t2 t3 t4 t5 A m c b w hn0 hn1 ht hm hmc hr.1 hr.2.1 hr.2.2
  · have hm1 : (100 : Int) < (m : Int) := by omega
    clear hr ht hn
    unfold maxLen at hcm
    obtain ⟨g, hg⟩ : ∃ g, g = w.heap.size := ⟨_, rfl⟩
    obtain ⟨w1, hw1⟩ : ∃ w1, w1 = (w.alloc (.cells #[.int .u8 n0, .int .u8 n1, .int .u8 n2] 56)).alloc (.cells #[.int .u8 t0, .int .u8 t1, .int .u8 t2, .int .u8 t3, .int .u8 t4, .int .u8 t5] 58) := ⟨_, rfl⟩
    have hb1 : Below w.heap.size w w1 := by rw [hw1]; exact ((Below.refl _ _).alloc (Nat.le_refl _) _).alloc (by simp) _
    have hs1 : w1.heap.size = w.heap.size + 1 + 1 := by rw [hw1]; simp
    have q0 : w1.cell? ⟨g, 0, none⟩ = some (.int .u8 n0) := by
      rw [hg, hw1]
      have h2 := heap_alloc_new w (.cells #[.int .u8 n0, .int .u8 n1, .int .u8 n2] 56)
      have h3 : Below (w.heap.size + 1) (w.alloc (.cells #[.int .u8 n0, .int .u8 n1, .int .u8 n2] 56)) ((w.alloc (.cells #[.int .u8 n0, .int .u8 n1, .int .u8 n2] 56)).alloc (.cells #[.int .u8 t0, .int .u8 t1, .int .u8 t2, .int .u8 t3, .int .u8 t4, .int .u8 t5] 58)) := (Below.refl _ _).alloc (by simp) _
      rw [cell_of_row _ _ _ _ _ _ ((h3.block _ (Nat.lt_succ_self _)).trans h2)]; rfl
    have hlt : g < w1.heap.size := by omega
    go_enter Try.func7, Try.ntmps7
    go_wp2_with fail
    rw [← hw1, ← hg]
    clear hw1
    refine (awake_any w1).mono ?_
    rintro e w2 ⟨rfl, hb2⟩
    have q2 : w2.cell? ⟨g, 0, none⟩ = some (.int .u8 n0) := (hb2.cell (p := ⟨g, 0, none⟩) hlt).trans q0
    have HF := cover (hb1.trans (hb2.mono hb1.size))
    clear hb1 hb2 q0 hs1 hg
    go_wp2
    go_ret
    exact ⟨rfl, HF.out⟩
end Go.Proofs.Ytjidhpmjdhjciaa
