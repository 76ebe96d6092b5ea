/- The walk of MacTakes. -/
import Derived.Test.YtbpmhfekjihhhaaMAwake
import Derived.Test.YtbpmhfekjihhhaaMRTake
import Derived.Deep.RegionHeld3
namespace Go.Proofs.Ytbpmhfekjihhhaa
open Go.RowKit
set_option linter.unusedVariables false
attribute [local go_sem] run_eq6

/-- a byte -/
def Byt (x : Int) : Prop := 0 ≤ x ∧ x ≤ 255
/-- a contract, asked some time behind world W0 where something holds on -/
theorem from_kept {P : World → Prop} {f : Nat} {args : Array Value} {x : Ending} (W0 : World) (hP : P W0) (hk : ∀ W W', P W → Below W0.heap.size W W' → P W') (h : ∀ W, P W → W0.heap.size ≤ W.heap.size → Calls Try.prog f args W fun e w' => e = x ∧ Below W.heap.size W w') :
    ∀ W', Below W0.heap.size W0 W' → Calls Try.prog f args W' fun e w' => e = x ∧ Below W0.heap.size W0 w' :=
  fun W' hb => (h W' (hk W0 W' hP hb) hb.size).mono fun _ _ ⟨he, hb'⟩ => ⟨he, hb.trans (hb'.mono hb.size)⟩

set_option maxRecDepth 100000 in
set_option maxHeartbeats 3200000 in
theorem takes_in (m0 m1 m2 m3 m4 m5 : Int) (A : Option Addr) (n c : Nat) (gs : List (List Int)) (t0 t1 t2 t3 t4 t5 N : Int) (w w2 : World) (hr : AdrsB w2 w.heap.size A n gs) (hn : n ≤ 40) (h4 : Byt t4) (h5 : Byt t5) (hN : t5 + t4 * 7 - 3 = N) (S : Value)
    (hw2 : Hid (w2 = (w.alloc (.cells #[.int .u8 m0, .int .u8 m1, .int .u8 m2, .int .u8 m3, .int .u8 m4, .int .u8 m5] 33)).alloc (.cells #[.int .u8 t0, .int .u8 t1, .int .u8 t2, .int .u8 t3, .int .u8 t4, .int .u8 t5] 33))) (HB : Hid (Boxed w w2 [m0, m1, m2, m3, m4, m5] [t0, t1, t2, t3, t4, t5])) (s0 s1 s2 s3 s4 s5 : Int) (hS : S = .agg #[.int .u8 s0, .int .u8 s1, .int .u8 s2, .int .u8 s3, .int .u8 s4, .int .u8 s5])
    (hs1 : ∀ W, Calls Try.prog 18 #[.int .i64 N] W fun e w' => e = .returned S ∧ Below W.heap.size W w')
    (hs2 : ∀ W, Calls Try.prog 29 #[.int .i64 N] W fun e w' => e = .returned S ∧ Below W.heap.size W w') :
    Calls Try.prog 6 #[.agg #[.int .u8 m0, .int .u8 m1, .int .u8 m2, .int .u8 m3, .int .u8 m4, .int .u8 m5], .slice A n c, .agg #[.int .u8 t0, .int .u8 t1, .int .u8 t2, .int .u8 t3, .int .u8 t4, .int .u8 t5]] w fun e w' => e = .returned (.bool true) ∧ Below w.heap.size w w' := by
  subst hS
  have hn' : ¬ ((40 : Int) < (n : Int)) := by omega
  obtain ⟨b40, b41⟩ := h4
  obtain ⟨b50, b51⟩ := h5
  have hc0 := HB.out.all (Below.refl _ _)
  have HR := cover hr
  have HS1 := cover hs1
  have HS2 := cover hs2
  have hsz := HB.out.siz
  clear hr hs1 hs2
  go_enter Try.func6, Try.ntmps6
  go_wp2_with fail
  rw [← hw2.out]
  refine (awake_any w2).mono ?_
  rintro e w3 ⟨rfl, hb3⟩
  have hs3 := hb3.size
  have hc3 := HB.out.all hb3
  have H3 := cover (HB.out.bel.trans (hb3.mono (by omega)))
  have HR3 := cover (HR.out.below (hb3.mono (by omega)))
  have HB3 : Hid (∀ W', Below w3.heap.size w3 W' → (World.cell? W' ⟨w.heap.size, 0, none⟩ = some (.int .u8 m0) ∧ World.cell? W' ⟨w.heap.size, 1, none⟩ = some (.int .u8 m1) ∧ World.cell? W' ⟨w.heap.size, 2, none⟩ = some (.int .u8 m2) ∧ World.cell? W' ⟨w.heap.size, 3, none⟩ = some (.int .u8 m3) ∧ World.cell? W' ⟨w.heap.size, 4, none⟩ = some (.int .u8 m4) ∧ World.cell? W' ⟨w.heap.size, 5, none⟩ = some (.int .u8 m5)) ∧ (World.cell? W' ⟨(w.heap.size + 1), 0, none⟩ = some (.int .u8 t0) ∧ World.cell? W' ⟨(w.heap.size + 1), 1, none⟩ = some (.int .u8 t1) ∧ World.cell? W' ⟨(w.heap.size + 1), 2, none⟩ = some (.int .u8 t2) ∧ World.cell? W' ⟨(w.heap.size + 1), 3, none⟩ = some (.int .u8 t3) ∧ World.cell? W' ⟨(w.heap.size + 1), 4, none⟩ = some (.int .u8 t4) ∧ World.cell? W' ⟨(w.heap.size + 1), 5, none⟩ = some (.int .u8 t5)) ∧ Below w3.heap.size w3 W') := cover (fun W' hb => ⟨(HB.out.all (hb3.trans (hb.mono hs3))).1, (HB.out.all (hb3.trans (hb.mono hs3))).2.1, hb⟩)
  obtain ⟨q, hq⟩ : ∃ q, Hid (takesB [m0, m1, m2, m3, m4, m5] gs [t0, t1, t2, t3, t4, t5] t0 = q) := ⟨_, cover rfl⟩
  obtain ⟨q2, hq2⟩ : ∃ q2, Hid (grp t0 = q2) := ⟨_, cover rfl⟩
  obtain ⟨k, hk⟩ : ∃ k, Hid (num6 [t0, t1, t2, t3, t4, t5] t5 = k) := ⟨_, cover rfl⟩
  have HT1 := cover (from_kept (P := fun W => AdrsB W w.heap.size A n gs) w3 HR3.out (fun W W' h hb => h.below (hb.mono (by omega))) (fun W h hs => takes_any m0 m1 m2 m3 m4 m5 A n c w.heap.size gs t0 t1 t2 t3 t4 t5 W h (by omega) (by omega)))
  have HT2 := cover (from_kept (P := fun W => AdrsB W w.heap.size A n gs) w3 HR3.out (fun W W' h hb => h.below (hb.mono (by omega))) (fun W h hs => ref_takes_any m0 m1 m2 m3 m4 m5 A n c w.heap.size gs t0 t1 t2 t3 t4 t5 W h (by omega) (by omega)))
  have HG1 := cover (from_below (group_any t0 t1 t2 t3 t4 t5) w3)
  have HG2 := cover (from_below (ref_group_any t0 t1 t2 t3 t4 t5) w3)
  have HN1 := cover (from_below (number_any t0 t1 t2 t3 t4 t5 b50 (by omega)) w3)
  have HN2 := cover (from_below (ref_number_any t0 t1 t2 t3 t4 t5 b50 (by omega)) w3)
  have HA1 := cover (from_below all_any w3)
  have HA2 := cover (from_below ref_all_any w3)
  have HS3 := cover (from_below HS1.out w3)
  have HS4 := cover (from_below HS2.out w3)
  rw [hq.out] at HT1 HT2
  rw [hq2.out] at HG1 HG2
  rw [hk.out] at HN1 HN2
  have qs := sameL_refl [s0, s1, s2, s3, s4, s5]
  have qa := sameL_refl [255, 255, 255, 255, 255, 255]
  have hc3a := hc3.1
  have hc3b := hc3.2.1
  clear hb3 hc0 hc3
  go_wp2_with fail
  go_region_held3 (fun W' => (World.cell? W' ⟨w.heap.size, 0, none⟩ = some (.int .u8 m0) ∧ World.cell? W' ⟨w.heap.size, 1, none⟩ = some (.int .u8 m1) ∧ World.cell? W' ⟨w.heap.size, 2, none⟩ = some (.int .u8 m2) ∧ World.cell? W' ⟨w.heap.size, 3, none⟩ = some (.int .u8 m3) ∧ World.cell? W' ⟨w.heap.size, 4, none⟩ = some (.int .u8 m4) ∧ World.cell? W' ⟨w.heap.size, 5, none⟩ = some (.int .u8 m5)) ∧ (World.cell? W' ⟨(w.heap.size + 1), 0, none⟩ = some (.int .u8 t0) ∧ World.cell? W' ⟨(w.heap.size + 1), 1, none⟩ = some (.int .u8 t1) ∧ World.cell? W' ⟨(w.heap.size + 1), 2, none⟩ = some (.int .u8 t2) ∧ World.cell? W' ⟨(w.heap.size + 1), 3, none⟩ = some (.int .u8 t3) ∧ World.cell? W' ⟨(w.heap.size + 1), 4, none⟩ = some (.int .u8 t4) ∧ World.cell? W' ⟨(w.heap.size + 1), 5, none⟩ = some (.int .u8 t5)) ∧ Below w3.heap.size w3 W') (first | exact HB3.out _ hbX | exact HB3.out _ (Below.refl _ _).drew)
    (first
      | (go_at_call 25; refine (HT1.out _ ?_).mono ?_; (go_split_ands; assumption); rintro e w1 ⟨rfl, hbX⟩)
      | (go_at_call 26; refine (HT2.out _ ?_).mono ?_; (go_split_ands; assumption); rintro e w1 ⟨rfl, hbX⟩)
      | (go_at_call 17; refine (HG1.out _ ?_).mono ?_; (go_split_ands; assumption); rintro e w1 ⟨rfl, hbX⟩)
      | (go_at_call 27; refine (HG2.out _ ?_).mono ?_; (go_split_ands; assumption); rintro e w1 ⟨rfl, hbX⟩)
      | (go_at_call 19; refine (HN1.out _ ?_).mono ?_; (go_split_ands; assumption); rintro e w1 ⟨rfl, hbX⟩)
      | (go_at_call 28; refine (HN2.out _ ?_).mono ?_; (go_split_ands; assumption); rintro e w1 ⟨rfl, hbX⟩)
      | (go_at_call 18; refine (HS3.out _ ?_).mono ?_; (go_split_ands; assumption); rintro e w1 ⟨rfl, hbX⟩)
      | (go_at_call 29; refine (HS4.out _ ?_).mono ?_; (go_split_ands; assumption); rintro e w1 ⟨rfl, hbX⟩)
      | (go_at_call 15; refine (HA1.out _ ?_).mono ?_; (go_split_ands; assumption); rintro e w1 ⟨rfl, hbX⟩)
      | (go_at_call 30; refine (HA2.out _ ?_).mono ?_; (go_split_ands; assumption); rintro e w1 ⟨rfl, hbX⟩))
  go_wp2
  go_ret
  exact ⟨rfl, H3.out.trans (hbX.mono H3.out.size)⟩
set_option maxRecDepth 100000 in
theorem takes_walk (m0 m1 m2 m3 m4 m5 : Int) (A : Option Addr) (n c : Nat) (gs : List (List Int)) (t0 t1 t2 t3 t4 t5 : Int) (w : World) (hr : AdrsB w w.heap.size A n gs) (h4 : Byt t4) (h5 : Byt t5) (hcm : n ≤ 9223372036854775807) :
    Calls Try.prog 6 #[.agg #[.int .u8 m0, .int .u8 m1, .int .u8 m2, .int .u8 m3, .int .u8 m4, .int .u8 m5], .slice A n c, .agg #[.int .u8 t0, .int .u8 t1, .int .u8 t2, .int .u8 t3, .int .u8 t4, .int .u8 t5]] w fun e w' => e = .returned (.bool true) ∧ Below w.heap.size w w' := by
  by_cases hn : n ≤ 40
  · by_cases h : 0 ≤ t5 + t4 * 7 - 3 ∧ t5 + t4 * 7 - 3 < 256
    · exact takes_in m0 m1 m2 m3 m4 m5 A n c gs t0 t1 t2 t3 t4 t5 (t5 + t4 * 7 - 3) w _ ((hr.alloc (Nat.le_refl _) _).alloc (by simp) _) hn h4 h5 rfl _ (cover rfl) (cover (boxed_two w m0 m1 m2 m3 m4 m5 t0 t1 t2 t3 t4 t5)) 2 0 0 0 0 (t5 + t4 * 7 - 3) rfl (fun W => station_in _ h.1 h.2 W) (fun W => ref_station_in _ h.1 h.2 W)
    · exact takes_in m0 m1 m2 m3 m4 m5 A n c gs t0 t1 t2 t3 t4 t5 (t5 + t4 * 7 - 3) w _ ((hr.alloc (Nat.le_refl _) _).alloc (by simp) _) hn h4 h5 rfl _ (cover rfl) (cover (boxed_two w m0 m1 m2 m3 m4 m5 t0 t1 t2 t3 t4 t5)) 0 0 0 0 0 0 rfl (fun W => station_out _ h W) (fun W => ref_station_out _ h W)
  · have hn' : (40 : Int) < (n : Int) := by omega
    obtain ⟨w2, hw2⟩ : ∃ w2, Hid (w2 = (w.alloc (.cells #[.int .u8 m0, .int .u8 m1, .int .u8 m2, .int .u8 m3, .int .u8 m4, .int .u8 m5] 33)).alloc (.cells #[.int .u8 t0, .int .u8 t1, .int .u8 t2, .int .u8 t3, .int .u8 t4, .int .u8 t5] 33)) := ⟨_, cover rfl⟩
    have H2 : Hid (Below w.heap.size w w2) := cover (by rw [hw2.out]; exact (boxed_two w m0 m1 m2 m3 m4 m5 t0 t1 t2 t3 t4 t5).bel)
    clear hr
    go_enter Try.func6, Try.ntmps6
    go_wp2_with fail
    rw [← hw2.out]
    refine (awake_any w2).mono ?_
    rintro e w3 ⟨rfl, hb3⟩
    have H3 := cover (H2.out.trans (hb3.mono H2.out.size))
    clear hb3
    go_wp2
    go_ret
    exact ⟨rfl, H3.out⟩
theorem walk_MacTakes (m0 m1 m2 m3 m4 m5 : Int) (A : Option Addr) (n c : Nat) (gs : List (List Int)) (t0 t1 t2 t3 t4 t5 : Int) (w : World) (_ : Bts [m0, m1, m2, m3, m4, m5]) (hlc : n ≤ c) (hcm : c ≤ maxLen) (hr : AdrsB w w.heap.size A n gs) (hb : Bts [t0, t1, t2, t3, t4, t5]) :
    Calls Try.prog 6 #[.agg #[.int .u8 m0, .int .u8 m1, .int .u8 m2, .int .u8 m3, .int .u8 m4, .int .u8 m5], .slice A n c, .agg #[.int .u8 t0, .int .u8 t1, .int .u8 t2, .int .u8 t3, .int .u8 t4, .int .u8 t5]] w fun e w' => e = .returned (.bool true) ∧ Below w.heap.size w w' :=
  takes_walk m0 m1 m2 m3 m4 m5 A n c gs t0 t1 t2 t3 t4 t5 w hr (hb t4 (by simp)) (hb t5 (by simp)) (by unfold maxLen at hcm; omega)
end Go.Proofs.Ytbpmhfekjihhhaa
