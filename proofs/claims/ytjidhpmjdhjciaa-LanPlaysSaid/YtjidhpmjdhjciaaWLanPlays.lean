/- The walk of LanPlays. -/
import Derived.Deep.Slices
import Derived.Deep.Matrix
import Derived.Test.YtjidhpmjdhjciaaOFrame
import Derived.Test.YtjidhpmjdhjciaaFRNew
namespace Go.Proofs.Ytjidhpmjdhjciaa
open Go.RowKit
set_option linter.unusedVariables false
set_option linter.unusedSimpArgs false

theorem hold_weaken {F : Fence} {n : Nat} {P : Program} {ops : Array Oper} {Q : Exit → Act → World → Prop} {md : Region.Mode} {S S' : World → Prop} {e : Nat} (hS : ∀ w, S' w → S w) : ∀ (fuel : Nat) (listed : Array Bool) (a : Act) (w : World), heldIn F n P md ops Q S' e fuel listed a w → heldIn F n P md ops Q S e fuel listed a w
  | 0, _, _, _, h => h
  | fuel + 1, _, _, _, h => ⟨h.1, fun i hi => wpOpIn_mono (fun a' w' h' => ⟨h'.1.imp id (hS w'), hold_weaken hS fuel _ a' w' h'.2⟩) (h.2 i hi)⟩
theorem told_small {s : LS} (h : Sm1 s) (f t : Int) : ∀ x ∈ told (theRow s f t), x.1.length ≤ 1000000 := fun x hx => by
  obtain ⟨y, hy, rfl⟩ := List.mem_map.1 hx
  have := (sm_row h f t y hy).1
  show y.1.length ≤ _; omega
set_option maxRecDepth 100000 in
set_option maxHeartbeats 12800000 in
theorem plays_walk (N M Fl : Nat) (A : Option Addr) (n c : Nat) (ds : List DV) (w : World) (hN : 1 ≤ N ∧ N ≤ 16) (hM : 1 ≤ M ∧ M ≤ 64) (hFl : 1 ≤ Fl ∧ Fl ≤ 10000) (hn : n ≤ 120) (hd : DeedsL w w.heap.size A n ds) (hok : ∀ q ∈ ds, DOk q) (hs : small ds) :
    Calls Try.prog 4 #[.agg #[.int .i64 N, .int .i64 M, .int .i64 Fl], .slice A n c] w fun e w' => e = .returned (.bool true) ∧ Below w.heap.size w w' := by
  have HD := cover (And.intro hd (And.intro hok hs))
  have HN := cover (And.intro hN (And.intro hM hFl))
  clear hd hok hs hM hFl
  obtain ⟨wb, hwb⟩ : ∃ wb, wb = w.alloc (.cells #[.int .i64 N, .int .i64 M, .int .i64 Fl] 34) := ⟨_, rfl⟩
  obtain ⟨bn, hbn⟩ : ∃ bn, bn = w.heap.size := ⟨_, rfl⟩
  have hbx : wb.heap[bn]? = some (.cells #[.int .i64 N, .int .i64 M, .int .i64 Fl] 34 (0, 0)) := by rw [hwb, hbn]; exact heap_alloc_new w _
  have hbb : Below w.heap.size w wb := by rw [hwb]; exact (Below.refl _ _).alloc (Nat.le_refl _) _
  have HBN := cover (And.intro hbn hbx)
  go_enter Try.func4, Try.ntmps4
  go_wp2_with fail
  rw [← hwb, ← hbn]
  clear hwb hbn
  refine (awake_any wb).mono ?_
  rintro e w0 ⟨rfl, hb0⟩
  have hx0 := (hb0.block bn (block_lt hbx)).trans hbx
  have H0 := cover (hbb.trans (hb0.mono hbb.size))
  clear hb0 hbx hbb
  have hroom := room_any (w := w0) (c := c) 120 (by omega) (by omega) (HD.out.1.below H0.out) true (by simp; exact HD.out.2.2)
  go_wp2_with fail
  refine hroom.mono ?_
  rintro e w' ⟨rfl, rfl⟩
  clear hroom
  have y0 : w0.cell? ⟨bn, 0, none⟩ = some (.int .i64 N) := by rw [cell_of_row _ _ _ _ _ _ hx0]; rfl
  have y1 : w0.cell? ⟨bn, 1, none⟩ = some (.int .i64 M) := by rw [cell_of_row _ _ _ _ _ _ hx0]; rfl
  have y2 : w0.cell? ⟨bn, 2, none⟩ = some (.int .i64 Fl) := by rw [cell_of_row _ _ _ _ _ _ hx0]; rfl
  have hnew := new_yes N M Fl w0 HN.out.1 HN.out.2.1 HN.out.2.2
  unfold MadeOut at hnew
  go_wp2_with fail
  refine hnew.mono ?_
  rintro e w1 ⟨l, S, rfl, hl1, hS1, hb1⟩
  clear hnew
  have hx1 := (hb1.block bn (block_lt hx0)).trans hx0
  have HL1 := cover (And.intro hl1 (And.intro hS1 hb1))
  clear y0 y1 y2 hl1 hS1 hb1
  have y0 : w1.cell? ⟨bn, 0, none⟩ = some (.int .i64 N) := by rw [cell_of_row _ _ _ _ _ _ hx1]; rfl
  have y1 : w1.cell? ⟨bn, 1, none⟩ = some (.int .i64 M) := by rw [cell_of_row _ _ _ _ _ _ hx1]; rfl
  have y2 : w1.cell? ⟨bn, 2, none⟩ = some (.int .i64 Fl) := by rw [cell_of_row _ _ _ _ _ _ hx1]; rfl
  have hrnew := rnew_yes N M Fl w1 HN.out.1 HN.out.2.1 HN.out.2.2
  go_wp2_with fail
  refine hrnew.mono ?_
  rintro e w2 ⟨r, rfl, T, HR⟩
  clear hrnew
  have HP : Hid (Pair w [(bn, .cells #[.int .i64 N, .int .i64 M, .int .i64 Fl] 34 (0, 0))] l r (LS.fresh N M Fl) w2) := cover (by
    obtain ⟨h1, h2, h3⟩ := HL1.out
    obtain ⟨k1, k2, k3⟩ := HR.out
    have hs0 := H0.out.size
    have hs1 := h3.size
    have hlt0 := block_lt hx0
    refine ⟨S, T, h1.below k3, k1, fun i hi ht => ?_, fun i hi => Nat.le_trans hs0 (h2 i hi), fun i hi => Nat.le_trans hs0 (Nat.le_trans hs1 (k2 i hi)), H0.out.trans ((h3.mono hs0).trans (k3.mono (Nat.le_trans hs0 hs1))), fun p hp => ?_⟩
    · have := h1.lt i hi; have := k2 i ht; omega
    · simp at hp; subst hp
      exact ⟨(k3.block _ (block_lt hx1)).trans hx1, fun hs => by have := h2 _ hs; omega, fun hs => by have := k2 _ hs; omega⟩)
  clear HL1 HR y0 y1 y2 hx1 hx0
  go_wp2_with fail
  go_loopw [9] (fun i wr => ∃ (k : Nat) (s : LS), k ≤ n ∧ i = .int .i64 k ∧ Hid (Pair w [(bn, .cells #[.int .i64 N, .int .i64 M, .int .i64 Fl] 34 (0, 0))] l r s wr ∧ FitT s k)) (fun i _ => n - (intOf i).toNat)
  case atStart => exact ⟨0, _, Nat.zero_le _, rfl, cover ⟨HP.out, fitT_fresh _ _ _ _⟩⟩
  case round =>
    clear HP
    obtain ⟨k, s, hk, rfl, hout⟩ := hrel
    by_cases hlt : k < n
    · obtain ⟨q, hq⟩ : ∃ q, ds[k]? = some q := ⟨_, List.getElem?_eq_getElem (by rw [HD.out.1.len]; exact hlt)⟩
      obtain ⟨ad, rfl, hc⟩ := HD.out.1.at_ k q hq
      have hqm := List.mem_of_getElem? hq
      obtain ⟨hf1, hf2, hf3, hf4, hf5, hf6⟩ := hout.out.1.facts
      have hstep := hout.out.2.step hf1 hf2 q ⟨HD.out.2.2 q hqm, (HD.out.2.1 q hqm).2.2.2.2.1⟩
      have HDO := cover (pair_do hout.out.1 q hc.row (Nat.le_refl _) (hout.out.2.fit hf4 (by omega)) (HD.out.2.1 q hqm) (HD.out.2.2 q hqm) hc.cap)
      have HDO : Hid (Calls Try.prog 21 #[ptr l, ptr r, .agg #[.int .i64 q.what, .int .i64 q.f, .int .i64 q.t, .int .i64 q.bit, .slice q.A q.b.length q.c]] wr.drew fun e w' => e = .returned (.bool true) ∧ Hid (Pair w [(bn, .cells #[.int .i64 N, .int .i64 M, .int .i64 Fl] 34 (0, 0))] l r (doS s q) w')) := cover (pair_do (hout.out.1.below (Below.refl _ _).drew) q hc.row (Nat.le_refl _) (hout.out.2.fit hf4 (by omega)) (HD.out.2.1 q hqm) (HD.out.2.2 q hqm) hc.cap)
      have hbel := hout.out.1.bel
      have HKW : Hid (∀ W', Below w.heap.size w W' → (fun W' : World => W'.cell? (ad.add (k * 5)) = some (.int .i64 q.what) ∧ W'.cell? (dcell ad k 1) = some (.int .i64 q.f) ∧ W'.cell? (dcell ad k 2) = some (.int .i64 q.t) ∧ W'.cell? (dcell ad k 3) = some (.int .i64 q.bit) ∧ W'.cell? (dcell ad k 4) = some (.slice q.A q.b.length q.c)) W') := cover fun W' hb => by
        have h9 := hc.below hb
        exact ⟨h9.c0, h9.c1, h9.c2, h9.c3, h9.c4⟩
      have HK : Hid (∀ W', Below wr.heap.size wr W' → (fun W' : World => W'.cell? (ad.add (k * 5)) = some (.int .i64 q.what) ∧ W'.cell? (dcell ad k 1) = some (.int .i64 q.f) ∧ W'.cell? (dcell ad k 2) = some (.int .i64 q.t) ∧ W'.cell? (dcell ad k 3) = some (.int .i64 q.bit) ∧ W'.cell? (dcell ad k 4) = some (.slice q.A q.b.length q.c)) W') := cover fun W' hb => HKW.out W' (hbel.trans (hb.mono hbel.size))
      have HFT : Hid ((doS s q).now ≤ 1000000 ∧ (∀ f t, ∀ x ∈ theRow (doS s q) f t, x.1.length ≤ 1000000) ∧ ∀ f t, ∀ x ∈ told (theRow (doS s q) f t), x.1.length ≤ 1000000) := cover ⟨by have := hstep.1.now; omega, fun f t x hx => by have := (sm_row hstep.1.sm f t x hx).1; omega  , fun f t => told_small hstep.1.sm f t⟩
      have HST := cover hstep.1
      have hk0 : (0 : Int) ≤ (k : Int) := by omega
      have hk1 : (k : Int) < (n : Int) := by omega
      obtain ⟨m1, m2, m3, m4, m5⟩ := HK.out wr (Below.refl _ _)
      clear hc hq hqm hf1 hf2 hf3 hf4 hf5 hf6 hstep hbel hout
      go_wp2_with fail
      have mixed : Try.prog.follows .mixedOrders = true := by kernel_rfl
      refine (wpIn_wide (n := 0)).1 ?_
      refine held_begin (fun W' : World => W'.cell? (ad.add (k * 5)) = some (.int .i64 q.what) ∧ W'.cell? (dcell ad k 1) = some (.int .i64 q.f) ∧ W'.cell? (dcell ad k 2) = some (.int .i64 q.t) ∧ W'.cell? (dcell ad k 3) = some (.int .i64 q.bit) ∧ W'.cell? (dcell ad k 4) = some (.slice q.A q.b.length q.c)) 99 mixed ?_
      have HS : (fun W' : World => W'.cell? (ad.add (k * 5)) = some (.int .i64 q.what) ∧ W'.cell? (dcell ad k 1) = some (.int .i64 q.f) ∧ W'.cell? (dcell ad k 2) = some (.int .i64 q.t) ∧ W'.cell? (dcell ad k 3) = some (.int .i64 q.bit) ∧ W'.cell? (dcell ad k 4) = some (.slice q.A q.b.length q.c)) wr.drew := HK.out _ (Below.refl _ _).drew
      refine hold_take 0 _ rfl (by kernel_rfl) (by kernel_rfl) (by kernel_rfl) (by kernel_rfl) (by kernel_rfl) (fun _ _ _ h => h) (by rfl) (fun _ => rfl) HS (fun w' hS => by obtain ⟨q0, q1, q2, q3, q4⟩ := hS; go_simp; rfl) ?_
      simp only [Act.put, List.setIfInBounds_toArray, List.set_cons_zero, List.set_cons_succ]
      refine hold_take 1 _ rfl (by kernel_rfl) (by kernel_rfl) (by kernel_rfl) (by kernel_rfl) (by kernel_rfl) (fun _ _ _ h => h) (by rfl) (fun _ => rfl) HS (fun w' hS => by obtain ⟨q0, q1, q2, q3, q4⟩ := hS; go_simp; rfl) ?_
      simp only [Act.put, List.setIfInBounds_toArray, List.set_cons_zero, List.set_cons_succ]
      refine hold_take 2 _ rfl (by kernel_rfl) (by kernel_rfl) (by kernel_rfl) (by kernel_rfl) (by kernel_rfl) (fun _ _ _ h => h) (by rfl) (fun _ => rfl) HS (fun w' hS => by obtain ⟨q0, q1, q2, q3, q4⟩ := hS; go_simp; rfl) ?_
      simp only [Act.put, List.setIfInBounds_toArray, List.set_cons_zero, List.set_cons_succ]
      refine hold_take 3 _ rfl (by kernel_rfl) (by kernel_rfl) (by kernel_rfl) (by kernel_rfl) (by kernel_rfl) (fun _ _ _ h => h) (by rfl) (fun _ => rfl) HS (fun w' hS => by obtain ⟨q0, q1, q2, q3, q4⟩ := hS; go_simp; rfl) ?_
      simp only [Act.put, List.setIfInBounds_toArray, List.set_cons_zero, List.set_cons_succ]
      refine hold_take 4 _ rfl (by kernel_rfl) (by kernel_rfl) (by kernel_rfl) (by kernel_rfl) (by kernel_rfl) (fun _ _ _ h => h) (by rfl) (fun _ => rfl) HS (fun w' hS => by obtain ⟨q0, q1, q2, q3, q4⟩ := hS; go_simp; rfl) ?_
      simp only [Act.put, List.setIfInBounds_toArray, List.set_cons_zero, List.set_cons_succ]
      refine hold_take 5 _ rfl (by kernel_rfl) (by kernel_rfl) (by kernel_rfl) (by kernel_rfl) (by kernel_rfl) (fun _ _ _ h => h) (by rfl) (fun _ => rfl) HS (fun w' hS => by obtain ⟨q0, q1, q2, q3, q4⟩ := hS; go_simp; rfl) ?_
      simp only [Act.put, List.setIfInBounds_toArray, List.set_cons_zero, List.set_cons_succ]
      refine hold_one 6 (by kernel_rfl) rfl (by rfl) fun K hK => ?_
      go_simp
      refine ⟨trivial, rfl, (callsIn_wide.2 (HDO.out)).mono ?_⟩
      rintro e w1 ⟨rfl, HP1⟩
      clear HDO
      have hb1 := HP1.out.bel
      have HS1 : (fun W' : World => W'.cell? (ad.add (k * 5)) = some (.int .i64 q.what) ∧ W'.cell? (dcell ad k 1) = some (.int .i64 q.f) ∧ W'.cell? (dcell ad k 2) = some (.int .i64 q.t) ∧ W'.cell? (dcell ad k 3) = some (.int .i64 q.bit) ∧ W'.cell? (dcell ad k 4) = some (.slice q.A q.b.length q.c)) w1 := HKW.out _ hb1
      refine hK _ _ (.inr HS1) ?_
      clear hK K
      obtain ⟨lo, hlo⟩ : ∃ lo, lo = (doS s q).lost := ⟨_, rfl⟩
      have hf1 := HP1.out.facts
      have hrl := hf1.2.2.2.2.2
      have hr3 := hf1.2.2.2.2.1
      rw [← hlo] at hr3
      have HLO := cover hlo
      have HK2 : Hid (∀ W', Below w1.heap.size w1 W' → (fun W' : World => W'.cell? (ad.add (k * 5)) = some (.int .i64 q.what) ∧ W'.cell? (dcell ad k 1) = some (.int .i64 q.f) ∧ W'.cell? (dcell ad k 2) = some (.int .i64 q.t) ∧ W'.cell? (dcell ad k 3) = some (.int .i64 q.bit) ∧ W'.cell? (dcell ad k 4) = some (.slice q.A q.b.length q.c) ∧ W'.cell? ⟨r, 3, none⟩ = some (.int .i64 (lo : Int))) W') := cover fun W' hb => by
        obtain ⟨k1, k2, k3, k4, k5⟩ := HKW.out W' (hb1.trans (hb.mono hb1.size))
        exact ⟨k1, k2, k3, k4, k5, (hb.cell (p := ⟨r, 3, none⟩) hrl).trans hr3⟩
      refine hold_weaken (S' := (fun W' : World => W'.cell? (ad.add (k * 5)) = some (.int .i64 q.what) ∧ W'.cell? (dcell ad k 1) = some (.int .i64 q.f) ∧ W'.cell? (dcell ad k 2) = some (.int .i64 q.t) ∧ W'.cell? (dcell ad k 3) = some (.int .i64 q.bit) ∧ W'.cell? (dcell ad k 4) = some (.slice q.A q.b.length q.c) ∧ W'.cell? ⟨r, 3, none⟩ = some (.int .i64 (lo : Int)))) (fun w h => ⟨h.1, h.2.1, h.2.2.1, h.2.2.2.1, h.2.2.2.2.1⟩) _ _ _ _ ?_
      have HT1 : (fun W' : World => W'.cell? (ad.add (k * 5)) = some (.int .i64 q.what) ∧ W'.cell? (dcell ad k 1) = some (.int .i64 q.f) ∧ W'.cell? (dcell ad k 2) = some (.int .i64 q.t) ∧ W'.cell? (dcell ad k 3) = some (.int .i64 q.bit) ∧ W'.cell? (dcell ad k 4) = some (.slice q.A q.b.length q.c) ∧ W'.cell? ⟨r, 3, none⟩ = some (.int .i64 (lo : Int))) w1 := HK2.out _ (Below.refl _ _)
      have hRow := pair_row HP1.out q.f q.t (HFT.out.1) (HFT.out.2.1 q.f q.t)
      have HPP := HP1
      have HLN := cover hf1.1
      clear hlo hf1 hrl hr3 hb1 HS1
      refine hold_take 7 (.bool false) rfl (by kernel_rfl) (by kernel_rfl) (by kernel_rfl) (by kernel_rfl) (by kernel_rfl) (fun _ _ _ h => h) (by rfl) (fun _ => rfl) HT1 (fun w' hS => by obtain ⟨q0, q1, q2, q3, q4, q5⟩ := hS; go_simp; skip) ?_
      simp only [Act.put, List.setIfInBounds_toArray, List.set_cons_zero, List.set_cons_succ]
      refine hold_take 8 _ rfl (by kernel_rfl) (by kernel_rfl) (by kernel_rfl) (by kernel_rfl) (by kernel_rfl) (fun _ _ _ h => h) (by rfl) (fun _ => rfl) HT1 (fun w' hS => by obtain ⟨q0, q1, q2, q3, q4, q5⟩ := hS; go_simp; rfl) ?_
      simp only [Act.put, List.setIfInBounds_toArray, List.set_cons_zero, List.set_cons_succ]
      refine hold_take 9 _ rfl (by kernel_rfl) (by kernel_rfl) (by kernel_rfl) (by kernel_rfl) (by kernel_rfl) (fun _ _ _ h => h) (by rfl) (fun _ => rfl) HT1 (fun w' hS => by obtain ⟨q0, q1, q2, q3, q4, q5⟩ := hS; go_simp; rfl) ?_
      simp only [Act.put, List.setIfInBounds_toArray, List.set_cons_zero, List.set_cons_succ]
      refine hold_take 10 _ rfl (by kernel_rfl) (by kernel_rfl) (by kernel_rfl) (by kernel_rfl) (by kernel_rfl) (fun _ _ _ h => h) (by rfl) (fun _ => rfl) HT1 (fun w' hS => by obtain ⟨q0, q1, q2, q3, q4, q5⟩ := hS; go_simp; rfl) ?_
      simp only [Act.put, List.setIfInBounds_toArray, List.set_cons_zero, List.set_cons_succ]
      refine hold_take 11 _ rfl (by kernel_rfl) (by kernel_rfl) (by kernel_rfl) (by kernel_rfl) (by kernel_rfl) (fun _ _ _ h => h) (by rfl) (fun _ => rfl) HT1 (fun w' hS => by obtain ⟨q0, q1, q2, q3, q4, q5⟩ := hS; go_simp; rfl) ?_
      simp only [Act.put, List.setIfInBounds_toArray, List.set_cons_zero, List.set_cons_succ]
      refine hold_take 12 _ rfl (by kernel_rfl) (by kernel_rfl) (by kernel_rfl) (by kernel_rfl) (by kernel_rfl) (fun _ _ _ h => h) (by rfl) (fun _ => rfl) HT1 (fun w' hS => by obtain ⟨q0, q1, q2, q3, q4, q5⟩ := hS; go_simp; rfl) ?_
      simp only [Act.put, List.setIfInBounds_toArray, List.set_cons_zero, List.set_cons_succ]
      refine hold_take 13 _ rfl (by kernel_rfl) (by kernel_rfl) (by kernel_rfl) (by kernel_rfl) (by kernel_rfl) (fun _ _ _ h => h) (by rfl) (fun _ => rfl) HT1 (fun w' hS => by obtain ⟨q0, q1, q2, q3, q4, q5⟩ := hS; go_simp; rfl) ?_
      simp only [Act.put, List.setIfInBounds_toArray, List.set_cons_zero, List.set_cons_succ]
      refine hold_take 14 _ rfl (by kernel_rfl) (by kernel_rfl) (by kernel_rfl) (by kernel_rfl) (by kernel_rfl) (fun _ _ _ h => h) (by rfl) (fun _ => rfl) HT1 (fun w' hS => by obtain ⟨q0, q1, q2, q3, q4, q5⟩ := hS; go_simp; rfl) ?_
      simp only [Act.put, List.setIfInBounds_toArray, List.set_cons_zero, List.set_cons_succ]
      refine hold_take 15 _ rfl (by kernel_rfl) (by kernel_rfl) (by kernel_rfl) (by kernel_rfl) (by kernel_rfl) (fun _ _ _ h => h) (by rfl) (fun _ => rfl) HT1 (fun w' hS => by obtain ⟨q0, q1, q2, q3, q4, q5⟩ := hS; go_simp; rfl) ?_
      simp only [Act.put, List.setIfInBounds_toArray, List.set_cons_zero, List.set_cons_succ]
      refine hold_take 16 _ rfl (by kernel_rfl) (by kernel_rfl) (by kernel_rfl) (by kernel_rfl) (by kernel_rfl) (fun _ _ _ h => h) (by rfl) (fun _ => rfl) HT1 (fun w' hS => by obtain ⟨q0, q1, q2, q3, q4, q5⟩ := hS; go_simp; rfl) ?_
      simp only [Act.put, List.setIfInBounds_toArray, List.set_cons_zero, List.set_cons_succ]
      refine hold_take 17 _ rfl (by kernel_rfl) (by kernel_rfl) (by kernel_rfl) (by kernel_rfl) (by kernel_rfl) (fun _ _ _ h => h) (by rfl) (fun _ => rfl) HT1 (fun w' hS => by obtain ⟨q0, q1, q2, q3, q4, q5⟩ := hS; go_simp; rfl) ?_
      simp only [Act.put, List.setIfInBounds_toArray, List.set_cons_zero, List.set_cons_succ]
      refine hold_take 18 _ rfl (by kernel_rfl) (by kernel_rfl) (by kernel_rfl) (by kernel_rfl) (by kernel_rfl) (fun _ _ _ h => h) (by rfl) (fun _ => rfl) HT1 (fun w' hS => by obtain ⟨q0, q1, q2, q3, q4, q5⟩ := hS; go_simp; rfl) ?_
      simp only [Act.put, List.setIfInBounds_toArray, List.set_cons_zero, List.set_cons_succ]
      refine hold_take 19 _ rfl (by kernel_rfl) (by kernel_rfl) (by kernel_rfl) (by kernel_rfl) (by kernel_rfl) (fun _ _ _ h => h) (by rfl) (fun _ => rfl) HT1 (fun w' hS => by obtain ⟨q0, q1, q2, q3, q4, q5⟩ := hS; go_simp; rfl) ?_
      simp only [Act.put, List.setIfInBounds_toArray, List.set_cons_zero, List.set_cons_succ]
      refine hold_take 21 _ rfl (by kernel_rfl) (by kernel_rfl) (by kernel_rfl) (by kernel_rfl) (by kernel_rfl) (fun _ _ _ h => h) (by rfl) (fun _ => rfl) HT1 (fun w' hS => by obtain ⟨q0, q1, q2, q3, q4, q5⟩ := hS; go_simp; rfl) ?_
      simp only [Act.put, List.setIfInBounds_toArray, List.set_cons_zero, List.set_cons_succ]
      refine hold_take 22 _ rfl (by kernel_rfl) (by kernel_rfl) (by kernel_rfl) (by kernel_rfl) (by kernel_rfl) (fun _ _ _ h => h) (by rfl) (fun _ => rfl) HT1 (fun w' hS => by obtain ⟨q0, q1, q2, q3, q4, q5⟩ := hS; go_simp; rfl) ?_
      simp only [Act.put, List.setIfInBounds_toArray, List.set_cons_zero, List.set_cons_succ]
      refine hold_take 23 _ rfl (by kernel_rfl) (by kernel_rfl) (by kernel_rfl) (by kernel_rfl) (by kernel_rfl) (fun _ _ _ h => h) (by rfl) (fun _ => rfl) HT1 (fun w' hS => by obtain ⟨q0, q1, q2, q3, q4, q5⟩ := hS; go_simp; rfl) ?_
      simp only [Act.put, List.setIfInBounds_toArray, List.set_cons_zero, List.set_cons_succ]
      refine hold_take 24 _ rfl (by kernel_rfl) (by kernel_rfl) (by kernel_rfl) (by kernel_rfl) (by kernel_rfl) (fun _ _ _ h => h) (by rfl) (fun _ => rfl) HT1 (fun w' hS => by obtain ⟨q0, q1, q2, q3, q4, q5⟩ := hS; go_simp; rfl) ?_
      simp only [Act.put, List.setIfInBounds_toArray, List.set_cons_zero, List.set_cons_succ]
      refine hold_take 25 _ rfl (by kernel_rfl) (by kernel_rfl) (by kernel_rfl) (by kernel_rfl) (by kernel_rfl) (fun _ _ _ h => h) (by rfl) (fun _ => rfl) HT1 (fun w' hS => by obtain ⟨q0, q1, q2, q3, q4, q5⟩ := hS; go_simp; rfl) ?_
      simp only [Act.put, List.setIfInBounds_toArray, List.set_cons_zero, List.set_cons_succ]
      refine hold_take 26 _ rfl (by kernel_rfl) (by kernel_rfl) (by kernel_rfl) (by kernel_rfl) (by kernel_rfl) (fun _ _ _ h => h) (by rfl) (fun _ => rfl) HT1 (fun w' hS => by obtain ⟨q0, q1, q2, q3, q4, q5⟩ := hS; go_simp; rfl) ?_
      simp only [Act.put, List.setIfInBounds_toArray, List.set_cons_zero, List.set_cons_succ]
      refine hold_take 27 _ rfl (by kernel_rfl) (by kernel_rfl) (by kernel_rfl) (by kernel_rfl) (by kernel_rfl) (fun _ _ _ h => h) (by rfl) (fun _ => rfl) HT1 (fun w' hS => by obtain ⟨q0, q1, q2, q3, q4, q5⟩ := hS; go_simp; rfl) ?_
      simp only [Act.put, List.setIfInBounds_toArray, List.set_cons_zero, List.set_cons_succ]
      refine hold_take 28 _ rfl (by kernel_rfl) (by kernel_rfl) (by kernel_rfl) (by kernel_rfl) (by kernel_rfl) (fun _ _ _ h => h) (by rfl) (fun _ => rfl) HT1 (fun w' hS => by obtain ⟨q0, q1, q2, q3, q4, q5⟩ := hS; go_simp; rfl) ?_
      simp only [Act.put, List.setIfInBounds_toArray, List.set_cons_zero, List.set_cons_succ]
      refine hold_take 29 _ rfl (by kernel_rfl) (by kernel_rfl) (by kernel_rfl) (by kernel_rfl) (by kernel_rfl) (fun _ _ _ h => h) (by rfl) (fun _ => rfl) HT1 (fun w' hS => by obtain ⟨q0, q1, q2, q3, q4, q5⟩ := hS; go_simp; rfl) ?_
      simp only [Act.put, List.setIfInBounds_toArray, List.set_cons_zero, List.set_cons_succ]
      refine hold_take 30 _ rfl (by kernel_rfl) (by kernel_rfl) (by kernel_rfl) (by kernel_rfl) (by kernel_rfl) (fun _ _ _ h => h) (by rfl) (fun _ => rfl) HT1 (fun w' hS => by obtain ⟨q0, q1, q2, q3, q4, q5⟩ := hS; go_simp; rfl) ?_
      simp only [Act.put, List.setIfInBounds_toArray, List.set_cons_zero, List.set_cons_succ]
      refine hold_take 31 _ rfl (by kernel_rfl) (by kernel_rfl) (by kernel_rfl) (by kernel_rfl) (by kernel_rfl) (fun _ _ _ h => h) (by rfl) (fun _ => rfl) HT1 (fun w' hS => by obtain ⟨q0, q1, q2, q3, q4, q5⟩ := hS; go_simp; rfl) ?_
      simp only [Act.put, List.setIfInBounds_toArray, List.set_cons_zero, List.set_cons_succ]
      refine hold_one 20 (by kernel_rfl) rfl (by rfl) fun K hK => ?_
      go_simp
      refine ⟨trivial, rfl, (callsIn_wide.2 hRow).mono ?_⟩
      rintro e w2 ⟨A2, c2, rfl, HR2⟩
      clear hRow
      have hb2 := HR2.out.2
      have HT2 : (fun W' : World => W'.cell? (ad.add (k * 5)) = some (.int .i64 q.what) ∧ W'.cell? (dcell ad k 1) = some (.int .i64 q.f) ∧ W'.cell? (dcell ad k 2) = some (.int .i64 q.t) ∧ W'.cell? (dcell ad k 3) = some (.int .i64 q.bit) ∧ W'.cell? (dcell ad k 4) = some (.slice q.A q.b.length q.c) ∧ W'.cell? ⟨r, 3, none⟩ = some (.int .i64 (lo : Int))) w2 := HK2.out _ hb2
      refine hK _ _ (.inr HT2) ?_
      have hLine := pair_line (HPP.out.below hb2) q.f q.t
      have HB2 := cover hb2
      clear hK K HT1 hb2
      refine hold_one 32 (by kernel_rfl) rfl (by rfl) fun K hK => ?_
      go_simp
      refine ⟨trivial, rfl, (callsIn_wide.2 hLine).mono ?_⟩
      rintro e w3 ⟨A3, c3, rfl, rfl, HR3⟩
      clear hLine
      refine hK _ _ (.inr HT2) ?_
      have hSame := row_same (c := c2) (c' := c3) HR2.out.1 HR3.out (by have := len_row HLN.out q.f q.t; omega) (HFT.out.2.2 q.f q.t)
      clear hK K
      refine hold_one 33 (by kernel_rfl) rfl (by rfl) fun K hK => ?_
      go_simp
      refine ⟨trivial, rfl, (callsIn_wide.2 hSame).mono ?_⟩
      rintro e w4 ⟨rfl, hb4⟩
      clear hSame HR2 HR3
      have hb14 := HB2.out.trans (hb4.mono HB2.out.size)
      have HT4 : (fun W' : World => W'.cell? (ad.add (k * 5)) = some (.int .i64 q.what) ∧ W'.cell? (dcell ad k 1) = some (.int .i64 q.f) ∧ W'.cell? (dcell ad k 2) = some (.int .i64 q.t) ∧ W'.cell? (dcell ad k 3) = some (.int .i64 q.bit) ∧ W'.cell? (dcell ad k 4) = some (.slice q.A q.b.length q.c) ∧ W'.cell? ⟨r, 3, none⟩ = some (.int .i64 (lo : Int))) w4 := HK2.out _ hb14
      refine hK _ _ (.inr HT4) ?_
      have hLost := pair_lost (HPP.out.below hb14)
      rw [← HLO.out] at hLost
      have HP4 := cover (HPP.out.below hb14)
      clear hK K HT2 hb14 hb4 HB2
      refine hold_take 34 (.bool false) rfl (by kernel_rfl) (by kernel_rfl) (by kernel_rfl) (by kernel_rfl) (by kernel_rfl) (fun _ _ _ h => h) (by rfl) (fun _ => rfl) HT4 (fun w' hS => by obtain ⟨q0, q1, q2, q3, q4, q5⟩ := hS; go_simp; skip) ?_
      simp only [Act.put, List.setIfInBounds_toArray, List.set_cons_zero, List.set_cons_succ]
      refine hold_take 35 (.bool false) rfl (by kernel_rfl) (by kernel_rfl) (by kernel_rfl) (by kernel_rfl) (by kernel_rfl) (fun _ _ _ h => h) (by rfl) (fun _ => rfl) HT4 (fun w' hS => by obtain ⟨q0, q1, q2, q3, q4, q5⟩ := hS; go_simp; skip) ?_
      simp only [Act.put, List.setIfInBounds_toArray, List.set_cons_zero, List.set_cons_succ]
      refine hold_take 36 _ rfl (by kernel_rfl) (by kernel_rfl) (by kernel_rfl) (by kernel_rfl) (by kernel_rfl) (fun _ _ _ h => h) (by rfl) (fun _ => rfl) HT4 (fun w' hS => by obtain ⟨q0, q1, q2, q3, q4, q5⟩ := hS; go_simp; rfl) ?_
      simp only [Act.put, List.setIfInBounds_toArray, List.set_cons_zero, List.set_cons_succ]
      refine hold_take 37 _ rfl (by kernel_rfl) (by kernel_rfl) (by kernel_rfl) (by kernel_rfl) (by kernel_rfl) (fun _ _ _ h => h) (by rfl) (fun _ => rfl) HT4 (fun w' hS => by obtain ⟨q0, q1, q2, q3, q4, q5⟩ := hS; go_simp; rfl) ?_
      simp only [Act.put, List.setIfInBounds_toArray, List.set_cons_zero, List.set_cons_succ]
      refine hold_take 39 _ rfl (by kernel_rfl) (by kernel_rfl) (by kernel_rfl) (by kernel_rfl) (by kernel_rfl) (fun _ _ _ h => h) (by rfl) (fun _ => rfl) HT4 (fun w' hS => by obtain ⟨q0, q1, q2, q3, q4, q5⟩ := hS; go_simp; rfl) ?_
      simp only [Act.put, List.setIfInBounds_toArray, List.set_cons_zero, List.set_cons_succ]
      refine hold_take 40 _ rfl (by kernel_rfl) (by kernel_rfl) (by kernel_rfl) (by kernel_rfl) (by kernel_rfl) (fun _ _ _ h => h) (by rfl) (fun _ => rfl) HT4 (fun w' hS => by obtain ⟨q0, q1, q2, q3, q4, q5⟩ := hS; go_simp; rfl) ?_
      simp only [Act.put, List.setIfInBounds_toArray, List.set_cons_zero, List.set_cons_succ]
      refine hold_take 41 _ rfl (by kernel_rfl) (by kernel_rfl) (by kernel_rfl) (by kernel_rfl) (by kernel_rfl) (fun _ _ _ h => h) (by rfl) (fun _ => rfl) HT4 (fun w' hS => by obtain ⟨q0, q1, q2, q3, q4, q5⟩ := hS; go_simp; rfl) ?_
      simp only [Act.put, List.setIfInBounds_toArray, List.set_cons_zero, List.set_cons_succ]
      refine hold_take 42 _ rfl (by kernel_rfl) (by kernel_rfl) (by kernel_rfl) (by kernel_rfl) (by kernel_rfl) (fun _ _ _ h => h) (by rfl) (fun _ => rfl) HT4 (fun w' hS => by obtain ⟨q0, q1, q2, q3, q4, q5⟩ := hS; go_simp; rfl) ?_
      simp only [Act.put, List.setIfInBounds_toArray, List.set_cons_zero, List.set_cons_succ]
      refine hold_one 38 (by kernel_rfl) rfl (by rfl) fun K hK => ?_
      go_simp
      refine ⟨trivial, rfl, (callsIn_wide.2 hLost).mono ?_⟩
      rintro e w5 ⟨rfl, rfl⟩
      clear hLost
      refine hK _ _ (.inr HT4) ?_
      clear hK K
      refine hold_take 43 (.bool false) rfl (by kernel_rfl) (by kernel_rfl) (by kernel_rfl) (by kernel_rfl) (by kernel_rfl) (fun _ _ _ h => h) (by rfl) (fun _ => rfl) HT4 (fun w' hS => by obtain ⟨q0, q1, q2, q3, q4, q5⟩ := hS; go_simp; skip) ?_
      simp only [Act.put, List.setIfInBounds_toArray, List.set_cons_zero, List.set_cons_succ]
      refine hold_take 44 (.bool false) rfl (by kernel_rfl) (by kernel_rfl) (by kernel_rfl) (by kernel_rfl) (by kernel_rfl) (fun _ _ _ h => h) (by rfl) (fun _ => rfl) HT4 (fun w' hS => by obtain ⟨q0, q1, q2, q3, q4, q5⟩ := hS; go_simp; skip) ?_
      simp only [Act.put, List.setIfInBounds_toArray, List.set_cons_zero, List.set_cons_succ]
      refine held_done (by kernel_rfl) ?_ _
      go_wp2
      go_roundw
      case rel => exact ⟨k + 1, doS s q, by omega, by go_num, cover ⟨HP4.out, HST.out⟩⟩
      case measure => simp [intOf]; omega
    · obtain rfl : k = n := by omega
      obtain ⟨hf1, hf2, hf3, hf4, hf5, hf6⟩ := hout.out.1.facts
      have HFT : Hid (s.now ≤ 1000000 ∧ (∀ f t, ∀ x ∈ theRow s f t, x.1.length ≤ 1000000) ∧ (∀ f t, (theRow s f t).length ≤ 1000) ∧ ∀ f t, ∀ x ∈ told (theRow s f t), x.1.length ≤ 1000000) := cover ⟨by have := hout.out.2.now; omega, fun f t x hx => by have := (sm_row hout.out.2.sm f t x hx).1; omega, fun f t => Nat.le_trans (len_row hf1 f t) (by decide), fun f t => told_small hout.out.2.sm f t⟩
      have HP := cover hout.out.1
      clear hout hf1 hf2 hf3 hf4 hf5 hf6
      go_wp2_with fail
      go_loopw [10] (fun i wr => ∃ j : Nat, j ≤ N + 2 ∧ i = .int .i64 ((j : Int) - 1) ∧ Hid (Pair w [(bn, .cells #[.int .i64 N, .int .i64 M, .int .i64 Fl] 34 (0, 0))] l r s wr)) (fun i _ => N + 2 - (intOf i + 1).toNat)
      case atStart => exact ⟨0, by omega, by rfl, HP⟩
      case round =>
        clear HP
        obtain ⟨j, hj, rfl, hP⟩ := hrel
        have hxb := hP.out.block (bn, .cells #[.int .i64 N, .int .i64 M, .int .i64 Fl] 34 (0, 0)) (by simp)
        have y0 : wr.cell? ⟨bn, 0, none⟩ = some (.int .i64 N) := by rw [cell_of_row _ _ _ _ _ _ hxb]; rfl
        clear hxb
        by_cases hjn : j ≤ N + 1
        · have hji : (j : Int) - 1 ≤ (N : Int) := by omega
          go_wp2_with fail
          go_loopw [11] (fun i wr => ∃ p : Nat, p ≤ N + 2 ∧ i = .int .i64 ((p : Int) - 1) ∧ Hid (Pair w [(bn, .cells #[.int .i64 N, .int .i64 M, .int .i64 Fl] 34 (0, 0))] l r s wr)) (fun i _ => N + 2 - (intOf i + 1).toNat)
          case atStart => exact ⟨0, by omega, by rfl, hP⟩
          case round =>
            clear hP y0
            obtain ⟨p, hp, rfl, hP⟩ := hrel
            have hxb := hP.out.block (bn, .cells #[.int .i64 N, .int .i64 M, .int .i64 Fl] 34 (0, 0)) (by simp)
            have y0 : wr.cell? ⟨bn, 0, none⟩ = some (.int .i64 N) := by rw [cell_of_row _ _ _ _ _ _ hxb]; rfl
            clear hxb
            by_cases hpn : p ≤ N + 1
            · have hpi : (p : Int) - 1 ≤ (N : Int) := by omega
              have hRow := pair_row hP.out ((j : Int) - 1) ((p : Int) - 1) HFT.out.1 (HFT.out.2.1 _ _)
              go_wp2_with fail
              refine hRow.mono ?_
              rintro e w2 ⟨A2, c2, rfl, HR2⟩
              clear hRow
              have hLine := pair_line (hP.out.below HR2.out.2) ((j : Int) - 1) ((p : Int) - 1)
              go_wp2_with fail
              refine hLine.mono ?_
              rintro e w3 ⟨A3, c3, rfl, rfl, HR3⟩
              clear hLine
              have hSame := row_same (c := c2) (c' := c3) HR2.out.1 HR3.out (HFT.out.2.2.1 _ _) (HFT.out.2.2.2 _ _)
              go_wp2_with fail
              refine hSame.mono ?_
              rintro e w4 ⟨rfl, hb4⟩
              have HP4 := cover (hP.out.below (HR2.out.2.trans (hb4.mono HR2.out.2.size)))
              clear hSame HR2 HR3 hb4 hP y0
              go_wp2
              go_roundw
              case rel => exact ⟨p + 1, by omega, by go_num, HP4⟩
              case measure => simp [intOf]; omega
            · obtain rfl : p = N + 2 := by omega
              have hpi : ¬ (((N + 2 : Nat) : Int) - 1 ≤ (N : Int)) := by omega
              go_wp2
              go_roundw
              case rel => exact ⟨j + 1, by omega, by go_num, hP⟩
              case measure => simp [intOf]; omega
        · obtain rfl : j = N + 2 := by omega
          have hji : ¬ (((N + 2 : Nat) : Int) - 1 ≤ (N : Int)) := by omega
          have HF := cover hP.out.bel
          clear hP
          go_wp2
          go_ret
          exact ⟨rfl, HF.out⟩
section
variable {H : Type} {enc : TypeId × Value → H} {P : Program} {w : World} {base : Nat} {spare : Nat → Bool} {held : Bool}
theorem trod_array3 {t e : TypeId} {fuel : Nat} {c0 c1 c2 : Value} {x : DataW H × List MemPlace} (ht : P.underlying t = some (.array 3 e)) (hce : P.cellsOf e = 1)
    (h : DataW.trod enc P w base spare held fuel t [c0, c1, c2] = some x) :
    ∃ y0 y1 y2 n, DataW.trod enc P w base spare held n e [c0] = some y0 ∧ DataW.trod enc P w base spare held n e [c1] = some y1 ∧ DataW.trod enc P w base spare held n e [c2] = some y2 := by
  cases fuel with
  | zero => simp [DataW.trod] at h
  | succ n =>
    unfold DataW.trod at h
    rw [ht] at h
    have r3 : List.range 3 = [0, 1, 2] := rfl
    simp [r3, hce] at h
    obtain ⟨_, h⟩ := h
    cases h0 : DataW.trod enc P w base spare held n e [c0] with
    | none => simp [h0] at h
    | some y0 =>
      cases h1 : DataW.trod enc P w base spare held n e [c1] with
      | none => simp [h0, h1] at h
      | some y1 =>
        cases h2 : DataW.trod enc P w base spare held n e [c2] with
        | none => simp [h0, h1, h2] at h
        | some y2 => exact ⟨y0, y1, y2, n, h0, h1, h2⟩
theorem okWide_array {r : Reach} {b0 : Nat} {t e : TypeId} {n : Nat} {v : Value} (ht : P.underlying t = some (.array n e)) (h : Value.okWide P w r b0 t v) : ∃ cs, v = .agg cs ∧ cs.size = P.cellsOf t := by
  simp only [Value.okWide, ht] at h
  obtain ⟨cs, h1, h2, _⟩ := h
  exact ⟨cs, h1, h2⟩
end
section
variable {H : Type} {enc : TypeId × Value → H} {W : World} {r : Reach} {base : Nat} {v : Value} {d : DataW H} {p : List MemPlace}
set_option maxRecDepth 100000 in
open Go.ChangeShapes Go.WideShapes Go.ChangeAt in
theorem trip_in (hv : Value.okWide Try.prog W r base 34 v) (h : DataW.Trod enc Try.prog W 0 (fun _ => true) true 34 v d p) :
    ∃ y0 y1 y2 : Int, v = .agg #[.int .i64 y0, .int .i64 y1, .int .i64 y2] ∧ y2 ≤ 9223372036854775807 := by
  obtain ⟨cs, rfl, hsz⟩ := okWide_array Try.underlying34 hv
  obtain ⟨fuel, hf⟩ := h
  have h2 : Try.prog.cellsOf 34 = 3 := by kernel_rfl
  obtain ⟨l⟩ := cs
  have hl : l.length = 3 := hsz.trans h2
  match l, hl with
  | [c0, c1, c2], _ =>
    obtain ⟨x0, x1, x2, n, g0, g1, g2⟩ := trod_array3 Try.underlying34 (by kernel_rfl) hf
    obtain ⟨a0, e0, _, w0⟩ := DataW.trod_int Try.underlying3 g0
    obtain ⟨a1, e1, _, w1⟩ := DataW.trod_int Try.underlying3 g1
    obtain ⟨a2, e2, _, w2⟩ := DataW.trod_int Try.underlying3 g2
    injection e0 with e0; injection e1 with e1; injection e2 with e2
    subst e0 e1 e2
    have hmax : IntKind.i64.max = 9223372036854775807 := rfl
    simp only [Lit.wf, Bool.and_eq_true, decide_eq_true_eq] at w2
    exact ⟨a0, a1, a2, rfl, by omega⟩
end
theorem walk_LanPlays (a b d : Int) (A : Option Addr) (n c : Nat) (ds : List DV) (w : World) (hx : d ≤ 9223372036854775807) (hlc : n ≤ c) (hcm : c ≤ maxLen) (hdk : DeedsL w w.heap.size A n ds ∧ ∀ q ∈ ds, DOk q) :
    Calls Try.prog 4 #[.agg #[.int .i64 a, .int .i64 b, .int .i64 d], .slice A n c] w fun e w' => e = .returned (.bool true) ∧ Below w.heap.size w w' := by
  obtain ⟨hd, hok⟩ := hdk
  by_cases hn : n ≤ 120
  · by_cases hs : small ds
    · by_cases ho : newOk a b d
      · unfold newOk at ho
        obtain ⟨N, rfl⟩ : ∃ N : Nat, (N : Int) = a := ⟨a.toNat, by omega⟩
        obtain ⟨M, rfl⟩ : ∃ M : Nat, (M : Int) = b := ⟨b.toNat, by omega⟩
        obtain ⟨Fl, rfl⟩ : ∃ Fl : Nat, (Fl : Int) = d := ⟨d.toNat, by omega⟩
        exact plays_walk N M Fl A n c ds w ⟨by omega, by omega⟩ ⟨by omega, by omega⟩ ⟨by omega, by omega⟩ hn hd hok hs
      · have HD := cover (And.intro hd hs)
        have HNO := cover ho
        clear hd hok hs ho
        obtain ⟨wb, hwb⟩ : ∃ wb, wb = w.alloc (.cells #[.int .i64 a, .int .i64 b, .int .i64 d] 34) := ⟨_, rfl⟩
        obtain ⟨bn, hbn⟩ : ∃ bn, bn = w.heap.size := ⟨_, rfl⟩
        have hbx : wb.heap[bn]? = some (.cells #[.int .i64 a, .int .i64 b, .int .i64 d] 34 (0, 0)) := by rw [hwb, hbn]; exact heap_alloc_new w _
        have hbb : Below w.heap.size w wb := by rw [hwb]; exact (Below.refl _ _).alloc (Nat.le_refl _) _
        go_enter Try.func4, Try.ntmps4
        go_wp2_with fail
        rw [← hwb, ← hbn]
        clear hwb hbn
        refine (awake_any wb).mono ?_
        rintro e w0 ⟨rfl, hb0⟩
        have hx0 := (hb0.block bn (block_lt hbx)).trans hbx
        have H0 := cover (hbb.trans (hb0.mono hbb.size))
        clear hb0 hbx hbb
        have hroom := room_any (w := w0) (c := c) 120 (by omega) (by omega) (HD.out.1.below H0.out) true (by simp; exact HD.out.2)
        go_wp2_with fail
        refine hroom.mono ?_
        rintro e w' ⟨rfl, rfl⟩
        clear hroom
        have y0 : w0.cell? ⟨bn, 0, none⟩ = some (.int .i64 a) := by rw [cell_of_row _ _ _ _ _ _ hx0]; rfl
        have y1 : w0.cell? ⟨bn, 1, none⟩ = some (.int .i64 b) := by rw [cell_of_row _ _ _ _ _ _ hx0]; rfl
        have y2 : w0.cell? ⟨bn, 2, none⟩ = some (.int .i64 d) := by rw [cell_of_row _ _ _ _ _ _ hx0]; rfl
        clear hx0
        go_wp2_with fail
        refine (new_no a b d w0 HNO.out).mono ?_
        rintro e w' ⟨rfl, rfl⟩
        go_wp2_with fail
        refine (rnew_no a b d w0 HNO.out).mono ?_
        rintro e w' ⟨rfl, rfl⟩
        go_wp2
        go_ret
        exact ⟨rfl, H0.out⟩
    · skip
      have HD := cover (And.intro hd hs)
      clear hd hok hs
      obtain ⟨wb, hwb⟩ : ∃ wb, wb = w.alloc (.cells #[.int .i64 a, .int .i64 b, .int .i64 d] 34) := ⟨_, rfl⟩
      have hbb : Below w.heap.size w wb := by rw [hwb]; exact (Below.refl _ _).alloc (Nat.le_refl _) _
      go_enter Try.func4, Try.ntmps4
      go_wp2_with fail
      rw [← hwb]
      clear hwb
      refine (awake_any wb).mono ?_
      rintro e w0 ⟨rfl, hb0⟩
      have H0 := cover (hbb.trans (hb0.mono hbb.size))
      clear hb0 hbb
      have hroom := room_any (w := w0) (c := c) 120 (by omega) (by omega) (HD.out.1.below H0.out) false (by simp; exact HD.out.2)
      go_wp2_with fail
      refine hroom.mono ?_
      rintro e w' ⟨rfl, rfl⟩
      clear hroom
      go_wp2
      go_ret
      exact ⟨rfl, H0.out⟩
  · have hn' : (120 : Int) < (n : Int) := by omega
    clear hd hok
    obtain ⟨wb, hwb⟩ : ∃ wb, wb = w.alloc (.cells #[.int .i64 a, .int .i64 b, .int .i64 d] 34) := ⟨_, rfl⟩
    have hbb : Below w.heap.size w wb := by rw [hwb]; exact (Below.refl _ _).alloc (Nat.le_refl _) _
    go_enter Try.func4, Try.ntmps4
    go_wp2_with fail
    rw [← hwb]
    clear hwb
    refine (awake_any wb).mono ?_
    rintro e w0 ⟨rfl, hb0⟩
    have H0 := cover (hbb.trans (hb0.mono hbb.size))
    clear hb0 hbb
    go_wp2_with fail
    refine (room_long 120 hn').mono ?_
    rintro e w' ⟨rfl, rfl⟩
    go_wp2
    go_ret
    exact ⟨rfl, H0.out⟩
end Go.Proofs.Ytjidhpmjdhjciaa
