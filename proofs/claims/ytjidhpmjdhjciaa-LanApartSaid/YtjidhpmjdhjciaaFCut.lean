/- What Cut does: all that goes from and to a station is lost. -/
import Derived.Test.YtjidhpmjdhjciaaFHas
namespace Go.Proofs.Ytjidhpmjdhjciaa
open Go.RowKit
set_option linter.unusedVariables false

theorem cutAll_q {S : Foot} {w : World} {q : Nat} {m : Int} {fs : List (List Int × Int)} (h : FQ S w q m fs) (hbig : fs.length ≤ 64) :
    Calls Try.prog 52 #[ptr q] w fun e w' => e = .returned (.int .i64 fs.length) ∧ Hid (∃ S', FQ S' w' q m [] ∧ Moves S S' w w') := by
  have HL := len_q h
  rcases fs with _ | ⟨x, r⟩
  · have HC := cut_q_no h 0 (.inr rfl)
    have HF : Hid (∃ S', FQ S' w q m [] ∧ Moves S S' w w) := cover ⟨S, h, Moves.refl S w⟩
    rw [show ((([] : List (List Int × Int)).length : Nat) : Int) = 0 from rfl] at HL ⊢
    clear h
    go_enter Try.func52, Try.ntmps52
    go_wp2_with fail
    refine HL.mono ?_
    rintro e w' ⟨rfl, rfl⟩
    go_wp2_with fail
    refine HC.mono ?_
    rintro e w' ⟨rfl, rfl⟩
    go_wp2
    go_ret
    exact ⟨rfl, HF⟩
  · have HC := cut_q h (x :: r).length (x :: r).length (by simp) (by omega) (by omega)
    have HF : Hid (∀ w', CutQ S (x :: r).length q m (x :: r) w w' → ∃ S', FQ S' w' q m [] ∧ Moves S S' w w') := cover fun w' ⟨S', h1, h2⟩ => ⟨S', by rw [List.drop_of_length_le (Nat.le_refl _)] at h1; exact h1, h2⟩
    obtain ⟨n, hn⟩ : ∃ n, n = (x :: r).length := ⟨_, rfl⟩
    rw [← hn] at HL HC HF hbig ⊢
    clear h hn
    go_enter Try.func52, Try.ntmps52
    go_wp2_with fail
    refine HL.mono ?_
    rintro e w' ⟨rfl, rfl⟩
    go_wp2_with fail
    refine HC.mono ?_
    rintro e w2 ⟨rfl, H2⟩
    have HN := cover (HF.out _ H2.out)
    clear H2 HC HL HF
    go_wp2
    go_ret
    exact ⟨rfl, HN⟩
theorem cutAll_nil (w : World) : Calls Try.prog 52 #[.pointer none] w fun e w' => e = .returned (.int .i64 0) ∧ w = w' := by
  go_enter Try.func52, Try.ntmps52
  go_wp2_with fail
  refine (len_nil w).mono ?_
  rintro e w' ⟨rfl, rfl⟩
  go_wp2_with fail
  refine (cut_nil 0 w).mono ?_
  rintro e w' ⟨rfl, rfl⟩
  go_wp2
  go_ret
  exact ⟨rfl, rfl⟩
/-- the row of these two is emptied, if there is one -/
noncomputable def cutR (s : LS) (f t : Int) : LS := match theRow s f t with | [] => s | _ :: _ => setRow' s f t []
def RowCut (S : Foot) (l : Nat) (s : LS) (f t : Int) (w : World) (e : Ending) (w' : World) : Prop :=
  ∃ p, e = .returned (.pointer p) ∧ Below w.heap.size w w' ∧ Calls Try.prog 52 #[.pointer p] w' fun e w'' => e = .returned (.int .i64 (theRow s f t).length) ∧ Hid (LNow S l (cutR s f t) w w'')
theorem row_cut {S : Foot} {w : World} {l : Nat} {s : LS} (h : LIn S w l s) (f t : Int) : Calls Try.prog 33 #[ptr l, .int .i64 f, .int .i64 t] w (RowCut S l s f t w) := by
  have hlen := Nat.le_trans (len_of h f t) h.m64
  by_cases ho : okP s.n f t
  · obtain ⟨q, R, hq, _, hrow, hclose⟩ := h.open_ f t ho
    refine hrow.mono ?_
    rintro e w' ⟨rfl, d, hw⟩
    have hb : Below w.heap.size w w' := by rw [hw]; exact below_drewN' _ _
    refine ⟨_, rfl, hb, (cutAll_q (hq.below hb) (by rw [encR_length]; exact hlen)).mono ?_⟩
    rintro e w2 ⟨rfl, H2⟩
    refine ⟨by rw [encR_length], cover ?_⟩
    obtain ⟨S', h1, h2⟩ := H2.out
    rcases hr : theRow s f t with _ | ⟨x, r⟩
    · have : cutR s f t = s := by unfold cutR; rw [hr]
      rw [this]
      have h3 := LNow.of3 (hclose w2 S' (theRow s f t) (by rw [hr]; exact h1) (Moves.after hb h2) (len_of h f t) (age_of h f t))
      obtain ⟨S2, k1, k2⟩ := h3
      refine ⟨S2, ?_, k2⟩
      have e : setRow' s f t (theRow s f t) = s := by
        rw [theRow_ok ho]; unfold setRow' LS.upd
        cases s with
        | mk a b c d e rows =>
          simp only [LS.mk.injEq, true_and]
          funext j; by_cases hj : j = keyP a f t
          · simp [hj]
          · simp [hj]
      rwa [e] at k1
    · have : cutR s f t = setRow' s f t [] := by unfold cutR; rw [hr]
      rw [this]
      exact LNow.of3 (hclose w2 S' [] h1 (Moves.after hb h2) (Nat.zero_le _) (fun x hx => by cases hx))
  · refine (row_none h f t ho).mono ?_
    rintro e w' ⟨rfl, d, hw⟩
    have hb : Below w.heap.size w w' := by rw [hw]; exact below_drewN' _ _
    refine ⟨none, rfl, hb, (cutAll_nil w').mono ?_⟩
    rintro e w2 ⟨rfl, rfl⟩
    refine ⟨by rw [theRow_no ho]; rfl, cover ?_⟩
    have : cutR s f t = s := by unfold cutR; rw [theRow_no ho]
    rw [this]; exact LNow.below h hb
/-- behind so many rounds of Cut: the lan, and how many frames are gone -/
noncomputable def cutTo (s : LS) (st : Int) : Nat → LS × Nat
  | 0 => (s, 0)
  | k + 1 => (cutR (cutR (cutTo s st k).1 st k) k st, (cutTo s st k).2 + ((theRow (cutTo s st k).1 st k).length + (theRow (cutR (cutTo s st k).1 st k) k st).length))
theorem cutR_same (s : LS) (f t : Int) : (cutR s f t).n = s.n ∧ (cutR s f t).m = s.m ∧ (cutR s f t).life = s.life ∧ (cutR s f t).now = s.now ∧ (cutR s f t).lost = s.lost := by
  unfold cutR; split <;> exact ⟨rfl, rfl, rfl, rfl, rfl⟩
theorem cutTo_same (s : LS) (st : Int) (k : Nat) : (cutTo s st k).1.n = s.n ∧ (cutTo s st k).1.m = s.m ∧ (cutTo s st k).1.life = s.life ∧ (cutTo s st k).1.now = s.now ∧ (cutTo s st k).1.lost = s.lost := by
  induction k with
  | zero => exact ⟨rfl, rfl, rfl, rfl, rfl⟩
  | succ k ih =>
    obtain ⟨a1, a2, a3, a4, a5⟩ := cutR_same (cutTo s st k).1 st k
    obtain ⟨b1, b2, b3, b4, b5⟩ := cutR_same (cutR (cutTo s st k).1 st k) k st
    exact ⟨b1.trans (a1.trans ih.1), b2.trans (a2.trans ih.2.1), b3.trans (a3.trans ih.2.2.1), b4.trans (a4.trans ih.2.2.2.1), b5.trans (a5.trans ih.2.2.2.2)⟩
/-- Cut -/
noncomputable def cutN (s : LS) (st : Int) : Nat := (cutTo s st s.n).2
noncomputable def cutS (s : LS) (st : Int) : LS := (cutTo s st s.n).1.loss (cutN s st)
set_option maxRecDepth 100000 in
set_option maxHeartbeats 1600000 in
theorem cut_any {S : Foot} {w : World} {l : Nat} {s : LS} (h : LIn S w l s) (st : Int) (hlost : s.lost ≤ 100000000) :
    Calls Try.prog 28 #[ptr l, .int .i64 st] w fun e w' => e = .returned (.int .i64 (cutN s st)) ∧ Hid (LNow S l (cutS s st) w w') := by
  have h16 := h.n16
  have hc0 := h.cells.1
  obtain ⟨n, hn⟩ : ∃ n, n = s.n := ⟨_, rfl⟩
  rw [← hn] at h16 hc0
  have HN := cover hn
  have HST : Hid (LNow S l (cutTo s st 0).1 w w) := cover (LNow.same h)
  clear h hn
  go_enter Try.func28, Try.ntmps28
  go_wp2_with fail
  go_loopw [5, 13] (fun a i wr => ∃ k : Nat, k ≤ n ∧ a = .int .i64 (cutTo s st k).2 ∧ i = .int .i64 k ∧ (cutTo s st k).2 ≤ 128 * k ∧ Hid (LNow S l (cutTo s st k).1 w wr)) (fun _ i _ => n - (intOf i).toNat)
  case atStart => exact ⟨0, Nat.zero_le _, rfl, rfl, Nat.le_refl _, HST⟩
  case round =>
    clear HST hc0
    obtain ⟨k, hk, rfl, rfl, hg, hrel⟩ := hrel
    by_cases hlt : k < n
    · obtain ⟨S1, hl1, hm1⟩ := hrel.out
      have h1 := row_cut hl1 st k
      have L1 := Nat.le_trans (len_of hl1 st k) hl1.m64
      have M1 := cover hm1
      have e2 : (cutTo s st (k + 1)).2 = (cutTo s st k).2 + ((theRow (cutTo s st k).1 st k).length + (theRow (cutR (cutTo s st k).1 st k) k st).length) := rfl
      have HS : Hid ((cutTo s st (k + 1)).1 = cutR (cutR (cutTo s st k).1 st k) k st) := cover rfl
      have HE := cover e2
      clear hrel hl1 hm1 e2
      obtain ⟨s1, hs1⟩ : ∃ s1, s1 = cutR (cutTo s st k).1 st k := ⟨_, rfl⟩
      obtain ⟨g, hg0⟩ : ∃ g, g = (cutTo s st k).2 := ⟨_, rfl⟩
      rw [← hg0] at hg HE ⊢
      rw [← hs1] at HS HE
      obtain ⟨x1, hx1⟩ : ∃ x1, x1 = (theRow (cutTo s st k).1 st k).length := ⟨_, rfl⟩
      rw [← hx1] at L1 HE
      have HX := cover (And.intro hs1 (And.intro hg0 hx1))
      clear hs1 hg0 hx1
      go_wp2_with fail
      refine h1.mono ?_
      rintro e w1 ⟨p1, rfl, b1, hC1⟩
      clear h1
      go_wp2_with fail
      refine hC1.mono ?_
      rintro e w2 ⟨rfl, H2⟩
      clear hC1 b1
      rw [← HX.out.2.2]
      have H2' : Hid (LNow S1 l s1 wr w2) := cover (by rw [HX.out.1]; exact H2.out)
      clear H2
      obtain ⟨S2, hl2, hm2⟩ := H2'.out
      have h2 := row_cut hl2 k st
      have L2 := Nat.le_trans (len_of hl2 k st) hl2.m64
      have M2 := cover (M1.out.trans hm2)
      clear hl2 hm2 H2'
      obtain ⟨x2, hx2⟩ : ∃ x2, x2 = (theRow s1 k st).length := ⟨_, rfl⟩
      rw [← hx2] at L2 HE
      have HX2 := cover hx2
      clear hx2
      go_wp2_with fail
      refine h2.mono ?_
      rintro e w3 ⟨p3, rfl, b3, hC3⟩
      clear h2
      go_wp2_with fail
      refine hC3.mono ?_
      rintro e w4 ⟨rfl, H4⟩
      clear hC3 b3
      rw [← HX2.out]
      have HF : Hid (LNow S l (cutTo s st (k + 1)).1 w w4) := cover (by
        rw [HS.out]
        obtain ⟨S3, k1, k2⟩ := H4.out
        exact ⟨S3, k1, M2.out.trans k2⟩)
      clear H4 HX2 HX
      go_wp2
      go_roundw
      case rel => exact ⟨k + 1, by omega, by rw [HE.out]; go_num, by go_num, by rw [HE.out]; omega, HF⟩
      case measure => simp [intOf]; omega
    · obtain rfl : k = n := by omega
      obtain ⟨S1, hl1, hm1⟩ := hrel.out
      have c3 : wr.cell? ⟨l, 3, none⟩ = some (.int .i64 s.lost) := by have := hl1.cells.2.2.2; rwa [(cutTo_same s st k).2.2.2.2] at this
      have f3 := hl1.thaw 3
      have hset := hl1.setLost (s.lost + (cutTo s st k).2)
      have hmv := hl1.moveLost (s.lost + (cutTo s st k).2)
      have HE : Hid (cutN s st = (cutTo s st k).2) := cover (by unfold cutN; rw [← HN.out])
      have HF : Hid (LNow S l (cutS s st) w (wr.setCell ⟨l, 3, none⟩ (.int .i64 ((s.lost : Int) + ((cutTo s st k).2 : Int))))) := by
        refine cover ?_
        have e1 : ((s.lost + (cutTo s st k).2 : Nat) : Int) = (s.lost : Int) + ((cutTo s st k).2 : Int) := by omega
        rw [e1] at hset hmv
        refine ⟨S1, ?_, hm1.trans hmv⟩
        have e2 : cutS s st = { (cutTo s st k).1 with lost := s.lost + (cutTo s st k).2 } := by
          unfold cutS LS.loss; rw [HE.out, ← HN.out, (cutTo_same s st k).2.2.2.2]
        rw [e2]; exact hset
      clear hset hmv hl1 hm1 hrel
      generalize (cutTo s st k).2 = g at *
      go_wp2
      go_ret
      exact ⟨by rw [HE.out]; rfl, HF⟩
/-- one lan of the law's own -/
theorem cut_has {W w : World} {xs : List (Nat × Obj)} {l : Nat} {s : LS} (h : LHas W xs l s w) (st : Int) (hlost : s.lost ≤ 100000000) :
    Calls Try.prog 28 #[ptr l, .int .i64 st] w fun e w' => e = .returned (.int .i64 (cutN s st)) ∧ Hid (LHas W xs l (cutS s st) w') := by
  obtain ⟨S, h1, h2, h3, h4⟩ := h
  exact (cut_any h1 st hlost).mono fun e w' ⟨he, hn⟩ => ⟨he, cover (LHas.of_now h2 h3 h4 hn.out)⟩
end Go.Proofs.Ytjidhpmjdhjciaa
