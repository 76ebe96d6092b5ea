/- What Send does. -/
import Derived.Deep.RegionWith
import Derived.Test.YtjidhpmjdhjciaaFOut
namespace Go.Proofs.Ytjidhpmjdhjciaa
open Go.RowKit
set_option linter.unusedVariables false

/-- the row of these two -/
def keyP (n : Nat) (f t : Int) : Nat := f.toNat * n + t.toNat
theorem okP_nat {n : Nat} {f t : Int} (h : okP n f t) : ∃ a b : Nat, f = (a : Int) ∧ t = (b : Int) ∧ a < n ∧ b < n ∧ a ≠ b ∧ keyP n f t = a * n + b :=
  ⟨f.toNat, t.toNat, by have := h.1; omega, by have := h.2.1; omega, by have := h.1; omega, by have := h.2.1; omega, fun e => h.2.2 (by have := h.1; have := h.2.1; omega), rfl⟩
open Classical in
/-- what Send answers, and leaves -/
noncomputable def sendB (s : LS) (f t : Int) : Bool := decide (okP s.n f t) && decide ((s.rows (keyP s.n f t)).length < s.m)
open Classical in
noncomputable def sendS (s : LS) (f t : Int) (b : List Int) : LS :=
  if okP s.n f t then (if (s.rows (keyP s.n f t)).length < s.m then s.upd (keyP s.n f t) (s.rows (keyP s.n f t) ++ [(b, 0)]) else s.loss 1) else s
/-- the lan is such now; what was not its own lies as it lay -/
def LNow (S : Foot) (l : Nat) (s : LS) (w w' : World) : Prop := ∃ S', LIn S' w' l s ∧ Moves S S' w w'
theorem LNow.of3 {S : Foot} {l : Nat} {s : LS} {w w' : World} {P : Foot → Prop} (h : ∃ S', LIn S' w' l s ∧ Moves S S' w w' ∧ P S') : LNow S l s w w' := by
  obtain ⟨S', h1, h2, _⟩ := h; exact ⟨S', h1, h2⟩
theorem LNow.below {S : Foot} {l : Nat} {s : LS} {w w' : World} (h : LIn S w l s) (hb : Below w.heap.size w w') : LNow S l s w w' := ⟨S, h.below hb, Moves.of_below S hb⟩
theorem encR_snoc (now : Nat) (r : List (List Int × Nat)) (b : List Int) : encR now (r ++ [(b, 0)]) = encR now r ++ [(b, (now : Int))] := by simp [encR]
theorem below_drewN' (w : World) (d : Nat) : Below w.heap.size w (w.drewN d) := below_drewN (Below.refl _ _) d
theorem LNow.loss {S : Foot} {l : Nat} {s : LS} {w w' : World} (h : LNow S l s w w') : LNow S l (s.loss 1) w (w'.setCell ⟨l, 3, none⟩ (.int .i64 ((s.lost : Int) + 1))) := by
  obtain ⟨S', h1, h2⟩ := h
  have := h1.setLost (s.lost + 1)
  rw [show (((s.lost + 1 : Nat)) : Int) = (s.lost : Int) + 1 by omega] at this
  exact ⟨S', this, h2.trans (by have := h1.moveLost (s.lost + 1); rwa [show (((s.lost + 1 : Nat)) : Int) = (s.lost : Int) + 1 by omega] at this)⟩

set_option maxRecDepth 100000 in
set_option maxHeartbeats 1600000 in
theorem send_any {S : Foot} {w : World} {l : Nat} {s : LS} (h : LIn S w l s) (f t : Int) (A : Option Addr) (n c B : Nat) (b : List Int) (hr : Row w B A n b) (hB : B ≤ w.heap.size) (hmax : n ≤ 1000000) (hnow : s.now ≤ 1000000) (hlost : s.lost ≤ 100000000) :
    Calls Try.prog 14 #[ptr l, .int .i64 f, .int .i64 t, .slice A n c] w fun e w' => e = .returned (.bool (sendB s f t)) ∧ Hid (LNow S l (sendS s f t b) w w') := by
  by_cases ho : okP s.n f t
  · obtain ⟨x, y, rfl, rfl, hx, hy, hxy, hk⟩ := okP_nat ho
    obtain ⟨q, R, hq, hRS, hrow, hclose⟩ := h.row hx hy hxy
    rw [← hk] at hq hclose
    have hll := h.lt l h.l_in
    have hc2 := h.cells.2.2.1
    have hlen := h.len (keyP s.n x y)
    have hage := h.age (keyP s.n x y)
    have hm64 := h.m64
    have HM : Hid (n ≤ 1000000 ∧ s.now ≤ 1000000 ∧ s.lost ≤ 100000000 ∧ s.m ≤ 64) := cover ⟨hmax, hnow, hlost, hm64⟩
    have HH := cover (And.intro h (And.intro hclose (And.intro ho (And.intro hRS hage))))
    have hbl := hr.len
    have HR := cover (And.intro hr (And.intro hB hbl))
    clear h hclose hk hxy hx hy hmax hnow hlost hm64 hr hB hbl hRS hage
    go_enter Try.func14, Try.ntmps14
    go_wp2_with fail
    refine hrow.mono ?_
    rintro e w1 ⟨rfl, d, hw1⟩
    have hb1 : Below w.heap.size w w1 := by rw [hw1]; exact below_drewN' _ _
    have hc21 := (hb1.cell (p := ⟨l, 2, none⟩) hll).trans hc2
    have hs1 := hb1.size
    have hql := (hq.below hb1)
    have HQ := cover hql
    have HB := cover hb1
    have hll1 : l < w1.heap.size := by omega
    have HC : Hid (∀ W', Below w1.heap.size w1 W' → Calls Try.prog 35 #[.slice A n c] W' (GivesB W' b)) := cover fun W' hb => copyOf_any A n c B b W' ((HR.out.1.below (hb1.mono HR.out.2.1)).below (hb.mono (Nat.le_trans HR.out.2.1 hs1))) (by have := HM.out; omega)
    clear hw1 hb1 hrow hq hc2 hql
    by_cases hfull : (s.rows (keyP s.n x y)).length < s.m
    · have HSB : Hid (sendB s x y = true) := cover (by simp [sendB, HH.out.2.2.1, hfull])
      have HS : Hid (sendS s x y b = s.upd (keyP s.n x y) (s.rows (keyP s.n x y) ++ [(b, 0)])) := cover (by simp [sendS, HH.out.2.2.1, hfull])
      have HF := cover hfull
      clear hfull
      go_wp2_with fail
      go_region_with (first
        | (go_at_call 35; refine (HC.out _ (Below.refl _ _).drew).mono ?_; rintro e w2 ⟨A2, c2, rfl, ho2, hb2⟩; have hc22 := (hb2.cell (p := ⟨l, 2, none⟩) hll1).trans hc21)
        | (go_at_call 34; refine (put_q (HQ.out.below ((Below.refl _ _).drew.trans hb2)) s.now ?_ ?_ ho2 hb2.size (fun k hk => HQ.out.lt k hk)).mono ?_; (· rw [encR_length]; have := HF.out; omega); (· rw [encR_length]; have := HM.out; omega); rintro e w3 ⟨rfl, HP⟩))
      all_goals (
        have HN : Hid (LNow S l (sendS s x y b) w w3) := by
          obtain ⟨S', hq3, hm3⟩ := HP.out
          refine cover ?_
          rw [HS.out]
          rw [List.take_length, List.drop_length, ← encR_snoc] at hq3
          refine LNow.of3 (HH.out.2.1 w3 S' _ hq3 (Moves.after HB.out (Moves.born ((Below.refl _ _).drew.trans hb2) hm3)) ?_ ?_)
          · simp; exact HF.out
          · intro z hz
            rcases List.mem_append.1 hz with hz | hz
            · exact HH.out.2.2.2.2 z hz
            · simp at hz; subst hz; exact Nat.zero_le _
        clear hb2 hc22 ho2 HP
        go_wp2
        go_ret
        exact ⟨ret_bool HSB.out.symm, HN⟩)
    · have HSB : Hid (sendB s x y = false) := cover (by simp [sendB, hfull])
      have HS : Hid (sendS s x y b = s.loss 1) := cover (by simp [sendS, HH.out.2.2.1, hfull])
      have HF := cover hfull
      clear hfull
      go_wp2_with fail
      go_region_with (first
        | (go_at_call 35; refine (HC.out _ (Below.refl _ _).drew).mono ?_; rintro e w2 ⟨A2, c2, rfl, ho2, hb2⟩; have hc22 := (hb2.cell (p := ⟨l, 2, none⟩) hll1).trans hc21)
        | (go_at_call 34; refine (put_q_no (HQ.out.below ((Below.refl _ _).drew.trans hb2)) s.now ?_).mono ?_; (· rw [encR_length]; have := HF.out; omega); rintro e w3 ⟨rfl, hb3⟩))
      all_goals (
        have hb03 : Below w.heap.size w w3 := (HB.out.trans ((Below.refl _ _).drew.mono hs1)).trans ((hb2.mono hs1).trans (hb3.mono (by have := hb2.size; exact Nat.le_trans hs1 this)))
        have hl3 := HH.out.1.below hb03
        have c3 := hl3.cells.2.2.2
        have f3 := hl3.thaw 3
        have hlw : s.lost ≤ 100000000 := HM.out.2.2.1
        have HN : Hid (LNow S l (sendS s x y b) w (w3.setCell ⟨l, 3, none⟩ (.int .i64 ((s.lost : Int) + 1)))) := by
          refine cover ?_
          rw [HS.out]
          exact LNow.loss ⟨S, hl3, Moves.of_below S hb03⟩
        clear hb2 hc22 ho2 hb3 hb03 hl3
        go_wp2
        go_ret
        exact ⟨ret_bool HSB.out.symm, HN⟩)
  · have hrow := row_none h f t ho
    have hsb : sendB s f t = false := by simp [sendB, ho]
    have HS : Hid (sendS s f t b = s) := cover (by simp [sendS, ho])
    have HH := cover h
    clear h ho hr
    rw [hsb]
    clear hsb
    go_enter Try.func14, Try.ntmps14
    go_wp2_with fail
    refine hrow.mono ?_
    rintro e w1 ⟨rfl, d, rfl⟩
    go_wp2
    go_ret
    exact ⟨rfl, cover (by rw [HS.out]; exact LNow.below HH.out (below_drewN' _ _))⟩
end Go.Proofs.Ytjidhpmjdhjciaa
