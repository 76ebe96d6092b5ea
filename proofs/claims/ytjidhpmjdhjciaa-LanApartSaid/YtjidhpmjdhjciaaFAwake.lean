/- The law's own first question: the program is awake. Facts on what a lan is, plainly. -/
import Derived.Test.YtjidhpmjdhjciaaOSame
import Derived.Test.YtjidhpmjdhjciaaFPass
import Derived.Test.YtjidhpmjdhjciaaFNew2
namespace Go.Proofs.Ytjidhpmjdhjciaa
open Go.RowKit
set_option linter.unusedVariables false

theorem same_all {w : World} {A A' : Option Addr} {n m c c' B B' : Nat} {l l' : List Int} (h1 : Row w B A n l) (h2 : Row w B' A' m l') (hmax : n ≤ 9223372036854775807) :
    Calls Try.prog 17 #[.slice A n c, .slice A' m c'] w fun e w' => e = .returned (.bool (decide (l = l'))) ∧ ∃ d, w' = w.drewN d := by
  by_cases h : n = m
  · subst h; exact same_any A A' n c c' B B' l l' w h1 h2 hmax
  · have : decide (l = l') = false := by
      rw [decide_eq_false_iff_not]
      intro e
      subst e
      exact h (h1.len.symm.trans h2.len)
    rw [this]
    exact same_len A A' n c m c' w h
theorem same_yes {w : World} {A A' : Option Addr} {n m c c' B B' : Nat} {l l' : List Int} (h1 : Row w B A n l) (h2 : Row w B' A' m l') (hmax : n ≤ 9223372036854775807) (e : l = l') :
    Calls Try.prog 17 #[.slice A n c, .slice A' m c'] w fun e w' => e = .returned (.bool true) ∧ ∃ d, w' = w.drewN d := by
  have := same_all (c := c) (c' := c') h1 h2 hmax
  rwa [show decide (l = l') = true by simpa using e] at this
theorem same_no {w : World} {A A' : Option Addr} {n m c c' B B' : Nat} {l l' : List Int} (h1 : Row w B A n l) (h2 : Row w B' A' m l') (hmax : n ≤ 9223372036854775807) (e : l ≠ l') :
    Calls Try.prog 17 #[.slice A n c, .slice A' m c'] w fun e w' => e = .returned (.bool false) ∧ ∃ d, w' = w.drewN d := by
  have := same_all (c := c) (c' := c') h1 h2 hmax
  rwa [show decide (l = l') = false by simpa using e] at this
theorem sendB_yes {s : LS} {f t : Int} (ho : okP s.n f t) (hm : (theRow s f t).length < s.m) : sendB s f t = true := by
  rw [theRow_ok ho] at hm
  simp [sendB, ho, hm]
theorem sendS_yes {s : LS} {f t : Int} (ho : okP s.n f t) (hm : (theRow s f t).length < s.m) (b : List Int) : sendS s f t b = setRow' s f t (theRow s f t ++ [(b, 0)]) := by
  rw [theRow_ok ho] at hm ⊢
  simp [sendS, ho, hm, setRow']
theorem sendB_full {s : LS} {f t : Int} (hm : ¬ (theRow s f t).length < s.m) : sendB s f t = false := by
  by_cases ho : okP s.n f t
  · rw [theRow_ok ho] at hm; simp [sendB, ho]; omega
  · simp [sendB, ho]
theorem sendS_full {s : LS} {f t : Int} (ho : okP s.n f t) (hm : ¬ (theRow s f t).length < s.m) (b : List Int) : sendS s f t b = s.loss 1 := by
  rw [theRow_ok ho] at hm
  simp [sendS, ho, hm]
theorem sendB_no {s : LS} {f t : Int} (ho : ¬ okP s.n f t) : sendB s f t = false := by simp [sendB, ho]
theorem sendS_no {s : LS} {f t : Int} (ho : ¬ okP s.n f t) (b : List Int) : sendS s f t b = s := by simp [sendS, ho]
theorem row_set {s : LS} {f t : Int} (ho : okP s.n f t) (r : List (List Int × Nat)) : theRow (setRow' s f t r) f t = r := by
  have : okP (setRow' s f t r).n f t := ho
  rw [theRow_ok this]; exact LS.upd_at _ _ _
theorem row_loss (s : LS) (x : Nat) (f t : Int) : theRow (s.loss x) f t = theRow s f t := rfl
theorem row_fresh (n m life : Nat) (f t : Int) : theRow (LS.fresh n m life) f t = [] := by unfold theRow LS.fresh; split <;> rfl
theorem ok_01 (n : Nat) (h : 2 ≤ n) : okP n 0 1 := ⟨⟨by omega, by omega⟩, ⟨by omega, by omega⟩, by omega⟩

set_option maxRecDepth 100000 in
set_option maxHeartbeats 1600000 in
theorem awake_any (w : World) : Calls Try.prog 12 #[] w fun e w' => e = .returned (.bool true) ∧ Below w.heap.size w w' := by
  go_enter Try.func12, Try.ntmps12
  go_wp2_with fail
  refine (new_yes 2 3 9 w (by decide) (by decide) (by decide)).mono ?_
  rintro e w1 ⟨l, S, rfl, hl, hS, hb1⟩
  have hs1 := hb1.size
  have hr1 := RowK.madeF (κ := .u8) w1 [5] #[.int .u8 5] 5 (0, 0) rfl
  have hl1 := hl.below ((Below.refl _ _).alloc (Nat.le_refl _) (.cells #[.int .u8 5] 5))
  have hB : sendB (LS.fresh 2 3 9) 0 1 = true := sendB_yes (ok_01 2 (by decide)) (by rw [row_fresh]; decide)
  have hSS := sendS_yes (s := LS.fresh 2 3 9) (ok_01 2 (by decide)) (by rw [row_fresh]; decide) [5]
  rw [row_fresh] at hSS
  have HSend := send_any hl1 0 1 (some ⟨w1.heap.size, 0, none⟩) 1 1 _ [5] hr1 (by simp) (by decide) (by decide) (by decide)
  rw [hB, hSS] at HSend
  have H1 := cover (And.intro hS (And.intro hb1 hs1))
  clear hl hl1 hr1 hB hSS hS hb1 hs1
  go_wp2_with fail
  refine HSend.mono ?_
  rintro e w2 ⟨rfl, H2⟩
  obtain ⟨S2, hl2, hm2⟩ := H2.out
  have hP := pass_any hl2 0 1
  have hrow := row_set (s := LS.fresh 2 3 9) (ok_01 2 (by decide)) ([] ++ [([5], 0)])
  have hpl : passL (setRow' (LS.fresh 2 3 9) 0 1 ([] ++ [([5], 0)])) 0 1 = [5] := by unfold passL; rw [hrow]; rfl
  have hpb : passB (setRow' (LS.fresh 2 3 9) 0 1 ([] ++ [([5], 0)])) 0 1 = true := by unfold passB; rw [hrow]; rfl
  have hm12 : Moves S S2 w1 w2 := Moves.after ((Below.refl _ _).alloc (Nat.le_refl _) _) hm2
  unfold PassOut at hP
  rw [hpl, hpb] at hP
  have H3 := cover hm12
  clear hrow hpl hpb hl2 hm2 H2 HSend hm12
  go_wp2_with fail
  refine hP.mono ?_
  rintro e w3 ⟨A, c, rfl, ho3, S3, hl3, hm3, _⟩
  have hb13 := H3.out.trans hm3
  have hb3 : Below w.heap.size w w3 := Moves.below H1.out.2.1 hb13 H1.out.1 H1.out.2.2
  have hr3 := RowK.madeF (κ := .u8) w3 [5] #[.int .u8 5] 5 (0, 0) rfl
  have hr3' := ho3.row.below ((Below.refl _ _).alloc (Nat.le_refl _) (.cells #[.int .u8 5] 5))
  have hSame := same_yes (c := c) (c' := 1) hr3' hr3 (by decide) rfl
  have HB := cover hb3
  clear hP hl3 hm3 hb13 hb3 hr3 hr3' ho3
  go_wp2_with fail
  refine hSame.mono ?_
  rintro e w4 ⟨rfl, d, rfl⟩
  have HF := cover (below_drewN (HB.out.alloc HB.out.size (.cells #[.int .u8 5] 5)) d)
  clear hSame HB
  go_wp2
  go_ret
  exact ⟨rfl, HF.out⟩
end Go.Proofs.Ytjidhpmjdhjciaa
