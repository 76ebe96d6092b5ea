/- What Twice does. -/
import Derived.Test.YtjidhpmjdhjciaaFPass
namespace Go.Proofs.Ytjidhpmjdhjciaa
open Go.RowKit
set_option linter.unusedVariables false

noncomputable def twiceB (s : LS) (f t : Int) : Bool := match theRow s f t with | [] => false | x :: r => decide ((x :: r).length < s.m)
noncomputable def twiceS (s : LS) (f t : Int) : LS := match theRow s f t with | [] => s | x :: r => if (x :: r).length < s.m then setRow' s f t (x :: x :: r) else s
set_option maxRecDepth 100000 in
set_option maxHeartbeats 1600000 in
theorem twice_none {S : Foot} {w : World} {l : Nat} {s : LS} (h : LIn S w l s) (f t : Int) (hr : theRow s f t = []) :
    Calls Try.prog 15 #[ptr l, .int .i64 f, .int .i64 t] w fun e w' => e = .returned (.bool (twiceB s f t)) ∧ Hid (LNow S l (twiceS s f t) w w') := by
  have HB : Hid (twiceB s f t = false) := cover (by unfold twiceB; rw [hr])
  have HS : Hid (∀ w', Below w.heap.size w w' → LNow S l (twiceS s f t) w w') := cover fun w' hb => by unfold twiceS; rw [hr]; exact LNow.below h hb
  by_cases ho : okP s.n f t
  · obtain ⟨q, R, hq, _, hrow, _⟩ := h.open_ f t ho
    rw [hr] at hq
    clear h ho hr
    go_enter Try.func15, Try.ntmps15
    go_wp2_with fail
    refine hrow.mono ?_
    rintro e w1 ⟨rfl, d, hw1⟩
    have hb1 : Below w.heap.size w w1 := by rw [hw1]; exact below_drewN' _ _
    have hq1 := hq.below hb1
    have hs1 := hb1.size
    clear hw1 hrow hq
    go_wp2_with fail
    refine (peek_q_no hq1 0 (.inr (by simp [encR]))).mono ?_
    rintro e w2 ⟨rfl, hb2⟩
    have hb : Below w.heap.size w w2 := hb1.trans (hb2.mono hs1)
    have hs2 := hb.size
    have HN := cover (fun o n => HS.out _ (below_drewN (hb.alloc hs2 o) n))
    clear hb hb2 hq1 hb1 HS hs1
    go_wp2_with fail
    go_quiet (fail)
    go_wp2
    go_ret
    exact ⟨ret_bool HB.out.symm, cover (HN.out _ _)⟩
  · have hrow := row_none h f t ho
    clear h ho hr
    go_enter Try.func15, Try.ntmps15
    go_wp2_with fail
    refine hrow.mono ?_
    rintro e w1 ⟨rfl, d, hw1⟩
    have hb1 : Below w.heap.size w w1 := by rw [hw1]; exact below_drewN' _ _
    have hs1 := hb1.size
    clear hw1 hrow
    go_wp2_with fail
    refine (peek_nil w1).mono ?_
    rintro e w2 ⟨rfl, hb2⟩
    have hb : Below w.heap.size w w2 := hb1.trans (hb2.mono hs1)
    have hs2 := hb.size
    have HN := cover (fun o n => HS.out _ (below_drewN (hb.alloc hs2 o) n))
    clear hb hb2 hb1 HS hs1
    go_wp2_with fail
    go_quiet (fail)
    go_wp2
    go_ret
    exact ⟨ret_bool HB.out.symm, cover (HN.out _ _)⟩
set_option maxRecDepth 100000 in
set_option maxHeartbeats 1600000 in
theorem twice_some {S : Foot} {w : World} {l : Nat} {s : LS} (h : LIn S w l s) (f t : Int) {x : List Int × Nat} {r : List (List Int × Nat)} (hr : theRow s f t = x :: r) (hmax : x.1.length ≤ 1000000) :
    Calls Try.prog 15 #[ptr l, .int .i64 f, .int .i64 t] w fun e w' => e = .returned (.bool (twiceB s f t)) ∧ Hid (LNow S l (twiceS s f t) w w') := by
  obtain ⟨ho, hk⟩ := theRow_some hr
  obtain ⟨q, R, hq, _, hrow, hclose⟩ := h.open_ f t ho
  have hage := age_of h f t
  have hlen := len_of h f t
  have hm64 := h.m64
  rw [hr] at hq hage hlen
  have HE : Hid (∀ r, encR s.now (x :: r) = (x.1, (s.now : Int) - (x.2 : Int)) :: encR s.now r) := cover fun _ => rfl
  have HH := cover h
  have HM := cover (And.intro hmax (And.intro hlen hm64))
  have HC : Hid (∀ w' R' y, FQ R' w' q s.m (encR s.now y) → Moves R R' w w' → y.length ≤ s.m → (∀ z ∈ y, z ∈ x :: r) → LNow S l (setRow' s f t y) w w') := cover fun w' R' y h1 h2 h3 h4 => LNow.of3 (hclose w' R' y h1 h2 h3 (fun z hz => hage z (h4 z hz)))
  obtain ⟨nb, hnb⟩ : ∃ nb : Int, nb = (s.now : Int) - (x.2 : Int) := ⟨_, rfl⟩
  rw [← hnb] at HE
  obtain ⟨b, hbx⟩ : ∃ b, b = x.1 := ⟨_, rfl⟩
  rw [← hbx] at HE HM
  clear h ho hk hclose hage hlen hmax hm64 hnb
  by_cases hfull : (x :: r).length < s.m
  · have HB : Hid (twiceB s f t = true) := cover (by unfold twiceB; rw [hr]; simpa using hfull)
    have HS : Hid (twiceS s f t = setRow' s f t (x :: x :: r)) := cover (by unfold twiceS; rw [hr]; simp only []; rw [if_pos hfull])
    have HF := cover hfull
    clear hfull hr hbx
    go_enter Try.func15, Try.ntmps15
    go_wp2_with fail
    refine hrow.mono ?_
    rintro e w1 ⟨rfl, d, hw1⟩
    have hb1 : Below w.heap.size w w1 := by rw [hw1]; exact below_drewN' _ _
    have hq1 := hq.below hb1
    have hs1 := hb1.size
    obtain ⟨A, c, hoA, hP⟩ := peek_q (x := (b, nb)) hq1 0 (by rw [HE.out]; rfl)
    rw [show ((0 : Nat) : Int) = 0 from rfl] at hP
    clear hw1 hrow hq
    go_wp2_with fail
    refine hP.mono ?_
    rintro e w2 ⟨rfl, hb2⟩
    have HB2 := cover (And.intro hb1 (And.intro hs1 (And.intro hb2 hq1)))
    obtain ⟨w3, hw3⟩ : ∃ w3, w3 = w2.alloc (.cells #[.slice A b.length c, .int .i64 nb] 73) := ⟨_, rfl⟩
    obtain ⟨z, hz⟩ : ∃ z, z = w2.heap.size := ⟨_, rfl⟩
    have hzl : w3.heap[z]? = some (.cells #[.slice A b.length c, .int .i64 nb] 73 (0, 0)) := by rw [hw3, hz]; exact heap_alloc_new _ _
    have hs3 : w3.heap.size = z + 1 := by rw [hw3, hz]; simp
    have hb13 : Below w1.heap.size w1 w3 := by rw [hw3]; exact hb2.alloc hb2.size _
    have hob3 : OwnB w3 0 (.slice A b.length c) b := own_keep (v := ⟨A, c, b, 0⟩) hoA fun g hg => hb13.block g (blk_lt (v := ⟨A, c, b, 0⟩) hoA hg)
    have c0 := cell_of_row w3 z 0 _ _ _ hzl
    have c1 := cell_of_row w3 z 1 _ _ _ hzl
    simp at c0 c1
    have HCP : Hid (∀ W', Below w3.heap.size w3 W' → Calls Try.prog 35 #[.slice A b.length c] W' (GivesB W' b)) := cover fun W' hb => copyOf_any A b.length c w3.heap.size b W' (hob3.row.below hb) (by have := HM.out; omega)
    have HQ3 := cover (hq1.below hb13)
    have HB3 := cover (And.intro hb13 hs3)
    clear hP hb1 hq1 hb2 hoA hzl hb13 hob3
    go_wp2_with fail
    rw [← hw3, ← hz]
    clear hw3 hz
    have hzs : z < w3.heap.size := by omega
    clear hs3
    go_region_with (first
      | (go_at_call 35; refine (HCP.out _ (Below.refl _ _).drew).mono ?_; rintro e w4 ⟨A2, c2, rfl, ho2, hb4⟩; have hc24 := (hb4.cell (p := ⟨z, 1, none⟩) hzs).trans c1)
      | (go_at_call 37; refine (ins_q (i := 1) (HQ3.out.below ((Below.refl _ _).drew.trans hb4)) nb ?_ ?_ ?_ ho2 hb4.size (fun k hk => HQ3.out.lt k hk)).mono ?_; (· simp [encR]); (· rw [encR_length]; have := HF.out; omega); (· rw [encR_length]; have := HM.out; omega); rintro e w5 ⟨rfl, HP⟩))
    all_goals (
      have HN : Hid (LNow S l (twiceS s f t) w w5) := by
        obtain ⟨S', hq5, hm5⟩ := HP.out
        refine cover ?_
        rw [HS.out]
        rw [HE.out] at hq5
        refine HC.out w5 S' (x :: x :: r) (by rw [HE.out, HE.out]; exact hq5) ?_ ?_ ?_
        · exact Moves.after HB2.out.1 (Moves.after HB3.out.1 (Moves.born ((Below.refl _ _).drew.trans hb4) hm5))
        · have := HF.out; simp at this ⊢; omega
        · intro y hy; simp at hy ⊢; exact hy
      clear hb4 hc24 ho2 HP
      go_wp2
      go_ret
      exact ⟨ret_bool HB.out.symm, HN⟩)
  · have HB : Hid (twiceB s f t = false) := cover (by unfold twiceB; rw [hr]; simpa using hfull)
    have HS : Hid (twiceS s f t = s) := cover (by unfold twiceS; rw [hr]; simp only []; rw [if_neg hfull])
    have HF := cover hfull
    clear hfull hr hbx
    go_enter Try.func15, Try.ntmps15
    go_wp2_with fail
    refine hrow.mono ?_
    rintro e w1 ⟨rfl, d, hw1⟩
    have hb1 : Below w.heap.size w w1 := by rw [hw1]; exact below_drewN' _ _
    have hq1 := hq.below hb1
    have hs1 := hb1.size
    obtain ⟨A, c, hoA, hP⟩ := peek_q (x := (b, nb)) hq1 0 (by rw [HE.out]; rfl)
    rw [show ((0 : Nat) : Int) = 0 from rfl] at hP
    clear hw1 hrow hq
    go_wp2_with fail
    refine hP.mono ?_
    rintro e w2 ⟨rfl, hb2⟩
    have HB2 := cover (And.intro hb1 (And.intro hs1 (And.intro hb2 hq1)))
    obtain ⟨w3, hw3⟩ : ∃ w3, w3 = w2.alloc (.cells #[.slice A b.length c, .int .i64 nb] 73) := ⟨_, rfl⟩
    obtain ⟨z, hz⟩ : ∃ z, z = w2.heap.size := ⟨_, rfl⟩
    have hzl : w3.heap[z]? = some (.cells #[.slice A b.length c, .int .i64 nb] 73 (0, 0)) := by rw [hw3, hz]; exact heap_alloc_new _ _
    have hs3 : w3.heap.size = z + 1 := by rw [hw3, hz]; simp
    have hb13 : Below w1.heap.size w1 w3 := by rw [hw3]; exact hb2.alloc hb2.size _
    have hob3 : OwnB w3 0 (.slice A b.length c) b := own_keep (v := ⟨A, c, b, 0⟩) hoA fun g hg => hb13.block g (blk_lt (v := ⟨A, c, b, 0⟩) hoA hg)
    have c0 := cell_of_row w3 z 0 _ _ _ hzl
    have c1 := cell_of_row w3 z 1 _ _ _ hzl
    simp at c0 c1
    have HCP : Hid (∀ W', Below w3.heap.size w3 W' → Calls Try.prog 35 #[.slice A b.length c] W' (GivesB W' b)) := cover fun W' hb => copyOf_any A b.length c w3.heap.size b W' (hob3.row.below hb) (by have := HM.out; omega)
    have HQ3 := cover (hq1.below hb13)
    have HB3 := cover (And.intro hb13 hs3)
    clear hP hb1 hq1 hb2 hoA hzl hb13 hob3
    go_wp2_with fail
    rw [← hw3, ← hz]
    clear hw3 hz
    have hzs : z < w3.heap.size := by omega
    clear hs3
    go_region_with (first
      | (go_at_call 35; refine (HCP.out _ (Below.refl _ _).drew).mono ?_; rintro e w4 ⟨A2, c2, rfl, ho2, hb4⟩; have hc24 := (hb4.cell (p := ⟨z, 1, none⟩) hzs).trans c1)
      | (go_at_call 37; refine (ins_q_no (HQ3.out.below ((Below.refl _ _).drew.trans hb4)) 1 nb ?_).mono ?_; (· rw [encR_length]; have := HF.out; omega); rintro e w5 ⟨rfl, hb5⟩))
    all_goals (
      have HN : Hid (LNow S l (twiceS s f t) w w5) := by
        refine cover ?_
        rw [HS.out]
        have e1 := HB3.out.1.size
        have e2 := hb4.size
        have e3 : w3.drew.heap.size = w3.heap.size := rfl
        exact LNow.below HH.out (HB2.out.1.trans ((HB3.out.1.mono HB2.out.2.1).trans (((Below.refl _ _).drew.trans hb4).mono (Nat.le_trans HB2.out.2.1 e1) |>.trans (hb5.mono (by have := HB2.out.2.1; omega)))))
      clear hb4 hc24 ho2 hb5
      go_wp2
      go_ret
      exact ⟨ret_bool HB.out.symm, HN⟩)
theorem twice_any {S : Foot} {w : World} {l : Nat} {s : LS} (h : LIn S w l s) (f t : Int) (hmax : ∀ x ∈ theRow s f t, x.1.length ≤ 1000000) :
    Calls Try.prog 15 #[ptr l, .int .i64 f, .int .i64 t] w fun e w' => e = .returned (.bool (twiceB s f t)) ∧ Hid (LNow S l (twiceS s f t) w w') := by
  rcases hr : theRow s f t with _ | ⟨x, r⟩
  · exact twice_none h f t hr
  · exact twice_some h f t hr (hmax x (by rw [hr]; simp))
end Go.Proofs.Ytjidhpmjdhjciaa
