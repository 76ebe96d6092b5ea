/- What Pass, Drop, Lost and Cut do. -/
import Derived.Test.YtjidhpmjdhjciaaFSend
namespace Go.Proofs.Ytjidhpmjdhjciaa
open Go.RowKit
set_option linter.unusedVariables false

open Classical in
/-- the frames of the row of these two; none, where there is no such row -/
noncomputable def theRow (s : LS) (f t : Int) : List (List Int × Nat) := if okP s.n f t then s.rows (keyP s.n f t) else []
/-- that row is another one now -/
noncomputable def setRow' (s : LS) (f t : Int) (r : List (List Int × Nat)) : LS := s.upd (keyP s.n f t) r
theorem theRow_ok {s : LS} {f t : Int} (h : okP s.n f t) : theRow s f t = s.rows (keyP s.n f t) := by simp [theRow, h]
theorem theRow_no {s : LS} {f t : Int} (h : ¬ okP s.n f t) : theRow s f t = [] := by simp [theRow, h]
theorem theRow_some {s : LS} {f t : Int} {x : List Int × Nat} {r : List (List Int × Nat)} (h : theRow s f t = x :: r) : okP s.n f t ∧ s.rows (keyP s.n f t) = x :: r := by
  by_cases ho : okP s.n f t
  · exact ⟨ho, (theRow_ok ho).symm.trans h⟩
  · rw [theRow_no ho] at h; cases h
theorem LNow.then_below {S : Foot} {l : Nat} {s : LS} {w w' w'' : World} (h : LNow S l s w w') (hb : Below w'.heap.size w' w'') : LNow S l s w w'' := by
  obtain ⟨S', h1, h2⟩ := h; exact ⟨S', h1.below hb, h2.then_below hb⟩
theorem LNow.same {S : Foot} {l : Nat} {s : LS} {w : World} (h : LIn S w l s) : LNow S l s w w := ⟨S, h, Moves.refl S w⟩
theorem LNow.trans {S : Foot} {l : Nat} {s s' : LS} {w w' w'' : World} (h : LNow S l s w w') (k : ∀ S', LIn S' w' l s → LNow S' l s' w' w'') : LNow S l s' w w'' := by
  obtain ⟨S', h1, h2⟩ := h
  obtain ⟨S'', h3, h4⟩ := k S' h1
  exact ⟨S'', h3, h2.trans h4⟩
/-- Pass -/
noncomputable def passL (s : LS) (f t : Int) : List Int := match theRow s f t with | [] => [] | x :: _ => x.1
noncomputable def passB (s : LS) (f t : Int) : Bool := !(theRow s f t).isEmpty
noncomputable def passS (s : LS) (f t : Int) : LS := match theRow s f t with | [] => s | _ :: r => setRow' s f t r
def PassOut (S : Foot) (l : Nat) (s : LS) (f t : Int) (w : World) (e : Ending) (w' : World) : Prop :=
  ∃ A c, e = .returned (.tuple #[.slice A (passL s f t).length c, .bool (passB s f t)]) ∧ OwnB w' 0 (.slice A (passL s f t).length c) (passL s f t) ∧ ∃ S', LIn S' w' l (passS s f t) ∧ Moves S S' w w' ∧ ∀ g, (Value.slice A (passL s f t).length c).ownBlock = some g → ¬ S' g ∧ S g

/-- the row is there: its first frame, or none -/
theorem LIn.open_ {S : Foot} {w : World} {l : Nat} {s : LS} (h : LIn S w l s) (f t : Int) (ho : okP s.n f t) :
    ∃ q R, FQ R w q s.m (encR s.now (theRow s f t)) ∧ (∀ i, R i → S i ∧ i ≠ l) ∧
      Calls Try.prog 33 #[ptr l, .int .i64 f, .int .i64 t] w (fun e w' => e = .returned (ptr q) ∧ ∃ d, w' = w.drewN d) ∧
      ∀ w' R' r, FQ R' w' q s.m (encR s.now r) → Moves R R' w w' → r.length ≤ s.m → (∀ x ∈ r, x.2 ≤ s.now) → ∃ S', LIn S' w' l (setRow' s f t r) ∧ Moves S S' w w' ∧ ∀ i, R i → ¬ R' i → ¬ S' i := by
  rw [theRow_ok ho]
  obtain ⟨a, b, rfl, rfl, ha, hb, hab, hk⟩ := okP_nat ho
  unfold setRow'
  rw [hk]
  exact h.row ha hb hab
theorem age_of {S : Foot} {w : World} {l : Nat} {s : LS} (h : LIn S w l s) (f t : Int) : ∀ x ∈ theRow s f t, x.2 ≤ s.now := by
  unfold theRow; split
  · exact h.age _
  · intro x hx; cases hx
theorem len_of {S : Foot} {w : World} {l : Nat} {s : LS} (h : LIn S w l s) (f t : Int) : (theRow s f t).length ≤ s.m := by
  unfold theRow; split
  · exact h.len _
  · exact Nat.zero_le _

set_option maxRecDepth 100000 in
theorem pass_any {S : Foot} {w : World} {l : Nat} {s : LS} (h : LIn S w l s) (f t : Int) :
    Calls Try.prog 16 #[ptr l, .int .i64 f, .int .i64 t] w (PassOut S l s f t w) := by
  rcases hr : theRow s f t with _ | ⟨x, r⟩
  · have HO : Hid (∀ w', Below w.heap.size w w' → PassOut S l s f t w (.returned (.tuple #[.slice none 0 0, .bool false])) w') := cover fun w' hb => by
      unfold PassOut passL passB passS
      rw [hr]
      exact ⟨none, 0, rfl, OwnB.nil _ _, S, h.below hb, Moves.of_below S hb, fun g hg => by simp [Value.ownBlock] at hg⟩
    by_cases ho : okP s.n f t
    · obtain ⟨q, R, hq, _, hrow, _⟩ := h.open_ f t ho
      rw [hr] at hq
      clear h ho hr
      generalize PassOut S l s f t w = Post at HO ⊢
      go_enter Try.func16, Try.ntmps16
      go_wp2_with fail
      refine hrow.mono ?_
      rintro e w1 ⟨rfl, d, hw1⟩
      have hb1 : Below w.heap.size w w1 := by rw [hw1]; exact below_drewN' _ _
      have hq1 := hq.below hb1
      have hs1 := hb1.size
      clear hw1 hrow hq
      go_wp2_with fail
      refine (take_q_no hq1).mono ?_
      rintro e w2 ⟨rfl, hb2⟩
      have hb : Below w.heap.size w w2 := hb1.trans (hb2.mono hs1)
      have hs2 := hb.size
      have HP := cover (fun o => HO.out _ (hb.alloc hs2 o))
      clear hb hb2 hq1 hb1 HO hs1
      go_wp2
      exact (HP.out _)
    · have hrow := row_none h f t ho
      clear h ho hr
      generalize PassOut S l s f t w = Post at HO ⊢
      go_enter Try.func16, Try.ntmps16
      go_wp2_with fail
      refine hrow.mono ?_
      rintro e w1 ⟨rfl, d, hw1⟩
      have hb1 : Below w.heap.size w w1 := by rw [hw1]; exact below_drewN' _ _
      have hs1 := hb1.size
      clear hw1 hrow
      go_wp2_with fail
      refine (take_nil w1).mono ?_
      rintro e w2 ⟨rfl, hb2⟩
      have hb : Below w.heap.size w w2 := hb1.trans (hb2.mono hs1)
      have hs2 := hb.size
      have HP := cover (fun o => HO.out _ (hb.alloc hs2 o))
      clear hb hb2 hb1 HO hs1
      go_wp2
      exact (HP.out _)
  · obtain ⟨ho, hk⟩ := theRow_some hr
    obtain ⟨q, R, hq, hRS, hrow, hclose⟩ := h.open_ f t ho
    have hage := age_of h f t
    have hlen := len_of h f t
    rw [hr] at hq hage hlen
    have HO : Hid (∀ A c w' w'', OwnB w' 0 (.slice A x.1.length c) x.1 → (∃ S', LIn S' w' l (setRow' s f t r) ∧ Moves S S' w w' ∧ ∀ g, (Value.slice A x.1.length c).ownBlock = some g → ¬ S' g ∧ S g) → Below w'.heap.size w' w'' → PassOut S l s f t w (.returned (.tuple #[.slice A x.1.length c, .bool true])) w'') := cover fun A c w' w'' h1 h2 hb => by
      unfold PassOut passL passB passS
      rw [hr]
      obtain ⟨S', h4, h5, h6⟩ := h2
      exact ⟨A, c, rfl, own_keep (v := ⟨A, c, x.1, 0⟩) h1 (fun g hg => hb.block g (blk_lt (v := ⟨A, c, x.1, 0⟩) h1 hg)), S', h4.below hb, h5.then_below hb, h6⟩
    have HC : Hid (∀ w' R', FQ R' w' q s.m (encR s.now r) → Moves R R' w w' → ∃ S', LIn S' w' l (setRow' s f t r) ∧ Moves S S' w w' ∧ ∀ i, R i → ¬ R' i → ¬ S' i) := cover fun w' R' h1 h2 => hclose w' R' r h1 h2 (by simp at hlen; omega) (fun y hy => hage y (List.mem_cons_of_mem _ hy))
    clear h ho hr hk hclose hage hlen
    generalize PassOut S l s f t w = Post at HO ⊢
    go_enter Try.func16, Try.ntmps16
    go_wp2_with fail
    refine hrow.mono ?_
    rintro e w1 ⟨rfl, d, hw1⟩
    have hb1 : Below w.heap.size w w1 := by rw [hw1]; exact below_drewN' _ _
    have hq1 := hq.below hb1
    clear hw1 hrow hq
    obtain ⟨A, c, hoA, hgR, hT⟩ := take_q hq1
    have HG := cover hgR
    have HRS := cover hRS
    clear hRS
    go_wp2_with fail
    refine hT.mono ?_
    rintro e w2 ⟨rfl, H2⟩
    have HP : Hid (∀ o, Post (.returned (.tuple #[.slice A x.1.length c, .bool true])) (w2.alloc o)) := cover fun o => by
      obtain ⟨⟨R', hq2, hm2, hn2⟩, ho2⟩ := H2.out
      obtain ⟨S', h4, h5, h6⟩ := HC.out w2 R' hq2 (Moves.after hb1 hm2)
      exact HO.out A c w2 _ ho2 ⟨S', h4, h5, fun g hg => ⟨h6 g (HG.out g hg) (hn2 g hg), (HRS.out g (HG.out g hg)).1⟩⟩ ((Below.refl _ _).alloc (Nat.le_refl _) _)
    clear H2 hT hoA hq1 hb1 HC HO hgR
    go_wp2
    exact (HP.out _)
/-- Drop -/
noncomputable def dropS (s : LS) (f t : Int) : LS := match theRow s f t with | [] => s | _ :: r => (setRow' s f t r).loss 1
set_option maxRecDepth 100000 in
theorem drop_any {S : Foot} {w : World} {l : Nat} {s : LS} (h : LIn S w l s) (f t : Int) (hlost : s.lost ≤ 100000000) :
    Calls Try.prog 25 #[ptr l, .int .i64 f, .int .i64 t] w fun e w' => e = .returned (.bool (passB s f t)) ∧ Hid (LNow S l (dropS s f t) w w') := by
  rcases hr : theRow s f t with _ | ⟨x, r⟩
  · have HB : Hid (passB s f t = false) := cover (by unfold passB; rw [hr]; rfl)
    have HS : Hid (∀ w', Below w.heap.size w w' → LNow S l (dropS s f t) w w') := cover fun w' hb => by unfold dropS; rw [hr]; exact LNow.below h hb
    by_cases ho : okP s.n f t
    · obtain ⟨q, R, hq, _, hrow, _⟩ := h.open_ f t ho
      rw [hr] at hq
      clear h ho hr
      go_enter Try.func25, Try.ntmps25
      go_wp2_with fail
      refine hrow.mono ?_
      rintro e w1 ⟨rfl, d, hw1⟩
      have hb1 : Below w.heap.size w w1 := by rw [hw1]; exact below_drewN' _ _
      have hq1 := hq.below hb1
      clear hw1 hrow hq
      go_wp2_with fail
      refine (cut_q_no hq1 1 (.inr rfl)).mono ?_
      rintro e w2 ⟨rfl, rfl⟩
      have HN := cover (HS.out _ hb1)
      clear hq1 hb1
      go_wp2
      go_ret
      exact ⟨ret_bool HB.out.symm, HN⟩
    · have hrow := row_none h f t ho
      clear h ho hr
      go_enter Try.func25, Try.ntmps25
      go_wp2_with fail
      refine hrow.mono ?_
      rintro e w1 ⟨rfl, d, hw1⟩
      have hb1 : Below w.heap.size w w1 := by rw [hw1]; exact below_drewN' _ _
      clear hw1 hrow
      go_wp2_with fail
      refine (cut_nil 1 w1).mono ?_
      rintro e w2 ⟨rfl, rfl⟩
      have HN := cover (HS.out _ hb1)
      clear hb1
      go_wp2
      go_ret
      exact ⟨ret_bool HB.out.symm, HN⟩
  · obtain ⟨ho, hk⟩ := theRow_some hr
    obtain ⟨q, R, hq, _, hrow, hclose⟩ := h.open_ f t ho
    have hage := age_of h f t
    have hlen := len_of h f t
    rw [hr] at hq hage hlen
    have HB : Hid (passB s f t = true) := cover (by unfold passB; rw [hr]; rfl)
    have HS : Hid (dropS s f t = (setRow' s f t r).loss 1) := cover (by unfold dropS; rw [hr])
    have HC : Hid (∀ w' R', FQ R' w' q s.m (encR s.now r) → Moves R R' w w' → LNow S l (setRow' s f t r) w w') := cover fun w' R' h1 h2 => LNow.of3 (hclose w' R' r h1 h2 (by simp at hlen; omega) (fun y hy => hage y (List.mem_cons_of_mem _ hy)))
    clear h ho hr hk hclose hage hlen
    go_enter Try.func25, Try.ntmps25
    go_wp2_with fail
    refine hrow.mono ?_
    rintro e w1 ⟨rfl, d, hw1⟩
    have hb1 : Below w.heap.size w w1 := by rw [hw1]; exact below_drewN' _ _
    have hq1 := hq.below hb1
    clear hw1 hrow hq
    have hC := cut_q hq1 1 1 (by omega) (by simp [encR]) (by omega)
    rw [show ((1 : Nat) : Int) = 1 from rfl] at hC
    go_wp2_with fail
    refine hC.mono ?_
    rintro e w2 ⟨rfl, H2⟩
    have hN : LNow S l (setRow' s f t r) w w2 := by
      obtain ⟨R', hq2, hm2⟩ := H2.out
      exact HC.out w2 R' hq2 (Moves.after hb1 hm2)
    have HN : Hid (LNow S l (dropS s f t) w (w2.setCell ⟨l, 3, none⟩ (.int .i64 ((s.lost : Int) + 1)))) := cover (by rw [HS.out]; exact LNow.loss hN)
    obtain ⟨S2, hl2, _⟩ := hN
    have c3 := hl2.cells.2.2.2
    have f3 := hl2.thaw 3
    have c3' : w2.cell? ⟨l, 3, none⟩ = some (.int .i64 s.lost) := c3
    clear H2 hC hq1 hb1 HC hl2 c3
    go_wp2
    go_ret
    exact ⟨ret_bool HB.out.symm, HN⟩
theorem lost_any {S : Foot} {w : World} {l : Nat} {s : LS} (h : LIn S w l s) : Calls Try.prog 18 #[ptr l] w fun e w' => e = .returned (.int .i64 s.lost) ∧ w = w' := by
  have hc := h.cells.2.2.2
  clear h
  go_enter Try.func18, Try.ntmps18
  go_wp2
  go_ret
  exact ⟨rfl, rfl⟩
end Go.Proofs.Ytjidhpmjdhjciaa
