/- What LanCounts counts: in = out + on the way + lost. Plain facts. -/
import Derived.Test.YtjidhpmjdhjciaaFCut
import Derived.Test.YtjidhpmjdhjciaaFOrd
namespace Go.Proofs.Ytjidhpmjdhjciaa
open Go.RowKit
set_option linter.unusedVariables false

/-- how many frames are on their way in the first so many rows -/
def tot (s : LS) : Nat → Nat
  | 0 => 0
  | k + 1 => tot s k + (s.rows k).length
theorem tot_ge (s : LS) {j : Nat} (r : List (List Int × Nat)) : ∀ k, k ≤ j → tot (s.upd j r) k = tot s k
  | 0, _ => rfl
  | k + 1, h => by simp only [tot]; rw [tot_ge s r k (by omega), LS.upd_ne _ _ (by omega)]
theorem tot_lt (s : LS) {j : Nat} (r : List (List Int × Nat)) : ∀ k, j < k → tot (s.upd j r) k + (s.rows j).length = tot s k + r.length
  | 0, h => by omega
  | k + 1, h => by
    simp only [tot]
    by_cases hj : j = k
    · subst hj; rw [tot_ge s r j (Nat.le_refl _), LS.upd_at]; omega
    · rw [LS.upd_ne _ _ (fun e => hj e.symm)]; have := tot_lt s (j := j) r k (by omega); omega
theorem key_lt {n : Nat} {f t : Int} (h : okP n f t) : keyP n f t < n * n := by
  obtain ⟨a, b, _, _, ha, hb, _, hk⟩ := okP_nat h
  rw [hk]; exact place_lt ha hb
theorem tot_set {s : LS} (h3 : s.n = 3) {f t : Int} (h : okP s.n f t) (r : List (List Int × Nat)) : tot (setRow' s f t r) 9 + (theRow s f t).length = tot s 9 + r.length := by
  rw [theRow_ok h]
  have := key_lt h
  rw [h3] at this
  exact tot_lt s r 9 (by rw [h3]; exact this)
structure Cnt (s : LS) (inn out T : Nat) : Prop where
  en : s.n = 3
  em : s.m = 4
  sm : ∀ k, ∀ x ∈ s.rows k, Sm x
  now : s.now ≤ T
  few : inn ≤ T
  bal : inn = out + tot s 9 + s.lost
section
variable {s : LS} {inn out T : Nat}
theorem cnt_fresh : Cnt (LS.fresh 3 4 5) 0 0 0 := ⟨rfl, rfl, fun _ x hx => (by cases hx), Nat.le_refl _, Nat.le_refl _, rfl⟩
theorem Cnt.later (h : Cnt s inn out T) {T' : Nat} (hT : T ≤ T') : Cnt s inn out T' := ⟨h.en, h.em, h.sm, Nat.le_trans h.now hT, Nat.le_trans h.few hT, h.bal⟩
theorem Cnt.lost (h : Cnt s inn out T) : s.lost ≤ T := by have := h.bal; have := h.few; omega
theorem Cnt.small (h : Cnt s inn out T) (f t : Int) : ∀ x ∈ theRow s f t, Sm x := rows_small h.sm f t
theorem Cnt.max (h : Cnt s inn out T) (f t : Int) : ∀ x ∈ theRow s f t, x.1.length ≤ 1000000 := fun x hx => by have := (h.small f t x hx).1; omega
theorem Cnt.send_in (h : Cnt s inn out T) {f t : Int} (ho : okP s.n f t) (hm : (theRow s f t).length < s.m) {b : List Int} (hb : Sm (b, 0)) : sendB s f t = true ∧ Cnt (sendS s f t b) (inn + 1) out (T + 1) := by
  refine ⟨sendB_yes ho hm, ?_⟩
  rw [sendS_yes ho hm]
  have := tot_set h.en ho (theRow s f t ++ [(b, 0)])
  have hbal := h.bal
  refine ⟨h.en, h.em, set_small h.sm f t (fun x hx => ?_), Nat.le_succ_of_le h.now, by have := h.few; omega, ?_⟩
  · rcases List.mem_append.1 hx with hx | hx
    · exact h.small f t x hx
    · simp at hx; subst hx; exact hb
  · simp at this; show inn + 1 = out + _ + s.lost; omega
theorem Cnt.send_full (h : Cnt s inn out T) {f t : Int} (ho : okP s.n f t) (hm : ¬ (theRow s f t).length < s.m) (b : List Int) : sendB s f t = false ∧ (sendS s f t b).lost = s.lost + 1 ∧ Cnt (sendS s f t b) (inn + 1) out (T + 1) := by
  refine ⟨sendB_full hm, ?_⟩
  rw [sendS_full ho hm]
  have hbal := h.bal
  have ht : ∀ k, tot (s.loss 1) k = tot s k := fun k => by
    induction k with
    | zero => rfl
    | succ k ih => simp only [tot]; rw [ih]; rfl
  exact ⟨rfl, h.en, h.em, h.sm, Nat.le_succ_of_le h.now, by have := h.few; omega, by rw [ht]; show inn + 1 = out + _ + (s.lost + 1); omega⟩
theorem Cnt.send_no (h : Cnt s inn out T) {f t : Int} (ho : ¬ okP s.n f t) (b : List Int) : sendB s f t = false ∧ sendS s f t b = s := by
  exact ⟨by unfold sendB; simp [ho], sendS_no ho b⟩
theorem Cnt.pass (h : Cnt s inn out T) {f t : Int} {x : List Int × Nat} {r : List (List Int × Nat)} (hr : theRow s f t = x :: r) : Cnt (setRow' s f t r) inn (out + 1) (T + 1) := by
  obtain ⟨ho, _⟩ := theRow_some hr
  have := tot_set h.en ho r
  have hbal := h.bal
  rw [hr] at this
  refine ⟨h.en, h.em, set_small h.sm f t (fun y hy => h.small f t y (by rw [hr]; exact List.mem_cons_of_mem _ hy)), Nat.le_succ_of_le h.now, by have := h.few; omega, ?_⟩
  simp at this; show inn = out + 1 + _ + s.lost; omega
theorem tot_loss (s : LS) (x k : Nat) : tot (s.loss x) k = tot s k := by
  induction k with
  | zero => rfl
  | succ k ih => simp only [tot]; rw [ih]; rfl
theorem Cnt.drop (h : Cnt s inn out T) (f t : Int) : Cnt (dropS s f t) inn out (T + 1) := by
  unfold dropS
  rcases hr : theRow s f t with _ | ⟨x, r⟩
  · exact h.later (Nat.le_succ T)
  · have := h.pass hr
    have hbal := this.bal
    exact ⟨this.en, this.em, this.sm, this.now, this.few, by rw [tot_loss]; show inn = out + _ + (_ + 1); omega⟩
theorem Cnt.twice_yes (h : Cnt s inn out T) {f t : Int} {x : List Int × Nat} {r : List (List Int × Nat)} (hr : theRow s f t = x :: r) (hm : (x :: r).length < s.m) : Cnt (setRow' s f t (x :: x :: r)) (inn + 1) out (T + 1) := by
  obtain ⟨ho, _⟩ := theRow_some hr
  have := tot_set h.en ho (x :: x :: r)
  have hbal := h.bal
  rw [hr] at this
  refine ⟨h.en, h.em, set_small h.sm f t (fun y hy => h.small f t y ?_), Nat.le_succ_of_le h.now, by have := h.few; omega, ?_⟩
  · rw [hr]; rcases List.mem_cons.1 hy with rfl | hy
    · simp
    · exact hy
  · simp at this; show inn + 1 = out + _ + s.lost; omega
theorem Cnt.twice_or (h : Cnt s inn out T) (f t : Int) : (twiceB s f t = true ∧ Cnt (twiceS s f t) (inn + 1) out (T + 1)) ∨ (twiceB s f t = false ∧ Cnt (twiceS s f t) inn out (T + 1)) := by
  rcases hr : theRow s f t with _ | ⟨x, r⟩
  · right; unfold twiceB twiceS; rw [hr]; exact ⟨rfl, h.later (Nat.le_succ T)⟩
  · by_cases hm : (x :: r).length < s.m
    · left; obtain ⟨h1, h2⟩ := twice_row hr hm; rw [h2]; exact ⟨h1, h.twice_yes hr hm⟩
    · right; unfold twiceB twiceS; rw [hr]; simp only []; rw [if_neg hm]; exact ⟨by simpa using hm, h.later (Nat.le_succ T)⟩
theorem Cnt.age (h : Cnt s inn out T) : Cnt (ageS s) inn out (T + 1) := by
  have hlt : ∀ k, k ≤ 9 → tot (ageS s) k + goneTo s k = tot s k := fun k => by
    induction k with
    | zero => intro _; rfl
    | succ k ih =>
      intro hk
      have e : (ageS s).rows k = lasts s.life (older (s.rows k)) := by
        show (if k < s.n * s.n then lasts s.life (older (s.rows k)) else older (s.rows k)) = _
        rw [h.en, if_pos (by omega)]
      have := ih (by omega)
      have h2 := lasts_le s.life (older (s.rows k))
      rw [older_length] at h2
      simp only [tot, goneTo]; rw [e]; omega
  have h9 := hlt 9 (Nat.le_refl _)
  have hg : ageN s = goneTo s 9 := by unfold ageN; rw [h.en]
  have hbal := h.bal
  refine ⟨h.en, h.em, fun k y hy => ?_, by show s.now + 1 ≤ _; have := h.now; omega, by have := h.few; omega, by show inn = out + _ + (s.lost + ageN s); omega⟩
  have hy' : y ∈ (if k < s.n * s.n then lasts s.life (older (s.rows k)) else older (s.rows k)) := hy
  have : ∃ z ∈ s.rows k, y.1 = z.1 := by
    split at hy'
    · exact lasts_sub _ _ y hy'
    · obtain ⟨z, hz, rfl⟩ := List.mem_map.1 hy'; exact ⟨z, hz, rfl⟩
  obtain ⟨z, hz, e⟩ := this
  have := h.sm k z hz
  unfold Sm at this ⊢
  rw [e]; exact this
theorem tot_cut {s : LS} (h3 : s.n = 3) (f t : Int) : tot (cutR s f t) 9 + (theRow s f t).length = tot s 9 := by
  unfold cutR
  rcases hr : theRow s f t with _ | ⟨x, r⟩
  · rfl
  · obtain ⟨ho, _⟩ := theRow_some hr
    have := tot_set h3 ho []
    rw [hr] at this
    simpa using this
theorem small_cut {s : LS} (h : ∀ k, ∀ x ∈ s.rows k, Sm x) (f t : Int) : ∀ k, ∀ x ∈ (cutR s f t).rows k, Sm x := by
  unfold cutR; split
  · exact h
  · exact set_small h f t (fun x hx => by cases hx)
theorem Cnt.cut (h : Cnt s inn out T) (st : Int) : Cnt (cutS s st) inn out (T + 1) := by
  have h1 : ∀ k, tot (cutTo s st k).1 9 + (cutTo s st k).2 = tot s 9 ∧ ∀ j, ∀ x ∈ (cutTo s st k).1.rows j, Sm x := fun k => by
    induction k with
    | zero => exact ⟨rfl, h.sm⟩
    | succ k ih =>
      have hn := (cutTo_same s st k).1.trans h.en
      have e1 := tot_cut hn st k
      have e2 := tot_cut ((cutR_same (cutTo s st k).1 st k).1.trans hn) k st
      refine ⟨?_, small_cut (small_cut ih.2 _ _) _ _⟩
      have := ih.1
      simp only [cutTo]; omega
  obtain ⟨h2, h3⟩ := h1 s.n
  have h4 := cutTo_same s st s.n
  have hbal := h.bal
  exact ⟨h4.1.trans h.en, h4.2.1.trans h.em, h3, by show (cutTo s st s.n).1.now ≤ _; rw [h4.2.2.2.1]; have := h.now; omega, by have := h.few; omega, by
    unfold cutS; rw [tot_loss]; show inn = out + _ + ((cutTo s st s.n).1.lost + cutN s st); rw [h4.2.2.2.2]; unfold cutN; omega⟩
/-- of a row and of its place -/
theorem tot_step {s : LS} (h3 : s.n = 3) (hd : ∀ k, k < s.n * s.n → diag s.n k → s.rows k = []) {a b : Nat} (ha : a < 3) (hb : b < 3) : tot s (3 * a + b + 1) = tot s (3 * a + b) + (theRow s a b).length := by
  simp only [tot]
  congr 2
  by_cases hab : a = b
  · subst hab
    have : ¬ okP s.n a a := fun h => h.2.2 rfl
    rw [theRow_no this]
    have h4 := diag_yes (n := 3) (f := a) ha
    rw [Nat.mul_comm] at h4
    exact hd _ (by rw [h3]; omega) (by rw [h3]; exact h4)
  · have : okP s.n a b := ⟨⟨by omega, by omega⟩, ⟨by omega, by omega⟩, by omega⟩
    rw [theRow_ok this]
    unfold keyP; rw [h3]; congr 1; omega
theorem tot_mono (s : LS) : ∀ {a b : Nat}, a ≤ b → tot s a ≤ tot s b := fun {a b} h => by
  induction b with
  | zero => obtain rfl : a = 0 := by omega
            exact Nat.le_refl _
  | succ b ih =>
    by_cases hab : a = b + 1
    · subst hab; exact Nat.le_refl _
    · have := ih (by omega); simp only [tot]; omega
theorem LHas.diags {W w : World} {xs : List (Nat × Obj)} {l : Nat} {s : LS} (h : LHas W xs l s w) : ∀ k, k < s.n * s.n → diag s.n k → s.rows k = [] := by
  obtain ⟨S, h1, _⟩ := h
  obtain ⟨g, c, cur, q, R, _, _, _, h4, _⟩ := h1.ex
  exact fun k hk hd => (h4 k hk hd).2
theorem LHas.len4 {W w : World} {xs : List (Nat × Obj)} {l : Nat} {s : LS} (h : LHas W xs l s w) (f t : Int) : (theRow s f t).length ≤ s.m := by
  obtain ⟨S, h1, _⟩ := h
  exact len_of h1 f t
end
end Go.Proofs.Ytjidhpmjdhjciaa
