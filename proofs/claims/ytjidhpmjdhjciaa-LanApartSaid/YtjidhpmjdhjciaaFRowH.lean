/- What Row tells, as a law has it. -/
import Derived.Test.YtjidhpmjdhjciaaFRowW
import Derived.Test.YtjidhpmjdhjciaaFAge
import Derived.Test.YtjidhpmjdhjciaaFOne
namespace Go.Proofs.Ytjidhpmjdhjciaa
open Go.RowKit
set_option linter.unusedVariables false

/-- a slice of frames: their bytes and ages -/
structure Flies (w : World) (A : Option Addr) (n : Nat) (rs : List (List Int × Int)) : Prop where
  len : rs.length = n
  at_ : ∀ k r, rs[k]? = some r → ∃ g B c, A = some ⟨g, 0, none⟩ ∧ g < w.heap.size ∧ w.cell? ⟨g, k * 2, none⟩ = some (.slice B r.1.length c) ∧ w.cell? ⟨g, k * 2 + 1, none⟩ = some (.int .i64 r.2) ∧ Row w w.heap.size B r.1.length r.1
theorem Flies.below {w w' : World} {A : Option Addr} {n : Nat} {rs : List (List Int × Int)} (h : Flies w A n rs) (hb : Below w.heap.size w w') : Flies w' A n rs :=
  ⟨h.len, fun k r hk => by
    obtain ⟨g, B, c, h1, h2, h3, h4, h5⟩ := h.at_ k r hk
    exact ⟨g, B, c, h1, Nat.lt_of_lt_of_le h2 hb.size, (hb.cell (p := ⟨g, k * 2, none⟩) h2).trans h3, (hb.cell (p := ⟨g, k * 2 + 1, none⟩) h2).trans h4, (h5.below hb).more hb.size⟩⟩
/-- as the law reads a row: bytes and ages -/
def told (r : List (List Int × Nat)) : List (List Int × Int) := r.map fun x => (x.1, (x.2 : Int))
theorem told_length (r : List (List Int × Nat)) : (told r).length = r.length := by simp [told]
theorem flat_get : ∀ (us : List UV) (k : Nat) (u : UV), us[k]? = some u → (flat us)[k * 2]? = some (.slice u.A u.l.length u.c) ∧ (flat us)[k * 2 + 1]? = some (.int .i64 u.age)
  | [], _, _, h => by simp at h
  | v :: us, 0, u, h => by simp at h; subst h; exact ⟨rfl, rfl⟩
  | v :: us, k + 1, u, h => by
    have h' : us[k]? = some u := by simpa using h
    obtain ⟨h1, h2⟩ := flat_get us k u h'
    have e : flat (v :: us) = .slice v.A v.l.length v.c :: .int .i64 v.age :: flat us := rfl
    rw [e, show (k + 1) * 2 = k * 2 + 1 + 1 by omega]
    simp only [List.getElem?_cons_succ]
    exact ⟨h1, h2⟩
theorem flies_of {w : World} {B : Nat} {A : Option Addr} {c : Nat} {us : List UV} (h1 : w.ownsRow B 62 2 (.slice A us.length c) us.length (flat us)) (h2 : ∀ u ∈ us, OwnB w B u.val u.l) : Flies w A us.length (us.map fun u => (u.l, u.age)) := by
  refine ⟨by simp, fun k r hk => ?_⟩
  rw [List.getElem?_map] at hk
  obtain ⟨u, hu, rfl⟩ := Option.map_eq_some_iff.1 hk
  obtain ⟨hlt, _⟩ := List.getElem?_eq_some_iff.1 hu
  have hA : ∃ g, A = some ⟨g, 0, none⟩ ∧ g < w.heap.size := by
    rcases h1.2 with ⟨_, h0⟩ | ⟨g, cap, cur, hv, _, hh, _⟩
    · omega
    · injection hv with hv; exact ⟨g, hv, block_lt hh⟩
  obtain ⟨g, rfl, hg⟩ := hA
  obtain ⟨f1, f2⟩ := flat_get us k u hu
  exact ⟨g, u.A, u.c, rfl, hg, by rw [World.ownsRow.cellAt h1 (k * 2) (by omega)]; exact f1, by rw [World.ownsRow.cellAt h1 (k * 2 + 1) (by omega)]; exact f2, (h2 u (List.mem_of_getElem? hu)).row⟩
/-- what Row tells of a lan; nothing has turned -/
def RowTold (s : LS) (f t : Int) (w : World) (e : Ending) (w' : World) : Prop :=
  ∃ A c, e = .returned (.slice A (theRow s f t).length c) ∧ Flies w' A (theRow s f t).length (told (theRow s f t)) ∧ Below w.heap.size w w'
theorem row_any {S : Foot} {w : World} {l : Nat} {s : LS} (h : LIn S w l s) (f t : Int) (hnow : s.now ≤ 1000000) (hmax : ∀ x ∈ theRow s f t, x.1.length ≤ 1000000) :
    Calls Try.prog 23 #[ptr l, .int .i64 f, .int .i64 t] w (RowTold s f t w) := by
  have hc := h.cells.2.2.1
  by_cases ho : okP s.n f t
  · have hage := age_of h f t
    have hlen := len_of h f t
    have hm64 := h.m64
    rw [theRow_ok ho] at hage hlen hmax
    obtain ⟨a, b, rfl, rfl, ha, hb, hab, hk⟩ := okP_nat ho
    have hpl := place_lt ha hb
    obtain ⟨g, c, cur, q, R, h1, h2, h3, h4, _, _⟩ := h.place hpl (diag_not hb hab)
    rw [← hk] at h4
    obtain ⟨G, ps, vs, k1, k2, k3, k4, k5⟩ := h4.ex
    have hl := k1.len
    have hvl : vs.length = (s.rows (keyP s.n a b)).length := by have := congrArg List.length k2; simpa [encR] using this
    have hv : ∀ v ∈ vs, ∃ x ∈ s.rows (keyP s.n a b), v.l = x.1 ∧ v.born = (s.now : Int) - (x.2 : Int) := fun v hv => by
      have : (v.l, v.born) ∈ encR s.now (s.rows (keyP s.n a b)) := by rw [← k2]; exact List.mem_map.2 ⟨v, hv, rfl⟩
      obtain ⟨x, hx, he⟩ := List.mem_map.1 this
      exact ⟨x, hx, by injection he with he; exact he.symm, by injection he with _ he; exact he.symm⟩
    simp at hl
    refine (row_walk (w := w) (l := l) a b (some ⟨q, 0, none⟩) ps vs s.now (eachDoes_some k1 (by omega)) (fun p hp => k1.inSize (.inr (.inr hp))) (by omega) (fun W hW => ?_) hc hnow (fun v hvm => ?_)).mono ?_
    · exact row_load (k := a * s.n + b) (p := a * s.n) ((hW.block _ (block_lt h1)).trans h1) ((hW.block _ (block_lt h2)).trans h2) h3 rfl rfl h.n16 ha hb hpl (has_yes (h.below hW) a ⟨by omega, by omega⟩) (has_yes (h.below hW) b ⟨by omega, by omega⟩)
    · obtain ⟨x, hx, e1, e2⟩ := hv v hvm
      have := hage x hx
      exact ⟨k3 v hvm, ⟨by omega, by omega⟩, by rw [e1]; exact hmax x hx⟩
    · rintro e w' ⟨A, cc, us, rfl, m1, m2, m3, m4⟩
      have hul : us.length = (theRow s a b).length := by have := congrArg List.length m3; rw [theRow_ok ho]; simpa [hvl] using this
      have hus : us.map (fun u => (u.l, u.age)) = told (theRow s a b) := by
        rw [m3, theRow_ok ho]
        have e1 : vs.map (fun v => (v.l, (s.now : Int) - v.born)) = (vs.map fun v => (v.l, v.born)).map (fun y => (y.1, (s.now : Int) - y.2)) := by rw [List.map_map]; rfl
        rw [e1, k2]
        unfold encR told
        rw [List.map_map]
        apply List.map_congr_left
        intro y _
        simp only [Function.comp, Prod.mk.injEq, true_and]; omega
      have hF := flies_of m1 m2
      rw [hus] at hF
      exact ⟨A, cc, by rw [hul], by rw [← hul]; exact hF, m4⟩
  · have hr0 := theRow_no ho
    refine (row_walk (w := w) (l := l) f t none [] [] s.now (eachDoes_nil w) (fun p hp => by cases hp) (by decide) (fun W hW => row_none (h.below hW) f t ho) hc hnow (fun v hv => by cases hv)).mono ?_
    rintro e w' ⟨A, cc, us, rfl, m1, m2, m3, m4⟩
    have hu : us = [] := by simpa using m3
    subst hu
    unfold RowTold
    rw [hr0]
    exact ⟨A, cc, rfl, ⟨rfl, fun k r hk => by simp [told] at hk⟩, m4⟩
theorem row_has {W w : World} {xs : List (Nat × Obj)} {l : Nat} {s : LS} (h : LHas W xs l s w) (f t : Int) (hnow : s.now ≤ 1000000) (hmax : ∀ x ∈ theRow s f t, x.1.length ≤ 1000000) :
    Calls Try.prog 23 #[ptr l, .int .i64 f, .int .i64 t] w fun e w' => ∃ A c, e = .returned (.slice A (theRow s f t).length c) ∧ Hid (Flies w' A (theRow s f t).length (told (theRow s f t)) ∧ LHas W xs l s w') := by
  obtain ⟨S, h1, h2⟩ := h
  exact (row_any h1 f t hnow hmax).mono fun e w' ⟨A, c, k1, k2, k3⟩ => ⟨A, c, k1, cover ⟨k2, LHas.below ⟨S, h1, h2⟩ k3⟩⟩
theorem row_one {W w : World} {xs : List (Nat × Obj)} {l n m life lost : Nat} {r : List (List Int × Nat)} (h : LRow W xs l n m life r lost w) (hmax : ∀ x ∈ r, x.1.length ≤ 1000000) :
    Calls Try.prog 23 #[ptr l, .int .i64 0, .int .i64 1] w fun e w' => ∃ A c, e = .returned (.slice A r.length c) ∧ Hid (Flies w' A r.length (told r) ∧ LRow W xs l n m life r lost w') := by
  obtain ⟨s, h1, h2⟩ := h
  have := row_has h1 0 1 (by have := h2.e_now; omega) (by rw [h2.e_row]; exact hmax)
  rw [h2.e_row] at this
  exact this.mono fun e w' ⟨A, c, k1, k2⟩ => ⟨A, c, k1, cover ⟨k2.out.1, _, k2.out.2, h2⟩⟩
theorem age_has {W w : World} {xs : List (Nat × Obj)} {l : Nat} {s : LS} (h : LHas W xs l s w) (hnow : s.now ≤ 1000000) (hlost : s.lost ≤ 100000000) :
    Calls Try.prog 27 #[ptr l] w fun e w' => e = .returned (.int .i64 (ageN s)) ∧ Hid (LHas W xs l (ageS s) w') := by
  obtain ⟨S, h1, h2, h3, h4⟩ := h
  exact (age_any h1 hnow hlost).mono fun e w' ⟨he, hn⟩ => ⟨he, cover (LHas.of_now h2 h3 h4 hn.out)⟩
/-- the other way there is nothing to spoil -/
theorem spoil_rev {W w : World} {xs : List (Nat × Obj)} {l n m life lost : Nat} {r : List (List Int × Nat)} (h : LRow W xs l n m life r lost w) (bit : Int) :
    Calls Try.prog 26 #[ptr l, .int .i64 1, .int .i64 0, .int .i64 bit] w fun e w' => e = .returned (.bool false) ∧ Hid (LRow W xs l n m life r lost w') := by
  obtain ⟨s, ⟨S, h2, h3, h4, h7⟩, h1⟩ := h
  have hr : theRow s 1 0 = [] := by
    unfold theRow; split
    · refine h1.e_oth _ ?_
      have := h1.e_n; have := h1.e_n2
      simp [keyP]; omega
    · rfl
  have := spoil_no h2 1 0 bit (fun x r e => by rw [hr] at e; cases e)
  have e1 : spoilB s 1 0 = false := by unfold spoilB; rw [hr]
  have e2 : spoilS s 1 0 bit = s := by unfold spoilS; rw [hr]
  rw [e1, e2] at this
  exact this.mono fun e w' ⟨h5, h6⟩ => ⟨h5, cover ⟨_, LHas.of_now h3 h4 h7 h6.out, h1⟩⟩
/-- one age more -/
theorem R1.age {s : LS} {n m life lost : Nat} {r : List (List Int × Nat)} (h : R1 s n m life r lost) (h64 : r.length ≤ 64) (hl : lost + 64 ≤ 1000) (hnow : s.now ≤ 999) : ageN s = r.length - (lasts life (older r)).length ∧ R1 (ageS s) n m life (lasts life (older r)) (lost + (r.length - (lasts life (older r)).length)) := by
  have hk : keyP s.n 0 1 = 1 := by simp [keyP]
  have hr1 : s.rows 1 = r := by have := theRow_ok h.ok; rw [h.e_row, hk] at this; exact this.symm
  have hn2 : 2 ≤ s.n := by rw [h.e_n]; exact h.e_n2
  have hnn : 2 ≤ s.n * s.n := Nat.le_trans hn2 (Nat.le_mul_of_pos_left _ (by omega))
  have hg : ∀ k, goneTo s k = if 1 < k then r.length - (lasts life (older r)).length else 0 := fun k => by
    induction k with
    | zero => rfl
    | succ k ih =>
      simp only [goneTo]
      rw [ih]
      by_cases h1 : k = 1
      · subst h1; rw [hr1, h.e_life]; simp
      · rw [h.e_oth k h1]
        by_cases h2 : 1 < k
        · rw [if_pos h2, if_pos (by omega)]; simp
        · rw [if_neg h2, if_neg (by omega)]; simp
  have hN : ageN s = r.length - (lasts life (older r)).length := by unfold ageN; rw [hg, if_pos (by omega)]
  refine ⟨hN, h.e_n, h.e_n2, h.e_m, h.e_life, by show s.now + 1 ≤ 1000; omega, by show s.lost + ageN s = _; rw [hN, h.e_lost], by omega, ?_, fun k hk' => ?_⟩
  · have ho : okP (ageS s).n 0 1 := h.ok
    rw [theRow_ok ho]
    show (if keyP s.n 0 1 < s.n * s.n then lasts s.life (older (s.rows (keyP s.n 0 1))) else older (s.rows (keyP s.n 0 1))) = _
    rw [hk, if_pos (by omega), hr1, h.e_life]
  · show (if k < s.n * s.n then lasts s.life (older (s.rows k)) else older (s.rows k)) = []
    rw [h.e_oth k hk']; simp [older, lasts]
end Go.Proofs.Ytjidhpmjdhjciaa
