/- Two queues of one kind of items beside one another. -/
import Derived.Test.YthfmkhjafkhpdaaQIns
import Derived.Test.YthfmkhjafkhpdaaQFil
import Derived.Test.YthfmkhjafkhpdaaQAll
namespace Go.Proofs.Ythfmkhjafkhpdaa
open Go.RowKit
set_option linter.unusedVariables false

structure TwoQ (B : Nat) (w : World) (qa qb : Nat) (m : Int) (xa xb : List Value) : Prop where
  ex : ∃ Ga psa Gb psb, IIn w qa Ga m psa xa ∧ IIn w qb Gb m psb xb ∧ OwnQ B qa Ga psa ∧ OwnQ B qb Gb psb ∧ ∀ g, Ga = some g → Gb ≠ some g
  ne : qa ≠ qb
  siz : B ≤ w.heap.size
theorem TwoQ.symm {B : Nat} {w : World} {qa qb : Nat} {m : Int} {xa xb : List Value} (h : TwoQ B w qa qb m xa xb) : TwoQ B w qb qa m xb xa := by
  obtain ⟨Ga, psa, Gb, psb, h1, h2, h3, h4, h5⟩ := h.ex
  exact ⟨⟨Gb, psb, Ga, psa, h2, h1, h4, h3, fun g e e' => h5 g e' e⟩, fun e => h.ne e.symm, h.siz⟩
theorem TwoQ.has {B : Nat} {w : World} {qa qb : Nat} {m : Int} {xa xb : List Value} (h : TwoQ B w qa qb m xa xb) : IHas B w qa m xa := by
  obtain ⟨Ga, psa, Gb, psb, h1, h2, h3, h4, h5⟩ := h.ex
  exact ⟨Ga, psa, h1, h3⟩
theorem TwoQ.below {B : Nat} {w w' : World} {qa qb : Nat} {m : Int} {xa xb : List Value} (h : TwoQ B w qa qb m xa xb) (hb : Below w.heap.size w w') : TwoQ B w' qa qb m xa xb := by
  obtain ⟨Ga, psa, Gb, psb, h1, h2, h3, h4, h5⟩ := h.ex
  exact ⟨⟨Ga, psa, Gb, psb, h1.below hb, h2.below hb, h3, h4, h5⟩, h.ne, Nat.le_trans h.siz hb.size⟩
/-- the first one has turned: the other lies as it lay -/
theorem two_step {B : Nat} {w w' : World} {qa qb : Nat} {Ga Gb Ga' : Option Nat} {m : Int} {psa psb psa' : List Nat} {xa xb xa' : List Value} (h1 : IIn w qa Ga m psa xa) (h2 : IIn w qb Gb m psb xb) (h4 : OwnQ B qb Gb psb) (h5 : ∀ g, Ga = some g → Gb ≠ some g) (hne : qa ≠ qb) (hB : B ≤ w.heap.size)
    (k1 : IIn w' qa Ga' m psa' xa') (hO : OwnQ B qa Ga' psa') (hT : Turned (qa :: Ga.toList) w w') (hN : Next w Ga Ga') : TwoQ B w' qa qb m xa' xb := by
  have hb : IIn w' qb Gb m psb xb := h2.turned hT (fun k hk hm => by
    obtain ⟨A, c, hh, hr⟩ := h1.ex
    obtain ⟨A2, c2, hh2, hr2⟩ := h2.ex
    rcases List.mem_cons.1 hm with rfl | hm
    · rcases hk with hk | hk | hk
      · exact hne hk
      · obtain ⟨cur, hc⟩ := hr2.lt hk; exact type_ne hh hc (by decide) rfl
      · obtain ⟨x, hx⟩ := h2.cellOf hk; exact type_ne hh hx (by decide) rfl
    · have hg : Ga = some k := by simpa using hm
      obtain ⟨cur, hc⟩ := hr.lt hg
      rcases hk with rfl | hk | hk
      · exact type_ne hc hh2 (by decide) rfl
      · exact h5 k hg hk
      · obtain ⟨x, hx⟩ := h2.cellOf hk; exact type_ne hc hx (by decide) rfl)
  refine ⟨⟨Ga', psa', Gb, psb, k1, hb, hO, h4, fun g hg => ?_⟩, hne, Nat.le_trans hB hT.size⟩
  rcases hN with rfl | ⟨g', rfl, hg'⟩
  · exact h5 g hg
  · injection hg with e
    intro e'
    have := h2.inSize (.inr (.inl e'))
    omega
theorem putI_two {B : Nat} {w W : World} {qa qb : Nat} {m : Int} {xa xb : List Value} (h : TwoQ B w qa qb m xa xb) (hb : Below B W w) (x : Int) (hm : (xa.length : Int) < m) (hbig : xa.length ≤ 1000000) :
    Calls Try.prog 17 #[ptr qa, .int .i64 x] w fun e w' => e = .returned (.bool true) ∧ Hid (TwoQ B w' qa qb m (xa ++ [.int .i64 x]) xb ∧ Below B W w') := by
  obtain ⟨Ga, psa, Gb, psb, h1, h2, h3, h4, h5⟩ := h.ex
  have hl := h1.len
  refine (putI_yes h1 x (by omega) (by omega)).mono ?_
  rintro e w' ⟨rfl, H⟩
  obtain ⟨G', p, k1, k2, k3, k4⟩ := H.out
  exact ⟨rfl, cover ⟨two_step h1 h2 h4 h5 h.ne h.siz k1 (h3.next k3 h.siz k4) k2 k3, k2.below hb (fun i hi => by
    rcases List.mem_cons.1 hi with rfl | hi
    · exact h3.q_le
    · exact h3.g_le i (by simpa using hi)) h.siz⟩⟩
theorem cutI_two {B : Nat} {w W : World} {qa qb : Nat} {m : Int} {xa xb : List Value} (h : TwoQ B w qa qb m xa xb) (hb : Below B W w) (n : Int) (k : Nat) (hk : (k : Int) = min (max n 0) xa.length) (hn : n ≤ 9223372036854775807) :
    Calls Try.prog 21 #[ptr qa, .int .i64 n] w fun e w' => e = .returned (.int .i64 k) ∧ Hid (TwoQ B w' qa qb m (xa.drop k) xb ∧ Below B W w') := by
  obtain ⟨Ga, psa, Gb, psb, h1, h2, h3, h4, h5⟩ := h.ex
  have hl := h1.len
  by_cases h0 : n < 1 ∨ psa.length = 0
  · have hk0 : k = 0 := by omega
    subst hk0
    refine (cutI_none h1 n h0).mono ?_
    rintro e w' ⟨rfl, rfl⟩
    exact ⟨rfl, cover ⟨by simpa using h, hb⟩⟩
  · obtain ⟨n', rfl⟩ : ∃ n' : Nat, (n' : Int) = n := ⟨n.toNat, by omega⟩
    refine (cutI_some h1 n' k (by omega) (by omega) (by omega)).mono ?_
    rintro e w' ⟨rfl, H⟩
    obtain ⟨k1, k2⟩ := H.out
    exact ⟨rfl, cover ⟨two_step h1 h2 h4 h5 h.ne h.siz k1 (h3.drop k) k2 (Next.refl _ _), k2.below hb (fun i hi => by
      rcases List.mem_cons.1 hi with rfl | hi
      · exact h3.q_le
      · exact h3.g_le i (by simpa using hi)) h.siz⟩⟩
theorem takeI_two {B : Nat} {w W : World} {qa qb : Nat} {m : Int} {xa xb : List Value} (h : TwoQ B w qa qb m xa xb) (hb : Below B W w) :
    Calls Try.prog 19 #[ptr qa] w fun e w' => ∃ v, e = .returned v ∧ Hid (TwoQ B w' qa qb m (xa.drop 1) xb ∧ Below B W w') := by
  obtain ⟨Ga, psa, Gb, psb, h1, h2, h3, h4, h5⟩ := h.ex
  rcases xa with _ | ⟨x, xs⟩
  · have hl := h1.len
    simp at hl
    subst hl
    refine (takeI_no h1).mono ?_
    rintro e w' ⟨rfl, rfl⟩
    exact ⟨_, rfl, cover ⟨by simpa using h, hb⟩⟩
  · refine (takeI_yes h1 x rfl).mono ?_
    rintro e w' ⟨rfl, H⟩
    obtain ⟨k1, k2⟩ := H.out
    exact ⟨_, rfl, cover ⟨two_step h1 h2 h4 h5 h.ne h.siz k1 (h3.drop 1) k2 (Next.refl _ _), k2.below hb (fun i hi => by
      rcases List.mem_cons.1 hi with rfl | hi
      · exact h3.q_le
      · exact h3.g_le i (by simpa using hi)) h.siz⟩⟩
theorem all_has {B : Nat} {w : World} {q : Nat} {m : Int} {xs : List Int} (h : IHas B w q m (xs.map (.int .i64))) (hbig : xs.length ≤ 1000000) (n : Int) (k : Nat) (hk : k = if 0 ≤ n ∧ n < xs.length then n.toNat else xs.length) :
    Calls Try.prog 26 #[ptr q, .int .i64 n] w fun e w' => ∃ A c G, e = .returned (.slice A k c) ∧ Hid (VRow 3 w' G A c ((xs.take k).map (.int .i64)) ∧ Below w.heap.size w w' ∧ ∀ g, G = some g → w.heap.size ≤ g) := by
  obtain ⟨G, ps, h, hO⟩ := h
  have hl := h.len
  simp at hl
  refine (all_any h (by omega) n k hk).mono ?_
  rintro e w' ⟨A, c, rfl, h1, h2⟩
  have hkl : ((xs.map (Value.int .i64)).take k).length = k := by
    have : k ≤ xs.length := by rw [hk]; split <;> omega
    simp; omega
  rw [hkl] at h1 ⊢
  obtain ⟨G', hv, hg⟩ := VRow.of_own h1
  rw [← List.map_take] at hv
  exact ⟨A, c, G', rfl, cover ⟨hv, h2, hg⟩⟩
end Go.Proofs.Ythfmkhjafkhpdaa
