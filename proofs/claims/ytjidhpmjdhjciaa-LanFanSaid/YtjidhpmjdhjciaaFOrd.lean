/- Frames that bear numbers, in one row: what the deeds of LanOrder leave of them. Plain facts. -/
import Derived.Test.YtjidhpmjdhjciaaFRowH
namespace Go.Proofs.Ytjidhpmjdhjciaa
open Go.RowKit
set_option linter.unusedVariables false

theorem and_small (y : Int) (k : Nat) (hk : k < 1000) : 0 ≤ bits BinOp.and IntKind.i64 y (k : Int) ∧ bits BinOp.and IntKind.i64 y (k : Int) ≤ (k : Int) ∧ ∃ j : Nat, bits BinOp.and IntKind.i64 y (k : Int) = (((BitVec.ofInt 64 y).toNat &&& k : Nat) : Int) := by
  have e : bits BinOp.and IntKind.i64 y (k : Int) = (((BitVec.ofInt 64 y).toNat &&& k : Nat) : Int) := by
    show IntKind.i64.wrap ((BitVec.ofInt 64 y &&& BitVec.ofInt 64 (k : Int)).toNat : Int) = _
    have h1 : (BitVec.ofInt 64 (k : Int)).toNat = k := by rw [BitVec.ofInt_natCast, BitVec.toNat_ofNat]; exact Nat.mod_eq_of_lt (by omega)
    rw [BitVec.toNat_and, h1, IntKind.wrap_i64]
    have := Nat.and_le_right (n := (BitVec.ofInt 64 y).toNat) (m := k)
    omega
  have h2 := Nat.and_le_right (n := (BitVec.ofInt 64 y).toNat) (m := k)
  rw [e]
  exact ⟨by omega, by omega, 0, rfl⟩
theorem and_two (y : Int) : bits BinOp.and IntKind.i64 y 2 = 0 ∨ bits BinOp.and IntKind.i64 y 2 = 2 := by
  obtain ⟨_, _, _, h⟩ := and_small y 2 (by decide)
  rw [show ((2 : Nat) : Int) = 2 from rfl] at h
  rw [h]
  have h3 : ∀ u : Nat, u &&& 2 = 0 ∨ u &&& 2 = 2 := fun u => by
    have h4 : (u &&& 2).testBit 0 = false := by simp
    have h5 := Nat.and_le_right (n := u) (m := 2)
    have h6 : u &&& 2 ≠ 1 := fun e => by rw [e] at h4; simp at h4
    omega
  rcases h3 (BitVec.ofInt 64 y).toNat with h | h <;> rw [h] <;> simp

/-- small frames of bytes -/
def Sm (x : List Int × Nat) : Prop := x.1.length ≤ 200 ∧ Bts x.1
theorem row_ne {s : LS} {f t a b : Int} (r : List (List Int × Nat)) (h : keyP s.n a b ≠ keyP s.n f t) : theRow (setRow' s f t r) a b = theRow s a b := by
  unfold theRow
  have : (setRow' s f t r).n = s.n := rfl
  rw [this]
  split
  · exact LS.upd_ne _ _ h
  · rfl
theorem rows_small {s : LS} (h : ∀ k, ∀ x ∈ s.rows k, Sm x) (f t : Int) : ∀ x ∈ theRow s f t, Sm x := by
  unfold theRow; split
  · exact h _
  · intro x hx; cases hx
theorem set_small {s : LS} (h : ∀ k, ∀ x ∈ s.rows k, Sm x) (f t : Int) {r : List (List Int × Nat)} (hr : ∀ x ∈ r, Sm x) : ∀ k, ∀ x ∈ (setRow' s f t r).rows k, Sm x := fun k x hx => by
  by_cases hk : k = keyP s.n f t
  · subst hk; unfold setRow' at hx; rw [LS.upd_at] at hx; exact hr x hx
  · unfold setRow' at hx; rw [LS.upd_ne _ _ hk] at hx; exact h k x hx
/-- the row's numbers: none below the last one, all below the next one, rising -/
structure OrdRow (last : Int) (n : Nat) (r : List (List Int × Nat)) : Prop where
  num : ∀ x ∈ r, ∃ m rest, x.1 = 0 :: m :: rest ∧ rest.length = 6 ∧ last ≤ m ∧ m < n
  up : r.Pairwise fun x y => x.1.getD 1 0 ≤ y.1.getD 1 0
structure Ord (s : LS) (last : Int) (n T : Nat) : Prop where
  en : s.n = 3
  em : s.m = 8
  sm : ∀ k, ∀ x ∈ s.rows k, Sm x
  row : OrdRow last n (theRow s 0 1)
  now : s.now ≤ T
  lost : s.lost ≤ 100 * T
  low : -1 ≤ last
section
variable {s : LS} {last : Int} {n T : Nat} {r : List (List Int × Nat)} {x : List Int × Nat}
theorem Ord.ok (h : Ord s last n T) : okP s.n 0 1 := by rw [h.en]; exact ok_01 3 (by decide)
theorem Ord.key (h : Ord s last n T) : keyP s.n 0 1 = 1 := by simp [keyP]
theorem Ord.later (h : Ord s last n T) {T' : Nat} (hT : T ≤ T') : Ord s last n T' := ⟨h.en, h.em, h.sm, h.row, Nat.le_trans h.now hT, by have := h.lost; omega, h.low⟩
theorem Ord.set (h : Ord s last n T) {last' : Int} {n' : Nat} (hr : OrdRow last' n' r) (hs : ∀ y ∈ r, Sm y) (hl : -1 ≤ last') : Ord (setRow' s 0 1 r) last' n' T :=
  ⟨h.en, h.em, set_small h.sm 0 1 hs, by rw [row_set h.ok]; exact hr, h.now, h.lost, hl⟩
theorem Ord.loss (h : Ord s last n T) (x : Nat) (hx : x ≤ 100) : Ord (s.loss x) last n (T + 1) := ⟨h.en, h.em, h.sm, h.row, by have := h.now; show s.now ≤ _; omega, by have := h.lost; show s.lost + x ≤ _; omega, h.low⟩
theorem OrdRow.more (h : OrdRow last n r) : OrdRow last (n + 1) r := ⟨fun y hy => by obtain ⟨m, rest, h1, h2, h3, h4⟩ := h.num y hy; exact ⟨m, rest, h1, h2, h3, by omega⟩, h.up⟩
theorem Ord.tail (h : Ord s last n T) (hr : theRow s 0 1 = x :: r) : OrdRow last n r ∧ (∀ y ∈ r, Sm y) := by
  have h1 := h.row
  have h2 := rows_small h.sm 0 1
  rw [hr] at h1 h2
  exact ⟨⟨fun y hy => h1.num y (List.mem_cons_of_mem _ hy), (List.pairwise_cons.1 h1.up).2⟩, fun y hy => h2 y (List.mem_cons_of_mem _ hy)⟩
/-- the numbered frame is sent -/
theorem Ord.send01 (h : Ord s last n T) (hn : n ≤ 255) (hl : last < n) : Ord (sendS s 0 1 [0, (n : Int), 7, 7, 7, 7, 7, 7]) last (n + 1) (T + 1) := by
  by_cases hm : (theRow s 0 1).length < s.m
  · rw [sendS_yes h.ok hm]
    refine (h.set ⟨fun y hy => ?_, ?_⟩ (fun y hy => ?_) h.low).later (Nat.le_succ T)
    · rcases List.mem_append.1 hy with hy | hy
      · exact h.row.more.num y hy
      · simp at hy; subst hy; exact ⟨n, [7, 7, 7, 7, 7, 7], rfl, rfl, by omega, by omega⟩
    · refine List.pairwise_append.2 ⟨h.row.up, List.pairwise_singleton _ _, fun a ha b hb => ?_⟩
      simp at hb; subst hb
      obtain ⟨m, rest, e1, _, _, e2⟩ := h.row.num a ha
      rw [e1]; show m ≤ (n : Int); omega
    · rcases List.mem_append.1 hy with hy | hy
      · exact rows_small h.sm 0 1 y hy
      · simp at hy; subst hy
        refine ⟨by simp, fun z hz => ?_⟩
        simp at hz
        rcases hz with rfl | rfl | rfl <;> omega
  · rw [sendS_full h.ok hm]
    have := h.loss 1 (by decide)
    exact ⟨this.en, this.em, this.sm, this.row.more, this.now, this.lost, this.low⟩
/-- another one is sent, into another row -/
theorem Ord.sendO (h : Ord s last n T) (f t : Int) (ht : t ≠ 1) {b : List Int} (hb : Sm (b, 0)) : Ord (sendS s f t b) last n (T + 1) := by
  by_cases ho : okP s.n f t
  · have hk : keyP s.n 0 1 ≠ keyP s.n f t := by
      rw [h.key]
      obtain ⟨h1, h2, _⟩ := ho
      rw [h.en] at h1 h2 ⊢
      unfold keyP
      intro e
      have : f.toNat = 0 := by omega
      rw [this] at e
      omega
    by_cases hm : (theRow s f t).length < s.m
    · rw [sendS_yes ho hm]
      refine ⟨h.en, h.em, set_small h.sm f t (fun y hy => ?_), by rw [row_ne _ hk]; exact h.row, Nat.le_succ_of_le h.now, by have := h.lost; show s.lost ≤ _; omega, h.low⟩
      rcases List.mem_append.1 hy with hy | hy
      · exact rows_small h.sm f t y hy
      · simp at hy; subst hy; exact hb
    · rw [sendS_full ho hm]; exact h.loss 1 (by decide)
  · rw [sendS_no ho]; exact h.later (Nat.le_succ T)
theorem ord_fresh : Ord (LS.fresh 3 8 20) (-1) 0 0 := ⟨rfl, rfl, fun _ x hx => (by cases hx), by rw [row_fresh]; exact ⟨fun x hx => by (cases hx), List.Pairwise.nil⟩, Nat.le_refl _, Nat.le_refl _, by decide⟩
theorem Ord.drop (h : Ord s last n T) : Ord (dropS s 0 1) last n (T + 1) := by
  unfold dropS
  rcases hr : theRow s 0 1 with _ | ⟨x, r⟩
  · exact h.later (Nat.le_succ T)
  · obtain ⟨h1, h2⟩ := h.tail hr
    exact (h.set h1 h2 h.low).loss 1 (by decide)
theorem Ord.twice (h : Ord s last n T) : Ord (twiceS s 0 1) last n (T + 1) := by
  unfold twiceS
  rcases hr : theRow s 0 1 with _ | ⟨x, r⟩
  · exact h.later (Nat.le_succ T)
  · simp only []
    split
    · have h1 := h.row
      have h2 := rows_small h.sm 0 1
      rw [hr] at h1 h2
      refine (h.set ⟨fun y hy => ?_, ?_⟩ (fun y hy => ?_) h.low).later (Nat.le_succ T)
      · rcases List.mem_cons.1 hy with rfl | hy
        · exact h1.num y (by simp)
        · exact h1.num y hy
      · refine List.pairwise_cons.2 ⟨fun y hy => ?_, h1.up⟩
        rcases List.mem_cons.1 hy with rfl | hy
        · exact Int.le_refl _
        · exact (List.pairwise_cons.1 h1.up).1 y hy
      · rcases List.mem_cons.1 hy with rfl | hy
        · exact h2 y (by simp)
        · exact h2 y hy
    · exact h.later (Nat.le_succ T)
theorem Ord.spoil (h : Ord s last n T) (bit : Int) (hb : 16 ≤ bit ∧ bit ≤ 47) : Ord (spoilS s 0 1 bit) last n (T + 1) := by
  unfold spoilS
  rcases hr : theRow s 0 1 with _ | ⟨x, r⟩
  · exact h.later (Nat.le_succ T)
  · simp only []
    split
    · have h1 := h.row
      have h2 := rows_small h.sm 0 1
      rw [hr] at h1 h2
      obtain ⟨m, rest, e1, e2, e3, e4⟩ := h1.num x (by simp)
      have hx := h2 x (by simp)
      have hlen : x.1.length = 8 := by rw [e1]; simp [e2]
      have hsp : spot bit x.1.length = bit.toNat := by unfold spot; rw [hlen]; omega
      obtain ⟨q, hq⟩ : ∃ q, bit.toNat / 8 = q + 2 := ⟨bit.toNat / 8 - 2, by omega⟩
      have ht : ∃ rest', turnB x.1 bit = 0 :: m :: rest' ∧ rest'.length = 6 := by
        unfold turnB turnAt
        rw [hsp, hq]
        refine ⟨rest.set q (xorI (x.1.getD (q + 2) 0) ((2 ^ (bit.toNat % 8) : Nat) : Int)), ?_, by simp [e2]⟩
        conv => lhs; arg 1; rw [e1]
        rfl
      obtain ⟨rest', t1, t2⟩ := ht
      refine (h.set (r := (turnB x.1 bit, x.2) :: r) ⟨fun y hy => ?_, ?_⟩ (fun y hy => ?_) h.low).later (Nat.le_succ T)
      · rcases List.mem_cons.1 hy with rfl | hy
        · exact ⟨m, rest', t1, t2, e3, e4⟩
        · exact h1.num y (List.mem_cons_of_mem _ hy)
      · refine List.pairwise_cons.2 ⟨fun y hy => ?_, (List.pairwise_cons.1 h1.up).2⟩
        have := (List.pairwise_cons.1 h1.up).1 y hy
        rw [e1] at this
        rw [t1]; exact this
      · rcases List.mem_cons.1 hy with rfl | hy
        · exact ⟨by show (turnB x.1 bit).length ≤ 200; rw [turnB_length]; exact hx.1, turnB_bts hx.2 bit⟩
        · exact h2 y (List.mem_cons_of_mem _ hy)
    · exact h.later (Nat.le_succ T)
theorem lasts_sub (life : Nat) (r : List (List Int × Nat)) : ∀ y ∈ lasts life (older r), ∃ z ∈ r, y.1 = z.1 := fun y hy => by
  obtain ⟨z, hz, rfl⟩ := List.mem_map.1 (List.mem_filter.1 hy).1
  exact ⟨z, hz, rfl⟩
theorem Ord.age (h : Ord s last n T) (hl : ∀ k, (s.rows k).length ≤ 8) : Ord (ageS s) last n (T + 1) := by
  have hg : ageN s ≤ 100 := by
    unfold ageN
    rw [h.en]
    have : ∀ k, goneTo s k ≤ 8 * k := fun k => by
      induction k with
      | zero => exact Nat.le_refl _
      | succ k ih => have := hl k; simp only [goneTo]; omega
    have := this (3 * 3); omega
  have ho : okP (ageS s).n 0 1 := h.ok
  have hrow : theRow (ageS s) 0 1 = lasts s.life (older (theRow s 0 1)) := by
    rw [theRow_ok ho, theRow_ok h.ok]
    show (if keyP s.n 0 1 < s.n * s.n then lasts s.life (older (s.rows (keyP s.n 0 1))) else older (s.rows (keyP s.n 0 1))) = _
    rw [h.key, h.en, if_pos (by decide)]
  refine ⟨h.en, h.em, fun k y hy => ?_, ?_, by have := h.now; show s.now + 1 ≤ _; omega, by have := h.lost; show s.lost + ageN s ≤ _; omega, h.low⟩
  · have hy' : y ∈ (if k < s.n * s.n then lasts s.life (older (s.rows k)) else older (s.rows k)) := hy
    have : ∃ z ∈ s.rows k, y.1 = z.1 := by
      split at hy'
      · exact lasts_sub _ _ y hy'
      · obtain ⟨z, hz, rfl⟩ := List.mem_map.1 hy'; exact ⟨z, hz, rfl⟩
    obtain ⟨z, hz, e⟩ := this
    have := h.sm k z hz
    unfold Sm at this ⊢
    rw [e]; exact this
  · rw [hrow]
    refine ⟨fun y hy => ?_, ?_⟩
    · obtain ⟨z, hz, e⟩ := lasts_sub _ _ y hy
      rw [e]; exact h.row.num z hz
    · unfold lasts older
      refine List.Pairwise.sublist List.filter_sublist ?_
      rw [List.pairwise_map]
      exact h.row.up
/-- the first one is taken: what it bears, and what is left -/
theorem Ord.pass (h : Ord s last n T) (hr : theRow s 0 1 = x :: r) : ∃ m rest, x.1 = 0 :: m :: rest ∧ rest.length = 6 ∧ last ≤ m ∧ m < n ∧ (0 ≤ m ∧ m ≤ 255) ∧ Ord (setRow' s 0 1 r) last n (T + 1) ∧ Ord (setRow' s 0 1 r) m n (T + 1) := by
  have h1 := h.row
  have h2 := rows_small h.sm 0 1
  obtain ⟨h3, h4⟩ := h.tail hr
  rw [hr] at h1 h2
  obtain ⟨m, rest, e1, e2, e3, e4⟩ := h1.num x (by simp)
  have hb : 0 ≤ m ∧ m ≤ 255 := (h2 x (by simp)).2 m (by rw [e1]; simp)
  refine ⟨m, rest, e1, e2, e3, e4, hb, (h.set h3 h4 h.low).later (Nat.le_succ T), (h.set ⟨fun y hy => ?_, h3.up⟩ h4 (by omega)).later (Nat.le_succ T)⟩
  obtain ⟨m', rest', f1, f2, f3, f4⟩ := h3.num y hy
  refine ⟨m', rest', f1, f2, ?_, f4⟩
  have := (List.pairwise_cons.1 h1.up).1 y hy
  rw [e1, f1] at this
  exact this
end
end Go.Proofs.Ytjidhpmjdhjciaa
