/- One clock of the law's own. -/
import Derived.Test.YtodiocioldakjaaKITick
import Derived.Test.YtodiocioldakjaaKIStart
namespace Go.Proofs.Ytodiocioldakjaa
open Go.RowKit
set_option linter.unusedVariables false

/-- a clock all of which lies from block B on -/
def CIHas (B : Nat) (w : World) (c m now : Nat) (l : List (Int × Int)) : Prop := ∃ V, CIIn w c V m now l ∧ ∀ i, cfoot c V i → B ≤ i
section
variable {B : Nat} {w w' : World} {c m now : Nat} {l : List (Int × Int)}
theorem CIHas.size (h : CIHas B w c m now l) : B ≤ w.heap.size := by
  obtain ⟨V, h1, h2⟩ := h
  have := h2 c (.inl rfl)
  have := block_lt h1.hd
  omega
theorem CIHas.below (h : CIHas B w c m now l) (hb : Below w.heap.size w w') : CIHas B w' c m now l := by
  obtain ⟨V, h1, h2⟩ := h; exact ⟨V, h1.below hb, h2⟩
theorem CIHas.drewN (h : CIHas B w c m now l) (n : Nat) : CIHas B (w.drewN n) c m now l := by
  obtain ⟨V, h1, h2⟩ := h; exact ⟨V, h1.drewN n, h2⟩
theorem CIHas.ok (h : CIHas B w c m now l) : InK m 10000 l := by obtain ⟨V, h1, _⟩ := h; exact h1.ok
theorem CINow.has {V : Value} {now' : Nat} {l' : List (Int × Int)} (h : CINow (cfoot c V) c m now' l' w w') (hV : ∀ i, cfoot c V i → B ≤ i) (hB : B ≤ w.heap.size) : CIHas B w' c m now' l' ∧ Below B w w' := by
  obtain ⟨V', h1, h2⟩ := h
  exact ⟨⟨V', h1, fun i hi => (h2.own i hi).elim (hV i) (fun h3 => Nat.le_trans hB h3)⟩, Moves.below (Below.refl B w) h2 hV hB⟩
end
section
variable {B : Nat} {w : World} {c m now : Nat} {l : List (Int × Int)}
theorem newI_has (n : Int) (hn : n ≤ 100000) (hB : B ≤ w.heap.size) : Calls Try.prog 14 #[.int .i64 n] w fun e w' => ∃ c, e = .returned (ptr c) ∧ Hid (CIHas B w' c n.toNat 0 [] ∧ Below B w w') := by
  refine (newI_any n w hn).mono ?_
  rintro e w' ⟨rfl, h⟩
  obtain ⟨h1, h2⟩ := h.out
  refine ⟨_, rfl, cover ⟨⟨_, h1, fun i hi => ?_⟩, h2.mono hB⟩⟩
  rcases hi with rfl | hi
  · exact hB
  · cases hi
theorem startI_has (h : CIHas B w c m now l) (k : Int) (t : Int) : Calls Try.prog 15 #[ptr c, .int .i64 k, .int .i64 t] w fun e w' => e = .returned (.bool (startB m l k t 10000)) ∧ Hid (CIHas B w' c m now (if startB m l k t 10000 = true then startK l k t else l) ∧ Below B w w') := by
  have hB := h.size
  obtain ⟨V, h1, h2⟩ := h
  refine (startI_any h1 k t).mono ?_
  rintro e w' ⟨rfl, hn⟩
  exact ⟨rfl, cover (hn.out.has h2 hB)⟩
theorem stopI_has (h : CIHas B w c m now l) (k : Int) : Calls Try.prog 17 #[ptr c, .int .i64 k] w fun e w' => e = .returned (.bool (hasK l k)) ∧ Hid (CIHas B w' c m now (stopK l k) ∧ Below B w w') := by
  have hB := h.size
  obtain ⟨V, h1, h2⟩ := h
  cases hk : hasK l k with
  | true =>
    refine (stopI_at h1 k hk).mono ?_
    rintro e w' ⟨rfl, hn⟩
    exact ⟨rfl, cover (hn.out.has h2 hB)⟩
  | false =>
    refine (stopI_none h1 k hk).mono ?_
    rintro e w' ⟨rfl, hb⟩
    rw [stopK_no hk]
    exact ⟨rfl, cover ⟨⟨V, h1.below hb, h2⟩, hb.mono hB⟩⟩
theorem tickI_has (h : CIHas B w c m now l) (hn : now < 1000000000) : Calls Try.prog 20 #[ptr c] w fun e w' => ∃ A cp, e = .returned (.slice A (toldK l).length cp) ∧ Hid (w'.ownsRow w.heap.size 3 1 (.slice A (toldK l).length cp) (toldK l).length ((toldK l).map (fun k => .int .i64 k)) ∧ CIHas B w' c m (now + 1) (tickK l) ∧ Below B w w') := by
  have hB := h.size
  obtain ⟨V, h1, h2⟩ := h
  refine (tickI_any h1 hn).mono ?_
  rintro e w' ⟨A, cp, rfl, hh⟩
  obtain ⟨ho, V', k1, k2, _⟩ := hh.out
  exact ⟨A, cp, rfl, cover ⟨ho, CINow.has ⟨V', k1, k2⟩ h2 hB⟩⟩
theorem leftI_has (h : CIHas B w c m now l) (k : Int) : Calls Try.prog 22 #[ptr c, .int .i64 k] w fun e w' => e = .returned (.int .i64 (leftK l k)) ∧ Below w.heap.size w w' := by
  obtain ⟨V, h1, h2⟩ := h
  cases hk : hasK l k with
  | true => exact leftI_at h1 k _ rfl hk
  | false =>
    have : leftK l k = 0 := leftK_none fun x hx e => by
      have : hasK l k = true := hasK_iff.2 (List.mem_map.2 ⟨x, hx, e⟩)
      rw [hk] at this; cases this
    rw [this]
    exact leftI_none h1 k hk
theorem lenI_has (h : CIHas B w c m now l) : Calls Try.prog 25 #[ptr c] w fun e w' => e = .returned (.int .i64 l.length) ∧ w = w' := by
  obtain ⟨V, h1, h2⟩ := h; exact lenI_any h1
theorem nowI_has (h : CIHas B w c m now l) : Calls Try.prog 24 #[ptr c] w fun e w' => e = .returned (.int .i64 now) ∧ w = w' := by
  obtain ⟨V, h1, h2⟩ := h; exact nowI_any h1
end
end Go.Proofs.Ytodiocioldakjaa
