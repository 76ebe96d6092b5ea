/- One clock of the law's own. -/
import Derived.Test.YtodiocioldakjaaKSTick
import Derived.Test.YtodiocioldakjaaKSStart
import Derived.Test.YtodiocioldakjaaKIHas
namespace Go.Proofs.Ytodiocioldakjaa
open Go.RowKit
set_option linter.unusedVariables false

/-- a clock all of which lies from block B on -/
def CSHas (B : Nat) (w : World) (c m now : Nat) (l : List (ByteArray × Int)) : Prop := ∃ V, CSIn w c V m now l ∧ ∀ i, cfoot c V i → B ≤ i
section
variable {B : Nat} {w w' : World} {c m now : Nat} {l : List (ByteArray × Int)}
theorem CSHas.size (h : CSHas B w c m now l) : B ≤ w.heap.size := by
  obtain ⟨V, h1, h2⟩ := h
  have := h2 c (.inl rfl)
  have := block_lt h1.hd
  omega
theorem CSHas.below (h : CSHas B w c m now l) (hb : Below w.heap.size w w') : CSHas B w' c m now l := by
  obtain ⟨V, h1, h2⟩ := h; exact ⟨V, h1.below hb, h2⟩
theorem CSHas.drewN (h : CSHas B w c m now l) (n : Nat) : CSHas B (w.drewN n) c m now l := by
  obtain ⟨V, h1, h2⟩ := h; exact ⟨V, h1.drewN n, h2⟩
theorem CSHas.ok (h : CSHas B w c m now l) : InK m 10000 l := by obtain ⟨V, h1, _⟩ := h; exact h1.ok
theorem CSNow.has {V : Value} {now' : Nat} {l' : List (ByteArray × Int)} (h : CSNow (cfoot c V) c m now' l' w w') (hV : ∀ i, cfoot c V i → B ≤ i) (hB : B ≤ w.heap.size) : CSHas B w' c m now' l' ∧ Below B w w' := by
  obtain ⟨V', h1, h2⟩ := h
  exact ⟨⟨V', h1, fun i hi => (h2.own i hi).elim (hV i) (fun h3 => Nat.le_trans hB h3)⟩, Moves.below (Below.refl B w) h2 hV hB⟩
end
section
variable {B : Nat} {w : World} {c m now : Nat} {l : List (ByteArray × Int)}
theorem newS_has (n : Int) (hn : n ≤ 100000) (hB : B ≤ w.heap.size) : Calls Try.prog 10 #[.int .i64 n] w fun e w' => ∃ c, e = .returned (ptr c) ∧ Hid (CSHas B w' c n.toNat 0 [] ∧ Below B w w') := by
  refine (newS_any n w hn).mono ?_
  rintro e w' ⟨rfl, h⟩
  obtain ⟨h1, h2⟩ := h.out
  refine ⟨_, rfl, cover ⟨⟨_, h1, fun i hi => ?_⟩, h2.mono hB⟩⟩
  rcases hi with rfl | hi
  · exact hB
  · cases hi
theorem startS_has (h : CSHas B w c m now l) (k : ByteArray) (t : Int) : Calls Try.prog 11 #[ptr c, .string k, .int .i64 t] w fun e w' => e = .returned (.bool (startB m l k t 10000)) ∧ Hid (CSHas B w' c m now (if startB m l k t 10000 = true then startK l k t else l) ∧ Below B w w') := by
  have hB := h.size
  obtain ⟨V, h1, h2⟩ := h
  refine (startS_any h1 k t).mono ?_
  rintro e w' ⟨rfl, hn⟩
  exact ⟨rfl, cover (hn.out.has h2 hB)⟩
theorem stopS_has (h : CSHas B w c m now l) (k : ByteArray) : Calls Try.prog 13 #[ptr c, .string k] w fun e w' => e = .returned (.bool (hasK l k)) ∧ Hid (CSHas B w' c m now (stopK l k) ∧ Below B w w') := by
  have hB := h.size
  obtain ⟨V, h1, h2⟩ := h
  cases hk : hasK l k with
  | true =>
    refine (stopS_at h1 k hk).mono ?_
    rintro e w' ⟨rfl, hn⟩
    exact ⟨rfl, cover (hn.out.has h2 hB)⟩
  | false =>
    refine (stopS_none h1 k hk).mono ?_
    rintro e w' ⟨rfl, hb⟩
    rw [stopK_no hk]
    exact ⟨rfl, cover ⟨⟨V, h1.below hb, h2⟩, hb.mono hB⟩⟩
theorem tickS_has (h : CSHas B w c m now l) (hn : now < 1000000000) : Calls Try.prog 12 #[ptr c] w fun e w' => ∃ A cp, e = .returned (.slice A (toldK l).length cp) ∧ Hid (w'.ownsRow w.heap.size 9 1 (.slice A (toldK l).length cp) (toldK l).length ((toldK l).map (fun k => .string k)) ∧ CSHas B w' c m (now + 1) (tickK l) ∧ Below B w w') := by
  have hB := h.size
  obtain ⟨V, h1, h2⟩ := h
  refine (tickS_any h1 hn).mono ?_
  rintro e w' ⟨A, cp, rfl, hh⟩
  obtain ⟨ho, V', k1, k2, _⟩ := hh.out
  exact ⟨A, cp, rfl, cover ⟨ho, CSNow.has ⟨V', k1, k2⟩ h2 hB⟩⟩
end
end Go.Proofs.Ytodiocioldakjaa
