/- A table of the law's own: all of it lies from block B on; what else the law has lies as it lay. -/
import Derived.Test.YtjkgiepfglimcaaEITab
namespace Go.Proofs.Ytjkgiepfglimcaa
open Go.RowKit
set_option linter.unusedVariables false

def THasI (B : Nat) (w : World) (t b m : Nat) (l : List (EK × Int)) : Prop := TabI w t b m l ∧ B ≤ t ∧ B ≤ b
section
variable {B : Nat} {w w' : World} {t b m : Nat} {l : List (EK × Int)}
theorem THasI.size (h : THasI B w t b m l) : B ≤ w.heap.size := by
  have := h.2.1
  have := block_lt h.1.hd
  omega
theorem THasI.below (h : THasI B w t b m l) (hb : Below w.heap.size w w') : THasI B w' t b m l := ⟨h.1.below hb, h.2⟩
theorem THasI.drewN (h : THasI B w t b m l) (n : Nat) : THasI B (w.drewN n) t b m l := ⟨h.1.drewN n, h.2⟩
theorem THasI.rise (h : THasI B w t b m l) : Rise ltE l := h.1.held.rise
theorem THasI.most (h : THasI B w t b m l) : l.length ≤ m := h.1.most
theorem THasI.room (h : THasI B w t b m l) : m ≤ 1000 := h.1.room
theorem THasI.ok (h : THasI B w t b m l) : ∀ x ∈ l, OkE x.1 := h.1.held.ok
theorem THasI.lt (h : THasI B w t b m l) : t < w.heap.size ∧ b < w.heap.size := ⟨h.1.lt (.inl rfl), h.1.lt (.inr rfl)⟩
theorem TNowI.has {l' : List (EK × Int)} (h : TNowI t b m l' w w') (hV : B ≤ t ∧ B ≤ b) (hB : B ≤ w.heap.size) : THasI B w' t b m l' ∧ Below B w w' ∧ TLies t b w w' :=
  ⟨⟨h.1, hV⟩, Moves.below (Below.refl B w) h.2 (fun i hi => hi.elim (fun e => e ▸ hV.1) (fun e => e ▸ hV.2)) hB, h.2.size, fun i hi h1 h2 => h.2.block i hi (fun hf => hf.elim h1 h2)⟩
theorem newI_has (n : Int) (hn : n ≤ 1000) (hB : B ≤ w.heap.size) : Calls Try.prog 15 #[.int .i64 n] w fun e w' => ∃ t b, e = .returned (ptr t) ∧ Hid (THasI B w' t b n.toNat [] ∧ Below w.heap.size w w' ∧ w.heap.size ≤ t ∧ w.heap.size ≤ b) := by
  refine (newI_any n hn w).mono ?_
  rintro e w' ⟨t, b, rfl, h⟩
  obtain ⟨h1, h2, h3⟩ := h.out
  exact ⟨t, b, rfl, cover ⟨⟨h1, Nat.le_trans hB (h3 t (.inl rfl)), Nat.le_trans hB (h3 b (.inr rfl))⟩, h2, h3 t (.inl rfl), h3 b (.inr rfl)⟩⟩
theorem putI_has (h : THasI B w t b m l) {k : EK} (hk : OkE k) (x : Int) : Calls Try.prog 17 #[ptr t, keyV k, .int .i64 x] w fun e w' => e = .returned (.int .i64 (if fullT m l k = true then 6 else 0)) ∧ Hid (THasI B w' t b m (putT ltE m l k x) ∧ Below B w w' ∧ TLies t b w w') := by
  refine (putI_any h.1 hk x).mono ?_
  rintro e w' ⟨rfl, hh⟩
  exact ⟨rfl, cover (hh.out.has h.2 h.size)⟩
theorem delI_has (h : THasI B w t b m l) {k : EK} (hk : OkE k) : Calls Try.prog 20 #[ptr t, keyV k] w fun e w' => e = .returned (.bool (hasT l k)) ∧ Hid (THasI B w' t b m (delT l k) ∧ Below B w w' ∧ TLies t b w w') := by
  refine (delI_any h.1 hk).mono ?_
  rintro e w' ⟨rfl, hh⟩
  exact ⟨rfl, cover (hh.out.has h.2 h.size)⟩
theorem getI_has (h : THasI B w t b m l) {k : EK} (hk : OkE k) : Calls Try.prog 19 #[ptr t, keyV k] w fun e w' => e = .returned (.tuple #[.int .i64 ((getT l k).getD 0), .bool (hasT l k)]) ∧ Below w.heap.size w w' := getI_any h.1 hk
theorem lenI_has (h : THasI B w t b m l) : Calls Try.prog 21 #[ptr t] w fun e w' => e = .returned (.int .i64 l.length) ∧ w = w' := lenI_any h.1
end
end Go.Proofs.Ytjkgiepfglimcaa
