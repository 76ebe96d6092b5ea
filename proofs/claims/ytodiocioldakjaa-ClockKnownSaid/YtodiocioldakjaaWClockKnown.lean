/- The walk of ClockKnown. -/
import Derived.Test.YtodiocioldakjaaKAwake
import Derived.Test.YtodiocioldakjaaKSHas
namespace Go.Proofs.Ytodiocioldakjaa
open Go.RowKit
set_option linter.unusedVariables false

def kA : ByteArray := ⟨#[97]⟩
def kB : ByteArray := ⟨#[98]⟩
def kC : ByteArray := ⟨#[99]⟩
theorem kAB : kA ≠ kB := by decide
theorem own_cellS {w : World} {base e n : Nat} {A : Option Addr} {cp : Nat} {xs : List Value} (h : w.ownsRow base e 1 (.slice A n cp) n xs) {x : Value} (hx : xs[0]? = some x) : ∃ g, A = some ⟨g, 0, none⟩ ∧ g < w.heap.size ∧ base ≤ g ∧ w.cell? ⟨g, 0, none⟩ = some x := own_cell h hx
set_option maxRecDepth 100000 in
set_option maxHeartbeats 1600000 in
theorem walk_ClockKnown (w : World) : Calls Try.prog 3 #[] w fun e w' => e = .returned (.bool true) ∧ Below w.heap.size w w' := by
  obtain ⟨B, hB⟩ : ∃ B, B = w.heap.size := ⟨_, rfl⟩
  rw [← hB]
  have hBw : B ≤ w.heap.size := by omega
  clear hB
  go_enter Try.func3, Try.ntmps3
  go_wp2_with fail
  refine (awake_any w).mono ?_
  rintro e w0 ⟨rfl, hb0⟩
  have HB0 : Hid (Below B w w0) := cover (hb0.mono hBw)
  have hs0 : B ≤ w0.heap.size := Nat.le_trans hBw hb0.size
  clear hb0
  go_wp2_with fail
  refine (newS_has 2 (by decide) hs0).mono ?_
  rintro e w1 ⟨c, rfl, H1'⟩
  have H1 : Hid (CSHas B w1 c 2 0 [] ∧ Below B w w1) := cover ⟨H1'.out.1, HB0.out.trans H1'.out.2⟩
  clear H1' HB0
  have s1 := startS_has H1.out.1 kA 2
  rw [show startB 2 ([] : List (ByteArray × Int)) kA 2 10000 = true by decide, if_pos rfl, show startK ([] : List (ByteArray × Int)) kA 2 = [(kA, 2)] by decide] at s1
  go_wp2_with fail
  refine s1.mono ?_
  rintro e w2 ⟨rfl, H2'⟩
  have H2 : Hid (CSHas B w2 c 2 0 [(kA, 2)] ∧ Below B w w2) := cover ⟨H2'.out.1, H1.out.2.trans H2'.out.2⟩
  clear H2' H1 s1
  have s2 := startS_has H2.out.1 kB 1
  rw [show startB 2 [(kA, (2 : Int))] kB 1 10000 = true by decide, if_pos rfl, show startK [(kA, (2 : Int))] kB 1 = [(kA, 2), (kB, 1)] by decide] at s2
  go_wp2_with fail
  refine s2.mono ?_
  rintro e w3 ⟨rfl, H3'⟩
  have H3 : Hid (CSHas B w3 c 2 0 [(kA, 2), (kB, 1)] ∧ Below B w w3) := cover ⟨H3'.out.1, H2.out.2.trans H3'.out.2⟩
  clear H3' H2 s2
  have s3 := startS_has H3.out.1 kC 1
  rw [show startB 2 [(kA, (2 : Int)), (kB, 1)] kC 1 10000 = false by decide, if_neg (by decide)] at s3
  go_wp2_with fail
  refine s3.mono ?_
  rintro e w4 ⟨rfl, H4'⟩
  have H4 : Hid (CSHas B w4 c 2 0 [(kA, 2), (kB, 1)] ∧ Below B w w4) := cover ⟨H4'.out.1, H3.out.2.trans H4'.out.2⟩
  clear H4' H3 s3
  obtain ⟨V4, hV4, hf4⟩ := H4.out.1
  have s4 := tickS_any hV4 (by decide)
  unfold TickS at s4
  rw [show toldK [(kA, (2 : Int)), (kB, 1)] = [kB] by decide, show tickK [(kA, (2 : Int)), (kB, 1)] = [(kA, 1)] by decide] at s4
  go_wp2_with fail
  refine s4.mono ?_
  rintro e w5 ⟨A5, c5, rfl, H5⟩
  obtain ⟨V5, hV5, hm5, hn5⟩ := H5.out.2
  obtain ⟨g5, rfl, hg5, _, k5⟩ := own_cellS (x := .string kB) H5.out.1 rfl
  have B5 : Hid (Below B w w5) := cover (Moves.below H4.out.2 hm5 hf4 (by have := hV4.lt (.inl rfl); have := hf4 c (.inl rfl); omega))
  have f5 : ∀ i, cfoot c V5 i → B ≤ i := fun i hi => (hm5.own i hi).elim (hf4 i) (fun h => by have := hV4.lt (.inl rfl); have := hf4 c (.inl rfl); omega)
  have a5 : ¬ cfoot c V5 g5 := hn5 g5 rfl
  have s5 := tickS_any hV5 (by decide)
  unfold TickS at s5
  rw [show toldK [(kA, (1 : Int))] = [kA] by decide, show tickK [(kA, (1 : Int))] = [] by decide] at s5
  clear H5 H4 s4 hV4 hm5 hn5 hf4
  go_wp2_with fail
  refine s5.mono ?_
  rintro e w6 ⟨A6, c6, rfl, H6⟩
  obtain ⟨V6, hV6, hm6, hn6⟩ := H6.out.2
  obtain ⟨g6, rfl, hg6, _, k6⟩ := own_cellS (x := .string kA) H6.out.1 rfl
  have B6 : Hid (Below B w w6) := cover (Moves.below B5.out hm6 f5 (by have := hV5.lt (.inl rfl); have := f5 c (.inl rfl); omega))
  have f6 : ∀ i, cfoot c V6 i → B ≤ i := fun i hi => (hm6.own i hi).elim (f5 i) (fun h => by have := hV5.lt (.inl rfl); have := f5 c (.inl rfl); omega)
  have a6 : ¬ cfoot c V6 g6 := hn6 g6 rfl
  have a65 : ¬ cfoot c V6 g5 := (hm6.apart (T := fun k => k = g5) (fun k hk => by subst hk; exact ⟨hg5, a5⟩) g5 rfl).2
  have k65 : w6.cell? ⟨g5, 0, none⟩ = some (.string kB) := by rw [World.cell?_of_block (hm6.block g5 hg5 a5)]; exact k5
  have hg65 := Nat.lt_of_lt_of_le hg5 hm6.size
  have s6 := tickS_any hV6 (by decide)
  unfold TickS at s6
  rw [show toldK ([] : List (ByteArray × Int)) = [] by decide, show tickK ([] : List (ByteArray × Int)) = [] by decide] at s6
  clear H6 s5 hV5 hm6 hn6 f5 B5 a5 k5 hg5
  go_wp2_with fail
  refine s6.mono ?_
  rintro e w7 ⟨A7, c7, rfl, H7⟩
  obtain ⟨V7, hV7, hm7, hn7⟩ := H7.out.2
  have B7 : Hid (Below B w w7) := cover (Moves.below B6.out hm7 f6 (by have := hV6.lt (.inl rfl); have := f6 c (.inl rfl); omega))
  have f7 : ∀ i, cfoot c V7 i → B ≤ i := fun i hi => (hm7.own i hi).elim (f6 i) (fun h => by have := hV6.lt (.inl rfl); have := f6 c (.inl rfl); omega)
  have k7 : w7.cell? ⟨g6, 0, none⟩ = some (.string kA) := by rw [World.cell?_of_block (hm7.block g6 hg6 a6)]; exact k6
  have k75 : w7.cell? ⟨g5, 0, none⟩ = some (.string kB) := by rw [World.cell?_of_block (hm7.block g5 hg65 a65)]; exact k65
  have H8 : Hid (CSHas B w7 c 2 3 []) := cover ⟨V7, hV7, f7⟩
  clear H7 s6 hV6 hm7 hn7 f6 f7 B6 a6 a65 k6 k65 hV7
  have eA : kA.toList = [97] := by rw [ByteArray.toList_eq]; rfl
  have eB : kB.toList = [98] := by rw [ByteArray.toList_eq]; rfl
  have l7 : ([] : List ByteArray).length = 0 := rfl
  rw [l7]
  have s8 := startS_has H8.out kA 0
  rw [show startB 2 ([] : List (ByteArray × Int)) kA 0 10000 = false by decide, if_neg (by decide)] at s8
  go_wp2_with fail
  refine s8.mono ?_
  rintro e w9 ⟨rfl, H9⟩
  have B9 := cover (B7.out.trans H9.out.2)
  have s9 := stopS_has H9.out.1 kA
  rw [show hasK ([] : List (ByteArray × Int)) kA = false by decide] at s9
  go_wp2_with fail
  refine s9.mono ?_
  rintro e w10 ⟨rfl, H10⟩
  have B10 := cover (B9.out.trans H10.out.2)
  clear s9 H10 H9 s8 B9 B7
  go_wp2
  go_ret
  exact ⟨rfl, B10.out⟩
end Go.Proofs.Ytodiocioldakjaa
