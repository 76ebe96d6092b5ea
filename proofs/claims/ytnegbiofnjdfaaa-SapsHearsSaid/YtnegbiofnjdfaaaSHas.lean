/- One Saps of the law's own; what the law's own Ints answers; the law's own first question: a SAP is heard. -/
import Derived.BigQuiet
import Derived.Deep.QuietTactic
import Derived.Deep.CutBlock
import Derived.Deep.DeepCutAuto
import Derived.Test.YtnegbiofnjdfaaaSHear
namespace Go.Proofs.Ytnegbiofnjdfaaa
open Go.RowKit
set_option linter.unusedVariables false

/-- a Saps all of which lies from block B on -/
def SHas (B : Nat) (w : World) (s : Nat) (l : List SV) : Prop := ∃ a b, SapsIn w s a b l ∧ ∀ i, sfoot s a b i → B ≤ i
section
variable {B : Nat} {w w' : World} {s : Nat} {l : List SV}
theorem SHas.size (h : SHas B w s l) : B ≤ w.heap.size := by
  obtain ⟨a, b, h1, h2⟩ := h
  have := h2 s (.inl rfl)
  have := block_lt h1.hd
  omega
theorem SHas.below (h : SHas B w s l) (hb : Below w.heap.size w w') : SHas B w' s l := by
  obtain ⟨a, b, h1, h2⟩ := h; exact ⟨a, b, h1.below hb, h2⟩
theorem SHas.drewN (h : SHas B w s l) (n : Nat) : SHas B (w.drewN n) s l := by
  obtain ⟨a, b, h1, h2⟩ := h; exact ⟨a, b, h1.drewN n, h2⟩
theorem SHas.ok (h : SHas B w s l) : InS l := by obtain ⟨a, b, h1, _⟩ := h; exact h1.ok
theorem SHas.ptr (h : SHas B w s l) : s < w.heap.size := by obtain ⟨a, b, h1, _⟩ := h; exact block_lt h1.hd
theorem SNow.has {a b : Nat} {l' : List SV} (h : SNow s a b l' w w') (hV : ∀ i, sfoot s a b i → B ≤ i) (hB : B ≤ w.heap.size) : SHas B w' s l' ∧ Below B w w' :=
  ⟨⟨a, b, h.1, hV⟩, Moves.below (Below.refl B w) h.2 hV hB⟩
theorem new_has (hB : B ≤ w.heap.size) : Calls Try.prog 10 #[] w fun e w' => ∃ s, e = .returned (ptr s) ∧ Hid (SHas B w' s [] ∧ Below B w w') := by
  refine (new_any w).mono ?_
  rintro e w' ⟨s, a, b, rfl, h⟩
  obtain ⟨h1, h2, h3⟩ := h.out
  exact ⟨s, rfl, cover ⟨⟨a, b, h1, fun i hi => Nat.le_trans hB (h3 i hi)⟩, h2.mono hB⟩⟩
theorem open_has (h : SHas B w s l) {n : Int} (hn : I64 n) (c : Int) : Calls Try.prog 11 #[ptr s, .int .i64 n, .int .i64 c] w fun e w' => e = .returned (.int .i64 (openE l n c)) ∧ Hid (SHas B w' s (openS l n c) ∧ Below B w w') := by
  have hB := h.size
  obtain ⟨a, b, h1, h2⟩ := h
  refine (open_any h1 hn).mono ?_
  rintro e w' ⟨rfl, hh⟩
  exact ⟨rfl, cover (hh.out.has h2 hB)⟩
theorem close_has (h : SHas B w s l) {n : Int} (hn : I64 n) : Calls Try.prog 21 #[ptr s, .int .i64 n] w fun e w' => e = .returned (.int .i64 (closeE l n)) ∧ Hid (SHas B w' s (closeS l n) ∧ Below B w w') := by
  have hB := h.size
  obtain ⟨a, b, h1, h2⟩ := h
  refine (close_any h1 hn).mono ?_
  rintro e w' ⟨rfl, hh⟩
  exact ⟨rfl, cover (hh.out.has h2 hB)⟩
theorem join_has (h : SHas B w s l) {n : Int} (hn : I64 n) (g : Int) : Calls Try.prog 12 #[ptr s, .int .i64 n, .int .i64 g] w fun e w' => e = .returned (.int .i64 (joinE l n g)) ∧ Hid (SHas B w' s (joinS l n g) ∧ Below B w w') := by
  have hB := h.size
  obtain ⟨a, b, h1, h2⟩ := h
  refine (join_any h1 hn).mono ?_
  rintro e w' ⟨rfl, hh⟩
  exact ⟨rfl, cover (hh.out.has h2 hB)⟩
theorem leave_has (h : SHas B w s l) {n : Int} (hn : I64 n) (g : Int) : Calls Try.prog 22 #[ptr s, .int .i64 n, .int .i64 g] w fun e w' => e = .returned (.int .i64 (leaveE l n g)) ∧ Hid (SHas B w' s (leaveS l n g) ∧ Below B w w') := by
  have hB := h.size
  obtain ⟨a, b, h1, h2⟩ := h
  refine (leave_any h1 hn).mono ?_
  rintro e w' ⟨rfl, hh⟩
  exact ⟨rfl, cover (hh.out.has h2 hB)⟩
theorem class_has (h : SHas B w s l) {n : Int} (hn : I64 n) : Calls Try.prog 16 #[ptr s, .int .i64 n] w fun e w' => e = .returned (.int .i64 (clsS l n)) ∧ w = w' := by
  obtain ⟨a, b, h1, h2⟩ := h; exact class_any h1 hn
theorem hears_has (h : SHas B w s l) {n : Int} (hn : I64 n) : Calls Try.prog 14 #[ptr s, .int .i64 n] w (Out (hearS l n) w) := by
  obtain ⟨a, b, h1, h2⟩ := h; exact hears_any h1 hn
theorem list_has (h : SHas B w s l) : Calls Try.prog 19 #[ptr s] w (Out (listS l) w) := by
  obtain ⟨a, b, h1, h2⟩ := h; exact list_any h1
end
theorem ints_len (A A' : Option Addr) (n m c c' : Nat) (w : World) (h : n ≠ m) : Calls Try.prog 13 #[.slice A n c, .slice A' m c'] w fun e w' => e = .returned (.bool false) ∧ w = w' := by
  have h1 : ((n : Int) == (m : Int)) = false := by rw [beq_eq_false_iff_ne]; omega
  have h2 : ((n : Int) != (m : Int)) = true := by simp; omega
  clear h
  go_enter Try.func13, Try.ntmps13
  go_wp2
  go_ret
  exact ⟨rfl, rfl⟩
set_option maxHeartbeats 800000 in
theorem ints_same {A A' : Option Addr} {c c' n : Nat} {l : List Int} (w : World) (hn : l.length = n) (hbig : n ≤ 1000000) (h1 : Nums w A l) (h2 : Nums w A' l) : Calls Try.prog 13 #[.slice A n c, .slice A' n c'] w fun e w' => e = .returned (.bool true) ∧ ∃ d, w' = w.drewN d := by
  have H1 := cover h1
  have H2 := cover h2
  have HN := cover hn
  clear h1 h2 hn
  go_enter Try.func13, Try.ntmps13
  go_wp2_with fail
  go_loopw [5] (fun i wr => ∃ j : Nat, j ≤ n ∧ i = .int .i64 j ∧ Hid (∃ d, wr = w.drewN d)) (fun i _ => n - (intOf i).toNat)
  case atStart => exact ⟨0, Nat.zero_le _, rfl, cover ⟨0, rfl⟩⟩
  case round =>
    obtain ⟨j, hj, rfl, hrel⟩ := hrel
    obtain ⟨d, rfl⟩ := hrel.out
    by_cases hlt : j < n
    · obtain ⟨x, hx⟩ : ∃ x, l[j]? = some x := ⟨_, List.getElem?_eq_getElem (by rw [HN.out]; exact hlt)⟩
      obtain ⟨g, rfl, k1⟩ := H1.out j x hx
      obtain ⟨g', rfl, k2⟩ := H2.out j x hx
      clear hx hrel
      go_wp2_with fail
      go_quiet (fail)
      all_goals (go_wp2)
      all_goals (try go_roundw)
      all_goals try (case rel => exact ⟨j + 1, by omega, by go_num, cover ⟨_, rfl⟩⟩)
      all_goals try (case measure => simp [intOf]; omega)
    · obtain rfl : j = n := by omega
      clear hrel
      go_wp2
      go_ret
      exact ⟨rfl, d, rfl⟩

theorem k64 {x : Int} (h : 0 ≤ x ∧ x ≤ 1000 := by decide) : I64 x := i64_of (by omega)
set_option maxRecDepth 100000 in
set_option maxHeartbeats 1600000 in
theorem awake_any (w : World) : Calls Try.prog 9 #[] w fun e w' => e = .returned (.bool true) ∧ Below w.heap.size w w' := by
  obtain ⟨B, hB⟩ : ∃ B, B = w.heap.size := ⟨_, rfl⟩
  rw [← hB]
  have hBw : B ≤ w.heap.size := by omega
  clear hB
  go_enter Try.func9, Try.ntmps9
  go_wp2_with fail
  refine (new_has hBw).mono ?_
  rintro e w1 ⟨s, rfl, H1⟩
  have s1 := open_has H1.out.1 (n := 4) k64 2
  have e1 : openE [] 4 2 = 0 := by decide
  have e2 : openS [] 4 2 = [⟨4, 2, []⟩] := by unfold openS; rw [if_pos e1]; rfl
  rw [e1, e2] at s1
  go_wp2_with fail
  refine s1.mono ?_
  rintro e w2 ⟨rfl, H2⟩
  have HB2 := cover (H1.out.2.trans H2.out.2)
  clear s1 e1 e2 H1
  have s2 := hears_has H2.out.1 (n := 4) k64
  have e3 : hearS [⟨4, 2, []⟩] 4 = [4] := by decide +kernel
  rw [e3] at s2
  go_wp2_with fail
  refine s2.mono ?_
  rintro e w3 ⟨A, cp, rfl, hh⟩
  obtain ⟨g, rfl, _, _, hc⟩ := own_cell (j := 0) (x := .int .i64 4) hh.out.1 rfl
  have HB3 := cover (HB2.out.trans (hh.out.2.mono H2.out.1.size))
  have s3 := class_has (H2.out.1.below hh.out.2) (n := 4) k64
  have e4 : clsS [⟨4, 2, []⟩] 4 = 2 := by decide +kernel
  rw [e4] at s3
  clear s2 e3 HB2 H2 hh e4
  go_wp2_with fail
  refine s3.mono ?_
  rintro e w' ⟨rfl, rfl⟩
  clear s3
  go_wp2
  go_ret
  exact ⟨rfl, HB3.out⟩
end Go.Proofs.Ytnegbiofnjdfaaa
