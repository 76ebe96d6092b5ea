/- The law's own first question: what is put is got. -/
import Derived.Test.YtjkgiepfglimcaaEIHas
namespace Go.Proofs.Ytjkgiepfglimcaa
open Go.RowKit
set_option linter.unusedVariables false

theorem k64 {x : Int} (h : 0 ≤ x ∧ x ≤ 1000 := by decide) : I64 x := i64_of (by omega)
theorem u8_0 : U8 0 := by decide
/-- a key of a SAP alone -/
abbrev nearK (n : Int) : EK := ⟨0, 0, 0, 0, 0, 0, n, 0⟩
theorem i64_0 : I64 0 := by decide
theorem nearK_ok {n : Int} (h : I64 n) : OkE (nearK n) := ⟨u8_0, u8_0, u8_0, u8_0, u8_0, u8_0, h, i64_0⟩
set_option maxRecDepth 100000 in
set_option maxHeartbeats 1600000 in
theorem awake_any (w : World) : Calls Try.prog 8 #[] w fun e w' => e = .returned (.bool true) ∧ Below w.heap.size w w' := by
  obtain ⟨B, hB⟩ : ∃ B, B = w.heap.size := ⟨_, rfl⟩
  rw [← hB]
  have hBw : B ≤ w.heap.size := by omega
  clear hB
  go_enter Try.func8, Try.ntmps8
  go_wp2_with fail
  refine (newI_has 1 (by decide) hBw).mono ?_
  rintro e w1 ⟨t, b, rfl, H1⟩
  obtain ⟨g, hg⟩ : ∃ g, g = w1.heap.size := ⟨_, rfl⟩
  obtain ⟨w2, hw2⟩ : ∃ w2, w2 = w1.alloc (.cells #[.int .u8 0, .int .u8 0, .int .u8 0, .int .u8 0, .int .u8 0, .int .u8 0, .int .i64 4, .int .i64 0] 28) := ⟨_, rfl⟩
  have hb2 : Below w1.heap.size w1 w2 := by rw [hw2]; exact (Below.refl _ _).alloc (Nat.le_refl _) _
  have X2 : Hid (w2.heap[g]? = some (.cells #[.int .u8 0, .int .u8 0, .int .u8 0, .int .u8 0, .int .u8 0, .int .u8 0, .int .i64 4, .int .i64 0] 28 (0, 0)) ∧ g < w2.heap.size ∧ g ≠ t ∧ g ≠ b) := by
    have := H1.out.1.lt
    exact cover ⟨by rw [hg, hw2]; exact heap_alloc_new _ _, by rw [hg, hw2]; simp, by omega, by omega⟩
  have H2 : Hid (THasI B w2 t b 1 [] ∧ Below B w w2) := cover ⟨H1.out.1.below hb2, (H1.out.2.1.mono hBw).trans (hb2.mono H1.out.1.size)⟩
  have s1 := putI_has H2.out.1 (k := nearK 4) (nearK_ok k64) 5
  have e1 : (if fullT 1 ([] : List (EK × Int)) (nearK 4) = true then (6 : Int) else 0) = 0 := by decide
  have e2 : putT ltE 1 ([] : List (EK × Int)) (nearK 4) 5 = [(nearK 4, 5)] := rfl
  rw [e1, e2] at s1
  obtain ⟨k0, k1, k2, k3, k4, k5, k6, k7⟩ : CellsK w2 g (nearK 4) := cells_of_key X2.out.1
  clear hb2 e1 e2
  go_upto_region 3 with fail
  rw [← hw2, ← hg]
  clear hw2 hg
  go_wp2_with fail
  refine s1.mono ?_
  rintro e w3 ⟨rfl, H3⟩
  have s2 := getI_has H3.out.1 (k := nearK 4) (nearK_ok k64)
  have e1 : (getT [(nearK 4, (5 : Int))] (nearK 4)).getD 0 = 5 := by decide
  have e2 : hasT [(nearK 4, (5 : Int))] (nearK 4) = true := by decide
  rw [e1, e2] at s2
  obtain ⟨k0, k1, k2, k3, k4, k5, k6, k7⟩ : CellsK w3 g (nearK 4) := cells_of_key ((H3.out.2.2.2 g X2.out.2.1 X2.out.2.2.1 X2.out.2.2.2).trans X2.out.1)
  have B3 : Hid (Below B w w3) := cover (H2.out.2.trans H3.out.2.1)
  clear s1 e1 e2 X2 H2
  go_wp2_with fail
  refine s2.mono ?_
  rintro e w4 ⟨rfl, hb4⟩
  have s3 := lenI_has (H3.out.1.below hb4)
  have B4 : Hid (Below B w w4) := cover (B3.out.trans (hb4.mono H3.out.1.size))
  clear s2 hb4 H3 B3
  go_wp2_with (go_at_call 21; refine s3.mono ?_; rintro e w' ⟨rfl, rfl⟩)
  go_ret
  exact ⟨rfl, B4.out⟩
end Go.Proofs.Ytjkgiepfglimcaa
