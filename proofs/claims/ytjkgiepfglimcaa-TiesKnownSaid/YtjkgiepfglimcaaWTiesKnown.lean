/- The walk of TiesKnown. -/
import Derived.Test.YtjkgiepfglimcaaESHas
import Derived.Test.YtjkgiepfglimcaaEAwake
namespace Go.Proofs.Ytjkgiepfglimcaa
open Go.RowKit
set_option linter.unusedVariables false

set_option maxRecDepth 100000 in
set_option maxHeartbeats 3200000 in
theorem walk_TiesKnown (w : World) : Calls Try.prog 3 #[] w fun e w' => e = .returned (.bool true) ∧ Below w.heap.size w w' := by
  have mixed : Try.prog.follows .mixedOrders = true := by kernel_rfl
  obtain ⟨B, hB⟩ : ∃ B, B = w.heap.size := ⟨_, rfl⟩
  rw [← hB]
  have hBw : B ≤ w.heap.size := by omega
  clear hB
  go_enter Try.func3, Try.ntmps3
  go_wp2_with fail
  refine (awake_any w).mono ?_
  rintro e w0 ⟨rfl, hb0⟩
  have HB0 : Hid (Below B w w0) := cover (hb0.mono hBw)
  have hs0 : B ≤ w0.heap.size := Nat.le_trans hBw hb0.size
  clear hb0
  go_wp2_with fail
  refine (newS_has 1 (by decide) hs0).mono ?_
  rintro e w1 ⟨t, b, rfl, H1⟩
  obtain ⟨g, hg⟩ : ∃ g, g = w1.heap.size := ⟨_, rfl⟩
  obtain ⟨w2, hw2⟩ : ∃ w2, w2 = (w1.alloc (.cells #[.int .u8 0, .int .u8 0, .int .u8 0, .int .u8 0, .int .u8 0, .int .u8 0, .int .i64 4, .int .i64 0] 28)).alloc (.cells #[.int .u8 0, .int .u8 0, .int .u8 0, .int .u8 0, .int .u8 0, .int .u8 0, .int .i64 8, .int .i64 0] 28) := ⟨_, rfl⟩
  have hb2 : Below w1.heap.size w1 w2 := by rw [hw2]; exact ((Below.refl _ _).alloc (Nat.le_refl _) _).alloc (by simp) _
  have X2 : Hid (w2.heap[g]? = some (.cells #[.int .u8 0, .int .u8 0, .int .u8 0, .int .u8 0, .int .u8 0, .int .u8 0, .int .i64 4, .int .i64 0] 28 (0, 0)) ∧ w2.heap[g + 1]? = some (.cells #[.int .u8 0, .int .u8 0, .int .u8 0, .int .u8 0, .int .u8 0, .int .u8 0, .int .i64 8, .int .i64 0] 28 (0, 0)) ∧ g + 1 < w2.heap.size) := by
    have h8 := heap_alloc_new (w1.alloc (.cells #[.int .u8 0, .int .u8 0, .int .u8 0, .int .u8 0, .int .u8 0, .int .u8 0, .int .i64 4, .int .i64 0] 28)) (.cells #[.int .u8 0, .int .u8 0, .int .u8 0, .int .u8 0, .int .u8 0, .int .u8 0, .int .i64 8, .int .i64 0] 28)
    rw [World.size_alloc] at h8
    exact cover ⟨by rw [hg, hw2, Below.heap_alloc _ _ _ (by simp)]; exact heap_alloc_new _ _, by rw [hg, hw2]; exact h8, by rw [hg, hw2]; simp⟩
  have HGT : Hid (g ≠ t ∧ g ≠ b ∧ g + 1 ≠ t ∧ g + 1 ≠ b) := by
    have := H1.out.1.lt
    exact cover ⟨by omega, by omega, by omega, by omega⟩
  have H2 : Hid (THasS B w2 t b 1 [] ∧ Below B w w2) := cover ⟨H1.out.1.below hb2, HB0.out.trans ((H1.out.2.1.mono hs0).trans (hb2.mono H1.out.1.size))⟩
  clear H1 HB0 hb2
  go_upto_region 5 with fail
  rw [← hw2, ← hg]
  clear hw2 hg hs0
  go_wp2_with fail
  refine (wpIn_wide (n := 0)).1 ?_
  refine held_begin (fun W' : World => CellsK W' g (nearK 4) ∧ CellsK W' (g + 1) (nearK 8)) 99 mixed ?_
  obtain ⟨wd, hwd⟩ : ∃ wd, wd = w2.drew := ⟨_, rfl⟩
  rw [← hwd]
  have XD : Hid (wd.heap[g]? = some (.cells #[.int .u8 0, .int .u8 0, .int .u8 0, .int .u8 0, .int .u8 0, .int .u8 0, .int .i64 4, .int .i64 0] 28 (0, 0)) ∧ wd.heap[g + 1]? = some (.cells #[.int .u8 0, .int .u8 0, .int .u8 0, .int .u8 0, .int .u8 0, .int .u8 0, .int .i64 8, .int .i64 0] 28 (0, 0)) ∧ g + 1 < wd.heap.size) := cover (by rw [hwd]; exact X2.out)
  have HD : Hid (THasS B wd t b 1 [] ∧ Below B w wd) := cover (by rw [hwd]; exact ⟨H2.out.1.drewN 1, below_drewN H2.out.2 1⟩)
  have s1 := putS_has HD.out.1 (k := nearK 4) (nearK_ok k64) ⟨#[53]⟩
  rw [show (if fullT 1 ([] : List (EK × ByteArray)) (nearK 4) = true then (6 : Int) else 0) = 0 from by decide, show putT ltE 1 ([] : List (EK × ByteArray)) (nearK 4) ⟨#[53]⟩ = [(nearK 4, ⟨#[53]⟩)] from rfl] at s1
  clear hwd X2 H2
  have HS : (fun W' : World => CellsK W' g (nearK 4) ∧ CellsK W' (g + 1) (nearK 8)) wd := ⟨cells_of_key XD.out.1, cells_of_key XD.out.2.1⟩
  refine hold_take 0 _ rfl (by kernel_rfl) (by kernel_rfl) (by kernel_rfl) (by kernel_rfl) (by kernel_rfl) (fun _ _ _ h => h) (by rfl) (fun _ => rfl) HS (fun w' hS => by go_simp; try rfl) ?_
  simp only [Act.put, List.setIfInBounds_toArray, List.set_cons_zero, List.set_cons_succ]
  refine hold_take 1 _ rfl (by kernel_rfl) (by kernel_rfl) (by kernel_rfl) (by kernel_rfl) (by kernel_rfl) (fun _ _ _ h => h) (by rfl) (fun _ => rfl) HS (fun w' hS => by obtain ⟨⟨p0, p1, p2, p3, p4, p5, p6, p7⟩, ⟨q0, q1, q2, q3, q4, q5, q6, q7⟩⟩ := hS; go_simp; try rfl) ?_
  simp only [Act.put, List.setIfInBounds_toArray, List.set_cons_zero, List.set_cons_succ]
  refine hold_take 3 _ rfl (by kernel_rfl) (by kernel_rfl) (by kernel_rfl) (by kernel_rfl) (by kernel_rfl) (fun _ _ _ h => h) (by rfl) (fun _ => rfl) HS (fun w' hS => by go_simp; try rfl) ?_
  simp only [Act.put, List.setIfInBounds_toArray, List.set_cons_zero, List.set_cons_succ]
  refine hold_take 4 _ rfl (by kernel_rfl) (by kernel_rfl) (by kernel_rfl) (by kernel_rfl) (by kernel_rfl) (fun _ _ _ h => h) (by rfl) (fun _ => rfl) HS (fun w' hS => by obtain ⟨⟨p0, p1, p2, p3, p4, p5, p6, p7⟩, ⟨q0, q1, q2, q3, q4, q5, q6, q7⟩⟩ := hS; go_simp; try rfl) ?_
  simp only [Act.put, List.setIfInBounds_toArray, List.set_cons_zero, List.set_cons_succ]
  refine hold_take 6 _ rfl (by kernel_rfl) (by kernel_rfl) (by kernel_rfl) (by kernel_rfl) (by kernel_rfl) (fun _ _ _ h => h) (by rfl) (fun _ => rfl) HS (fun w' hS => by go_simp; try rfl) ?_
  simp only [Act.put, List.setIfInBounds_toArray, List.set_cons_zero, List.set_cons_succ]
  refine hold_take 7 _ rfl (by kernel_rfl) (by kernel_rfl) (by kernel_rfl) (by kernel_rfl) (by kernel_rfl) (fun _ _ _ h => h) (by rfl) (fun _ => rfl) HS (fun w' hS => by obtain ⟨⟨p0, p1, p2, p3, p4, p5, p6, p7⟩, ⟨q0, q1, q2, q3, q4, q5, q6, q7⟩⟩ := hS; go_simp; try rfl) ?_
  simp only [Act.put, List.setIfInBounds_toArray, List.set_cons_zero, List.set_cons_succ]
  refine hold_one 2 (by kernel_rfl) rfl (by rfl) fun K hK => ?_
  go_simp
  refine ⟨trivial, rfl, (callsIn_wide.2 s1).mono ?_⟩
  rintro e w3 ⟨rfl, H3⟩
  clear HS s1
  have X3 : Hid (w3.heap[g]? = some (.cells #[.int .u8 0, .int .u8 0, .int .u8 0, .int .u8 0, .int .u8 0, .int .u8 0, .int .i64 4, .int .i64 0] 28 (0, 0)) ∧ w3.heap[g + 1]? = some (.cells #[.int .u8 0, .int .u8 0, .int .u8 0, .int .u8 0, .int .u8 0, .int .u8 0, .int .i64 8, .int .i64 0] 28 (0, 0)) ∧ g + 1 < w3.heap.size) := cover ⟨(H3.out.2.2.2 g (by have := XD.out.2.2; omega) HGT.out.1 HGT.out.2.1).trans XD.out.1, (H3.out.2.2.2 (g + 1) XD.out.2.2 HGT.out.2.2.1 HGT.out.2.2.2).trans XD.out.2.1, Nat.lt_of_lt_of_le XD.out.2.2 H3.out.2.2.1⟩
  have HS : (fun W' : World => CellsK W' g (nearK 4) ∧ CellsK W' (g + 1) (nearK 8)) w3 := ⟨cells_of_key X3.out.1, cells_of_key X3.out.2.1⟩
  refine hK _ _ (.inr HS) ?_
  clear hK K
  have B3 := cover (HD.out.2.trans H3.out.2.1)
  have s1 := putS_has H3.out.1 (k := nearK 8) (nearK_ok k64) ⟨#[54]⟩
  rw [show (if fullT 1 [(nearK 4, (⟨#[53]⟩ : ByteArray))] (nearK 8) = true then (6 : Int) else 0) = 6 from by decide, putT_full ltE _ (by decide)] at s1
  clear HD XD
  refine hold_one 5 (by kernel_rfl) rfl (by rfl) fun K hK => ?_
  go_simp
  refine ⟨trivial, rfl, (callsIn_wide.2 s1).mono ?_⟩
  rintro e w4 ⟨rfl, H4⟩
  clear HS s1
  have X4 : Hid (w4.heap[g]? = some (.cells #[.int .u8 0, .int .u8 0, .int .u8 0, .int .u8 0, .int .u8 0, .int .u8 0, .int .i64 4, .int .i64 0] 28 (0, 0)) ∧ w4.heap[g + 1]? = some (.cells #[.int .u8 0, .int .u8 0, .int .u8 0, .int .u8 0, .int .u8 0, .int .u8 0, .int .i64 8, .int .i64 0] 28 (0, 0)) ∧ g + 1 < w4.heap.size) := cover ⟨(H4.out.2.2.2 g (by have := X3.out.2.2; omega) HGT.out.1 HGT.out.2.1).trans X3.out.1, (H4.out.2.2.2 (g + 1) X3.out.2.2 HGT.out.2.2.1 HGT.out.2.2.2).trans X3.out.2.1, Nat.lt_of_lt_of_le X3.out.2.2 H4.out.2.2.1⟩
  have HS : (fun W' : World => CellsK W' g (nearK 4) ∧ CellsK W' (g + 1) (nearK 8)) w4 := ⟨cells_of_key X4.out.1, cells_of_key X4.out.2.1⟩
  refine hK _ _ (.inr HS) ?_
  clear hK K
  have B4 := cover (B3.out.trans H4.out.2.1)
  have s1 := putS_has H4.out.1 (k := nearK 4) (nearK_ok k64) ⟨#[55]⟩
  rw [show (if fullT 1 [(nearK 4, (⟨#[53]⟩ : ByteArray))] (nearK 4) = true then (6 : Int) else 0) = 0 from by decide, show putT ltE 1 [(nearK 4, (⟨#[53]⟩ : ByteArray))] (nearK 4) ⟨#[55]⟩ = [(nearK 4, ⟨#[55]⟩)] from rfl] at s1
  clear H3 X3 B3
  refine hold_one 8 (by kernel_rfl) rfl (by rfl) fun K hK => ?_
  go_simp
  refine ⟨trivial, rfl, (callsIn_wide.2 s1).mono ?_⟩
  rintro e w5 ⟨rfl, H5⟩
  clear HS s1
  have X5 : Hid (w5.heap[g]? = some (.cells #[.int .u8 0, .int .u8 0, .int .u8 0, .int .u8 0, .int .u8 0, .int .u8 0, .int .i64 4, .int .i64 0] 28 (0, 0)) ∧ w5.heap[g + 1]? = some (.cells #[.int .u8 0, .int .u8 0, .int .u8 0, .int .u8 0, .int .u8 0, .int .u8 0, .int .i64 8, .int .i64 0] 28 (0, 0)) ∧ g + 1 < w5.heap.size) := cover ⟨(H5.out.2.2.2 g (by have := X4.out.2.2; omega) HGT.out.1 HGT.out.2.1).trans X4.out.1, (H5.out.2.2.2 (g + 1) X4.out.2.2 HGT.out.2.2.1 HGT.out.2.2.2).trans X4.out.2.1, Nat.lt_of_lt_of_le X4.out.2.2 H5.out.2.2.1⟩
  have HS : (fun W' : World => CellsK W' g (nearK 4) ∧ CellsK W' (g + 1) (nearK 8)) w5 := ⟨cells_of_key X5.out.1, cells_of_key X5.out.2.1⟩
  refine hK _ _ (.inr HS) ?_
  clear hK K
  have B5 := cover (B4.out.trans H5.out.2.1)
  clear H4 X4 B4
  refine hold_take 9 _ rfl (by kernel_rfl) (by kernel_rfl) (by kernel_rfl) (by kernel_rfl) (by kernel_rfl) (fun _ _ _ h => h) (by rfl) (fun _ => rfl) HS (fun w' hS => by go_simp; try rfl) ?_
  simp only [Act.put, List.setIfInBounds_toArray, List.set_cons_zero, List.set_cons_succ]
  refine hold_take 10 _ rfl (by kernel_rfl) (by kernel_rfl) (by kernel_rfl) (by kernel_rfl) (by kernel_rfl) (fun _ _ _ h => h) (by rfl) (fun _ => rfl) HS (fun w' hS => by go_simp; try rfl) ?_
  simp only [Act.put, List.setIfInBounds_toArray, List.set_cons_zero, List.set_cons_succ]
  refine hold_take 11 _ rfl (by kernel_rfl) (by kernel_rfl) (by kernel_rfl) (by kernel_rfl) (by kernel_rfl) (fun _ _ _ h => h) (by rfl) (fun _ => rfl) HS (fun w' hS => by go_simp; try rfl) ?_
  simp only [Act.put, List.setIfInBounds_toArray, List.set_cons_zero, List.set_cons_succ]
  refine held_done (by kernel_rfl) ?_ _
  clear HS
  have s1 := getS_has H5.out.1 (k := nearK 4) (nearK_ok k64)
  rw [show (getT [(nearK 4, (⟨#[55]⟩ : ByteArray))] (nearK 4)).getD ByteArray.empty = ⟨#[55]⟩ from rfl, show hasT [(nearK 4, (⟨#[55]⟩ : ByteArray))] (nearK 4) = true from rfl] at s1
  obtain ⟨k0, k1, k2, k3, k4, k5, k6, k7⟩ : CellsK w5 g (nearK 4) := cells_of_key X5.out.1
  go_wp2_with fail
  refine s1.mono ?_
  rintro e w6 ⟨rfl, hb6⟩
  have H6 := cover (H5.out.1.below hb6)
  have B6 := cover (B5.out.trans (hb6.mono H5.out.1.size))
  have L6 : TLies t b w5 w6 := TLies.below hb6
  have X6 : Hid (w6.heap[g]? = some (.cells #[.int .u8 0, .int .u8 0, .int .u8 0, .int .u8 0, .int .u8 0, .int .u8 0, .int .i64 4, .int .i64 0] 28 (0, 0)) ∧ w6.heap[g + 1]? = some (.cells #[.int .u8 0, .int .u8 0, .int .u8 0, .int .u8 0, .int .u8 0, .int .u8 0, .int .i64 8, .int .i64 0] 28 (0, 0)) ∧ g + 1 < w6.heap.size) := cover ⟨(L6.2 g (by have := X5.out.2.2; omega) HGT.out.1 HGT.out.2.1).trans X5.out.1, (L6.2 (g + 1) X5.out.2.2 HGT.out.2.2.1 HGT.out.2.2.2).trans X5.out.2.1, Nat.lt_of_lt_of_le X5.out.2.2 L6.1⟩
  clear s1 k0 k1 k2 k3 k4 k5 k6 k7 L6 hb6 H5 B5 X5
  have s1 := delS_has H6.out (k := nearK 8) (nearK_ok k64)
  rw [show hasT [(nearK 4, (⟨#[55]⟩ : ByteArray))] (nearK 8) = false from rfl, show delT [(nearK 4, (⟨#[55]⟩ : ByteArray))] (nearK 8) = [(nearK 4, ⟨#[55]⟩)] from rfl] at s1
  obtain ⟨k0, k1, k2, k3, k4, k5, k6, k7⟩ : CellsK w6 (g + 1) (nearK 8) := cells_of_key X6.out.2.1
  go_wp2_with fail
  refine s1.mono ?_
  rintro e w7 ⟨rfl, H7⟩
  have B7 := cover (B6.out.trans H7.out.2.1)
  have X7 : Hid (w7.heap[g]? = some (.cells #[.int .u8 0, .int .u8 0, .int .u8 0, .int .u8 0, .int .u8 0, .int .u8 0, .int .i64 4, .int .i64 0] 28 (0, 0)) ∧ w7.heap[g + 1]? = some (.cells #[.int .u8 0, .int .u8 0, .int .u8 0, .int .u8 0, .int .u8 0, .int .u8 0, .int .i64 8, .int .i64 0] 28 (0, 0)) ∧ g + 1 < w7.heap.size) := cover ⟨(H7.out.2.2.2 g (by have := X6.out.2.2; omega) HGT.out.1 HGT.out.2.1).trans X6.out.1, (H7.out.2.2.2 (g + 1) X6.out.2.2 HGT.out.2.2.1 HGT.out.2.2.2).trans X6.out.2.1, Nat.lt_of_lt_of_le X6.out.2.2 H7.out.2.2.1⟩
  clear s1 k0 k1 k2 k3 k4 k5 k6 k7 H6 B6 X6
  have s1 := delS_has H7.out.1 (k := nearK 4) (nearK_ok k64)
  rw [show hasT [(nearK 4, (⟨#[55]⟩ : ByteArray))] (nearK 4) = true from rfl, show delT [(nearK 4, (⟨#[55]⟩ : ByteArray))] (nearK 4) = [] from rfl] at s1
  obtain ⟨k0, k1, k2, k3, k4, k5, k6, k7⟩ : CellsK w7 g (nearK 4) := cells_of_key X7.out.1
  go_wp2_with fail
  refine s1.mono ?_
  rintro e w8 ⟨rfl, H8⟩
  have B8 := cover (B7.out.trans H8.out.2.1)
  have X8 : Hid (w8.heap[g]? = some (.cells #[.int .u8 0, .int .u8 0, .int .u8 0, .int .u8 0, .int .u8 0, .int .u8 0, .int .i64 4, .int .i64 0] 28 (0, 0)) ∧ w8.heap[g + 1]? = some (.cells #[.int .u8 0, .int .u8 0, .int .u8 0, .int .u8 0, .int .u8 0, .int .u8 0, .int .i64 8, .int .i64 0] 28 (0, 0)) ∧ g + 1 < w8.heap.size) := cover ⟨(H8.out.2.2.2 g (by have := X7.out.2.2; omega) HGT.out.1 HGT.out.2.1).trans X7.out.1, (H8.out.2.2.2 (g + 1) X7.out.2.2 HGT.out.2.2.1 HGT.out.2.2.2).trans X7.out.2.1, Nat.lt_of_lt_of_le X7.out.2.2 H8.out.2.2.1⟩
  clear s1 k0 k1 k2 k3 k4 k5 k6 k7 H7 B7 X7
  have s1 := lenS_has H8.out.1
  obtain ⟨k0, k1, k2, k3, k4, k5, k6, k7⟩ : CellsK w8 g (nearK 4) := cells_of_key X8.out.1
  obtain ⟨j0, j1, j2, j3, j4, j5, j6, j7⟩ : CellsK w8 (g + 1) (nearK 8) := cells_of_key X8.out.2.1
  have s2 := less_any (nearK_ok (n := 4) k64) (nearK_ok (n := 8) k64) w8
  rw [show ltE (nearK 4) (nearK 8) = true from by decide] at s2
  go_wp2_with fail
  refine s1.mono ?_
  rintro e w9 ⟨rfl, rfl⟩
  clear s1
  go_wp2_with fail
  refine s2.mono ?_
  rintro e w9 ⟨rfl, hb9⟩
  have hsz9 := H8.out.1.size
  have B9 := cover (B8.out.trans (hb9.mono hsz9))
  have L9 : TLies t b w8 w9 := TLies.below hb9
  have X9 : Hid (w9.heap[g]? = some (.cells #[.int .u8 0, .int .u8 0, .int .u8 0, .int .u8 0, .int .u8 0, .int .u8 0, .int .i64 4, .int .i64 0] 28 (0, 0)) ∧ w9.heap[g + 1]? = some (.cells #[.int .u8 0, .int .u8 0, .int .u8 0, .int .u8 0, .int .u8 0, .int .u8 0, .int .i64 8, .int .i64 0] 28 (0, 0)) ∧ g + 1 < w9.heap.size) := cover ⟨(L9.2 g (by have := X8.out.2.2; omega) HGT.out.1 HGT.out.2.1).trans X8.out.1, (L9.2 (g + 1) X8.out.2.2 HGT.out.2.2.1 HGT.out.2.2.2).trans X8.out.2.1, Nat.lt_of_lt_of_le X8.out.2.2 L9.1⟩
  have hs9 := Nat.le_trans hsz9 hb9.size
  clear s2 k0 k1 k2 k3 k4 k5 k6 k7 j0 j1 j2 j3 j4 j5 j6 j7 L9 hb9 H8 B8 X8
  have s2 := less_any (nearK_ok (n := 8) k64) (nearK_ok (n := 4) k64) w9
  rw [show ltE (nearK 8) (nearK 4) = false from by decide] at s2
  obtain ⟨k0, k1, k2, k3, k4, k5, k6, k7⟩ : CellsK w9 g (nearK 4) := cells_of_key X9.out.1
  obtain ⟨j0, j1, j2, j3, j4, j5, j6, j7⟩ : CellsK w9 (g + 1) (nearK 8) := cells_of_key X9.out.2.1
  go_wp2_with fail
  refine s2.mono ?_
  rintro e w10 ⟨rfl, hb10⟩
  have B10 := cover (B9.out.trans (hb10.mono hs9))
  clear s2 hb10 B9 X9
  go_wp2
  go_ret
  exact ⟨rfl, B10.out⟩
end Go.Proofs.Ytjkgiepfglimcaa
