/- The walk of TiesRoom. -/
import Derived.Test.YtjkgiepfglimcaaESHas
import Derived.Test.YtjkgiepfglimcaaEAwake
namespace Go.Proofs.Ytjkgiepfglimcaa
open Go.RowKit
set_option linter.unusedVariables false

/-- so many keys, each two farther -/
def rowK (x : ByteArray) (j : Nat) : List (EK × ByteArray) := (List.range j).map fun (i : Nat) => (nearK (2 * (i : Int)), x)
theorem nearK_lt (a b : Int) : ltE (nearK a) (nearK b) = decide (a < b) := by
  unfold ltE EK.word
  rw [ltW, if_pos rfl, ltW, if_pos rfl, ltW, if_pos rfl, ltW, if_pos rfl, ltW, if_pos rfl, ltW, if_pos rfl, ltW]
  split
  · rename_i h
    have h : a = b := h
    subst h
    rw [ltW, if_pos rfl, decide_eq_false (by omega)]
    rfl
  · rfl
theorem nearK_inj {a b : Int} (h : nearK a = nearK b) : a = b := by simpa [nearK] using h
theorem rowK_len (x : ByteArray) (j : Nat) : (rowK x j).length = j := by simp [rowK]
theorem rowK_mem {x : ByteArray} {j : Nat} {z : EK × ByteArray} (h : z ∈ rowK x j) : ∃ i : Nat, i < j ∧ z = (nearK (2 * (i : Int)), x) := by
  obtain ⟨i, hi, rfl⟩ := List.mem_map.1 h
  exact ⟨i, List.mem_range.1 hi, rfl⟩
theorem rowK_has (x : ByteArray) (j : Nat) (a : Int) : hasT (rowK x j) (nearK a) = true ↔ ∃ i : Nat, i < j ∧ a = 2 * (i : Int) := by
  rw [hasT_iff, List.mem_map]
  constructor
  · rintro ⟨z, hz, e⟩
    obtain ⟨i, hi, rfl⟩ := rowK_mem hz
    exact ⟨i, hi, (nearK_inj e).symm⟩
  · rintro ⟨i, hi, rfl⟩
    exact ⟨(nearK (2 * (i : Int)), x), List.mem_map.2 ⟨i, List.mem_range.2 hi, rfl⟩, rfl⟩
theorem rowK_hasnt (x : ByteArray) (j : Nat) : hasT (rowK x j) (nearK (2 * (j : Int))) = false := by
  cases hh : hasT (rowK x j) (nearK (2 * (j : Int)))
  · rfl
  · obtain ⟨i, hi, e⟩ := (rowK_has x j _).1 hh; omega
theorem takeWhile_all {α : Type} {p : α → Bool} : ∀ {l : List α}, (∀ z ∈ l, p z = true) → l.takeWhile p = l
  | [], _ => rfl
  | z :: l, h => by rw [List.takeWhile_cons, h z (by simp), if_pos rfl, takeWhile_all (fun y hy => h y (by simp [hy]))]
theorem rowK_place (x : ByteArray) (j : Nat) : placeT ltE (rowK x j) (nearK (2 * (j : Int))) = j := by
  unfold placeT
  have h : (rowK x j).takeWhile (fun z => ltE z.1 (nearK (2 * (j : Int)))) = rowK x j := by
    rw [takeWhile_all]
    intro z hz
    obtain ⟨i, hi, rfl⟩ := rowK_mem hz
    show ltE (nearK (2 * (i : Int))) (nearK (2 * (j : Int))) = true
    rw [nearK_lt]
    exact decide_eq_true (by omega)
  rw [h, rowK_len]
theorem rowK_put {x : ByteArray} {j n : Nat} (h : j < n) : fullT n (rowK x j) (nearK (2 * (j : Int))) = false ∧ putT ltE n (rowK x j) (nearK (2 * (j : Int))) x = rowK x (j + 1) := by
  have h1 := rowK_hasnt x j
  constructor
  · unfold fullT
    rw [h1, rowK_len, decide_eq_false (by omega)]; rfl
  · unfold putT
    rw [h1, if_neg (by decide), rowK_len, if_pos h]
    unfold insT
    rw [rowK_place, List.take_of_length_le (by rw [rowK_len]; exact Nat.le_refl _), List.drop_of_length_le (by rw [rowK_len]; exact Nat.le_refl _), List.append_nil]
    unfold rowK
    rw [List.range_succ, List.map_append]; rfl
/-- all that the law asks of a full table -/
theorem room_facts {n i : Nat} (hi : i < n) {l : List (EK × ByteArray)} (hl : l = rowK ⟨#[97]⟩ n) (hr : Rise ltE l) {k q : Int} (ek : k = 2 * (i : Int)) (eq : q = 2 * (n : Int)) :
    let l2 := putT ltE n l (nearK k) ⟨#[99]⟩
    let l3 := delT l2 (nearK k)
    let l4 := putT ltE n l3 (nearK q) ⟨#[100]⟩
    ((if fullT n l (nearK q) = true then (6 : Int) else 0) = 6) ∧ fullT n l (nearK q) = true ∧ ((if fullT n l (nearK k) = true then (6 : Int) else 0) = 0) ∧ (getT l2 (nearK k)).getD ByteArray.empty = ⟨#[99]⟩ ∧ hasT l2 (nearK k) = true ∧
    ((if fullT n l3 (nearK q) = true then (6 : Int) else 0) = 0) ∧ hasT l4 (nearK k) = false ∧ (getT l4 (nearK q)).getD ByteArray.empty = ⟨#[100]⟩ ∧ hasT l4 (nearK q) = true ∧ l4.length = n := by
  intro l2 l3 l4
  have hlen : l.length = n := by rw [hl, rowK_len]
  have hq : hasT l (nearK q) = false := by rw [hl, eq]; exact rowK_hasnt _ n
  have hk : hasT l (nearK k) = true := by rw [hl, ek]; exact (rowK_has _ n _).2 ⟨i, hi, rfl⟩
  have hne : nearK q ≠ nearK k := fun e => by have := nearK_inj e; omega
  have f1 : fullT n l (nearK q) = true := by unfold fullT; rw [hq, hlen, decide_eq_true (Nat.le_refl _)]; rfl
  have f2 : fullT n l (nearK k) = false := by unfold fullT; rw [hk]; rfl
  have r2 : Rise ltE l2 := hr.put ltE_ord n
  have g2 : ∀ k', getT l2 k' = if k' = nearK k then some ⟨#[99]⟩ else getT l k' := fun k' => getT_put ltE_ord hr f2 k'
  have h2 : hasT l2 (nearK k) = true := by rw [hasT_get, g2, if_pos rfl]; rfl
  have n2 : l2.length = n := by show (putT ltE n l (nearK k) ⟨#[99]⟩).length = n; unfold putT; rw [hk, if_pos rfl, setT_len, hlen]
  have r3 : Rise ltE l3 := r2.del
  obtain ⟨y, hy⟩ := (hasT_at ltE_ord r2).1 h2
  have hp := (List.getElem?_eq_some_iff.1 hy).1
  have n3 : l3.length + 1 = n := by
    show (delT l2 (nearK k)).length + 1 = n
    rw [delT_at ltE_ord r2 hy, List.length_append, List.length_take, List.length_drop]; omega
  have f3 : fullT n l3 (nearK q) = false := by unfold fullT; rw [decide_eq_false (by omega), Bool.and_false]
  have g3 : ∀ k', getT l3 k' = if k' = nearK k then none else getT l2 k' := fun k' => getT_del k'
  have g4 : ∀ k', getT l4 k' = if k' = nearK q then some ⟨#[100]⟩ else getT l3 k' := fun k' => getT_put ltE_ord r3 f3 k'
  have h3 : hasT l3 (nearK q) = false := by rw [hasT_get, g3, if_neg hne, g2, if_neg hne, ← hasT_get]; exact hq
  refine ⟨by rw [f1]; rfl, f1, by rw [f2]; rfl, by rw [g2, if_pos rfl]; rfl, h2, by rw [f3]; rfl, ?_, by rw [g4, if_pos rfl]; rfl, by rw [hasT_get, g4, if_pos rfl]; rfl, ?_⟩
  · rw [hasT_get, g4, if_neg (fun e => hne e.symm), g3, if_pos rfl]; rfl
  · show (putT ltE n l3 (nearK q) ⟨#[100]⟩).length = n
    unfold putT
    rw [h3, if_neg (by decide), if_pos (by omega), insT_len]; omega
set_option maxRecDepth 100000 in
set_option maxHeartbeats 3200000 in
theorem walk_TiesRoom (a1 a2 : Int) (w : World) (h1' : (Lit.int .u8 a1).wf = true) (h2' : (Lit.int .u8 a2).wf = true) : Calls Try.prog 7 #[.int .u8 a1, .int .u8 a2] w fun e w' => e = .returned (.bool true) ∧ Below w.heap.size w w' := by
  have h1 := u8_wf h1'
  have h2 := u8_wf h2'
  obtain ⟨B, hB⟩ : ∃ B, B = w.heap.size := ⟨_, rfl⟩
  rw [← hB]
  have hBw : B ≤ w.heap.size := by omega
  clear hB h1' h2'
  obtain ⟨n, hn⟩ : ∃ n : Nat, (1 : Int) + a1 % 40 = n := ⟨(1 + a1 % 40).toNat, by omega⟩
  have hn1 : (1 : Int) ≤ (n : Int) ∧ (n : Int) ≤ 40 := by omega
  have hm0 : a1.tmod 40 = a1 % 40 := Int.tmod_eq_emod_of_nonneg (by omega)
  have hm1 : IntKind.i64.wrap (1 + a1 % 40) = (n : Int) := by rw [IntKind.wrap_i64]; omega
  go_enter Try.func7, Try.ntmps7
  go_wp2_with fail
  refine (awake_any w).mono ?_
  rintro e w0 ⟨rfl, hb0⟩
  have HB0 : Hid (Below B w w0) := cover (hb0.mono hBw)
  have hs0 : B ≤ w0.heap.size := Nat.le_trans hBw hb0.size
  clear hb0
  have HNE := cover hn
  clear hn
  go_wp2_with fail
  refine (newS_has (n : Int) (by omega) hs0).mono ?_
  rintro e w1 ⟨t, b, rfl, H1'⟩
  rw [show ((n : Int)).toNat = n from Int.toNat_natCast n] at H1'
  have H1 : Hid (THasS B w1 t b n (rowK ⟨#[97]⟩ 0) ∧ Below B w w1) := cover ⟨H1'.out.1, HB0.out.trans (H1'.out.2.1.mono hs0)⟩
  clear H1' HB0 hs0 hm0 hm1
  go_wp2_with fail
  go_loopw [7] (fun iv wr => ∃ j : Nat, j ≤ n ∧ iv = .int .i64 j ∧ Hid (THasS B wr t b n (rowK ⟨#[97]⟩ j) ∧ Below B w wr)) (fun i _ => n - (intOf i).toNat)
  case atStart => exact ⟨0, by omega, rfl, H1⟩
  case round =>
    obtain ⟨j, hj, rfl, hrel⟩ := hrel
    by_cases hlt : j < n
    · have hmj : IntKind.i64.wrap (2 * (j : Int)) = 2 * (j : Int) := by rw [IntKind.wrap_i64]; omega
      have s1 := putS_has hrel.out.1 (k := nearK (2 * (j : Int))) (nearK_ok (i64_of (by omega))) ⟨#[97]⟩
      rw [(rowK_put hlt).1, if_neg (by decide), (rowK_put hlt).2] at s1
      have HBR := cover hrel.out.2
      clear hrel H1
      go_wp2_with fail
      refine s1.mono ?_
      rintro e w3 ⟨rfl, H3⟩
      have HN : Hid (THasS B w3 t b n (rowK ⟨#[97]⟩ (j + 1)) ∧ Below B w w3) := cover ⟨H3.out.1, HBR.out.trans H3.out.2.1⟩
      clear s1 H3 HBR
      go_wp2
      go_roundw
      case rel => exact ⟨j + 1, by omega, by go_num, HN⟩
      case measure => simp [intOf]; omega
    · obtain rfl : j = n := by omega
      obtain ⟨i, hi⟩ : ∃ i : Nat, a2 % (j : Int) = i := ⟨(a2 % (j : Int)).toNat, by rw [Int.toNat_of_nonneg (Int.emod_nonneg _ (by omega))]⟩
      have hij : i < j := by have := Int.emod_lt_of_pos a2 (b := (j : Int)) (by omega); omega
      have hm2 : a2.tmod (j : Int) = (i : Int) := by rw [Int.tmod_eq_emod_of_nonneg (by omega), hi]
      have hz : ((j : Int) == 0) = false := by rw [beq_eq_false_iff_ne]; omega
      have hz2 : ¬ (j : Int) = 0 := by omega
      obtain ⟨k, hk⟩ : ∃ k : Int, 2 * (i : Int) = k := ⟨_, rfl⟩
      obtain ⟨q, hq⟩ : ∃ q : Int, 2 * (j : Int) = q := ⟨_, rfl⟩
      have hm3 : IntKind.i64.wrap (2 * (i : Int)) = k := by rw [IntKind.wrap_i64]; omega
      have hm4 : IntKind.i64.wrap (2 * (j : Int)) = q := by rw [IntKind.wrap_i64]; omega
      have hk6 : I64 k := i64_of (by omega)
      have hq6 : I64 q := i64_of (by omega)
      obtain ⟨l, hl⟩ : ∃ l, l = rowK ⟨#[97]⟩ j := ⟨_, rfl⟩
      rw [← hl] at hrel
      have EF := cover (room_facts hij hl hrel.out.1.rise hk.symm hq.symm)
      clear hi hk hq hl
      obtain ⟨g, hg⟩ : ∃ g, g = wr.heap.size := ⟨_, rfl⟩
      obtain ⟨w4, hw4⟩ : ∃ w4, w4 = (wr.alloc (.cells #[.int .u8 0, .int .u8 0, .int .u8 0, .int .u8 0, .int .u8 0, .int .u8 0, .int .i64 k, .int .i64 0] 28)).alloc (.cells #[.int .u8 0, .int .u8 0, .int .u8 0, .int .u8 0, .int .u8 0, .int .u8 0, .int .i64 q, .int .i64 0] 28) := ⟨_, rfl⟩
      have hb4 : Below wr.heap.size wr w4 := by rw [hw4]; exact ((Below.refl _ _).alloc (Nat.le_refl _) _).alloc (by simp) _
      have X4 : Hid (w4.heap[g]? = some (.cells #[.int .u8 0, .int .u8 0, .int .u8 0, .int .u8 0, .int .u8 0, .int .u8 0, .int .i64 k, .int .i64 0] 28 (0, 0)) ∧ w4.heap[g + 1]? = some (.cells #[.int .u8 0, .int .u8 0, .int .u8 0, .int .u8 0, .int .u8 0, .int .u8 0, .int .i64 q, .int .i64 0] 28 (0, 0)) ∧ g + 1 < w4.heap.size) := by
        have h8 := heap_alloc_new (wr.alloc (.cells #[.int .u8 0, .int .u8 0, .int .u8 0, .int .u8 0, .int .u8 0, .int .u8 0, .int .i64 k, .int .i64 0] 28)) (.cells #[.int .u8 0, .int .u8 0, .int .u8 0, .int .u8 0, .int .u8 0, .int .u8 0, .int .i64 q, .int .i64 0] 28)
        rw [World.size_alloc] at h8
        exact cover ⟨by rw [hg, hw4, Below.heap_alloc _ _ _ (by simp)]; exact heap_alloc_new _ _, by rw [hg, hw4]; exact h8, by rw [hg, hw4]; simp⟩
      have HGT : Hid (g ≠ t ∧ g ≠ b ∧ g + 1 ≠ t ∧ g + 1 ≠ b) := by
        have := hrel.out.1.lt
        exact cover ⟨by omega, by omega, by omega, by omega⟩
      have H4 : Hid (THasS B w4 t b j l) := cover (hrel.out.1.below hb4)
      have B4 : Hid (Below B w w4) := cover (hrel.out.2.trans (hb4.mono hrel.out.1.size))
      clear hb4 hrel H1
      go_upto_region 12 with fail
      rw [← hw4, ← hg]
      clear hw4 hg hm2 hm3 hm4
      have s1 := putS_has H4.out (k := nearK q) (nearK_ok hq6) ⟨#[98]⟩
      rw [EF.out.1, putT_full ltE _ EF.out.2.1] at s1
      obtain ⟨k0, k1, k2, k3, k4, k5, k6, k7⟩ : CellsK w4 (g + 1) (nearK q) := cells_of_key X4.out.2.1
      go_wp2_with fail
      refine s1.mono ?_
      rintro e w5 ⟨rfl, HH5⟩
      have H5 := cover HH5.out.1
      have B5 := cover (B4.out.trans HH5.out.2.1)
      have X5 : Hid (w5.heap[g]? = some (.cells #[.int .u8 0, .int .u8 0, .int .u8 0, .int .u8 0, .int .u8 0, .int .u8 0, .int .i64 k, .int .i64 0] 28 (0, 0)) ∧ w5.heap[g + 1]? = some (.cells #[.int .u8 0, .int .u8 0, .int .u8 0, .int .u8 0, .int .u8 0, .int .u8 0, .int .i64 q, .int .i64 0] 28 (0, 0)) ∧ g + 1 < w5.heap.size) := cover ⟨(HH5.out.2.2.2 g (by have := X4.out.2.2; omega) HGT.out.1 HGT.out.2.1).trans X4.out.1, (HH5.out.2.2.2 (g + 1) X4.out.2.2 HGT.out.2.2.1 HGT.out.2.2.2).trans X4.out.2.1, Nat.lt_of_lt_of_le X4.out.2.2 HH5.out.2.2.1⟩
      clear s1 HH5 H4 B4 X4 k0 k1 k2 k3 k4 k5 k6 k7
      have s1 := putS_has H5.out (k := nearK k) (nearK_ok hk6) ⟨#[99]⟩
      rw [EF.out.2.2.1] at s1
      obtain ⟨k0, k1, k2, k3, k4, k5, k6, k7⟩ : CellsK w5 g (nearK k) := cells_of_key X5.out.1
      go_wp2_with fail
      refine s1.mono ?_
      rintro e w6 ⟨rfl, HH6⟩
      have H6 := cover HH6.out.1
      have B6 := cover (B5.out.trans HH6.out.2.1)
      have X6 : Hid (w6.heap[g]? = some (.cells #[.int .u8 0, .int .u8 0, .int .u8 0, .int .u8 0, .int .u8 0, .int .u8 0, .int .i64 k, .int .i64 0] 28 (0, 0)) ∧ w6.heap[g + 1]? = some (.cells #[.int .u8 0, .int .u8 0, .int .u8 0, .int .u8 0, .int .u8 0, .int .u8 0, .int .i64 q, .int .i64 0] 28 (0, 0)) ∧ g + 1 < w6.heap.size) := cover ⟨(HH6.out.2.2.2 g (by have := X5.out.2.2; omega) HGT.out.1 HGT.out.2.1).trans X5.out.1, (HH6.out.2.2.2 (g + 1) X5.out.2.2 HGT.out.2.2.1 HGT.out.2.2.2).trans X5.out.2.1, Nat.lt_of_lt_of_le X5.out.2.2 HH6.out.2.2.1⟩
      clear s1 HH6 H5 B5 X5 k0 k1 k2 k3 k4 k5 k6 k7
      have s1 := getS_has H6.out (k := nearK k) (nearK_ok hk6)
      rw [EF.out.2.2.2.1, EF.out.2.2.2.2.1] at s1
      obtain ⟨k0, k1, k2, k3, k4, k5, k6, k7⟩ : CellsK w6 g (nearK k) := cells_of_key X6.out.1
      go_wp2_with fail
      refine s1.mono ?_
      rintro e w7 ⟨rfl, hb7⟩
      have H7 := cover (H6.out.below hb7)
      have B7 := cover (B6.out.trans (hb7.mono H6.out.size))
      have L7 : TLies t b w6 w7 := TLies.below hb7
      have X7 : Hid (w7.heap[g]? = some (.cells #[.int .u8 0, .int .u8 0, .int .u8 0, .int .u8 0, .int .u8 0, .int .u8 0, .int .i64 k, .int .i64 0] 28 (0, 0)) ∧ w7.heap[g + 1]? = some (.cells #[.int .u8 0, .int .u8 0, .int .u8 0, .int .u8 0, .int .u8 0, .int .u8 0, .int .i64 q, .int .i64 0] 28 (0, 0)) ∧ g + 1 < w7.heap.size) := cover ⟨(L7.2 g (by have := X6.out.2.2; omega) HGT.out.1 HGT.out.2.1).trans X6.out.1, (L7.2 (g + 1) X6.out.2.2 HGT.out.2.2.1 HGT.out.2.2.2).trans X6.out.2.1, Nat.lt_of_lt_of_le X6.out.2.2 L7.1⟩
      clear s1 hb7 L7 H6 B6 X6 k0 k1 k2 k3 k4 k5 k6 k7
      have s1 := delS_has H7.out (k := nearK k) (nearK_ok hk6)
      rw [EF.out.2.2.2.2.1] at s1
      obtain ⟨k0, k1, k2, k3, k4, k5, k6, k7⟩ : CellsK w7 g (nearK k) := cells_of_key X7.out.1
      go_wp2_with fail
      refine s1.mono ?_
      rintro e w8 ⟨rfl, HH8⟩
      have H8 := cover HH8.out.1
      have B8 := cover (B7.out.trans HH8.out.2.1)
      have X8 : Hid (w8.heap[g]? = some (.cells #[.int .u8 0, .int .u8 0, .int .u8 0, .int .u8 0, .int .u8 0, .int .u8 0, .int .i64 k, .int .i64 0] 28 (0, 0)) ∧ w8.heap[g + 1]? = some (.cells #[.int .u8 0, .int .u8 0, .int .u8 0, .int .u8 0, .int .u8 0, .int .u8 0, .int .i64 q, .int .i64 0] 28 (0, 0)) ∧ g + 1 < w8.heap.size) := cover ⟨(HH8.out.2.2.2 g (by have := X7.out.2.2; omega) HGT.out.1 HGT.out.2.1).trans X7.out.1, (HH8.out.2.2.2 (g + 1) X7.out.2.2 HGT.out.2.2.1 HGT.out.2.2.2).trans X7.out.2.1, Nat.lt_of_lt_of_le X7.out.2.2 HH8.out.2.2.1⟩
      clear s1 HH8 H7 B7 X7 k0 k1 k2 k3 k4 k5 k6 k7
      have s1 := putS_has H8.out (k := nearK q) (nearK_ok hq6) ⟨#[100]⟩
      rw [EF.out.2.2.2.2.2.1] at s1
      obtain ⟨k0, k1, k2, k3, k4, k5, k6, k7⟩ : CellsK w8 (g + 1) (nearK q) := cells_of_key X8.out.2.1
      go_wp2_with fail
      refine s1.mono ?_
      rintro e w9 ⟨rfl, HH9⟩
      have H9 := cover HH9.out.1
      have B9 := cover (B8.out.trans HH9.out.2.1)
      have X9 : Hid (w9.heap[g]? = some (.cells #[.int .u8 0, .int .u8 0, .int .u8 0, .int .u8 0, .int .u8 0, .int .u8 0, .int .i64 k, .int .i64 0] 28 (0, 0)) ∧ w9.heap[g + 1]? = some (.cells #[.int .u8 0, .int .u8 0, .int .u8 0, .int .u8 0, .int .u8 0, .int .u8 0, .int .i64 q, .int .i64 0] 28 (0, 0)) ∧ g + 1 < w9.heap.size) := cover ⟨(HH9.out.2.2.2 g (by have := X8.out.2.2; omega) HGT.out.1 HGT.out.2.1).trans X8.out.1, (HH9.out.2.2.2 (g + 1) X8.out.2.2 HGT.out.2.2.1 HGT.out.2.2.2).trans X8.out.2.1, Nat.lt_of_lt_of_le X8.out.2.2 HH9.out.2.2.1⟩
      clear s1 HH9 H8 B8 X8 k0 k1 k2 k3 k4 k5 k6 k7
      have s1 := getS_has H9.out (k := nearK k) (nearK_ok hk6)
      rw [EF.out.2.2.2.2.2.2.1] at s1
      obtain ⟨k0, k1, k2, k3, k4, k5, k6, k7⟩ : CellsK w9 g (nearK k) := cells_of_key X9.out.1
      go_wp2_with fail
      refine s1.mono ?_
      rintro e w10 ⟨rfl, hb10⟩
      have H10 := cover (H9.out.below hb10)
      have B10 := cover (B9.out.trans (hb10.mono H9.out.size))
      have L10 : TLies t b w9 w10 := TLies.below hb10
      have X10 : Hid (w10.heap[g]? = some (.cells #[.int .u8 0, .int .u8 0, .int .u8 0, .int .u8 0, .int .u8 0, .int .u8 0, .int .i64 k, .int .i64 0] 28 (0, 0)) ∧ w10.heap[g + 1]? = some (.cells #[.int .u8 0, .int .u8 0, .int .u8 0, .int .u8 0, .int .u8 0, .int .u8 0, .int .i64 q, .int .i64 0] 28 (0, 0)) ∧ g + 1 < w10.heap.size) := cover ⟨(L10.2 g (by have := X9.out.2.2; omega) HGT.out.1 HGT.out.2.1).trans X9.out.1, (L10.2 (g + 1) X9.out.2.2 HGT.out.2.2.1 HGT.out.2.2.2).trans X9.out.2.1, Nat.lt_of_lt_of_le X9.out.2.2 L10.1⟩
      clear s1 hb10 L10 H9 B9 X9 k0 k1 k2 k3 k4 k5 k6 k7
      have s1 := getS_has H10.out (k := nearK q) (nearK_ok hq6)
      rw [EF.out.2.2.2.2.2.2.2.1, EF.out.2.2.2.2.2.2.2.2.1] at s1
      obtain ⟨k0, k1, k2, k3, k4, k5, k6, k7⟩ : CellsK w10 (g + 1) (nearK q) := cells_of_key X10.out.2.1
      go_wp2_with fail
      refine s1.mono ?_
      rintro e w11 ⟨rfl, hb11⟩
      have H11 := cover (H10.out.below hb11)
      have B11 := cover (B10.out.trans (hb11.mono H10.out.size))
      have L11 : TLies t b w10 w11 := TLies.below hb11
      have X11 : Hid (w11.heap[g]? = some (.cells #[.int .u8 0, .int .u8 0, .int .u8 0, .int .u8 0, .int .u8 0, .int .u8 0, .int .i64 k, .int .i64 0] 28 (0, 0)) ∧ w11.heap[g + 1]? = some (.cells #[.int .u8 0, .int .u8 0, .int .u8 0, .int .u8 0, .int .u8 0, .int .u8 0, .int .i64 q, .int .i64 0] 28 (0, 0)) ∧ g + 1 < w11.heap.size) := cover ⟨(L11.2 g (by have := X10.out.2.2; omega) HGT.out.1 HGT.out.2.1).trans X10.out.1, (L11.2 (g + 1) X10.out.2.2 HGT.out.2.2.1 HGT.out.2.2.2).trans X10.out.2.1, Nat.lt_of_lt_of_le X10.out.2.2 L11.1⟩
      clear s1 hb11 L11 H10 B10 X10 k0 k1 k2 k3 k4 k5 k6 k7
      have s1 := lenS_has H11.out
      rw [EF.out.2.2.2.2.2.2.2.2.2] at s1
      clear H11 X11
      go_wp2_with (go_at_call 13; refine s1.mono ?_; rintro e w' ⟨rfl, rfl⟩)
      go_ret
      exact ⟨rfl, B11.out⟩
end Go.Proofs.Ytjkgiepfglimcaa
