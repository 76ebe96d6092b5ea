/- The law's own Key, and the document's own Less. -/
import Derived.BigQuiet
import Derived.Deep.QuietTactic
import Derived.Laws.Rows
import Derived.Test.YtjkgiepfglimcaaECmp
import Derived.Test.YtjkgiepfglimcaaEEq
namespace Go.Proofs.Ytjkgiepfglimcaa
open Go.RowKit Go.Sort
set_option linter.unusedVariables false

theorem key_size : (Try.prog.info? 28).map (fun x => x.size) = some 8 := by kernel_rfl
set_option maxRecDepth 100000 in
set_option maxHeartbeats 1600000 in
theorem key_any (k : EK) (w : World) : Calls Try.prog 18 #[keyV k] w fun e w' => e = .returned (keyV k) ∧ Below w.heap.size w w' := by
  obtain ⟨w2, hw2⟩ : ∃ w2, w2 = (w.alloc (.cells #[.int .u8 k.a0, .int .u8 k.a1, .int .u8 k.a2, .int .u8 k.a3, .int .u8 k.a4, .int .u8 k.a5, .int .i64 k.near, .int .i64 k.there_] 40)).alloc (.cells #[.int .u8 k.a0, .int .u8 k.a1, .int .u8 k.a2, .int .u8 k.a3, .int .u8 k.a4, .int .u8 k.a5, .int .i64 k.near, .int .i64 k.there_] 28) := ⟨_, rfl⟩
  have hg2 : Hid (GrowN w w2) := cover (by rw [hw2]; exact ((GrowN.refl w).alloc _).alloc _)
  have hn2 : Hid (w2.heap[w.heap.size + 1]? = some (.cells #[.int .u8 k.a0, .int .u8 k.a1, .int .u8 k.a2, .int .u8 k.a3, .int .u8 k.a4, .int .u8 k.a5, .int .i64 k.near, .int .i64 k.there_] 28 (0, 0))) := cover (by
    have := heap_alloc_new (w.alloc (.cells #[.int .u8 k.a0, .int .u8 k.a1, .int .u8 k.a2, .int .u8 k.a3, .int .u8 k.a4, .int .u8 k.a5, .int .i64 k.near, .int .i64 k.there_] 40)) (.cells #[.int .u8 k.a0, .int .u8 k.a1, .int .u8 k.a2, .int .u8 k.a3, .int .u8 k.a4, .int .u8 k.a5, .int .i64 k.near, .int .i64 k.there_] 28)
    rw [World.size_alloc] at this
    rw [hw2]; exact this)
  go_enter Try.func18, Try.ntmps18
  go_wp2
  rw [← hw2]
  exact bodyPost_ret (v := keyV k) (results_cell_row (by rfl) _ _ (w.heap.size + 1) _ #[.int .u8 k.a0, .int .u8 k.a1, .int .u8 k.a2, .int .u8 k.a3, .int .u8 k.a4, .int .u8 k.a5, .int .i64 k.near, .int .i64 k.there_] (0, 0) _ rfl hn2.out Try.underlying28 rfl key_size) rfl ⟨rfl, hg2.out.below⟩
theorem ltW_at : ∀ (a b : List Int) (j : Nat) (x y : Int), a.take j = b.take j → a[j]? = some x → b[j]? = some y → x ≠ y → ltW a b = decide (x < y)
  | p :: a, q :: b, 0, x, y, _, h1, h2, h3 => by
    simp at h1 h2
    subst h1; subst h2
    rw [ltW, if_neg h3]
  | p :: a, q :: b, j + 1, x, y, h, h1, h2, h3 => by
    simp only [List.take_succ_cons, List.cons.injEq] at h
    rw [ltW, if_pos h.1]
    exact ltW_at a b j x y h.2 (by simpa using h1) (by simpa using h2) h3
  | [], _, _, _, _, _, h1, _, _ => by simp at h1
  | _ :: _, [], _, _, _, _, _, h2, _ => by simp at h2
theorem CellsK.far_at {w : World} {g : Nat} {k : EK} (h : CellsK w g k) {j : Nat} (hj : j < 6) : ∃ x, k.word[j]? = some x ∧ w.cell? ⟨g, j, none⟩ = some (.int .u8 x) := by
  obtain ⟨x, hx⟩ : ∃ x, (farE k)[j]? = some x := ⟨_, List.getElem?_eq_getElem (by simpa using hj)⟩
  have h1 := h.far j x hx
  rw [add_off, Nat.zero_add] at h1
  refine ⟨x, ?_, h1⟩
  rw [show k.word = farE k ++ [k.near, k.there_] from rfl, List.getElem?_append_left (by simpa using hj)]
  exact hx
set_option maxRecDepth 100000 in
set_option maxHeartbeats 1600000 in
theorem rless_any (a b : EK) (w : World) : Calls Try.prog 16 #[keyV a, keyV b] w fun e w' => e = .returned (.bool (ltE a b)) ∧ Below w.heap.size w w' := by
  obtain ⟨R, hR⟩ : ∃ R, R = ltE a b := ⟨_, rfl⟩
  rw [← hR]
  have HR := cover hR
  clear hR
  obtain ⟨w2, hw2⟩ : ∃ w2, w2 = (w.alloc (.cells #[.int .u8 a.a0, .int .u8 a.a1, .int .u8 a.a2, .int .u8 a.a3, .int .u8 a.a4, .int .u8 a.a5, .int .i64 a.near, .int .i64 a.there_] 40)).alloc (.cells #[.int .u8 b.a0, .int .u8 b.a1, .int .u8 b.a2, .int .u8 b.a3, .int .u8 b.a4, .int .u8 b.a5, .int .i64 b.near, .int .i64 b.there_] 40) := ⟨_, rfl⟩
  have HG : Hid (GrowN w w2) := cover (by rw [hw2]; exact ((GrowN.refl w).alloc _).alloc _)
  have k1 : CellsK w2 w.heap.size a := cells_of_key (t := 40) (fr := (0, 0)) (by
    rw [hw2, Below.heap_alloc _ _ _ (by simp)]; exact heap_alloc_new _ _)
  have k2 : CellsK w2 (w.heap.size + 1) b := cells_of_key (t := 40) (fr := (0, 0)) (by
    have := heap_alloc_new (w.alloc (.cells #[.int .u8 a.a0, .int .u8 a.a1, .int .u8 a.a2, .int .u8 a.a3, .int .u8 a.a4, .int .u8 a.a5, .int .i64 a.near, .int .i64 a.there_] 40)) (.cells #[.int .u8 b.a0, .int .u8 b.a1, .int .u8 b.a2, .int .u8 b.a3, .int .u8 b.a4, .int .u8 b.a5, .int .i64 b.near, .int .i64 b.there_] 40)
    rw [World.size_alloc] at this
    rw [hw2]; exact this)
  have K1 := cover k1
  have K2 := cover k2
  clear k1 k2
  go_enter Try.func16, Try.ntmps16
  go_upto_region 2 with fail
  rw [← hw2]
  clear hw2
  go_wp2_with fail
  go_loopw [5] (fun i wr => ∃ j : Nat, j ≤ 6 ∧ i = .int .i64 j ∧ Hid (∃ d, wr = w2.drewN d) ∧ Hid (a.word.take j = b.word.take j)) (fun i _ => 6 - (intOf i).toNat)
  case atStart => exact ⟨0, by omega, rfl, cover ⟨0, rfl⟩, cover rfl⟩
  case round =>
    obtain ⟨j, hj, rfl, hrel, htk⟩ := hrel
    obtain ⟨d, rfl⟩ := hrel.out
    by_cases hlt : j < 6
    · obtain ⟨x, hx, hcx⟩ := K1.out.far_at hlt
      obtain ⟨y, hy, hcy⟩ := K2.out.far_at hlt
      clear hrel
      by_cases hxy : x = y
      · have HT : Hid (a.word.take (j + 1) = b.word.take (j + 1)) := cover (by rw [List.take_add_one, List.take_add_one, htk.out, hx, hy, hxy])
        subst hxy
        clear hx hy htk
        go_wp2_with fail
        go_quiet (fail)
        all_goals (go_wp2)
        all_goals (try go_roundw)
        all_goals try (case rel => exact ⟨j + 1, by omega, by go_num, cover ⟨_, rfl⟩, HT⟩)
        all_goals try (case measure => simp [intOf]; omega)
      · have HT : Hid (R = decide (x < y)) := cover (by rw [HR.out]; exact ltW_at _ _ j x y htk.out hx hy hxy)
        have hne : (x != y) = true := by simpa using hxy
        clear hx hy htk hxy
        go_wp2_with fail
        go_quiet (fail)
        all_goals (go_wp2_with fail)
        all_goals (go_quiet (fail))
        all_goals (go_wp2)
        all_goals (go_ret)
        all_goals exact ⟨by rw [HT.out]; rfl, below_drewN (below_drewN (below_drewN HG.out.below _) _) _⟩
    · obtain rfl : j = 6 := by omega
      have hfar : farE a = farE b := htk.out
      clear hrel htk
      obtain ⟨-, -, -, -, -, -, c6, c7⟩ := K1.out
      obtain ⟨-, -, -, -, -, -, d6, d7⟩ := K2.out
      have HB := cover HG.out.below
      have HL : Hid (R = if a.near = b.near then decide (a.there_ < b.there_) else decide (a.near < b.near)) := cover (by
        rw [HR.out]
        injection hfar with e0 e; injection e with e1 e; injection e with e2 e; injection e with e3 e; injection e with e4 e; injection e with e5 e
        unfold ltE EK.word
        rw [ltW, if_pos e0, ltW, if_pos e1, ltW, if_pos e2, ltW, if_pos e3, ltW, if_pos e4, ltW, if_pos e5, ltW]
        split
        · rw [ltW]
          split
          · rw [decide_eq_false (by omega)]; rfl
          · rfl
        · rfl)
      clear hfar
      obtain ⟨an, han⟩ : ∃ an, an = a.near := ⟨_, rfl⟩
      obtain ⟨bn, hbn⟩ : ∃ bn, bn = b.near := ⟨_, rfl⟩
      rw [← han, ← hbn] at HL
      rw [← han] at c6
      rw [← hbn] at d6
      clear han hbn
      by_cases hn : an = bn
      · have HL2 : Hid (R = decide (a.there_ < b.there_)) := cover (by rw [HL.out, if_pos hn])
        subst hn
        clear HL
        go_wp2
        go_ret
        exact ⟨by rw [HL2.out]; rfl, below_drewN HB.out _⟩
      · have HL2 : Hid (R = decide (an < bn)) := cover (by rw [HL.out, if_neg hn])
        have hne : (an != bn) = true := by simpa using hn
        clear HL hn
        go_wp2
        go_ret
        exact ⟨by rw [HL2.out]; rfl, below_drewN HB.out _⟩
end Go.Proofs.Ytjkgiepfglimcaa
