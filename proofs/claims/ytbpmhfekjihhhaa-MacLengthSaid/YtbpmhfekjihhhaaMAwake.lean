/- The law's own first question: the program is awake. -/
import Derived.Deep.CutRange
import Derived.Test.YtbpmhfekjihhhaaMUse
import Derived.Test.YtbpmhfekjihhhaaMRDec
namespace Go.Proofs.Ytbpmhfekjihhhaa
open Go.RowKit
set_option linter.unusedVariables false

set_option maxRecDepth 100000 in
set_option maxHeartbeats 1600000 in
theorem awake_any (w : World) : Calls Try.prog 12 #[] w fun e w' => e = .returned (.bool true) ∧ Below w.heap.size w w' := by
  go_enter Try.func12, Try.ntmps12
  go_wp2_with fail
  refine (make_any _).mono ?_
  rintro e w1 ⟨T, rfl, hT, hb1⟩
  have hs1 := hb1.size
  go_wp2_with (first
    | (refine new_var rfl _ rfl _ _ (alloc_tab _) ?_)
    | (refine store_tab (w0 := w) rfl _ _ rfl w1.heap.size w.heap.size T tabRow rfl rfl hT (heap_alloc_new _ _) (hb1.alloc hs1 _) hs1 ?_; intro w2 ht2 hb2; clear hb1))
  obtain ⟨g, hg⟩ : ∃ g, g = w1.heap.size := ⟨_, rfl⟩
  rw [← hg] at ht2 hs1 ⊢
  clear hg
  refine (station_in 1 (by decide) (by decide) w2).mono ?_
  rintro e w3 ⟨rfl, hb3⟩
  have hs2 := hb2.size
  have H3 := cover (hb2.trans (hb3.mono hs2))
  have T3 := cover (ht2.below hb3 ht2.lt)
  clear hb2 hb3 ht2
  go_wp2_with fail
  refine (station_in 2 (by decide) (by decide) w3).mono ?_
  rintro e w4 ⟨rfl, hb4⟩
  have hs3 := H3.out.size
  have hs4 := hb4.size
  have H4 := cover (H3.out.trans (hb4.mono hs3))
  have T4 := cover (T3.out.below hb4 T3.out.lt)
  clear hb4
  obtain ⟨w5, hw5⟩ : ∃ w5, Hid (w5 = (w4.alloc (.cells #[.int .u8 7] 5)).alloc (.cells #[.int .u8 2, .int .u8 0, .int .u8 0, .int .u8 0, .int .u8 0, .int .u8 1, .int .u8 2, .int .u8 0, .int .u8 0, .int .u8 0, .int .u8 0, .int .u8 2, .slice (some ⟨w4.heap.size, 0, none⟩) 1 1] 36)) := ⟨_, cover rfl⟩
  have hs5 : w5.heap.size = w4.heap.size + 2 := by rw [hw5.out]; simp
  have hb45 : Below w4.heap.size w4 w5 := by rw [hw5.out]; exact ((Below.refl _ _).alloc (Nat.le_refl _) _).alloc (by simp) _
  have N5 : Hid (w5.heap[w4.heap.size + 1]? = some (.cells #[.int .u8 2, .int .u8 0, .int .u8 0, .int .u8 0, .int .u8 0, .int .u8 1, .int .u8 2, .int .u8 0, .int .u8 0, .int .u8 0, .int .u8 0, .int .u8 2, .slice (some ⟨w4.heap.size, 0, none⟩) 1 1] 36 (0, 0))) := cover (by
    have h := heap_alloc_new (w4.alloc (.cells #[.int .u8 7] 5)) (.cells #[.int .u8 2, .int .u8 0, .int .u8 0, .int .u8 0, .int .u8 0, .int .u8 1, .int .u8 2, .int .u8 0, .int .u8 0, .int .u8 0, .int .u8 0, .int .u8 2, .slice (some ⟨w4.heap.size, 0, none⟩) 1 1] 36)
    rw [hw5.out]
    simpa using h)
  have R5 : Hid (Row w5 (w4.heap.size + 1) (some ⟨w4.heap.size, 0, none⟩) 1 [7]) := cover (by
    rw [hw5.out]; exact (RowK.made w4 [7] #[.int .u8 7] 5 rfl).alloc (by simp) _)
  have T5 := cover (T4.out.below hb45 T4.out.lt)
  have H5 := cover (H4.out.trans (hb45.mono (by omega)))
  obtain ⟨s, hs⟩ : ∃ s, Hid (SealOf [2, 0, 0, 0, 0, 1] [2, 0, 0, 0, 0, 2] [7] s) := ⟨_, cover (sealOf (by unfold Bts; decide) (by unfold Bts; decide) (by unfold Bts; decide))⟩
  have hsl := hs.out.len
  rw [show 18 + max [(7 : Int)].length 46 = 64 from rfl] at hsl
  have HSL := cover hsl
  clear hb45 hsl
  go_wp2_with (first
    | (rw [← hw5.out]; refine load_tab rfl _ rfl _ _ _ T5.out rfl ?_)
    | (refine wpList_load_row rfl _ _ rfl (w4.heap.size + 1) rfl 36 #[.int .u8 2, .int .u8 0, .int .u8 0, .int .u8 0, .int .u8 0, .int .u8 1, .int .u8 2, .int .u8 0, .int .u8 0, .int .u8 0, .int .u8 0, .int .u8 2, .slice (some ⟨w4.heap.size, 0, none⟩) 1 1] (0, 0) _ N5.out Try.underlying36 rfl frm_size ?_))
  refine (enc_ok T 2 0 0 0 0 1 2 0 0 0 0 2 _ 1 1 (w4.heap.size + 1) [7] s w5 hT R5.out (by omega) (by decide) (fun h => by cases h) (by unfold Bts; decide) (by unfold Bts; decide) (by unfold Bts; decide) grp_two (by decide) hs.out).mono ?_
  rintro e w6 ⟨A6, c6, rfl, ho6, hb6⟩
  have hs6 := hb6.size
  have H6 := cover (H5.out.trans (hb6.mono (by omega)))
  have T6 := cover (T5.out.below hb6 T5.out.lt)
  have N6 := cover ((hb6.block (w4.heap.size + 1) (by omega)).trans N5.out)
  have R6 := cover (R5.out.below (hb6.mono (by omega)))
  have HO6 := cover ho6
  clear hb6 ho6
  go_wp2_with (refine load_tab rfl _ rfl _ _ _ T6.out rfl ?_)
  refine (dec_ok T 2 0 0 0 0 1 2 0 0 0 0 2 A6 c6 w6.heap.size [7] s w6 hT HO6.out.row (Nat.le_refl _) (own_cap HO6.out) (own_max HO6.out) grp_two (by decide) hs.out).mono ?_
  rintro e w7 ⟨A7, c7, rfl, ho7, hb7⟩
  rw [HSL.out]
  have hs7 := hb7.size
  have H7 := cover (H6.out.trans (hb7.mono (by omega)))
  have N7 := cover ((hb7.block (w4.heap.size + 1) (by omega)).trans N6.out)
  have R7 := cover (R6.out.below (hb7.mono (by omega)))
  have HO7 := cover ho7
  obtain ⟨w8, hw8⟩ : ∃ w8, Hid (w8 = w7.alloc (.cells #[.int .u8 2, .int .u8 0, .int .u8 0, .int .u8 0, .int .u8 0, .int .u8 1, .int .u8 2, .int .u8 0, .int .u8 0, .int .u8 0, .int .u8 0, .int .u8 2, .slice A7 1 c7] 36)) := ⟨_, cover rfl⟩
  have hb78 : Below w7.heap.size w7 w8 := by rw [hw8.out]; exact (Below.refl _ _).alloc (Nat.le_refl _) _
  have hs78 := hb78.size
  have H8 := cover (H7.out.trans (hb78.mono (by omega)))
  have N8 := cover ((hb78.block (w4.heap.size + 1) (by omega)).trans N7.out)
  have M8 : Hid (w8.heap[w7.heap.size]? = some (.cells #[.int .u8 2, .int .u8 0, .int .u8 0, .int .u8 0, .int .u8 0, .int .u8 1, .int .u8 2, .int .u8 0, .int .u8 0, .int .u8 0, .int .u8 0, .int .u8 2, .slice A7 1 c7] 36 (0, 0))) := cover (by rw [hw8.out]; exact heap_alloc_new _ _)
  have R8 := cover (R7.out.below (hb78.mono (by omega)))
  have D8 : Hid (Row w8 w7.heap.size A7 1 [7]) := cover ((show Row w7 w7.heap.size A7 1 [7] from HO7.out.row).below hb78)
  clear hb7 ho7 hb78
  go_upto_region 5 with fail
  rw [← hw8.out]
  have hn8 := FrmIn.ofHeap N8.out
  have hm8 := FrmIn.ofHeap M8.out
  have c1 := hn8.to.all
  have c2 := hn8.fr.all6
  have c3 := hn8.dat
  have c4 := hm8.to.all
  have c5 := hm8.fr.all6
  have c6' := hm8.dat
  clear hn8 hm8
  go_wp2_with fail
  refine (sameF_any 2 0 0 0 0 1 2 0 0 0 0 2 (some ⟨w4.heap.size, 0, none⟩) A7 1 1 c7 _ _ [7] w8 R8.out D8.out (by omega) (by omega) (by decide)).mono ?_
  rintro e w9 ⟨rfl, hb9⟩
  go_wp2
  go_ret
  exact ⟨rfl, H8.out.trans (hb9.mono H8.out.size)⟩
end Go.Proofs.Ytbpmhfekjihhhaa
