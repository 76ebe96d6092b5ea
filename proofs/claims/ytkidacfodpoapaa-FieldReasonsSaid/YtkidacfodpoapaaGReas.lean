/- What GetReason hands back, and the laws' own reason and why. -/
import Derived.Test.YtkidacfodpoapaaGPReas
namespace Go.Proofs.Ytkidacfodpoapaa
open Go.RowKit
set_option linter.unusedVariables false
set_option linter.unusedSimpArgs false

/-- a reason of noughts -/
abbrev zrs : Array Value := #[.int .i64 0, .int .i64 0, .int .i64 0, .bool false, .bool false, .bool false, .bool false, .bool false, .bool false]
theorem reason_one (a b c : Int) (d e f g h i : Bool) : ((#[.int .i64 a, .int .i64 b, .int .i64 c, .bool d, .bool e, .bool f, .bool g, .bool h, .bool i] : Array Value).all fun x => x.oneCell') = true := by simp [Value.oneCell']
theorem reason_size : (Try.prog.info? 30).map (fun x => x.size) = some 9 := by kernel_rfl
theorem ref_reason_size : (Try.prog.info? 39).map (fun x => x.size) = some 9 := by kernel_rfl
/-- a reason and what was wrong -/
def ReaE (d : RsV × Int) (w : World) (e : Ending) (w' : World) : Prop :=
  e = .returned (.tuple #[.agg #[.int .i64 d.1.ctl, .int .i64 d.1.vs, .int .i64 d.1.vr, .bool d.1.rsp, .bool d.1.w, .bool d.1.x, .bool d.1.y, .bool d.1.z, .bool d.1.v], .int .i64 d.2]) ∧ Below w.heap.size w w'
/-- a reason handed back -/
def ReaO (r : RsV) (w : World) (e : Ending) (w' : World) : Prop := e = .returned (.agg #[.int .i64 r.ctl, .int .i64 r.vs, .int .i64 r.vr, .bool r.rsp, .bool r.w, .bool r.x, .bool r.y, .bool r.z, .bool r.v]) ∧ Below w.heap.size w w'

set_option maxHeartbeats 800000 in
theorem law_reason_any (r : RsV) (w : World) : Calls Try.prog 15 #[.agg #[.int .i64 r.ctl, .int .i64 r.vs, .int .i64 r.vr, .bool r.rsp, .bool r.w, .bool r.x, .bool r.y, .bool r.z, .bool r.v]] w (ReaO r w) := by
  obtain ⟨w1, hw1⟩ : ∃ w1, Hid (w1 = (w.alloc (.cells #[.int .i64 r.ctl, .int .i64 r.vs, .int .i64 r.vr, .bool r.rsp, .bool r.w, .bool r.x, .bool r.y, .bool r.z, .bool r.v] 39)).alloc (.cells zrs 30)) := ⟨_, cover rfl⟩
  have H1 : Hid (Below w.heap.size w w1) := cover (by rw [hw1.out]; exact ((Below.refl _ _).alloc (Nat.le_refl _) _).alloc (by simp) _)
  have hgp : w1.heap[w.heap.size]? = some (.cells #[.int .i64 r.ctl, .int .i64 r.vs, .int .i64 r.vr, .bool r.rsp, .bool r.w, .bool r.x, .bool r.y, .bool r.z, .bool r.v] 39 (0, 0)) := by rw [hw1.out, heap_alloc2_old]
  have G1 : Hid (w1.heap[w.heap.size + 1]? = some (.cells zrs 30 (0, 0))) := cover (by rw [hw1.out]; exact heap_alloc2_new _ _ _)
  obtain ⟨c0, c1, c2, c3, c4, c5, c6, c7, c8⟩ := reason_cells hgp
  clear hgp
  go_enter Try.func15, Try.ntmps15
  go_upto_region 1 with fail
  rw [← hw1.out]
  go_wp2_with (refine wpList_store_row rfl _ _ _ rfl (w.heap.size + 1) #[.int .i64 r.ctl, .int .i64 r.vs, .int .i64 r.vr, .bool r.rsp, .bool r.w, .bool r.x, .bool r.y, .bool r.z, .bool r.v] rfl rfl 30 zrs G1.out reason_size rfl (reason_one _ _ _ _ _ _ _ _ _) ?_)
  exact bodyPost_ret (v := .agg #[.int .i64 r.ctl, .int .i64 r.vs, .int .i64 r.vr, .bool r.rsp, .bool r.w, .bool r.x, .bool r.y, .bool r.z, .bool r.v]) (results_cell_row (by rfl) _ _ (w.heap.size + 1) _ #[.int .i64 r.ctl, .int .i64 r.vs, .int .i64 r.vr, .bool r.rsp, .bool r.w, .bool r.x, .bool r.y, .bool r.z, .bool r.v] (0, 0) _ rfl (setRow_heap _ _ _ _ _ _ G1.out) Try.underlying30 rfl reason_size) rfl ⟨rfl, Go.below_setRow H1.out (Nat.le_succ _) _⟩

set_option maxHeartbeats 800000 in
theorem law_why_any (r : RsV) (w : World) : Calls Try.prog 18 #[.agg #[.int .i64 r.ctl, .int .i64 r.vs, .int .i64 r.vr, .bool r.rsp, .bool r.w, .bool r.x, .bool r.y, .bool r.z, .bool r.v]] w (ReaO r w) := by
  obtain ⟨w1, hw1⟩ : ∃ w1, Hid (w1 = (w.alloc (.cells #[.int .i64 r.ctl, .int .i64 r.vs, .int .i64 r.vr, .bool r.rsp, .bool r.w, .bool r.x, .bool r.y, .bool r.z, .bool r.v] 30)).alloc (.cells zrs 39)) := ⟨_, cover rfl⟩
  have H1 : Hid (Below w.heap.size w w1) := cover (by rw [hw1.out]; exact ((Below.refl _ _).alloc (Nat.le_refl _) _).alloc (by simp) _)
  have hgp : w1.heap[w.heap.size]? = some (.cells #[.int .i64 r.ctl, .int .i64 r.vs, .int .i64 r.vr, .bool r.rsp, .bool r.w, .bool r.x, .bool r.y, .bool r.z, .bool r.v] 30 (0, 0)) := by rw [hw1.out, heap_alloc2_old]
  have G1 : Hid (w1.heap[w.heap.size + 1]? = some (.cells zrs 39 (0, 0))) := cover (by rw [hw1.out]; exact heap_alloc2_new _ _ _)
  obtain ⟨c0, c1, c2, c3, c4, c5, c6, c7, c8⟩ := reason_cells hgp
  clear hgp
  go_enter Try.func18, Try.ntmps18
  go_upto_region 1 with fail
  rw [← hw1.out]
  go_wp2_with (refine wpList_store_row rfl _ _ _ rfl (w.heap.size + 1) #[.int .i64 r.ctl, .int .i64 r.vs, .int .i64 r.vr, .bool r.rsp, .bool r.w, .bool r.x, .bool r.y, .bool r.z, .bool r.v] rfl rfl 39 zrs G1.out ref_reason_size rfl (reason_one _ _ _ _ _ _ _ _ _) ?_)
  exact bodyPost_ret (v := .agg #[.int .i64 r.ctl, .int .i64 r.vs, .int .i64 r.vr, .bool r.rsp, .bool r.w, .bool r.x, .bool r.y, .bool r.z, .bool r.v]) (results_cell_row (by rfl) _ _ (w.heap.size + 1) _ #[.int .i64 r.ctl, .int .i64 r.vs, .int .i64 r.vr, .bool r.rsp, .bool r.w, .bool r.x, .bool r.y, .bool r.z, .bool r.v] (0, 0) _ rfl (setRow_heap _ _ _ _ _ _ G1.out) Try.underlying39 rfl ref_reason_size) rfl ⟨rfl, Go.below_setRow H1.out (Nat.le_succ _) _⟩

/-- unfold, with five flags -/
theorem unfold_five (x : Int) (b : Nat) (t : TypeId) (w : World) (hx : 0 ≤ x ∧ x ≤ 255) (hp : ∀ k, k < 5 → w.frozen? ⟨b, 4 + k, none⟩ = false ∧ (w.cell? ⟨b, 4 + k, none⟩).isSome = true) (hlt : b < w.heap.size) :
    Calls Try.prog 33 #[.int .i64 x, .slice (some ⟨w.heap.size, 0, none⟩) 5 5] (w.alloc (.cells #[.pointer (some ⟨b, 4, none⟩), .pointer (some ⟨b, 5, none⟩), .pointer (some ⟨b, 6, none⟩), .pointer (some ⟨b, 7, none⟩), .pointer (some ⟨b, 8, none⟩)] t)) fun e w' => e = .returned (.int .i64 (x / 32)) ∧
      w' = ((((((w.alloc (.cells #[.pointer (some ⟨b, 4, none⟩), .pointer (some ⟨b, 5, none⟩), .pointer (some ⟨b, 6, none⟩), .pointer (some ⟨b, 7, none⟩), .pointer (some ⟨b, 8, none⟩)] t)).setCell ⟨b, 4, none⟩ (.bool (bitAt x 1))).setCell ⟨b, 5, none⟩ (.bool (bitAt x 2))).setCell ⟨b, 6, none⟩ (.bool (bitAt x 4))).setCell ⟨b, 7, none⟩ (.bool (bitAt x 8))).setCell ⟨b, 8, none⟩ (.bool (bitAt x 16))) := by
  have h := unfold_any x ⟨w.heap.size, 0, none⟩ (fun k => ⟨b, 4 + k, none⟩) 5 (w.alloc (.cells #[.pointer (some ⟨b, 4, none⟩), .pointer (some ⟨b, 5, none⟩), .pointer (some ⟨b, 6, none⟩), .pointer (some ⟨b, 7, none⟩), .pointer (some ⟨b, 8, none⟩)] t)) hx (by decide) (fun k hk => by
    refine ⟨?_, fun e => ?_, ?_, ?_⟩
    · have ha : (⟨w.heap.size, 0, none⟩ : Addr).add k = ⟨w.heap.size, k, none⟩ := by
        unfold Addr.add; split <;> simp_all
      rw [ha, cell_of_row _ _ k _ _ (0, 0) (heap_alloc_new w _)]
      rcases (show k = 0 ∨ k = 1 ∨ k = 2 ∨ k = 3 ∨ k = 4 by omega) with rfl | rfl | rfl | rfl | rfl <;> rfl
    · have : b = w.heap.size := e
      omega
    · exact (World.frozen?_alloc_old _ _ _ (by show b ≠ _; omega)).trans (hp k hk).1
    · rw [World.cell?_alloc_lt w _ _ hlt]; exact (hp k hk).2)
  refine h.mono ?_
  rintro e w' ⟨rfl, rfl⟩
  obtain ⟨_, b0, b1, b2, b3, b4⟩ := bit_k hx.1 hx.2
  refine ⟨by simp, ?_⟩
  simp only [setBits, b0, b1, b2, b3, b4]

set_option maxHeartbeats 3200000 in
theorem getReason_any (A : Option Addr) (n c B : Nat) (l : List Int) (w : World) (hr : Row w B A n l) (hB : B ≤ w.heap.size) (hb : Bts l) (hmax : n ≤ 100000) :
    Calls Try.prog 9 #[.slice A n c] w (ReaE (getRs l) w) := by
  obtain ⟨w1, hw1⟩ : ∃ w1, Hid (w1 = w.alloc (.cells zrs 30)) := ⟨_, cover rfl⟩
  have hs1 : w1.heap.size = w.heap.size + 1 := by rw [hw1.out]; simp
  have H1 : Hid (Below w.heap.size w w1) := cover (by rw [hw1.out]; exact (Below.refl _ _).alloc (Nat.le_refl _) _)
  have G1 : Hid (w1.heap[w.heap.size]? = some (.cells zrs 30 (0, 0))) := cover (by rw [hw1.out]; exact heap_alloc_new _ _)
  have R1 := cover (hr.below (H1.out.mono hB))
  have hl := hr.len
  have HB := cover hb
  clear hr hb
  by_cases h3 : n = 5
  case neg =>
    obtain ⟨k, hk⟩ : ∃ k, Hid (lenE n 5 = k) := ⟨_, cover rfl⟩
    have hk0 : (k != 0) = true := by rw [← hk.out, bne_iff_ne]; unfold lenE; split; decide; rw [if_pos (by omega)]; decide
    have HE : Hid (getRs l = (zRs, k)) := cover (by
      rw [getRs_no (by omega), ← hk.out, hl]; unfold lenE
      by_cases h : n < 5
      · rw [if_pos h, if_pos h]
      · rw [if_neg h, if_neg h, if_pos (by omega)])
    clear hl
    go_enter Try.func9, Try.ntmps9
    go_wp2_with fail
    rw [← hw1.out]
    refine (lengthError_any A n c 5 w1).mono ?_
    rw [hk.out]
    rintro e w' ⟨rfl, rfl⟩
    go_wp2_with (refine wpList_store_row rfl _ _ _ rfl w.heap.size zrs rfl rfl 30 zrs G1.out reason_size rfl (reason_one _ _ _ _ _ _ _ _ _) ?_)
    exact bodyPost_ret (v := .tuple #[.agg zrs, .int .i64 k]) (results_cell_and (by rfl) _ _ w.heap.size _ zrs (0, 0) _ (.int .i64 k) rfl (setRow_heap _ _ _ _ _ _ G1.out) rfl Try.underlying30 rfl reason_size) rfl ⟨by rw [HE.out]; rfl, Go.below_setRow H1.out (Nat.le_refl _) _⟩
  case pos =>
    subst h3
    obtain ⟨x0, x1, x2, x3, x4, rfl⟩ : ∃ x0 x1 x2 x3 x4, l = [x0, x1, x2, x3, x4] := by
      match l, hl with
      | [x0, x1, x2, x3, x4], _ => exact ⟨x0, x1, x2, x3, x4, rfl⟩
    have h0 := HB.out x0 (by simp)
    have h1 := HB.out x1 (by simp)
    have h2 := HB.out x2 (by simp)
    have h3 := HB.out x3 (by simp)
    have h4 := HB.out x4 (by simp)
    have hE : lenE 5 5 = 0 := by decide
    clear hl
    go_enter Try.func9, Try.ntmps9
    go_wp2_with fail
    rw [← hw1.out]
    refine (lengthError_any A 5 c 5 w1).mono ?_
    rw [hE]
    rintro e w' ⟨rfl, rfl⟩
    go_wp2_with fail
    refine (new_any A 5 c B [x0, x1, x2, x3, x4] w' R1.out (by omega) (by omega)).mono ?_
    rintro e w2 ⟨g, rfl, hrd, hg, hb2⟩
    have hs2 := hb2.size
    have S3 := GS.start (cs := zrs) hrd (H1.out.trans (hb2.mono (by omega))) ((hb2.block w.heap.size (by omega)).trans G1.out) (show w.heap.size < g by omega)
    clear hrd hb2
    go_wp2_with fail
    generalize hw3 : (w2.alloc (.cells #[.int .i64 0, .int .i64 0, .int .i64 0, .bool false, .bool false, .bool false, .bool false, .bool false, .bool false] 30)).alloc (.cells #[.bool false] 4) = w3 at S3 ⊢
    generalize hbb : w2.heap.size = b at S3 ⊢
    generalize hss : b + 1 = s at S3 ⊢
    clear hw3 hbb hss
    have HS3 := cover S3
    clear S3
    refine (num_yes g g 2 [x0, x1, x2, x3, x4] w3 HS3.out.rd HB.out (by simp) (by decide) (by decide) (by simp)).mono ?_
    rintro e w4 ⟨rfl, r4, o4⟩
    have e4 : getv (List.take 2 [x0, x1, x2, x3, x4]) = x0 * 256 + x1 := getv_two x0 x1
    rw [e4]
    have S4 := HS3.out.num (l' := [x2, x3, x4]) r4 o4
    obtain ⟨c4, z4⟩ := S4.at_ 0
    simp only [List.getElem?_toArray, List.getElem?_cons_zero, List.getElem?_cons_succ] at c4
    have HS5 := cover (S4.setU (cs' := #[.int .i64 (x0 * 256 + x1), .int .i64 0, .int .i64 0, .bool false, .bool false, .bool false, .bool false, .bool false, .bool false]) 0 (.int .i64 (x0 * 256 + x1)) rfl)
    clear r4 o4 S4 e4
    go_wp2_with fail
    generalize hw5 : w4.setCell ⟨b, 0, none⟩ (.int .i64 (x0 * 256 + x1)) = w5 at HS5 ⊢
    clear hw5 c4 z4
    refine (num_head g x2 [x3, x4] w5 HS5.out.rd HB.out.tail.tail (by simp)).mono ?_
    rintro e w6 ⟨rfl, r6, o6⟩
    have S6 := HS5.out.num r6 o6
    obtain ⟨c6, z6⟩ := S6.flag
    have l6 := S6.lt4
    have U6 := cover (unfold_one x2 g b 0 ⟨s, 0, none⟩ 70 w6 h2 ⟨z6, by rw [c6]; rfl⟩ l6)
    have S7 := S6.below ((Below.refl _ _).alloc (Nat.le_refl _) (.cells #[.pointer (some ⟨s, 0, none⟩)] 70))
    have S8 := S7.setS (decide (x2 % 2 = 1))
    clear r6 o6 S6 S7 c6 z6
    go_wp2_with fail
    refine U6.out.mono ?_
    rintro e w8 ⟨rfl, hw8⟩
    rw [← hw8] at S8
    clear hw8
    obtain ⟨c8, z8⟩ := S8.at_ 1
    simp only [List.setIfInBounds_toArray, List.set_cons_zero, List.set_cons_succ, List.getElem?_toArray, List.getElem?_cons_zero, List.getElem?_cons_succ] at c8
    have HS9 := cover (S8.setU (cs' := #[.int .i64 (x0 * 256 + x1), .int .i64 (x2 / 2), .int .i64 0, .bool false, .bool false, .bool false, .bool false, .bool false, .bool false]) 1 (.int .i64 (x2 / 2)) rfl)
    clear S8 U6
    go_wp2_with fail
    generalize hw9 : w8.setCell ⟨b, 1, none⟩ (.int .i64 (x2 / 2)) = w9 at HS9 ⊢
    clear hw9 c8 z8
    refine (num_head g x3 [x4] w9 HS9.out.rd HB.out.tail.tail.tail (by simp)).mono ?_
    rintro e w10 ⟨rfl, r10, o10⟩
    have S10 := HS9.out.num r10 o10
    obtain ⟨c10, z10⟩ := S10.at_ 3
    simp only [List.setIfInBounds_toArray, List.set_cons_zero, List.set_cons_succ, List.getElem?_toArray, List.getElem?_cons_zero, List.getElem?_cons_succ] at c10
    have l10 : b < w10.heap.size := Nat.lt_trans S10.lt3 S10.lt4
    have U10 := cover (unfold_one x3 g b 0 ⟨b, 3, none⟩ 70 w10 h3 ⟨z10, by rw [c10]; rfl⟩ l10)
    have S11 := S10.below ((Below.refl _ _).alloc (Nat.le_refl _) (.cells #[.pointer (some ⟨b, 3, none⟩)] 70))
    have S12 := S11.setU (cs' := #[.int .i64 (x0 * 256 + x1), .int .i64 (x2 / 2), .int .i64 0, .bool (decide (x3 % 2 = 1)), .bool false, .bool false, .bool false, .bool false, .bool false]) 3 (.bool (decide (x3 % 2 = 1))) rfl
    clear r10 o10 S10 S11 c10 z10
    go_wp2_with fail
    refine U10.out.mono ?_
    rintro e w12 ⟨rfl, hw12⟩
    rw [← hw12] at S12
    clear hw12
    obtain ⟨c12, z12⟩ := S12.at_ 2
    simp only [List.setIfInBounds_toArray, List.set_cons_zero, List.set_cons_succ, List.getElem?_toArray, List.getElem?_cons_zero, List.getElem?_cons_succ] at c12
    have HS13 := cover (S12.setU (cs' := #[.int .i64 (x0 * 256 + x1), .int .i64 (x2 / 2), .int .i64 (x3 / 2), .bool (decide (x3 % 2 = 1)), .bool false, .bool false, .bool false, .bool false, .bool false]) 2 (.int .i64 (x3 / 2)) rfl)
    clear S12 U10
    go_wp2_with fail
    generalize hw13 : w12.setCell ⟨b, 2, none⟩ (.int .i64 (x3 / 2)) = w13 at HS13 ⊢
    clear hw13 c12 z12
    refine (num_head g x4 [] w13 HS13.out.rd HB.out.tail.tail.tail.tail (by simp)).mono ?_
    rintro e w14 ⟨rfl, r14, o14⟩
    have S14 := HS13.out.num r14 o14
    have l14 : b < w14.heap.size := Nat.lt_trans S14.lt3 S14.lt4
    have U14 := cover (unfold_five x4 b 70 w14 h4 (fun k hk => ⟨(S14.at_ (4 + k)).2, by rw [(S14.at_ (4 + k)).1]; rcases (show k = 0 ∨ k = 1 ∨ k = 2 ∨ k = 3 ∨ k = 4 by omega) with rfl | rfl | rfl | rfl | rfl <;> rfl⟩) l14)
    have S15 := S14.below ((Below.refl _ _).alloc (Nat.le_refl _) (.cells #[.pointer (some ⟨b, 4, none⟩), .pointer (some ⟨b, 5, none⟩), .pointer (some ⟨b, 6, none⟩), .pointer (some ⟨b, 7, none⟩), .pointer (some ⟨b, 8, none⟩)] 70))
    have S16 := (((((S15.setU (cs' := #[.int .i64 (x0 * 256 + x1), .int .i64 (x2 / 2), .int .i64 (x3 / 2), .bool (decide (x3 % 2 = 1)), .bool (bitAt x4 1), .bool false, .bool false, .bool false, .bool false]) 4 (.bool (bitAt x4 1)) rfl).setU (cs' := #[.int .i64 (x0 * 256 + x1), .int .i64 (x2 / 2), .int .i64 (x3 / 2), .bool (decide (x3 % 2 = 1)), .bool (bitAt x4 1), .bool (bitAt x4 2), .bool false, .bool false, .bool false]) 5 (.bool (bitAt x4 2)) rfl).setU (cs' := #[.int .i64 (x0 * 256 + x1), .int .i64 (x2 / 2), .int .i64 (x3 / 2), .bool (decide (x3 % 2 = 1)), .bool (bitAt x4 1), .bool (bitAt x4 2), .bool (bitAt x4 4), .bool false, .bool false]) 6 (.bool (bitAt x4 4)) rfl).setU (cs' := #[.int .i64 (x0 * 256 + x1), .int .i64 (x2 / 2), .int .i64 (x3 / 2), .bool (decide (x3 % 2 = 1)), .bool (bitAt x4 1), .bool (bitAt x4 2), .bool (bitAt x4 4), .bool (bitAt x4 8), .bool false]) 7 (.bool (bitAt x4 8)) rfl).setU (cs' := #[.int .i64 (x0 * 256 + x1), .int .i64 (x2 / 2), .int .i64 (x3 / 2), .bool (decide (x3 % 2 = 1)), .bool (bitAt x4 1), .bool (bitAt x4 2), .bool (bitAt x4 4), .bool (bitAt x4 8), .bool (bitAt x4 16)]) 8 (.bool (bitAt x4 16)) rfl)
    clear r14 o14 S14 S15
    go_wp2_with fail
    refine U14.out.mono ?_
    rintro e w16 ⟨rfl, hw16⟩
    rw [← hw16] at S16
    clear hw16 U14
    have HS16 := cover S16
    clear S16
    go_upto_region 11 with fail
    obtain ⟨c16, z16⟩ := HS16.out.flag
    have HR := cover HS16.out.res
    have HBL := cover HS16.out.bel
    have HU : Hid (w16.heap[b]? = some (.cells #[.int .i64 (x0 * 256 + x1), .int .i64 (x2 / 2), .int .i64 (x3 / 2), .bool (decide (x3 % 2 = 1)), .bool (bitAt x4 1), .bool (bitAt x4 2), .bool (bitAt x4 4), .bool (bitAt x4 8), .bool (bitAt x4 16)] 30 (0, 0))) := cover HS16.out.unit
    have hp : w.heap.size ≠ b := by have := HS16.out.lt1; have := HS16.out.lt2; omega
    by_cases a2 : x2 % 2 = 1
    · rw [decide_eq_true a2] at c16
      have HE : Hid (getRs [x0, x1, x2, x3, x4] = (zRs, 4)) := cover (by rw [getRs_5, if_pos (.inl a2)])
      clear a2
      go_wp2_with (refine wpList_store_row rfl _ _ _ rfl w.heap.size zrs rfl rfl 30 zrs HR.out reason_size rfl (reason_one _ _ _ _ _ _ _ _ _) ?_)
      exact bodyPost_ret (v := .tuple #[.agg zrs, .int .i64 4]) (results_cell_and (by rfl) _ _ w.heap.size _ zrs (0, 0) _ (.int .i64 4) rfl (setRow_heap _ _ _ _ _ _ HR.out) rfl Try.underlying30 rfl reason_size) rfl ⟨by rw [HE.out]; rfl, Go.below_setRow HBL.out (Nat.le_refl _) _⟩
    · rw [decide_eq_false a2] at c16
      by_cases a1 : 31 < x4
      · have HE : Hid (getRs [x0, x1, x2, x3, x4] = (zRs, 4)) := cover (by rw [getRs_5, if_pos (.inr a1)])
        have hne : (x4 / 32 != 0) = true := by rw [bne_iff_ne]; omega
        clear a2
        go_wp2_with (refine wpList_store_row rfl _ _ _ rfl w.heap.size zrs rfl rfl 30 zrs HR.out reason_size rfl (reason_one _ _ _ _ _ _ _ _ _) ?_)
        exact bodyPost_ret (v := .tuple #[.agg zrs, .int .i64 4]) (results_cell_and (by rfl) _ _ w.heap.size _ zrs (0, 0) _ (.int .i64 4) rfl (setRow_heap _ _ _ _ _ _ HR.out) rfl Try.underlying30 rfl reason_size) rfl ⟨by rw [HE.out]; rfl, Go.below_setRow HBL.out (Nat.le_refl _) _⟩
      · have HE : Hid (getRs [x0, x1, x2, x3, x4] = (⟨x0 * 256 + x1, x2 / 2, x3 / 2, decide (x3 % 2 = 1), bitAt x4 1, bitAt x4 2, bitAt x4 4, bitAt x4 8, bitAt x4 16⟩, 0)) := cover (by rw [getRs_5, if_neg (fun h => h.elim a2 a1)])
        have hz : x4 / 32 = 0 := by omega
        rw [hz]
        clear a2 hz
        go_wp2_with (first
          | (refine wpList_load_row rfl _ _ rfl b rfl 30 #[.int .i64 (x0 * 256 + x1), .int .i64 (x2 / 2), .int .i64 (x3 / 2), .bool (decide (x3 % 2 = 1)), .bool (bitAt x4 1), .bool (bitAt x4 2), .bool (bitAt x4 4), .bool (bitAt x4 8), .bool (bitAt x4 16)] (0, 0) _ HU.out Try.underlying30 rfl reason_size ?_)
          | (refine wpList_store_row rfl _ _ _ rfl w.heap.size #[.int .i64 (x0 * 256 + x1), .int .i64 (x2 / 2), .int .i64 (x3 / 2), .bool (decide (x3 % 2 = 1)), .bool (bitAt x4 1), .bool (bitAt x4 2), .bool (bitAt x4 4), .bool (bitAt x4 8), .bool (bitAt x4 16)] rfl rfl 30 zrs HR.out reason_size rfl (reason_one _ _ _ _ _ _ _ _ _) ?_))
        exact bodyPost_ret (v := .tuple #[.agg #[.int .i64 (x0 * 256 + x1), .int .i64 (x2 / 2), .int .i64 (x3 / 2), .bool (decide (x3 % 2 = 1)), .bool (bitAt x4 1), .bool (bitAt x4 2), .bool (bitAt x4 4), .bool (bitAt x4 8), .bool (bitAt x4 16)], .int .i64 0]) (results_cell_and (by rfl) _ _ w.heap.size _ #[.int .i64 (x0 * 256 + x1), .int .i64 (x2 / 2), .int .i64 (x3 / 2), .bool (decide (x3 % 2 = 1)), .bool (bitAt x4 1), .bool (bitAt x4 2), .bool (bitAt x4 4), .bool (bitAt x4 8), .bool (bitAt x4 16)] (0, 0) _ (.int .i64 0) rfl (setRow_heap _ _ _ _ _ _ HR.out) rfl Try.underlying30 rfl reason_size) rfl ⟨by rw [HE.out], Go.below_setRow HBL.out (Nat.le_refl _) _⟩
end Go.Proofs.Ytkidacfodpoapaa
