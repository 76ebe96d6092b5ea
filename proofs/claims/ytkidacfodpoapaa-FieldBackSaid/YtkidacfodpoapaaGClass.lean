/- What PutClass and GetClass hand back, the program's and the document's. -/
import Derived.Deep.CutBlock
import Derived.Deep.DeepCutAuto
import Derived.Test.YtkidacfodpoapaaFHeld
import Derived.Test.YtkidacfodpoapaaGNum
namespace Go.Proofs.Ytkidacfodpoapaa
open Go.RowKit
set_option linter.unusedVariables false
set_option linter.unusedSimpArgs false

/-- while a row of bytes is read: the result's block, the reader at g, what is gathered at b, the flag at s -/
structure GS (T : TypeId) (rb : Array Value) (w0 w : World) (g : Nat) (l : List Int) (b : Nat) (cs : Array Value) (s : Nat) (sv : Bool) : Prop where
  rd : Rd 78 w g g l false
  bel : Below w0.heap.size w0 w
  res : w.heap[w0.heap.size]? = some (.cells rb T (0, 0))
  unit : w.heap[b]? = some (.cells cs T (0, 0))
  spare : w.heap[s]? = some (.cells #[.bool sv] 4 (0, 0))
  lt1 : w0.heap.size < g
  lt2 : g < b
  lt3 : b < s
section
variable {T : TypeId} {rb cs : Array Value} {w0 w w' : World} {g b s : Nat} {l l' : List Int} {sv : Bool}
theorem GS.lt4 (h : GS T rb w0 w g l b cs s sv) : s < w.heap.size := block_lt h.spare
theorem GS.num (h : GS T rb w0 w g l b cs s sv) (hr : Rd 78 w' g g l' false) (ho : OnlyB g w w') : GS T rb w0 w' g l' b cs s sv := by
  have a1 := h.lt1; have a2 := h.lt2; have a3 := h.lt3; have a4 := h.lt4
  exact ⟨hr, below_only h.bel ho (by omega) (by omega), only_keeps h.res ho (by omega), only_keeps h.unit ho (by omega), only_keeps h.spare ho (by omega), a1, a2, a3⟩
theorem GS.below (h : GS T rb w0 w g l b cs s sv) (hb : Below w.heap.size w w') : GS T rb w0 w' g l b cs s sv :=
  h.num (h.rd.below hb (by have := h.lt1; have := h.lt2; have := h.lt3; have := h.lt4; omega)) (OnlyB.of_below hb)
theorem GS.other (h : GS T rb w0 w g l b cs s sv) (p : Addr) (x : Value) (hp : p.block = b ∨ p.block = s) : Rd 78 (w.setCell p x) g g l false ∧ Below w0.heap.size w0 (w.setCell p x) ∧ (w.setCell p x).heap[w0.heap.size]? = some (.cells rb T (0, 0)) := by
  have a1 := h.lt1; have a2 := h.lt2; have a3 := h.lt3; have a4 := h.lt4
  have hh : ∀ i, i ≠ p.block → (w.setCell p x).heap[i]? = w.heap[i]? := fun i hi => Below.heap_setCell w p x i (fun e => hi e)
  exact ⟨h.rd.keep (hh _ (by omega)) (fun y hy => World.cell?_of_block (hh _ (by omega))), h.bel.setCell (by omega) x, (hh _ (by omega)).trans h.res⟩
theorem GS.setU (h : GS T rb w0 w g l b cs s sv) (o : Nat) (x : Value) {cs' : Array Value} (e : cs.setIfInBounds o x = cs') : GS T rb w0 (w.setCell ⟨b, o, none⟩ x) g l b cs' s sv := by
  obtain ⟨s1, s2, s3⟩ := h.other ⟨b, o, none⟩ x (.inl rfl)
  have a3 := h.lt3
  refine ⟨s1, s2, s3, ?_, (Below.heap_setCell w ⟨b, o, none⟩ x s (fun e => by have : s = b := e; omega)).trans h.spare, h.lt1, h.lt2, h.lt3⟩
  rw [heap_setCell_same w b o _ _ _ h.unit, e]
theorem GS.setS (h : GS T rb w0 w g l b cs s sv) (sv' : Bool) : GS T rb w0 (w.setCell ⟨s, 0, none⟩ (.bool sv')) g l b cs s sv' := by
  obtain ⟨s1, s2, s3⟩ := h.other ⟨s, 0, none⟩ (.bool sv') (.inr rfl)
  have a3 := h.lt3
  refine ⟨s1, s2, s3, (Below.heap_setCell w ⟨s, 0, none⟩ _ b (fun e => by have : b = s := e; omega)).trans h.unit, ?_, h.lt1, h.lt2, h.lt3⟩
  rw [heap_setCell_same w s 0 _ _ _ h.spare]; rfl
theorem GS.at_ (h : GS T rb w0 w g l b cs s sv) (o : Nat) : w.cell? ⟨b, o, none⟩ = cs[o]? ∧ w.frozen? ⟨b, o, none⟩ = false := ⟨cell_of_row w b o _ _ _ h.unit, frozen_of_row w b o _ _ h.unit⟩
theorem GS.flag (h : GS T rb w0 w g l b cs s sv) : w.cell? ⟨s, 0, none⟩ = some (.bool sv) ∧ w.frozen? ⟨s, 0, none⟩ = false := ⟨by rw [cell_of_row w s 0 _ _ _ h.spare]; rfl, frozen_of_row w s 0 _ _ h.spare⟩
/-- at the beginning: what is gathered, and the flag, are new -/
theorem GS.start (h1 : Rd 78 w g g l false) (h2 : Below w0.heap.size w0 w) (h3 : w.heap[w0.heap.size]? = some (.cells rb T (0, 0))) (h4 : w0.heap.size < g) :
    GS T rb w0 ((w.alloc (.cells cs T)).alloc (.cells #[.bool false] 4)) g l w.heap.size cs (w.heap.size + 1) false := by
  have hB : Below w.heap.size w ((w.alloc (.cells cs T)).alloc (.cells #[.bool false] 4)) := ((Below.refl _ _).alloc (Nat.le_refl _) _).alloc (by simp) _
  have hg := h1.lt
  refine ⟨h1.below hB hg, h2.trans (hB.mono h2.size), (hB.block _ (block_lt h3)).trans h3, ?_, heap_alloc2_new _ _ _, h4, hg, Nat.lt_succ_self _⟩
  rw [heap_alloc2_old]
end
/-- one number of one byte, of a row that is known -/
theorem num_head (g : Nat) (x : Int) (l : List Int) (w : World) (hr : Rd 78 w g g (x :: l) false) (hb : Bts (x :: l)) (hmax : (x :: l).length ≤ 100000) :
    Calls Try.prog 32 #[.pointer (some ⟨g, 0, none⟩), .int .i64 1] w fun e w' => e = .returned (.int .i64 x) ∧ Rd 78 w' g g l false ∧ OnlyB g w w' :=
  num1_any g g (x :: l) false w hr hb (by omega)
/-- unfold, with one flag -/
theorem unfold_one (x : Int) (g b o : Nat) (p : Addr) (t : TypeId) (w : World) (hx : 0 ≤ x ∧ x ≤ 255) (hp : w.frozen? p = false ∧ (w.cell? p).isSome = true) (hlt : p.block < w.heap.size) :
    Calls Try.prog 33 #[.int .i64 x, .slice (some ⟨w.heap.size, 0, none⟩) 1 1] (w.alloc (.cells #[.pointer (some p)] t)) fun e w' => e = .returned (.int .i64 (x / 2)) ∧ w' = (w.alloc (.cells #[.pointer (some p)] t)).setCell p (.bool (decide (x % 2 = 1))) := by
  have h := unfold_any x ⟨w.heap.size, 0, none⟩ (fun _ => p) 1 (w.alloc (.cells #[.pointer (some p)] t)) hx (by decide) (fun k hk => by
    obtain rfl : k = 0 := by omega
    refine ⟨?_, fun e => ?_, ?_, ?_⟩
    · show (w.alloc _).cell? ⟨w.heap.size, 0, none⟩ = _
      rw [cell_of_row _ _ 0 _ _ (0, 0) (heap_alloc_new w _)]; rfl
    · have : p.block = w.heap.size := e
      omega
    · exact (World.frozen?_alloc_old _ _ _ (by show p.block ≠ _; omega)).trans hp.1
    · rw [World.cell?_alloc_lt w _ p hlt]; exact hp.2)
  refine h.mono ?_
  rintro e w' ⟨rfl, rfl⟩
  have hb := (bit_k hx.1 hx.2).1
  refine ⟨by simp, ?_⟩
  show (w.alloc _).setCell p (.bool _) = _
  rw [hb]

/-- a class and what was wrong -/
def ClsE (d : CV × Int) (w : World) (e : Ending) (w' : World) : Prop :=
  e = .returned (.tuple #[.agg #[.int .i64 d.1.fm, .int .i64 d.1.ty, .int .i64 d.1.wd], .int .i64 d.2]) ∧ Below w.heap.size w w'
/-- a class of noughts -/
abbrev zc : Array Value := #[.int .i64 0, .int .i64 0, .int .i64 0]
theorem class_one (a b c : Int) : ((#[.int .i64 a, .int .i64 b, .int .i64 c] : Array Value).all fun x => x.oneCell') = true := by simp [Value.oneCell']
theorem class_size : (Try.prog.info? 28).map (fun x => x.size) = some 3 := by kernel_rfl
theorem ref_class_size : (Try.prog.info? 48).map (fun x => x.size) = some 3 := by kernel_rfl

set_option maxHeartbeats 1600000 in
theorem getClass_any (A : Option Addr) (n c B : Nat) (l : List Int) (w : World) (hr : Row w B A n l) (hB : B ≤ w.heap.size) (hb : Bts l) (hmax : n ≤ 100000) :
    Calls Try.prog 20 #[.slice A n c] w (ClsE (getC l) w) := by
  obtain ⟨w1, hw1⟩ : ∃ w1, Hid (w1 = w.alloc (.cells zc 28)) := ⟨_, cover rfl⟩
  have hs1 : w1.heap.size = w.heap.size + 1 := by rw [hw1.out]; simp
  have H1 : Hid (Below w.heap.size w w1) := cover (by rw [hw1.out]; exact (Below.refl _ _).alloc (Nat.le_refl _) _)
  have G1 : Hid (w1.heap[w.heap.size]? = some (.cells zc 28 (0, 0))) := cover (by rw [hw1.out]; exact heap_alloc_new _ _)
  have R1 := cover (hr.below (H1.out.mono hB))
  have hl := hr.len
  have HB := cover hb
  clear hr hb
  by_cases h3 : n = 3
  case neg =>
    obtain ⟨k, hk⟩ : ∃ k, Hid (lenE n 3 = k) := ⟨_, cover rfl⟩
    have hk0 : (k != 0) = true := by rw [← hk.out, bne_iff_ne]; unfold lenE; split; decide; rw [if_pos (by omega)]; decide
    have HE : Hid (getC l = (zCV, k)) := cover (by
      rw [getC_no (by omega), ← hk.out, hl]; unfold lenE
      by_cases h : n < 3
      · rw [if_pos h, if_pos h]
      · rw [if_neg h, if_neg h, if_pos (by omega)])
    clear hl
    go_enter Try.func20, Try.ntmps20
    go_wp2_with fail
    rw [← hw1.out]
    refine (lengthError_any A n c 3 w1).mono ?_
    rw [hk.out]
    rintro e w' ⟨rfl, rfl⟩
    go_wp2_with (refine wpList_store_row rfl _ _ _ rfl w.heap.size zc rfl rfl 28 zc G1.out class_size rfl (class_one _ _ _) ?_)
    exact bodyPost_ret (v := .tuple #[.agg zc, .int .i64 k]) (results_cell_and (by rfl) _ _ w.heap.size _ zc (0, 0) _ (.int .i64 k) rfl (setRow_heap _ _ _ _ _ _ G1.out) rfl Try.underlying28 rfl class_size) rfl ⟨by rw [HE.out]; rfl, Go.below_setRow H1.out (Nat.le_refl _) _⟩
  case pos =>
    subst h3
    obtain ⟨x0, x1, x2, rfl⟩ : ∃ x0 x1 x2, l = [x0, x1, x2] := by
      match l, hl with
      | [x0, x1, x2], _ => exact ⟨x0, x1, x2, rfl⟩
    have h0 := HB.out x0 (by simp)
    have h1 := HB.out x1 (by simp)
    have h2 := HB.out x2 (by simp)
    have hE : lenE 3 3 = 0 := by decide
    clear hl
    go_enter Try.func20, Try.ntmps20
    go_wp2_with fail
    rw [← hw1.out]
    refine (lengthError_any A 3 c 3 w1).mono ?_
    rw [hE]
    rintro e w' ⟨rfl, rfl⟩
    go_wp2_with fail
    refine (new_any A 3 c B [x0, x1, x2] w' R1.out (by omega) (by omega)).mono ?_
    rintro e w2 ⟨g, rfl, hrd, hg, hb2⟩
    have hs2 := hb2.size
    have S3 := GS.start (cs := zc) hrd (H1.out.trans (hb2.mono (by omega))) ((hb2.block w.heap.size (by omega)).trans G1.out) (show w.heap.size < g by omega)
    clear hrd hb2
    go_wp2_with fail
    generalize hw3 : (w2.alloc (.cells #[.int .i64 0, .int .i64 0, .int .i64 0] 28)).alloc (.cells #[.bool false] 4) = w3 at S3 ⊢
    generalize hbb : w2.heap.size = b at S3 ⊢
    generalize hss : b + 1 = s at S3 ⊢
    clear hw3 hbb hss
    have HS3 := cover S3
    clear S3
    refine (num_head g x0 [x1, x2] w3 HS3.out.rd HB.out (by simp)).mono ?_
    rintro e w4 ⟨rfl, r4, o4⟩
    have S4 := HS3.out.num r4 o4
    obtain ⟨c4, z4⟩ := S4.at_ 0
    simp only [List.getElem?_toArray, List.getElem?_cons_zero, List.getElem?_cons_succ] at c4
    have HS5 := cover (S4.setU 0 (.int .i64 x0) rfl)
    clear r4 o4 S4
    go_wp2_with fail
    generalize hw5 : w4.setCell ⟨b, 0, none⟩ (.int .i64 x0) = w5 at HS5 ⊢
    clear hw5 c4 z4
    refine (num_head g x1 [x2] w5 HS5.out.rd HB.out.tail (by simp)).mono ?_
    rintro e w6 ⟨rfl, r6, o6⟩
    have S6 := HS5.out.num r6 o6
    obtain ⟨c6, z6⟩ := S6.at_ 1
    simp only [List.setIfInBounds_toArray, List.set_cons_zero, List.set_cons_succ, List.getElem?_toArray, List.getElem?_cons_zero, List.getElem?_cons_succ] at c6
    have HS7 := cover (S6.setU 1 (.int .i64 x1) rfl)
    clear r6 o6 S6
    go_wp2_with fail
    generalize hw7 : w6.setCell ⟨b, 1, none⟩ (.int .i64 x1) = w7 at HS7 ⊢
    clear hw7 c6 z6
    refine (num_head g x2 [] w7 HS7.out.rd HB.out.tail.tail (by simp)).mono ?_
    rintro e w8 ⟨rfl, r8, o8⟩
    have S8 := HS7.out.num r8 o8
    obtain ⟨c8, z8⟩ := S8.flag
    have l8 := S8.lt4
    have U8 := cover (unfold_one x2 g b 0 ⟨s, 0, none⟩ 70 w8 h2 ⟨z8, by rw [c8]; rfl⟩ l8)
    have S9 := S8.below ((Below.refl _ _).alloc (Nat.le_refl _) (.cells #[.pointer (some ⟨s, 0, none⟩)] 70))
    have S10 := S9.setS (decide (x2 % 2 = 1))
    clear r8 o8 S8 S9 c8 z8
    go_wp2_with fail
    refine U8.out.mono ?_
    rintro e w10 ⟨rfl, hw10⟩
    rw [← hw10] at S10
    clear hw10
    obtain ⟨c10, z10⟩ := S10.at_ 2
    simp only [List.setIfInBounds_toArray, List.set_cons_zero, List.set_cons_succ, List.getElem?_toArray, List.getElem?_cons_zero, List.getElem?_cons_succ] at c10
    have HS11 := cover (S10.setU 2 (.int .i64 (x2 / 2)) rfl)
    clear S10 U8
    go_upto_region 10 with fail
    generalize hw11 : w10.setCell ⟨b, 2, none⟩ (.int .i64 (x2 / 2)) = w11 at HS11 ⊢
    clear hw11 c10 z10
    obtain ⟨c11, z11⟩ := HS11.out.flag
    have c12 := (HS11.out.at_ 1).1
    simp only [List.setIfInBounds_toArray, List.set_cons_zero, List.set_cons_succ, List.getElem?_toArray, List.getElem?_cons_zero, List.getElem?_cons_succ] at c12
    have HR11 := cover HS11.out.res
    have HB11 := cover HS11.out.bel
    have HU11 := cover HS11.out.unit
    have hp : w.heap.size ≠ b := by have := HS11.out.lt1; have := HS11.out.lt2; omega
    by_cases a2 : x2 % 2 = 1
    · rw [decide_eq_true a2] at c11
      have HE : Hid (getC [x0, x1, x2] = (zCV, 4)) := cover (by rw [getC_3, if_pos (.inr a2)])
      clear a2
      go_wp2_with (refine wpList_store_row rfl _ _ _ rfl w.heap.size zc rfl rfl 28 zc HR11.out class_size rfl (class_one _ _ _) ?_)
      exact bodyPost_ret (v := .tuple #[.agg zc, .int .i64 4]) (results_cell_and (by rfl) _ _ w.heap.size _ zc (0, 0) _ (.int .i64 4) rfl (setRow_heap _ _ _ _ _ _ HR11.out) rfl Try.underlying28 rfl class_size) rfl ⟨by rw [HE.out]; rfl, Go.below_setRow HB11.out (Nat.le_refl _) _⟩
    · rw [decide_eq_false a2] at c11
      by_cases a1 : 31 < x1
      · have HE : Hid (getC [x0, x1, x2] = (zCV, 4)) := cover (by rw [getC_3, if_pos (.inl a1)])
        clear a2
        go_wp2_with (refine wpList_store_row rfl _ _ _ rfl w.heap.size zc rfl rfl 28 zc HR11.out class_size rfl (class_one _ _ _) ?_)
        exact bodyPost_ret (v := .tuple #[.agg zc, .int .i64 4]) (results_cell_and (by rfl) _ _ w.heap.size _ zc (0, 0) _ (.int .i64 4) rfl (setRow_heap _ _ _ _ _ _ HR11.out) rfl Try.underlying28 rfl class_size) rfl ⟨by rw [HE.out]; rfl, Go.below_setRow HB11.out (Nat.le_refl _) _⟩
      · have HE : Hid (getC [x0, x1, x2] = (⟨x0, x1, x2 / 2⟩, 0)) := cover (by rw [getC_3, if_neg (fun h => h.elim a1 a2)])
        clear a2
        go_wp2_with (first
          | (refine wpList_load_row rfl _ _ rfl b rfl 28 #[.int .i64 x0, .int .i64 x1, .int .i64 (x2 / 2)] (0, 0) _ HU11.out Try.underlying28 rfl class_size ?_)
          | (refine wpList_store_row rfl _ _ _ rfl w.heap.size #[.int .i64 x0, .int .i64 x1, .int .i64 (x2 / 2)] rfl rfl 28 zc HR11.out class_size rfl (class_one _ _ _) ?_))
        exact bodyPost_ret (v := .tuple #[.agg #[.int .i64 x0, .int .i64 x1, .int .i64 (x2 / 2)], .int .i64 0]) (results_cell_and (by rfl) _ _ w.heap.size _ #[.int .i64 x0, .int .i64 x1, .int .i64 (x2 / 2)] (0, 0) _ (.int .i64 0) rfl (setRow_heap _ _ _ _ _ _ HR11.out) rfl Try.underlying28 rfl class_size) rfl ⟨by rw [HE.out], Go.below_setRow HB11.out (Nat.le_refl _) _⟩

set_option maxHeartbeats 1600000 in
theorem ref_getClass_any (A : Option Addr) (n c B : Nat) (l : List Int) (w : World) (hr : Row w B A n l) (hB : B ≤ w.heap.size) (hb : Bts l) (hmax : n ≤ 100000) :
    Calls Try.prog 21 #[.slice A n c] w (ClsE (getC l) w) := by
  obtain ⟨w1, hw1⟩ : ∃ w1, Hid (w1 = w.alloc (.cells zc 48)) := ⟨_, cover rfl⟩
  have hs1 : w1.heap.size = w.heap.size + 1 := by rw [hw1.out]; simp
  have H1 : Hid (Below w.heap.size w w1) := cover (by rw [hw1.out]; exact (Below.refl _ _).alloc (Nat.le_refl _) _)
  have G1 : Hid (w1.heap[w.heap.size]? = some (.cells zc 48 (0, 0))) := cover (by rw [hw1.out]; exact heap_alloc_new _ _)
  have R1 := cover (hr.below (H1.out.mono hB))
  have hl := hr.len
  have HB := cover hb
  clear hr hb
  by_cases hs : n < 3
  · have HE : Hid (getC l = (zCV, 2)) := cover (by rw [getC_no (by omega), if_pos (by omega)])
    clear hl
    go_enter Try.func21, Try.ntmps21
    go_upto_region 1 with fail
    rw [← hw1.out]
    go_wp2_with (refine wpList_store_row rfl _ _ _ rfl w.heap.size zc rfl rfl 48 zc G1.out ref_class_size rfl (class_one _ _ _) ?_)
    exact bodyPost_ret (v := .tuple #[.agg zc, .int .i64 2]) (results_cell_and (by rfl) _ _ w.heap.size _ zc (0, 0) _ (.int .i64 2) rfl (setRow_heap _ _ _ _ _ _ G1.out) rfl Try.underlying48 rfl ref_class_size) rfl ⟨by rw [HE.out]; rfl, Go.below_setRow H1.out (Nat.le_refl _) _⟩
  by_cases hg : 3 < n
  · have HE : Hid (getC l = (zCV, 3)) := cover (by rw [getC_no (by omega), if_neg (by omega)])
    clear hl
    go_enter Try.func21, Try.ntmps21
    go_upto_region 1 with fail
    rw [← hw1.out]
    go_wp2_with (refine wpList_store_row rfl _ _ _ rfl w.heap.size zc rfl rfl 48 zc G1.out ref_class_size rfl (class_one _ _ _) ?_)
    exact bodyPost_ret (v := .tuple #[.agg zc, .int .i64 3]) (results_cell_and (by rfl) _ _ w.heap.size _ zc (0, 0) _ (.int .i64 3) rfl (setRow_heap _ _ _ _ _ _ G1.out) rfl Try.underlying48 rfl ref_class_size) rfl ⟨by rw [HE.out]; rfl, Go.below_setRow H1.out (Nat.le_refl _) _⟩
  obtain rfl : n = 3 := by omega
  clear hs hg
  obtain ⟨x0, x1, x2, rfl⟩ : ∃ x0 x1 x2, l = [x0, x1, x2] := by
    match l, hl with
    | [x0, x1, x2], _ => exact ⟨x0, x1, x2, rfl⟩
  have h0 := HB.out x0 (by simp)
  have h1 := HB.out x1 (by simp)
  have h2 := HB.out x2 (by simp)
  obtain ⟨ad, _, hA, had, k0, e0⟩ := R1.out.at_ (show 0 < 3 by decide)
  subst hA
  obtain ⟨_, _, hA, _, k1, e1⟩ := R1.out.at_ (show 1 < 3 by decide)
  injection hA with hA; subst hA
  obtain ⟨_, _, hA, _, k2, e2⟩ := R1.out.at_ (show 2 < 3 by decide)
  injection hA with hA; subst hA
  have e0 := e0.out; have e1 := e1.out; have e2 := e2.out
  simp at e0 e1 e2
  subst e0; subst e1; subst e2
  have hb1 := and_one8 h2.1 h2.2
  have v0 := w64 h0
  have v1 := w64 h1
  have v2 := w64 h2
  have v4 : IntKind.i64.wrap (x2 / 2) = x2 / 2 := w64 ⟨by omega, by omega⟩
  have q2 : x2.tdiv 2 = x2 / 2 := Int.tdiv_eq_ediv_of_nonneg h2.1
  have k1' : w1.cell? ⟨ad.block, ad.off + 1, none⟩ = some (.int .u8 x1) := by simpa [Addr.add] using k1
  have k2' : w1.cell? ⟨ad.block, ad.off + 2, none⟩ = some (.int .u8 x2) := by simpa [Addr.add] using k2
  have k0' : w1.cell? ad = some (.int .u8 x0) := by simpa [Addr.add] using k0
  clear hl k0 k1 k2
  go_enter Try.func21, Try.ntmps21
  go_upto_region 1 with fail
  rw [← hw1.out]
  by_cases a1 : 31 < x1
  · have HE : Hid (getC [x0, x1, x2] = (zCV, 4)) := cover (by rw [getC_3, if_pos (.inl a1)])
    go_wp2_with (refine wpList_store_row rfl _ _ _ rfl w.heap.size zc rfl rfl 48 zc G1.out ref_class_size rfl (class_one _ _ _) ?_)
    exact bodyPost_ret (v := .tuple #[.agg zc, .int .i64 4]) (results_cell_and (by rfl) _ _ w.heap.size _ zc (0, 0) _ (.int .i64 4) rfl (setRow_heap _ _ _ _ _ _ G1.out) rfl Try.underlying48 rfl ref_class_size) rfl ⟨by rw [HE.out]; rfl, Go.below_setRow H1.out (Nat.le_refl _) _⟩
  by_cases a2 : x2 % 2 = 1
  · rw [decide_eq_true a2] at hb1
    have HE : Hid (getC [x0, x1, x2] = (zCV, 4)) := cover (by rw [getC_3, if_pos (.inr a2)])
    clear a2
    go_wp2_with (refine wpList_store_row rfl _ _ _ rfl w.heap.size zc rfl rfl 48 zc G1.out ref_class_size rfl (class_one _ _ _) ?_)
    exact bodyPost_ret (v := .tuple #[.agg zc, .int .i64 4]) (results_cell_and (by rfl) _ _ w.heap.size _ zc (0, 0) _ (.int .i64 4) rfl (setRow_heap _ _ _ _ _ _ G1.out) rfl Try.underlying48 rfl ref_class_size) rfl ⟨by rw [HE.out]; rfl, Go.below_setRow H1.out (Nat.le_refl _) _⟩
  · rw [decide_eq_false a2] at hb1
    have HE : Hid (getC [x0, x1, x2] = (⟨x0, x1, x2 / 2⟩, 0)) := cover (by rw [getC_3, if_neg (fun h => h.elim a1 a2)])
    clear a2
    go_upto_region 7 with fail
    have mixed : Try.prog.follows .mixedOrders = true := by kernel_rfl
    refine (wpIn_wide (n := 0)).1 ?_
    refine held_begin (fun W' : World => W'.cell? ad = some (.int .u8 x0) ∧ W'.cell? ⟨ad.block, ad.off + 1, none⟩ = some (.int .u8 x1) ∧ W'.cell? ⟨ad.block, ad.off + 2, none⟩ = some (.int .u8 x2)) 14 mixed ?_
    have HS : (fun W' : World => W'.cell? ad = some (.int .u8 x0) ∧ W'.cell? ⟨ad.block, ad.off + 1, none⟩ = some (.int .u8 x1) ∧ W'.cell? ⟨ad.block, ad.off + 2, none⟩ = some (.int .u8 x2)) w1.drew := ⟨k0', k1', k2'⟩
    refine hold_take 0 _ rfl (by kernel_rfl) (by kernel_rfl) (by kernel_rfl) (by kernel_rfl) (by kernel_rfl) (fun _ _ _ h => h) (by rfl) (fun _ => rfl) HS (fun w' hS => by obtain ⟨q0, q1, q2⟩ := hS; go_simp; rfl) ?_
    simp only [Act.put, List.setIfInBounds_toArray, List.set_cons_zero, List.set_cons_succ]
    refine hold_take 1 _ rfl (by kernel_rfl) (by kernel_rfl) (by kernel_rfl) (by kernel_rfl) (by kernel_rfl) (fun _ _ _ h => h) (by rfl) (fun _ => rfl) HS (fun w' hS => by obtain ⟨q0, q1, q2⟩ := hS; go_simp; rfl) ?_
    simp only [Act.put, List.setIfInBounds_toArray, List.set_cons_zero, List.set_cons_succ]
    refine hold_take 2 _ rfl (by kernel_rfl) (by kernel_rfl) (by kernel_rfl) (by kernel_rfl) (by kernel_rfl) (fun _ _ _ h => h) (by rfl) (fun _ => rfl) HS (fun w' hS => by obtain ⟨q0, q1, q2⟩ := hS; go_simp; rfl) ?_
    simp only [Act.put, List.setIfInBounds_toArray, List.set_cons_zero, List.set_cons_succ]
    refine hold_take 3 _ rfl (by kernel_rfl) (by kernel_rfl) (by kernel_rfl) (by kernel_rfl) (by kernel_rfl) (fun _ _ _ h => h) (by rfl) (fun _ => rfl) HS (fun w' hS => by obtain ⟨q0, q1, q2⟩ := hS; go_simp; rfl) ?_
    simp only [Act.put, List.setIfInBounds_toArray, List.set_cons_zero, List.set_cons_succ]
    refine hold_take 4 _ rfl (by kernel_rfl) (by kernel_rfl) (by kernel_rfl) (by kernel_rfl) (by kernel_rfl) (fun _ _ _ h => h) (by rfl) (fun _ => rfl) HS (fun w' hS => by obtain ⟨q0, q1, q2⟩ := hS; go_simp; rfl) ?_
    simp only [Act.put, List.setIfInBounds_toArray, List.set_cons_zero, List.set_cons_succ]
    refine hold_take 5 _ rfl (by kernel_rfl) (by kernel_rfl) (by kernel_rfl) (by kernel_rfl) (by kernel_rfl) (fun _ _ _ h => h) (by rfl) (fun _ => rfl) HS (fun w' hS => by obtain ⟨q0, q1, q2⟩ := hS; go_simp; rfl) ?_
    simp only [Act.put, List.setIfInBounds_toArray, List.set_cons_zero, List.set_cons_succ]
    refine hold_take 6 _ rfl (by kernel_rfl) (by kernel_rfl) (by kernel_rfl) (by kernel_rfl) (by kernel_rfl) (fun _ _ _ h => h) (by rfl) (fun _ => rfl) HS (fun w' hS => by obtain ⟨q0, q1, q2⟩ := hS; go_simp; rfl) ?_
    simp only [Act.put, List.setIfInBounds_toArray, List.set_cons_zero, List.set_cons_succ]
    refine hold_take 7 _ rfl (by kernel_rfl) (by kernel_rfl) (by kernel_rfl) (by kernel_rfl) (by kernel_rfl) (fun _ _ _ h => h) (by rfl) (fun _ => rfl) HS (fun w' hS => by obtain ⟨q0, q1, q2⟩ := hS; go_simp; rfl) ?_
    simp only [Act.put, List.setIfInBounds_toArray, List.set_cons_zero, List.set_cons_succ]
    refine hold_take 8 _ rfl (by kernel_rfl) (by kernel_rfl) (by kernel_rfl) (by kernel_rfl) (by kernel_rfl) (fun _ _ _ h => h) (by rfl) (fun _ => rfl) HS (fun w' hS => by obtain ⟨q0, q1, q2⟩ := hS; go_simp; rfl) ?_
    simp only [Act.put, List.setIfInBounds_toArray, List.set_cons_zero, List.set_cons_succ]
    refine hold_take 9 _ rfl (by kernel_rfl) (by kernel_rfl) (by kernel_rfl) (by kernel_rfl) (by kernel_rfl) (fun _ _ _ h => h) (by rfl) (fun _ => rfl) HS (fun w' hS => by obtain ⟨q0, q1, q2⟩ := hS; go_simp; rfl) ?_
    simp only [Act.put, List.setIfInBounds_toArray, List.set_cons_zero, List.set_cons_succ]
    refine hold_take 10 _ rfl (by kernel_rfl) (by kernel_rfl) (by kernel_rfl) (by kernel_rfl) (by kernel_rfl) (fun _ _ _ h => h) (by rfl) (fun _ => rfl) HS (fun w' hS => by obtain ⟨q0, q1, q2⟩ := hS; go_simp; rfl) ?_
    simp only [Act.put, List.setIfInBounds_toArray, List.set_cons_zero, List.set_cons_succ]
    refine hold_take 11 _ rfl (by kernel_rfl) (by kernel_rfl) (by kernel_rfl) (by kernel_rfl) (by kernel_rfl) (fun _ _ _ h => h) (by rfl) (fun _ => rfl) HS (fun w' hS => by obtain ⟨q0, q1, q2⟩ := hS; go_simp; rfl) ?_
    simp only [Act.put, List.setIfInBounds_toArray, List.set_cons_zero, List.set_cons_succ]
    refine hold_take 12 _ rfl (by kernel_rfl) (by kernel_rfl) (by kernel_rfl) (by kernel_rfl) (by kernel_rfl) (fun _ _ _ h => h) (by rfl) (fun _ => rfl) HS (fun w' hS => by obtain ⟨q0, q1, q2⟩ := hS; go_simp; rfl) ?_
    simp only [Act.put, List.setIfInBounds_toArray, List.set_cons_zero, List.set_cons_succ]
    refine hold_take 13 _ rfl (by kernel_rfl) (by kernel_rfl) (by kernel_rfl) (by kernel_rfl) (by kernel_rfl) (fun _ _ _ h => h) (by rfl) (fun _ => rfl) HS (fun w' hS => by obtain ⟨q0, q1, q2⟩ := hS; go_simp; rfl) ?_
    simp only [Act.put, List.setIfInBounds_toArray, List.set_cons_zero, List.set_cons_succ]
    refine hold_one 14 (by kernel_rfl) rfl (by rfl) fun K hK => ?_
    refine run_skip_u (fun c h => by cases h) (fun _ _ => trivial) (w' := w1.drew.setRow w.heap.size #[.int .i64 x0, .int .i64 x1, .int .i64 (x2 / 2)]) (exec_store_row _ _ _ rfl w.heap.size #[.int .i64 x0, .int .i64 x1, .int .i64 (x2 / 2)] rfl rfl 48 zc G1.out ref_class_size rfl (class_one _ _ _)) ?_
    refine hK _ _ (.inl rfl) ?_
    clear hK K
    have HS2 : (fun W' : World => W'.cell? ad = some (.int .u8 x0) ∧ W'.cell? ⟨ad.block, ad.off + 1, none⟩ = some (.int .u8 x1) ∧ W'.cell? ⟨ad.block, ad.off + 2, none⟩ = some (.int .u8 x2)) (w1.drew.setRow w.heap.size #[.int .i64 x0, .int .i64 x1, .int .i64 (x2 / 2)]) := by
      have hne : ad.block ≠ w.heap.size := by omega
      have hh : (w1.drew.setRow w.heap.size #[.int .i64 x0, .int .i64 x1, .int .i64 (x2 / 2)]).heap[ad.block]? = w1.drew.heap[ad.block]? := setRow_other _ _ _ _ hne
      exact ⟨(World.cell?_of_block hh).trans HS.1, (World.cell?_of_block (a := ⟨ad.block, ad.off + 1, none⟩) hh).trans HS.2.1, (World.cell?_of_block (a := ⟨ad.block, ad.off + 2, none⟩) hh).trans HS.2.2⟩
    simp only [Act.put]
    refine hold_one 15 (by kernel_rfl) rfl (by rfl) fun K hK => ?_
    go_simp
    refine hK _ _ (.inr HS2) (held_done (by kernel_rfl) ?_ _)
    clear hK K
    go_wp2
    exact bodyPost_ret (v := .tuple #[.agg #[.int .i64 x0, .int .i64 x1, .int .i64 (x2 / 2)], .int .i64 0]) (results_cell_and (by rfl) _ _ w.heap.size _ #[.int .i64 x0, .int .i64 x1, .int .i64 (x2 / 2)] (0, 0) _ (.int .i64 0) rfl (setRow_heap _ _ _ _ _ _ G1.out) rfl Try.underlying48 rfl ref_class_size) rfl ⟨by rw [HE.out], Go.below_setRow (below_drewN H1.out 1) (Nat.le_refl _) _⟩

end Go.Proofs.Ytkidacfodpoapaa
