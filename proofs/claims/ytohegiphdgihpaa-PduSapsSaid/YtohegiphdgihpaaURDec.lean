/- What the document's own Decode hands back. -/
import Derived.Deep.CutBlock
import Derived.Deep.DeepCutAuto
import Derived.Deep.RegionHeld3
import Derived.Test.YtohegiphdgihpaaUDec
import Derived.Test.YtohegiphdgihpaaUREnc
import Derived.Test.YtohegiphdgihpaaOCopy
namespace Go.Proofs.Ytohegiphdgihpaa
open Go.RowKit
set_option linter.unusedVariables false
set_option linter.unusedSimpArgs false

/-- while Decode goes on: its result's block, the unit at b -/
structure QS (w0 w : World) (b : Nat) (q : PV) (v : Value) : Prop where
  res : w.heap[w0.heap.size]? = some (.cells zp 25 (0, 0))
  unit : w.heap[b]? = some (.cells #[.int .i64 q.to, .int .i64 q.frm, .bool q.resp, .int .i64 q.form, .int .i64 q.kind, .int .i64 q.ns, .int .i64 q.nr, .bool q.poll, v] 25 (0, 0))
  bel : Below w0.heap.size w0 w
  lt : w0.heap.size < b
section
variable {w0 w w' : World} {b : Nat} {q q' : PV} {v v' : Value}
theorem QS.size (h : QS w0 w b q v) : b < w.heap.size := block_lt h.unit
theorem QS.below (h : QS w0 w b q v) (hb : Below w.heap.size w w') : QS w0 w' b q v := by
  have h1 := h.lt; have h2 := h.size
  exact ⟨(hb.block _ (by omega)).trans h.res, (hb.block _ h2).trans h.unit, h.bel.trans (hb.mono (by omega)), h1⟩
theorem QS.setU (h : QS w0 w b q v) (o : Nat) (x : Value) (q' : PV) (v' : Value) (e : #[.int .i64 q.to, .int .i64 q.frm, .bool q.resp, .int .i64 q.form, .int .i64 q.kind, .int .i64 q.ns, .int .i64 q.nr, .bool q.poll, v].setIfInBounds o x = #[.int .i64 q'.to, .int .i64 q'.frm, .bool q'.resp, .int .i64 q'.form, .int .i64 q'.kind, .int .i64 q'.ns, .int .i64 q'.nr, .bool q'.poll, v']) : QS w0 (w.setCell ⟨b, o, none⟩ x) b q' v' := by
  have h1 := h.lt
  refine ⟨(Below.heap_setCell w ⟨b, o, none⟩ x _ (fun e => by have : w0.heap.size = b := e; omega)).trans h.res, ?_, h.bel.setCell (by show w0.heap.size ≤ b; omega) x, h1⟩
  rw [heap_setCell_same w b o _ _ _ h.unit, e]
theorem QS.cells (h : QS w0 w b q v) : (World.cell? w ⟨b, 0, none⟩ = some (.int .i64 q.to) ∧ World.cell? w ⟨b, 1, none⟩ = some (.int .i64 q.frm) ∧ World.cell? w ⟨b, 2, none⟩ = some (.bool q.resp) ∧ World.cell? w ⟨b, 3, none⟩ = some (.int .i64 q.form) ∧ World.cell? w ⟨b, 4, none⟩ = some (.int .i64 q.kind) ∧ World.cell? w ⟨b, 5, none⟩ = some (.int .i64 q.ns) ∧ World.cell? w ⟨b, 6, none⟩ = some (.int .i64 q.nr) ∧ World.cell? w ⟨b, 7, none⟩ = some (.bool q.poll) ∧ World.cell? w ⟨b, 8, none⟩ = some (v)) ∧ (∀ o, w.frozen? ⟨b, o, none⟩ = false) := ⟨pdu_cells h.unit, fun o => frozen_of_row w b o _ _ h.unit⟩
end
theorem dec_few {l : List Int} (h : l.length < 3) : decR l = (zPV, 2) := by
  match l, h with
  | [], _ => rfl
  | [_], _ => rfl
  | [_, _], _ => rfl
theorem and_one8 {n : Int} (h0 : 0 ≤ n) (h1 : n ≤ 255) : (bits BinOp.and IntKind.u8 n 1 == 1) = decide (n % 2 = 1) := by
  have h : ∀ m : Nat, m < 256 → (bits BinOp.and IntKind.u8 (m : Int) 1 == 1) = decide ((m : Int) % 2 = 1) := by decide +kernel
  obtain ⟨m, rfl⟩ : ∃ m : Nat, n = (m : Int) := ⟨n.toNat, by omega⟩
  exact h m (by omega)

theorem kindOf_or (c : Int) : kindOf c = -1 ∨ (0 ≤ kindOf c ∧ kindOf c ≤ 9) := by
  unfold kindOf
  repeat (split; · right; omega)
  left; rfl
/-- which kind was found among the first k -/
def Found (c : Int) (k : Nat) (i : Int) : Prop := (0 ≤ kindOf c ∧ kindOf c < (k : Int) → i = kindOf c) ∧ (¬ (0 ≤ kindOf c ∧ kindOf c < (k : Int)) → i = -1)
theorem Found.start (c : Int) : Found c 0 (-1) := ⟨fun h => by omega, fun _ => rfl⟩
theorem Found.yes {c i : Int} {k : Nat} (hk : k < 10) (h : codeI (k : Int) = c) : Found c (k + 1) (k : Int) := by
  have := (codeI_U (k := (k : Int)) (by omega) (by omega)).2.2.2.2.1
  rw [h] at this
  exact ⟨fun _ => this.symm, fun hn => absurd ⟨by omega, by omega⟩ hn⟩
theorem Found.no {c i : Int} {k : Nat} (hf : Found c k i) (h : codeI (k : Int) ≠ c) : Found c (k + 1) i := by
  have hne : ¬ (kindOf c = (k : Int)) := fun e => by
    have h0 : 0 ≤ kindOf c := by omega
    have := kindOf_code h0
    rw [e] at this
    exact h this
  exact ⟨fun h1 => hf.1 ⟨h1.1, by omega⟩, fun h1 => hf.2 (fun h2 => h1 ⟨h2.1, by omega⟩)⟩
theorem Found.done {c i : Int} (hf : Found c 10 i) : i = kindOf c := by
  rcases kindOf_or c with h | h
  · rw [hf.2 (by omega), h]
  · exact hf.1 ⟨h.1, by omega⟩
/-- at the head of a round: what was found so far -/
def LoopAt (w0 : World) (b : Nat) (q : PV) (v : Value) (c : Int) (k : Nat) (r : List Int) (base : Nat) (w : World) : Prop :=
  ∃ i, QS w0 w b { q with kind := i } v ∧ Found c k i ∧ OwnB w base v r

set_option maxHeartbeats 1600000 in
theorem ref_dec_short (A : Option Addr) (c : Nat) (l : List Int) (w : World) (h : l.length < 3) :
    Calls Try.prog 15 #[.slice A l.length c] w (DecU (decR l) w) := by
  have HD := cover (dec_few h)
  have h3 : (l.length : Int) < 3 := by omega
  go_enter Try.func15, Try.ntmps15
  go_wp2
  exact bodyPost_ret (v := .tuple #[.agg zp, .int .i64 2]) (results_cell_and (by rfl) _ _ w.heap.size _ zp (0, 0) _ (.int .i64 2) rfl (heap_alloc_new _ _) rfl Try.underlying25 rfl pdu_size) rfl (DecU.zero HD.out ((Below.refl _ _).alloc (Nat.le_refl _) _))

set_option maxHeartbeats 6400000 in
theorem ref_dec_long (ad : Addr) (c B : Nat) (x0 x1 x2 : Int) (r : List Int) (w : World) (hr : Row w B (some ad) (x0 :: x1 :: x2 :: r).length (x0 :: x1 :: x2 :: r)) (hB : B ≤ w.heap.size) (hb : Bts (x0 :: x1 :: x2 :: r)) (hc : (x0 :: x1 :: x2 :: r).length ≤ c) (hmax : (x0 :: x1 :: x2 :: r).length ≤ 140737488355328) :
    Calls Try.prog 15 #[.slice (some ad) (x0 :: x1 :: x2 :: r).length c] w (DecU (decR (x0 :: x1 :: x2 :: r)) w) := by
  obtain ⟨w1, hw1⟩ : ∃ w1, Hid (w1 = w.alloc (.cells zp 25)) := ⟨_, cover rfl⟩
  have hs1 : w1.heap.size = w.heap.size + 1 := by rw [hw1.out]; simp
  have H1 : Hid (Below w.heap.size w w1) := cover (by rw [hw1.out]; exact (Below.refl _ _).alloc (Nat.le_refl _) _)
  have G1 : Hid (w1.heap[w.heap.size]? = some (.cells zp 25 (0, 0))) := cover (by rw [hw1.out]; exact heap_alloc_new _ _)
  have R1 := cover (hr.below (H1.out.mono hB))
  have hx0 := hb x0 (by simp)
  have hx1 := hb x1 (by simp)
  have hx2 := hb x2 (by simp)
  have HB := cover hb
  have cell_ : ∀ (W : World) (k : Nat) (x : Int), Row W B (some ad) (x0 :: x1 :: x2 :: r).length (x0 :: x1 :: x2 :: r) → (x0 :: x1 :: x2 :: r)[k]? = some x → W.cell? (ad.add k) = some (.int .u8 x) := by
    intro W k x hR hk
    obtain ⟨hlt, he⟩ := List.getElem?_eq_some_iff.1 hk
    obtain ⟨ad', e, _, hcc⟩ := hR.cells k hlt
    injection e with e
    subst e
    rw [hcc, he]
  obtain ⟨N, hN⟩ : ∃ N, (x0 :: x1 :: x2 :: r).length = N := ⟨_, rfl⟩
  have hN3 : 3 ≤ N := by rw [← hN]; simp
  have c0 : w1.cell? ad = some (.int .u8 x0) := cell_ w1 0 x0 R1.out rfl
  have c1 : w1.cell? ⟨ad.block, ad.off + 1, none⟩ = some (.int .u8 x1) := cell_ w1 1 x1 R1.out rfl
  have c2 : w1.cell? ⟨ad.block, ad.off + 2, none⟩ = some (.int .u8 x2) := cell_ w1 2 x2 R1.out rfl
  have hadB : ad.block < B := by
    obtain ⟨ad', e, hlt, _⟩ := hr.cells 0 (by simp)
    injection e with e
    subst e
    exact hlt
  have hab : ad.block < w1.heap.size := by
    obtain ⟨ad', e, hlt, _⟩ := hr.cells 0 (by simp)
    injection e with e
    subst e
    omega
  have HCELL := cover cell_
  rw [hN] at hc hmax ⊢
  have HN := cover hN
  clear hr hb cell_ hN
  have k0 : (0 : Int) < (N : Int) := by omega
  have k1 : (1 : Int) < (N : Int) := by omega
  have k2 : (2 : Int) < (N : Int) := by omega
  have k3 : ¬ (N : Int) < 3 := by omega
  have m0 : 0 < N := by omega
  have m1 : 1 < N := by omega
  have m2 : 2 < N := by omega
  go_enter Try.func15, Try.ntmps15
  go_upto_region 3 with fail
  rw [← hw1.out]
  go_region_held3 (fun w' => w'.cell? ad = some (.int .u8 x0) ∧ w'.cell? ⟨ad.block, ad.off + 1, none⟩ = some (.int .u8 x1))
    (first | exact ⟨c0, c1⟩ | exact ⟨(World.cell?_alloc_lt w1.drew _ ad hab).trans c0, (World.cell?_alloc_lt w1.drew _ ⟨ad.block, ad.off + 1, none⟩ hab).trans c1⟩)
    (fail)
  have e0 : IntKind.i64.wrap x0 = x0 := w64 hx0
  have e1 : IntKind.i64.wrap x1 = x1 := w64 hx1
  have e2 : IntKind.i64.wrap x2 = x2 := w64 hx2
  rw [e0, e1, clear_one hx1.1 hx1.2, and_one8 hx1.1 hx1.2]
  obtain ⟨q3, hq3⟩ : ∃ q : PV, Hid (q = ⟨x0, x1 - x1 % 2, decide (x1 % 2 = 1), 0, 0, 0, 0, false, []⟩) := ⟨_, cover rfl⟩
  have S3 : QS w (w1.alloc (.cells #[.int .i64 x0, .int .i64 (x1 - x1 % 2), .bool (decide (x1 % 2 = 1)), .int .i64 0, .int .i64 0, .int .i64 0, .int .i64 0, .bool false, .slice none 0 0] 25)).drew (w.heap.size + 1) q3 (.slice none 0 0) := by
    refine ⟨(heap_alloc_old w1 _ (by omega)).trans G1.out, ?_, (H1.out.alloc (by omega) _).drew, Nat.lt_succ_self _⟩
    rw [hq3.out, ← hs1]
    exact heap_alloc_new w1 _
  generalize hw3 : (w1.alloc (.cells #[.int .i64 x0, .int .i64 (x1 - x1 % 2), .bool (decide (x1 % 2 = 1)), .int .i64 0, .int .i64 0, .int .i64 0, .int .i64 0, .bool false, .slice none 0 0] 25)).drew = w3 at S3 ⊢
  generalize hb3 : w.heap.size + 1 = b at S3 ⊢
  have HS3 := cover S3
  have R3 : Hid (Row w3 B (some ad) (x0 :: x1 :: x2 :: r).length (x0 :: x1 :: x2 :: r)) := cover (by
    rw [← hw3]
    exact (R1.out.alloc (by omega) _).drewN 1)
  clear hw3 hb3 S3 c0 c1 c2 hab e0 e1
  have c2 : w3.cell? ⟨ad.block, ad.off + 2, none⟩ = some (.int .u8 x2) := HCELL.out w3 2 x2 R3.out rfl
  have ha3 := and_three hx2.1 hx2.2
  by_cases a3 : x2 % 4 = 3
  · rw [a3] at ha3
    have A3 := cover a3
    clear a3
    obtain ⟨h161, h162⟩ := bit_16_at hx2.1 hx2.2
    obtain ⟨⟨p0, p1, p2, p3, p4, p5, p6, p7, p8⟩, z5⟩ := HS3.out.cells
    have z3 := z5 3
    have z7 := z5 7
    clear z5
    have hcut : c = 3 ∨ c ≠ 3 := by omega
    rcases hcut with hc3 | hc3
    · go_wp2_with fail
      obtain ⟨q4, hq4⟩ : ∃ q : PV, Hid (q = ⟨x0, x1 - x1 % 2, decide (x1 % 2 = 1), 2, 0, 0, 0, decide (bit16 x2 = 1), []⟩) := ⟨_, cover rfl⟩
      have S4 := (HS3.out.setU 3 (.int .i64 2) { q3 with form := 2 } (.slice none 0 0) rfl).setU 7 (.bool (decide (bit16 x2 = 1))) q4 (.slice none 0 0) (by rw [hq4.out, hq3.out]; rfl)
      have R4 : Hid (Row ((w3.setCell ⟨b, 3, none⟩ (.int .i64 2)).setCell ⟨b, 7, none⟩ (.bool (decide (bit16 x2 = 1)))) B (some ad) (x0 :: x1 :: x2 :: r).length (x0 :: x1 :: x2 :: r)) := cover (by
        have hlt := HS3.out.lt
        exact (R3.out.setCell (p := ⟨b, 3, none⟩) (by show B ≤ b; omega) _).setCell (p := ⟨b, 7, none⟩) (by show B ≤ b; omega) _)
      generalize hw4 : (w3.setCell ⟨b, 3, none⟩ (.int .i64 2)).setCell ⟨b, 7, none⟩ (.bool (decide (bit16 x2 = 1))) = w4 at S4 R4 ⊢
      have HS4 := cover S4
      clear S4 hw4 p0 p1 p2 p3 p4 p5 p6 p7 p8 z3 z7
      have RC : Hid (Row w4 B (some ad) (N - 3) r) := cover (by
        have h := R4.out.cut (k := 3) (by simp) (by rw [HN.out]; exact hc)
        rw [HN.out] at h
        subst hc3; rw [if_pos rfl] at h; exact h)
      have hlt4 := HS4.out.lt
      have hsz4 := HS4.out.size
      refine (copy_any _ _ _ B r w4 RC.out (by omega) (by omega)).mono ?_
      rintro e w5 ⟨A5, c5, rfl, ho5, hb5⟩
      have HS5 := cover (HS4.out.below hb5)
      have HO5 := cover ho5
      clear ho5 hb5
      have hsz5 := HS5.out.size
      obtain ⟨⟨p0, p1, p2, p3, p4, p5, p6, p7, p8⟩, z5⟩ := HS5.out.cells
      have z8 := z5 8
      have z4 := z5 4
      clear z5
      go_wp2_with fail
      obtain ⟨q6, hq6⟩ : ∃ q : PV, Hid (q = { q4 with info := r }) := ⟨_, cover rfl⟩
      have S6 := (HS5.out.setU 8 (.slice A5 r.length c5) q4 (.slice A5 r.length c5) rfl).setU 4 (.int .i64 (-1)) { q6 with kind := -1 } (.slice A5 r.length c5) (by rw [hq6.out]; rfl)
      have HLP : Hid (LoopAt w b q6 (.slice A5 r.length c5) (x2 - 16 * bit16 x2) 0 r w4.heap.size ((w5.setCell ⟨b, 8, none⟩ (.slice A5 r.length c5)).setCell ⟨b, 4, none⟩ (.int .i64 (-1)))) := cover ⟨-1, S6, Found.start _, ownB_keep HO5.out (fun i hi => (Below.heap_setCell _ ⟨b, 4, none⟩ _ i (fun e => by have : i = b := e; omega)).trans (Below.heap_setCell w5 ⟨b, 8, none⟩ _ i (fun e => by have : i = b := e; omega)))⟩
      clear S6 p0 p1 p2 p3 p4 p5 p6 p7 p8 z4 z8
      have HBASE : Hid (b < w4.heap.size) := cover (by omega)
      go_loopw [6] (fun i wr => ∃ k : Nat, k ≤ 10 ∧ i = .int .i64 k ∧ Hid (LoopAt w b q6 (.slice A5 r.length c5) (x2 - 16 * bit16 x2) k r w4.heap.size wr)) (fun i _ => 10 - (intOf i).toNat)
      case atStart => exact ⟨0, by decide, rfl, HLP⟩
      case round =>
        obtain ⟨k, hk, rfl, hlp⟩ := hrel
        by_cases hlt : k < 10
        · have hle : (k : Int) ≤ 9 := by omega
          go_wp2_with fail
          refine (ref_code_any (k : Int) wr).mono ?_
          rintro e w7 ⟨rfl, hb7⟩
          obtain ⟨i, hs, hf, ho⟩ := hlp.out
          have HS7 := cover (hs.below hb7)
          have HO7 := cover (ownB_below ho hb7)
          have HF7 := cover hf
          clear hb7 hs ho hf
          by_cases heq : codeI (k : Int) = x2 - 16 * bit16 x2
          · have z4 := HS7.out.cells.2 4
            obtain ⟨p0, p1, p2, p3, p4, p5, p6, p7, p8⟩ := HS7.out.cells.1
            have heqb : (codeI (k : Int) == x2 - 16 * bit16 x2) = true := by simpa using heq
            have HY := cover (Found.yes (i := 0) hlt heq)
            clear heq
            go_wp2
            go_roundw
            case rel => exact ⟨k + 1, by omega, by go_num, cover ⟨(k : Int), HS7.out.setU 4 _ { q6 with kind := (k : Int) } _ rfl, HY.out, ownB_keep HO7.out (fun i hi => Below.heap_setCell _ ⟨b, 4, none⟩ _ i (fun e => by have : i = b := e; have := HBASE.out; omega))⟩⟩
            case measure => simp [intOf]; omega
          · have heqb : (codeI (k : Int) == x2 - 16 * bit16 x2) = false := by simpa using heq
            have HY := cover (Found.no HF7.out heq)
            clear heq
            go_wp2
            go_roundw
            case rel => exact ⟨k + 1, by omega, by go_num, cover ⟨i, HS7.out, HY.out, HO7.out⟩⟩
            case measure => simp [intOf]; omega
        · obtain rfl : k = 10 := by omega
          obtain ⟨i, hs, hf, ho⟩ := hlp.out
          obtain rfl := hf.done
          obtain ⟨q9, hq9⟩ : ∃ q : PV, Hid (q = { q6 with kind := kindOf (x2 - 16 * bit16 x2) }) := ⟨_, cover rfl⟩
          have hri : r = q9.info := by rw [hq9.out, hq6.out]
          have HRI := cover hri
          rw [← hq9.out] at hs
          have HS9 : Hid (QS w wr b q9 (.slice A5 q9.info.length c5)) := cover (by rw [← hri]; exact hs)
          have HOW : Hid (OwnB wr w4.heap.size (.slice A5 q9.info.length c5) q9.info) := cover (by rw [← hri]; exact ho)
          clear hs ho hf hlp hri
          obtain ⟨p0, p1, p2, p3, p4, p5, p6, p7, p8⟩ := HS9.out.cells.1
          go_wp2_with fail
          clear p0 p1 p2 p3 p4 p5 p6 p7 p8
          have HOF : Hid (decR (x0 :: x1 :: x2 :: r) = orForm q9) := cover (by
            rw [decR_u A3.out, hq9.out, hq6.out, hq4.out]
            rfl)
          refine (ref_may_any q9 A5 c5 wr).mono ?_
          rintro e w8 ⟨rfl, hb8⟩
          have S8 := cover (HS9.out.below hb8)
          have O8 := cover (ownB_below HOW.out hb8)
          clear hb8
          have hlt8 := S8.out.lt
          have hsz8 := S8.out.size
          rcases hm : mayB q9 with _ | _
          · have HD : Hid (decR (x0 :: x1 :: x2 :: r) = (zPV, 4)) := cover (by rw [HOF.out]; exact orForm_no (fun h => by rw [mayB_yes h] at hm; cases hm))
            clear hm
            go_wp2_with (refine wpList_store_row rfl _ _ _ rfl w.heap.size zp rfl rfl 25 zp S8.out.res pdu_size rfl zp_one ?_)
            exact bodyPost_ret (v := .tuple #[.agg zp, .int .i64 4]) (results_cell_and (by rfl) _ _ w.heap.size _ zp (0, 0) _ (.int .i64 4) rfl (setRow_heap _ _ _ _ _ _ S8.out.res) rfl Try.underlying25 rfl pdu_size) rfl (DecU.zero HD.out (Go.below_setRow S8.out.bel (Nat.le_refl _) _))
          · have HD : Hid (decR (x0 :: x1 :: x2 :: r) = (q9, 0)) := cover (by rw [HOF.out]; exact orForm_yes (mayB_iff.1 hm))
            clear hm
            go_wp2_with (first
              | (refine wpList_load_row rfl _ _ rfl b rfl 25 #[.int .i64 q9.to, .int .i64 q9.frm, .bool q9.resp, .int .i64 q9.form, .int .i64 q9.kind, .int .i64 q9.ns, .int .i64 q9.nr, .bool q9.poll, .slice A5 q9.info.length c5] (0, 0) _ S8.out.unit Try.underlying25 rfl pdu_size ?_)
              | (refine wpList_store_row rfl _ _ _ rfl w.heap.size #[.int .i64 q9.to, .int .i64 q9.frm, .bool q9.resp, .int .i64 q9.form, .int .i64 q9.kind, .int .i64 q9.ns, .int .i64 q9.nr, .bool q9.poll, .slice A5 q9.info.length c5] rfl rfl 25 zp S8.out.res pdu_size rfl (pdu_one _ _ _ _ _ _ _ _ _ _ _) ?_))
            exact bodyPost_ret (v := .tuple #[.agg #[.int .i64 q9.to, .int .i64 q9.frm, .bool q9.resp, .int .i64 q9.form, .int .i64 q9.kind, .int .i64 q9.ns, .int .i64 q9.nr, .bool q9.poll, .slice A5 q9.info.length c5], .int .i64 0]) (results_cell_and (by rfl) _ _ w.heap.size _ #[.int .i64 q9.to, .int .i64 q9.frm, .bool q9.resp, .int .i64 q9.form, .int .i64 q9.kind, .int .i64 q9.ns, .int .i64 q9.nr, .bool q9.poll, .slice A5 q9.info.length c5] (0, 0) _ (.int .i64 0) rfl (setRow_heap _ _ _ _ _ _ S8.out.res) rfl Try.underlying25 rfl pdu_size) rfl
              ⟨A5, c5, by rw [HD.out], by rw [HD.out]; exact (ownB_keep O8.out (fun i hi => setRow_other _ _ _ _ (by have := HBASE.out; omega))).mono (by have := HBASE.out; omega), Go.below_setRow S8.out.bel (Nat.le_refl _) _⟩
    · go_wp2_with fail
      obtain ⟨q4, hq4⟩ : ∃ q : PV, Hid (q = ⟨x0, x1 - x1 % 2, decide (x1 % 2 = 1), 2, 0, 0, 0, decide (bit16 x2 = 1), []⟩) := ⟨_, cover rfl⟩
      have S4 := (HS3.out.setU 3 (.int .i64 2) { q3 with form := 2 } (.slice none 0 0) rfl).setU 7 (.bool (decide (bit16 x2 = 1))) q4 (.slice none 0 0) (by rw [hq4.out, hq3.out]; rfl)
      have R4 : Hid (Row ((w3.setCell ⟨b, 3, none⟩ (.int .i64 2)).setCell ⟨b, 7, none⟩ (.bool (decide (bit16 x2 = 1)))) B (some ad) (x0 :: x1 :: x2 :: r).length (x0 :: x1 :: x2 :: r)) := cover (by
        have hlt := HS3.out.lt
        exact (R3.out.setCell (p := ⟨b, 3, none⟩) (by show B ≤ b; omega) _).setCell (p := ⟨b, 7, none⟩) (by show B ≤ b; omega) _)
      generalize hw4 : (w3.setCell ⟨b, 3, none⟩ (.int .i64 2)).setCell ⟨b, 7, none⟩ (.bool (decide (bit16 x2 = 1))) = w4 at S4 R4 ⊢
      have HS4 := cover S4
      clear S4 hw4 p0 p1 p2 p3 p4 p5 p6 p7 p8 z3 z7
      have RC : Hid (Row w4 B (some ⟨ad.block, ad.off + 3, none⟩) (N - 3) r) := cover (by
        have h := R4.out.cut (k := 3) (by simp) (by rw [HN.out]; exact hc)
        rw [HN.out] at h
        rw [if_neg hc3] at h; exact h)
      have hlt4 := HS4.out.lt
      have hsz4 := HS4.out.size
      refine (copy_any _ _ _ B r w4 RC.out (by omega) (by omega)).mono ?_
      rintro e w5 ⟨A5, c5, rfl, ho5, hb5⟩
      have HS5 := cover (HS4.out.below hb5)
      have HO5 := cover ho5
      clear ho5 hb5
      have hsz5 := HS5.out.size
      obtain ⟨⟨p0, p1, p2, p3, p4, p5, p6, p7, p8⟩, z5⟩ := HS5.out.cells
      have z8 := z5 8
      have z4 := z5 4
      clear z5
      go_wp2_with fail
      obtain ⟨q6, hq6⟩ : ∃ q : PV, Hid (q = { q4 with info := r }) := ⟨_, cover rfl⟩
      have S6 := (HS5.out.setU 8 (.slice A5 r.length c5) q4 (.slice A5 r.length c5) rfl).setU 4 (.int .i64 (-1)) { q6 with kind := -1 } (.slice A5 r.length c5) (by rw [hq6.out]; rfl)
      have HLP : Hid (LoopAt w b q6 (.slice A5 r.length c5) (x2 - 16 * bit16 x2) 0 r w4.heap.size ((w5.setCell ⟨b, 8, none⟩ (.slice A5 r.length c5)).setCell ⟨b, 4, none⟩ (.int .i64 (-1)))) := cover ⟨-1, S6, Found.start _, ownB_keep HO5.out (fun i hi => (Below.heap_setCell _ ⟨b, 4, none⟩ _ i (fun e => by have : i = b := e; omega)).trans (Below.heap_setCell w5 ⟨b, 8, none⟩ _ i (fun e => by have : i = b := e; omega)))⟩
      clear S6 p0 p1 p2 p3 p4 p5 p6 p7 p8 z4 z8
      have HBASE : Hid (b < w4.heap.size) := cover (by omega)
      go_loopw [6] (fun i wr => ∃ k : Nat, k ≤ 10 ∧ i = .int .i64 k ∧ Hid (LoopAt w b q6 (.slice A5 r.length c5) (x2 - 16 * bit16 x2) k r w4.heap.size wr)) (fun i _ => 10 - (intOf i).toNat)
      case atStart => exact ⟨0, by decide, rfl, HLP⟩
      case round =>
        obtain ⟨k, hk, rfl, hlp⟩ := hrel
        by_cases hlt : k < 10
        · have hle : (k : Int) ≤ 9 := by omega
          go_wp2_with fail
          refine (ref_code_any (k : Int) wr).mono ?_
          rintro e w7 ⟨rfl, hb7⟩
          obtain ⟨i, hs, hf, ho⟩ := hlp.out
          have HS7 := cover (hs.below hb7)
          have HO7 := cover (ownB_below ho hb7)
          have HF7 := cover hf
          clear hb7 hs ho hf
          by_cases heq : codeI (k : Int) = x2 - 16 * bit16 x2
          · have z4 := HS7.out.cells.2 4
            obtain ⟨p0, p1, p2, p3, p4, p5, p6, p7, p8⟩ := HS7.out.cells.1
            have heqb : (codeI (k : Int) == x2 - 16 * bit16 x2) = true := by simpa using heq
            have HY := cover (Found.yes (i := 0) hlt heq)
            clear heq
            go_wp2
            go_roundw
            case rel => exact ⟨k + 1, by omega, by go_num, cover ⟨(k : Int), HS7.out.setU 4 _ { q6 with kind := (k : Int) } _ rfl, HY.out, ownB_keep HO7.out (fun i hi => Below.heap_setCell _ ⟨b, 4, none⟩ _ i (fun e => by have : i = b := e; have := HBASE.out; omega))⟩⟩
            case measure => simp [intOf]; omega
          · have heqb : (codeI (k : Int) == x2 - 16 * bit16 x2) = false := by simpa using heq
            have HY := cover (Found.no HF7.out heq)
            clear heq
            go_wp2
            go_roundw
            case rel => exact ⟨k + 1, by omega, by go_num, cover ⟨i, HS7.out, HY.out, HO7.out⟩⟩
            case measure => simp [intOf]; omega
        · obtain rfl : k = 10 := by omega
          obtain ⟨i, hs, hf, ho⟩ := hlp.out
          obtain rfl := hf.done
          obtain ⟨q9, hq9⟩ : ∃ q : PV, Hid (q = { q6 with kind := kindOf (x2 - 16 * bit16 x2) }) := ⟨_, cover rfl⟩
          have hri : r = q9.info := by rw [hq9.out, hq6.out]
          have HRI := cover hri
          rw [← hq9.out] at hs
          have HS9 : Hid (QS w wr b q9 (.slice A5 q9.info.length c5)) := cover (by rw [← hri]; exact hs)
          have HOW : Hid (OwnB wr w4.heap.size (.slice A5 q9.info.length c5) q9.info) := cover (by rw [← hri]; exact ho)
          clear hs ho hf hlp hri
          obtain ⟨p0, p1, p2, p3, p4, p5, p6, p7, p8⟩ := HS9.out.cells.1
          go_wp2_with fail
          clear p0 p1 p2 p3 p4 p5 p6 p7 p8
          have HOF : Hid (decR (x0 :: x1 :: x2 :: r) = orForm q9) := cover (by
            rw [decR_u A3.out, hq9.out, hq6.out, hq4.out]
            rfl)
          refine (ref_may_any q9 A5 c5 wr).mono ?_
          rintro e w8 ⟨rfl, hb8⟩
          have S8 := cover (HS9.out.below hb8)
          have O8 := cover (ownB_below HOW.out hb8)
          clear hb8
          have hlt8 := S8.out.lt
          have hsz8 := S8.out.size
          rcases hm : mayB q9 with _ | _
          · have HD : Hid (decR (x0 :: x1 :: x2 :: r) = (zPV, 4)) := cover (by rw [HOF.out]; exact orForm_no (fun h => by rw [mayB_yes h] at hm; cases hm))
            clear hm
            go_wp2_with (refine wpList_store_row rfl _ _ _ rfl w.heap.size zp rfl rfl 25 zp S8.out.res pdu_size rfl zp_one ?_)
            exact bodyPost_ret (v := .tuple #[.agg zp, .int .i64 4]) (results_cell_and (by rfl) _ _ w.heap.size _ zp (0, 0) _ (.int .i64 4) rfl (setRow_heap _ _ _ _ _ _ S8.out.res) rfl Try.underlying25 rfl pdu_size) rfl (DecU.zero HD.out (Go.below_setRow S8.out.bel (Nat.le_refl _) _))
          · have HD : Hid (decR (x0 :: x1 :: x2 :: r) = (q9, 0)) := cover (by rw [HOF.out]; exact orForm_yes (mayB_iff.1 hm))
            clear hm
            go_wp2_with (first
              | (refine wpList_load_row rfl _ _ rfl b rfl 25 #[.int .i64 q9.to, .int .i64 q9.frm, .bool q9.resp, .int .i64 q9.form, .int .i64 q9.kind, .int .i64 q9.ns, .int .i64 q9.nr, .bool q9.poll, .slice A5 q9.info.length c5] (0, 0) _ S8.out.unit Try.underlying25 rfl pdu_size ?_)
              | (refine wpList_store_row rfl _ _ _ rfl w.heap.size #[.int .i64 q9.to, .int .i64 q9.frm, .bool q9.resp, .int .i64 q9.form, .int .i64 q9.kind, .int .i64 q9.ns, .int .i64 q9.nr, .bool q9.poll, .slice A5 q9.info.length c5] rfl rfl 25 zp S8.out.res pdu_size rfl (pdu_one _ _ _ _ _ _ _ _ _ _ _) ?_))
            exact bodyPost_ret (v := .tuple #[.agg #[.int .i64 q9.to, .int .i64 q9.frm, .bool q9.resp, .int .i64 q9.form, .int .i64 q9.kind, .int .i64 q9.ns, .int .i64 q9.nr, .bool q9.poll, .slice A5 q9.info.length c5], .int .i64 0]) (results_cell_and (by rfl) _ _ w.heap.size _ #[.int .i64 q9.to, .int .i64 q9.frm, .bool q9.resp, .int .i64 q9.form, .int .i64 q9.kind, .int .i64 q9.ns, .int .i64 q9.nr, .bool q9.poll, .slice A5 q9.info.length c5] (0, 0) _ (.int .i64 0) rfl (setRow_heap _ _ _ _ _ _ S8.out.res) rfl Try.underlying25 rfl pdu_size) rfl
              ⟨A5, c5, by rw [HD.out], by rw [HD.out]; exact (ownB_keep O8.out (fun i hi => setRow_other _ _ _ _ (by have := HBASE.out; omega))).mono (by have := HBASE.out; omega), Go.below_setRow S8.out.bel (Nat.le_refl _) _⟩
  · obtain ⟨m, hm4⟩ : ∃ m, x2 % 4 = m := ⟨_, rfl⟩
    have A3 := cover a3
    rw [hm4] at ha3 a3
    clear hm4
    rcases r with _ | ⟨x3, r⟩
    · have hN4 : (N : Int) < 4 := by have := HN.out; simp at this; omega
      have HD : Hid (decR [x0, x1, x2] = (zPV, 2)) := cover (by rw [decR_2, if_neg A3.out])
      go_wp2_with (refine wpList_store_row rfl _ _ _ rfl w.heap.size zp rfl rfl 25 zp HS3.out.res pdu_size rfl zp_one ?_)
      exact bodyPost_ret (v := .tuple #[.agg zp, .int .i64 2]) (results_cell_and (by rfl) _ _ w.heap.size _ zp (0, 0) _ (.int .i64 2) rfl (setRow_heap _ _ _ _ _ _ HS3.out.res) rfl Try.underlying25 rfl pdu_size) rfl (DecU.zero HD.out (Go.below_setRow HS3.out.bel (Nat.le_refl _) _))
    · have hN4 : ¬ (N : Int) < 4 := by have := HN.out; simp at this; omega
      have k33 : (3 : Int) < (N : Int) := by omega
      have m3 : 3 < N := by omega
      have m4 : 4 ≤ N := by omega
      have hne : ad.block ≠ b := by have := HS3.out.lt; omega
      have hx3 := HB.out x3 (by simp)
      have c3 : w3.cell? ⟨ad.block, ad.off + 3, none⟩ = some (.int .u8 x3) := HCELL.out w3 3 x3 R3.out rfl
      have e3 : IntKind.i64.wrap x3 = x3 := w64 hx3
      have ha8 := and_one8 hx3.1 hx3.2
      obtain ⟨⟨p0, p1, p2, p3, p4, p5, p6, p7, p8⟩, z5⟩ := HS3.out.cells
      have z6 := z5 6
      have z7 := z5 7
      clear z5
      have hcut : c = 4 ∨ c ≠ 4 := by omega
      rcases hcut with hc4 | hc4
      · go_wp2_with fail
        obtain ⟨q4, hq4⟩ : ∃ q : PV, Hid (q = ⟨x0, x1 - x1 % 2, decide (x1 % 2 = 1), 0, 0, 0, x3 / 2, decide (x3 % 2 = 1), []⟩) := ⟨_, cover rfl⟩
        have S4 := (HS3.out.setU 6 (.int .i64 (x3 / 2)) { q3 with nr := x3 / 2 } (.slice none 0 0) rfl).setU 7 (.bool (decide (x3 % 2 = 1))) q4 (.slice none 0 0) (by rw [hq4.out, hq3.out]; rfl)
        have R4 : Hid (Row ((w3.setCell ⟨b, 6, none⟩ (.int .i64 (x3 / 2))).setCell ⟨b, 7, none⟩ (.bool (decide (x3 % 2 = 1)))) B (some ad) (x0 :: x1 :: x2 :: x3 :: r).length (x0 :: x1 :: x2 :: x3 :: r)) := cover (by
          have hlt := HS3.out.lt
          exact (R3.out.setCell (p := ⟨b, 6, none⟩) (by show B ≤ b; omega) _).setCell (p := ⟨b, 7, none⟩) (by show B ≤ b; omega) _)
        generalize hw4 : (w3.setCell ⟨b, 6, none⟩ (.int .i64 (x3 / 2))).setCell ⟨b, 7, none⟩ (.bool (decide (x3 % 2 = 1))) = w4 at S4 R4 ⊢
        have HS4 := cover S4
        clear S4 hw4 p0 p1 p2 p3 p4 p5 p6 p7 p8 z6 z7 c3 ha8
        have RC : Hid (Row w4 B (some ad) (N - 4) r) := cover (by
          have h := R4.out.cut (k := 4) (by simp) (by rw [HN.out]; exact hc)
          rw [HN.out] at h
          subst hc4; rw [if_pos rfl] at h; exact h)
        have hlt4 := HS4.out.lt
        have hsz4 := HS4.out.size
        refine (copy_any _ _ _ B r w4 RC.out (by omega) (by omega)).mono ?_
        rintro e w5 ⟨A5, c5, rfl, ho5, hb5⟩
        have HS5 := cover (HS4.out.below hb5)
        have HO5 := cover ho5
        clear ho5 hb5
        have hsz5 := HS5.out.size
        have HBASE : Hid (b < w4.heap.size) := cover (by omega)
        obtain ⟨⟨p0, p1, p2, p3, p4, p5, p6, p7, p8⟩, z5⟩ := HS5.out.cells
        have z8 := z5 8
        have z3 := z5 3
        have z4 := z5 4
        have z55 := z5 5
        clear z5
        by_cases a2 : x2 % 2 = 0
        · have hev : (bits BinOp.and IntKind.i64 x2 1 == 0) = true := by rw [and_one hx2.1 hx2.2, decide_eq_true a2]
          have A2 := cover a2
          clear a2
          go_wp2_with fail
          obtain ⟨q9, hq9⟩ : ∃ q : PV, Hid (q = { q4 with info := r, form := 0, ns := x2 / 2 }) := ⟨_, cover rfl⟩
          have S9 := ((HS5.out.setU 8 (.slice A5 r.length c5) q4 (.slice A5 r.length c5) rfl).setU 3 (.int .i64 0) { q4 with form := 0 } (.slice A5 r.length c5) rfl).setU 5 (.int .i64 (x2 / 2)) q9 (.slice A5 q9.info.length c5) (by rw [hq9.out]; rfl)
          have O9 : OwnB (((w5.setCell ⟨b, 8, none⟩ (.slice A5 r.length c5)).setCell ⟨b, 3, none⟩ (.int .i64 0)).setCell ⟨b, 5, none⟩ (.int .i64 (x2 / 2))) w4.heap.size (.slice A5 q9.info.length c5) q9.info := by
            have hb := HBASE.out
            rw [hq9.out]
            exact ownB_keep HO5.out (fun i hi => (Below.heap_setCell _ ⟨b, 5, none⟩ _ i (fun e => by have : i = b := e; omega)).trans ((Below.heap_setCell _ ⟨b, 3, none⟩ _ i (fun e => by have : i = b := e; omega)).trans (Below.heap_setCell w5 ⟨b, 8, none⟩ _ i (fun e => by have : i = b := e; omega))))
          generalize hw9 : ((w5.setCell ⟨b, 8, none⟩ (.slice A5 r.length c5)).setCell ⟨b, 3, none⟩ (.int .i64 0)).setCell ⟨b, 5, none⟩ (.int .i64 (x2 / 2)) = w9 at S9 O9 ⊢
          have HS9 := cover S9
          have HOW := cover O9
          clear S9 O9 hw9 p0 p1 p2 p3 p4 p5 p6 p7 p8 z8 z3 z4 z55
          have HOF : Hid (decR (x0 :: x1 :: x2 :: x3 :: r) = orForm q9) := cover (by
            rw [decR_3, if_neg A3.out, if_pos A2.out, hq9.out, hq4.out]
            rfl)
          have hmay : Calls Try.prog 17 #[.agg #[.int .i64 q4.to, .int .i64 q4.frm, .bool q4.resp, .int .i64 0, .int .i64 q4.kind, .int .i64 (x2 / 2), .int .i64 q4.nr, .bool q4.poll, .slice A5 r.length c5]] w9 fun e w' => e = .returned (.bool (mayB q9)) ∧ Below w9.heap.size w9 w' := by
            have h := ref_may_any q9 A5 c5 w9
            rw [hq9.out] at h ⊢
            exact h
          refine hmay.mono ?_
          rintro e w8 ⟨rfl, hb8⟩
          have S8 := cover (HS9.out.below hb8)
          have O8 := cover (ownB_below HOW.out hb8)
          clear hb8
          have hlt8 := S8.out.lt
          have hsz8 := S8.out.size
          rcases hm : mayB q9 with _ | _
          · have HD : Hid (decR (x0 :: x1 :: x2 :: x3 :: r) = (zPV, 4)) := cover (by rw [HOF.out]; exact orForm_no (fun h => by rw [mayB_yes h] at hm; cases hm))
            clear hm
            go_wp2_with (refine wpList_store_row rfl _ _ _ rfl w.heap.size zp rfl rfl 25 zp S8.out.res pdu_size rfl zp_one ?_)
            exact bodyPost_ret (v := .tuple #[.agg zp, .int .i64 4]) (results_cell_and (by rfl) _ _ w.heap.size _ zp (0, 0) _ (.int .i64 4) rfl (setRow_heap _ _ _ _ _ _ S8.out.res) rfl Try.underlying25 rfl pdu_size) rfl (DecU.zero HD.out (Go.below_setRow S8.out.bel (Nat.le_refl _) _))
          · have HD : Hid (decR (x0 :: x1 :: x2 :: x3 :: r) = (q9, 0)) := cover (by rw [HOF.out]; exact orForm_yes (mayB_iff.1 hm))
            clear hm
            go_wp2_with (first
              | (refine wpList_load_row rfl _ _ rfl b rfl 25 #[.int .i64 q9.to, .int .i64 q9.frm, .bool q9.resp, .int .i64 q9.form, .int .i64 q9.kind, .int .i64 q9.ns, .int .i64 q9.nr, .bool q9.poll, .slice A5 q9.info.length c5] (0, 0) _ S8.out.unit Try.underlying25 rfl pdu_size ?_)
              | (refine wpList_store_row rfl _ _ _ rfl w.heap.size #[.int .i64 q9.to, .int .i64 q9.frm, .bool q9.resp, .int .i64 q9.form, .int .i64 q9.kind, .int .i64 q9.ns, .int .i64 q9.nr, .bool q9.poll, .slice A5 q9.info.length c5] rfl rfl 25 zp S8.out.res pdu_size rfl (pdu_one _ _ _ _ _ _ _ _ _ _ _) ?_))
            exact bodyPost_ret (v := .tuple #[.agg #[.int .i64 q9.to, .int .i64 q9.frm, .bool q9.resp, .int .i64 q9.form, .int .i64 q9.kind, .int .i64 q9.ns, .int .i64 q9.nr, .bool q9.poll, .slice A5 q9.info.length c5], .int .i64 0]) (results_cell_and (by rfl) _ _ w.heap.size _ #[.int .i64 q9.to, .int .i64 q9.frm, .bool q9.resp, .int .i64 q9.form, .int .i64 q9.kind, .int .i64 q9.ns, .int .i64 q9.nr, .bool q9.poll, .slice A5 q9.info.length c5] (0, 0) _ (.int .i64 0) rfl (setRow_heap _ _ _ _ _ _ S8.out.res) rfl Try.underlying25 rfl pdu_size) rfl
              ⟨A5, c5, by rw [HD.out], by rw [HD.out]; exact (ownB_keep O8.out (fun i hi => setRow_other _ _ _ _ (by have := HBASE.out; omega))).mono (by have := HBASE.out; omega), Go.below_setRow S8.out.bel (Nat.le_refl _) _⟩
        · have hev : (bits BinOp.and IntKind.i64 x2 1 == 0) = false := by rw [and_one hx2.1 hx2.2, decide_eq_false a2]
          have A2 := cover a2
          clear a2
          by_cases a9 : 9 < x2
          · have HD : Hid (decR (x0 :: x1 :: x2 :: x3 :: r) = (zPV, 4)) := cover (by rw [decR_3, if_neg A3.out, if_neg A2.out, if_pos a9])
            obtain ⟨q9, hq9⟩ : ∃ q : PV, Hid (q = { q4 with info := r, form := 1, kind := x2 / 4 }) := ⟨_, cover rfl⟩
            have S9 := cover (((HS5.out.setU 8 (.slice A5 r.length c5) q4 (.slice A5 r.length c5) rfl).setU 3 (.int .i64 1) { q4 with form := 1 } (.slice A5 r.length c5) rfl).setU 4 (.int .i64 (x2 / 4)) q9 (.slice A5 q9.info.length c5) (by rw [hq9.out]; rfl))
            go_wp2_with (refine wpList_store_row rfl _ _ _ rfl w.heap.size zp rfl rfl 25 zp S9.out.res pdu_size rfl zp_one ?_)
            exact bodyPost_ret (v := .tuple #[.agg zp, .int .i64 4]) (results_cell_and (by rfl) _ _ w.heap.size _ zp (0, 0) _ (.int .i64 4) rfl (setRow_heap _ _ _ _ _ _ S9.out.res) rfl Try.underlying25 rfl pdu_size) rfl (DecU.zero HD.out (Go.below_setRow S9.out.bel (Nat.le_refl _) _))
          · have A9 := cover a9
            skip
            go_wp2_with fail
            obtain ⟨q9, hq9⟩ : ∃ q : PV, Hid (q = { q4 with info := r, form := 1, kind := x2 / 4 }) := ⟨_, cover rfl⟩
            have S9 := ((HS5.out.setU 8 (.slice A5 r.length c5) q4 (.slice A5 r.length c5) rfl).setU 3 (.int .i64 1) { q4 with form := 1 } (.slice A5 r.length c5) rfl).setU 4 (.int .i64 (x2 / 4)) q9 (.slice A5 q9.info.length c5) (by rw [hq9.out]; rfl)
            have O9 : OwnB (((w5.setCell ⟨b, 8, none⟩ (.slice A5 r.length c5)).setCell ⟨b, 3, none⟩ (.int .i64 1)).setCell ⟨b, 4, none⟩ (.int .i64 (x2 / 4))) w4.heap.size (.slice A5 q9.info.length c5) q9.info := by
              have hb := HBASE.out
              rw [hq9.out]
              exact ownB_keep HO5.out (fun i hi => (Below.heap_setCell _ ⟨b, 4, none⟩ _ i (fun e => by have : i = b := e; omega)).trans ((Below.heap_setCell _ ⟨b, 3, none⟩ _ i (fun e => by have : i = b := e; omega)).trans (Below.heap_setCell w5 ⟨b, 8, none⟩ _ i (fun e => by have : i = b := e; omega))))
            generalize hw9 : ((w5.setCell ⟨b, 8, none⟩ (.slice A5 r.length c5)).setCell ⟨b, 3, none⟩ (.int .i64 1)).setCell ⟨b, 4, none⟩ (.int .i64 (x2 / 4)) = w9 at S9 O9 ⊢
            have HS9 := cover S9
            have HOW := cover O9
            clear S9 O9 hw9 p0 p1 p2 p3 p4 p5 p6 p7 p8 z8 z3 z4 z55
            have HOF : Hid (decR (x0 :: x1 :: x2 :: x3 :: r) = orForm q9) := cover (by
              rw [decR_3, if_neg A3.out, if_neg A2.out, if_neg (by have := A9.out; omega), hq9.out, hq4.out]
              rfl)
            have hmay : Calls Try.prog 17 #[.agg #[.int .i64 q4.to, .int .i64 q4.frm, .bool q4.resp, .int .i64 1, .int .i64 (x2 / 4), .int .i64 q4.ns, .int .i64 q4.nr, .bool q4.poll, .slice A5 r.length c5]] w9 fun e w' => e = .returned (.bool (mayB q9)) ∧ Below w9.heap.size w9 w' := by
              have h := ref_may_any q9 A5 c5 w9
              rw [hq9.out] at h ⊢
              exact h
            refine hmay.mono ?_
            rintro e w8 ⟨rfl, hb8⟩
            have S8 := cover (HS9.out.below hb8)
            have O8 := cover (ownB_below HOW.out hb8)
            clear hb8
            have hlt8 := S8.out.lt
            have hsz8 := S8.out.size
            rcases hm : mayB q9 with _ | _
            · have HD : Hid (decR (x0 :: x1 :: x2 :: x3 :: r) = (zPV, 4)) := cover (by rw [HOF.out]; exact orForm_no (fun h => by rw [mayB_yes h] at hm; cases hm))
              clear hm
              go_wp2_with (refine wpList_store_row rfl _ _ _ rfl w.heap.size zp rfl rfl 25 zp S8.out.res pdu_size rfl zp_one ?_)
              exact bodyPost_ret (v := .tuple #[.agg zp, .int .i64 4]) (results_cell_and (by rfl) _ _ w.heap.size _ zp (0, 0) _ (.int .i64 4) rfl (setRow_heap _ _ _ _ _ _ S8.out.res) rfl Try.underlying25 rfl pdu_size) rfl (DecU.zero HD.out (Go.below_setRow S8.out.bel (Nat.le_refl _) _))
            · have HD : Hid (decR (x0 :: x1 :: x2 :: x3 :: r) = (q9, 0)) := cover (by rw [HOF.out]; exact orForm_yes (mayB_iff.1 hm))
              clear hm
              go_wp2_with (first
                | (refine wpList_load_row rfl _ _ rfl b rfl 25 #[.int .i64 q9.to, .int .i64 q9.frm, .bool q9.resp, .int .i64 q9.form, .int .i64 q9.kind, .int .i64 q9.ns, .int .i64 q9.nr, .bool q9.poll, .slice A5 q9.info.length c5] (0, 0) _ S8.out.unit Try.underlying25 rfl pdu_size ?_)
                | (refine wpList_store_row rfl _ _ _ rfl w.heap.size #[.int .i64 q9.to, .int .i64 q9.frm, .bool q9.resp, .int .i64 q9.form, .int .i64 q9.kind, .int .i64 q9.ns, .int .i64 q9.nr, .bool q9.poll, .slice A5 q9.info.length c5] rfl rfl 25 zp S8.out.res pdu_size rfl (pdu_one _ _ _ _ _ _ _ _ _ _ _) ?_))
              exact bodyPost_ret (v := .tuple #[.agg #[.int .i64 q9.to, .int .i64 q9.frm, .bool q9.resp, .int .i64 q9.form, .int .i64 q9.kind, .int .i64 q9.ns, .int .i64 q9.nr, .bool q9.poll, .slice A5 q9.info.length c5], .int .i64 0]) (results_cell_and (by rfl) _ _ w.heap.size _ #[.int .i64 q9.to, .int .i64 q9.frm, .bool q9.resp, .int .i64 q9.form, .int .i64 q9.kind, .int .i64 q9.ns, .int .i64 q9.nr, .bool q9.poll, .slice A5 q9.info.length c5] (0, 0) _ (.int .i64 0) rfl (setRow_heap _ _ _ _ _ _ S8.out.res) rfl Try.underlying25 rfl pdu_size) rfl
                ⟨A5, c5, by rw [HD.out], by rw [HD.out]; exact (ownB_keep O8.out (fun i hi => setRow_other _ _ _ _ (by have := HBASE.out; omega))).mono (by have := HBASE.out; omega), Go.below_setRow S8.out.bel (Nat.le_refl _) _⟩
      · go_wp2_with fail
        obtain ⟨q4, hq4⟩ : ∃ q : PV, Hid (q = ⟨x0, x1 - x1 % 2, decide (x1 % 2 = 1), 0, 0, 0, x3 / 2, decide (x3 % 2 = 1), []⟩) := ⟨_, cover rfl⟩
        have S4 := (HS3.out.setU 6 (.int .i64 (x3 / 2)) { q3 with nr := x3 / 2 } (.slice none 0 0) rfl).setU 7 (.bool (decide (x3 % 2 = 1))) q4 (.slice none 0 0) (by rw [hq4.out, hq3.out]; rfl)
        have R4 : Hid (Row ((w3.setCell ⟨b, 6, none⟩ (.int .i64 (x3 / 2))).setCell ⟨b, 7, none⟩ (.bool (decide (x3 % 2 = 1)))) B (some ad) (x0 :: x1 :: x2 :: x3 :: r).length (x0 :: x1 :: x2 :: x3 :: r)) := cover (by
          have hlt := HS3.out.lt
          exact (R3.out.setCell (p := ⟨b, 6, none⟩) (by show B ≤ b; omega) _).setCell (p := ⟨b, 7, none⟩) (by show B ≤ b; omega) _)
        generalize hw4 : (w3.setCell ⟨b, 6, none⟩ (.int .i64 (x3 / 2))).setCell ⟨b, 7, none⟩ (.bool (decide (x3 % 2 = 1))) = w4 at S4 R4 ⊢
        have HS4 := cover S4
        clear S4 hw4 p0 p1 p2 p3 p4 p5 p6 p7 p8 z6 z7 c3 ha8
        have RC : Hid (Row w4 B (some ⟨ad.block, ad.off + 4, none⟩) (N - 4) r) := cover (by
          have h := R4.out.cut (k := 4) (by simp) (by rw [HN.out]; exact hc)
          rw [HN.out] at h
          rw [if_neg hc4] at h; exact h)
        have hlt4 := HS4.out.lt
        have hsz4 := HS4.out.size
        refine (copy_any _ _ _ B r w4 RC.out (by omega) (by omega)).mono ?_
        rintro e w5 ⟨A5, c5, rfl, ho5, hb5⟩
        have HS5 := cover (HS4.out.below hb5)
        have HO5 := cover ho5
        clear ho5 hb5
        have hsz5 := HS5.out.size
        have HBASE : Hid (b < w4.heap.size) := cover (by omega)
        obtain ⟨⟨p0, p1, p2, p3, p4, p5, p6, p7, p8⟩, z5⟩ := HS5.out.cells
        have z8 := z5 8
        have z3 := z5 3
        have z4 := z5 4
        have z55 := z5 5
        clear z5
        by_cases a2 : x2 % 2 = 0
        · have hev : (bits BinOp.and IntKind.i64 x2 1 == 0) = true := by rw [and_one hx2.1 hx2.2, decide_eq_true a2]
          have A2 := cover a2
          clear a2
          go_wp2_with fail
          obtain ⟨q9, hq9⟩ : ∃ q : PV, Hid (q = { q4 with info := r, form := 0, ns := x2 / 2 }) := ⟨_, cover rfl⟩
          have S9 := ((HS5.out.setU 8 (.slice A5 r.length c5) q4 (.slice A5 r.length c5) rfl).setU 3 (.int .i64 0) { q4 with form := 0 } (.slice A5 r.length c5) rfl).setU 5 (.int .i64 (x2 / 2)) q9 (.slice A5 q9.info.length c5) (by rw [hq9.out]; rfl)
          have O9 : OwnB (((w5.setCell ⟨b, 8, none⟩ (.slice A5 r.length c5)).setCell ⟨b, 3, none⟩ (.int .i64 0)).setCell ⟨b, 5, none⟩ (.int .i64 (x2 / 2))) w4.heap.size (.slice A5 q9.info.length c5) q9.info := by
            have hb := HBASE.out
            rw [hq9.out]
            exact ownB_keep HO5.out (fun i hi => (Below.heap_setCell _ ⟨b, 5, none⟩ _ i (fun e => by have : i = b := e; omega)).trans ((Below.heap_setCell _ ⟨b, 3, none⟩ _ i (fun e => by have : i = b := e; omega)).trans (Below.heap_setCell w5 ⟨b, 8, none⟩ _ i (fun e => by have : i = b := e; omega))))
          generalize hw9 : ((w5.setCell ⟨b, 8, none⟩ (.slice A5 r.length c5)).setCell ⟨b, 3, none⟩ (.int .i64 0)).setCell ⟨b, 5, none⟩ (.int .i64 (x2 / 2)) = w9 at S9 O9 ⊢
          have HS9 := cover S9
          have HOW := cover O9
          clear S9 O9 hw9 p0 p1 p2 p3 p4 p5 p6 p7 p8 z8 z3 z4 z55
          have HOF : Hid (decR (x0 :: x1 :: x2 :: x3 :: r) = orForm q9) := cover (by
            rw [decR_3, if_neg A3.out, if_pos A2.out, hq9.out, hq4.out]
            rfl)
          have hmay : Calls Try.prog 17 #[.agg #[.int .i64 q4.to, .int .i64 q4.frm, .bool q4.resp, .int .i64 0, .int .i64 q4.kind, .int .i64 (x2 / 2), .int .i64 q4.nr, .bool q4.poll, .slice A5 r.length c5]] w9 fun e w' => e = .returned (.bool (mayB q9)) ∧ Below w9.heap.size w9 w' := by
            have h := ref_may_any q9 A5 c5 w9
            rw [hq9.out] at h ⊢
            exact h
          refine hmay.mono ?_
          rintro e w8 ⟨rfl, hb8⟩
          have S8 := cover (HS9.out.below hb8)
          have O8 := cover (ownB_below HOW.out hb8)
          clear hb8
          have hlt8 := S8.out.lt
          have hsz8 := S8.out.size
          rcases hm : mayB q9 with _ | _
          · have HD : Hid (decR (x0 :: x1 :: x2 :: x3 :: r) = (zPV, 4)) := cover (by rw [HOF.out]; exact orForm_no (fun h => by rw [mayB_yes h] at hm; cases hm))
            clear hm
            go_wp2_with (refine wpList_store_row rfl _ _ _ rfl w.heap.size zp rfl rfl 25 zp S8.out.res pdu_size rfl zp_one ?_)
            exact bodyPost_ret (v := .tuple #[.agg zp, .int .i64 4]) (results_cell_and (by rfl) _ _ w.heap.size _ zp (0, 0) _ (.int .i64 4) rfl (setRow_heap _ _ _ _ _ _ S8.out.res) rfl Try.underlying25 rfl pdu_size) rfl (DecU.zero HD.out (Go.below_setRow S8.out.bel (Nat.le_refl _) _))
          · have HD : Hid (decR (x0 :: x1 :: x2 :: x3 :: r) = (q9, 0)) := cover (by rw [HOF.out]; exact orForm_yes (mayB_iff.1 hm))
            clear hm
            go_wp2_with (first
              | (refine wpList_load_row rfl _ _ rfl b rfl 25 #[.int .i64 q9.to, .int .i64 q9.frm, .bool q9.resp, .int .i64 q9.form, .int .i64 q9.kind, .int .i64 q9.ns, .int .i64 q9.nr, .bool q9.poll, .slice A5 q9.info.length c5] (0, 0) _ S8.out.unit Try.underlying25 rfl pdu_size ?_)
              | (refine wpList_store_row rfl _ _ _ rfl w.heap.size #[.int .i64 q9.to, .int .i64 q9.frm, .bool q9.resp, .int .i64 q9.form, .int .i64 q9.kind, .int .i64 q9.ns, .int .i64 q9.nr, .bool q9.poll, .slice A5 q9.info.length c5] rfl rfl 25 zp S8.out.res pdu_size rfl (pdu_one _ _ _ _ _ _ _ _ _ _ _) ?_))
            exact bodyPost_ret (v := .tuple #[.agg #[.int .i64 q9.to, .int .i64 q9.frm, .bool q9.resp, .int .i64 q9.form, .int .i64 q9.kind, .int .i64 q9.ns, .int .i64 q9.nr, .bool q9.poll, .slice A5 q9.info.length c5], .int .i64 0]) (results_cell_and (by rfl) _ _ w.heap.size _ #[.int .i64 q9.to, .int .i64 q9.frm, .bool q9.resp, .int .i64 q9.form, .int .i64 q9.kind, .int .i64 q9.ns, .int .i64 q9.nr, .bool q9.poll, .slice A5 q9.info.length c5] (0, 0) _ (.int .i64 0) rfl (setRow_heap _ _ _ _ _ _ S8.out.res) rfl Try.underlying25 rfl pdu_size) rfl
              ⟨A5, c5, by rw [HD.out], by rw [HD.out]; exact (ownB_keep O8.out (fun i hi => setRow_other _ _ _ _ (by have := HBASE.out; omega))).mono (by have := HBASE.out; omega), Go.below_setRow S8.out.bel (Nat.le_refl _) _⟩
        · have hev : (bits BinOp.and IntKind.i64 x2 1 == 0) = false := by rw [and_one hx2.1 hx2.2, decide_eq_false a2]
          have A2 := cover a2
          clear a2
          by_cases a9 : 9 < x2
          · have HD : Hid (decR (x0 :: x1 :: x2 :: x3 :: r) = (zPV, 4)) := cover (by rw [decR_3, if_neg A3.out, if_neg A2.out, if_pos a9])
            obtain ⟨q9, hq9⟩ : ∃ q : PV, Hid (q = { q4 with info := r, form := 1, kind := x2 / 4 }) := ⟨_, cover rfl⟩
            have S9 := cover (((HS5.out.setU 8 (.slice A5 r.length c5) q4 (.slice A5 r.length c5) rfl).setU 3 (.int .i64 1) { q4 with form := 1 } (.slice A5 r.length c5) rfl).setU 4 (.int .i64 (x2 / 4)) q9 (.slice A5 q9.info.length c5) (by rw [hq9.out]; rfl))
            go_wp2_with (refine wpList_store_row rfl _ _ _ rfl w.heap.size zp rfl rfl 25 zp S9.out.res pdu_size rfl zp_one ?_)
            exact bodyPost_ret (v := .tuple #[.agg zp, .int .i64 4]) (results_cell_and (by rfl) _ _ w.heap.size _ zp (0, 0) _ (.int .i64 4) rfl (setRow_heap _ _ _ _ _ _ S9.out.res) rfl Try.underlying25 rfl pdu_size) rfl (DecU.zero HD.out (Go.below_setRow S9.out.bel (Nat.le_refl _) _))
          · have A9 := cover a9
            skip
            go_wp2_with fail
            obtain ⟨q9, hq9⟩ : ∃ q : PV, Hid (q = { q4 with info := r, form := 1, kind := x2 / 4 }) := ⟨_, cover rfl⟩
            have S9 := ((HS5.out.setU 8 (.slice A5 r.length c5) q4 (.slice A5 r.length c5) rfl).setU 3 (.int .i64 1) { q4 with form := 1 } (.slice A5 r.length c5) rfl).setU 4 (.int .i64 (x2 / 4)) q9 (.slice A5 q9.info.length c5) (by rw [hq9.out]; rfl)
            have O9 : OwnB (((w5.setCell ⟨b, 8, none⟩ (.slice A5 r.length c5)).setCell ⟨b, 3, none⟩ (.int .i64 1)).setCell ⟨b, 4, none⟩ (.int .i64 (x2 / 4))) w4.heap.size (.slice A5 q9.info.length c5) q9.info := by
              have hb := HBASE.out
              rw [hq9.out]
              exact ownB_keep HO5.out (fun i hi => (Below.heap_setCell _ ⟨b, 4, none⟩ _ i (fun e => by have : i = b := e; omega)).trans ((Below.heap_setCell _ ⟨b, 3, none⟩ _ i (fun e => by have : i = b := e; omega)).trans (Below.heap_setCell w5 ⟨b, 8, none⟩ _ i (fun e => by have : i = b := e; omega))))
            generalize hw9 : ((w5.setCell ⟨b, 8, none⟩ (.slice A5 r.length c5)).setCell ⟨b, 3, none⟩ (.int .i64 1)).setCell ⟨b, 4, none⟩ (.int .i64 (x2 / 4)) = w9 at S9 O9 ⊢
            have HS9 := cover S9
            have HOW := cover O9
            clear S9 O9 hw9 p0 p1 p2 p3 p4 p5 p6 p7 p8 z8 z3 z4 z55
            have HOF : Hid (decR (x0 :: x1 :: x2 :: x3 :: r) = orForm q9) := cover (by
              rw [decR_3, if_neg A3.out, if_neg A2.out, if_neg (by have := A9.out; omega), hq9.out, hq4.out]
              rfl)
            have hmay : Calls Try.prog 17 #[.agg #[.int .i64 q4.to, .int .i64 q4.frm, .bool q4.resp, .int .i64 1, .int .i64 (x2 / 4), .int .i64 q4.ns, .int .i64 q4.nr, .bool q4.poll, .slice A5 r.length c5]] w9 fun e w' => e = .returned (.bool (mayB q9)) ∧ Below w9.heap.size w9 w' := by
              have h := ref_may_any q9 A5 c5 w9
              rw [hq9.out] at h ⊢
              exact h
            refine hmay.mono ?_
            rintro e w8 ⟨rfl, hb8⟩
            have S8 := cover (HS9.out.below hb8)
            have O8 := cover (ownB_below HOW.out hb8)
            clear hb8
            have hlt8 := S8.out.lt
            have hsz8 := S8.out.size
            rcases hm : mayB q9 with _ | _
            · have HD : Hid (decR (x0 :: x1 :: x2 :: x3 :: r) = (zPV, 4)) := cover (by rw [HOF.out]; exact orForm_no (fun h => by rw [mayB_yes h] at hm; cases hm))
              clear hm
              go_wp2_with (refine wpList_store_row rfl _ _ _ rfl w.heap.size zp rfl rfl 25 zp S8.out.res pdu_size rfl zp_one ?_)
              exact bodyPost_ret (v := .tuple #[.agg zp, .int .i64 4]) (results_cell_and (by rfl) _ _ w.heap.size _ zp (0, 0) _ (.int .i64 4) rfl (setRow_heap _ _ _ _ _ _ S8.out.res) rfl Try.underlying25 rfl pdu_size) rfl (DecU.zero HD.out (Go.below_setRow S8.out.bel (Nat.le_refl _) _))
            · have HD : Hid (decR (x0 :: x1 :: x2 :: x3 :: r) = (q9, 0)) := cover (by rw [HOF.out]; exact orForm_yes (mayB_iff.1 hm))
              clear hm
              go_wp2_with (first
                | (refine wpList_load_row rfl _ _ rfl b rfl 25 #[.int .i64 q9.to, .int .i64 q9.frm, .bool q9.resp, .int .i64 q9.form, .int .i64 q9.kind, .int .i64 q9.ns, .int .i64 q9.nr, .bool q9.poll, .slice A5 q9.info.length c5] (0, 0) _ S8.out.unit Try.underlying25 rfl pdu_size ?_)
                | (refine wpList_store_row rfl _ _ _ rfl w.heap.size #[.int .i64 q9.to, .int .i64 q9.frm, .bool q9.resp, .int .i64 q9.form, .int .i64 q9.kind, .int .i64 q9.ns, .int .i64 q9.nr, .bool q9.poll, .slice A5 q9.info.length c5] rfl rfl 25 zp S8.out.res pdu_size rfl (pdu_one _ _ _ _ _ _ _ _ _ _ _) ?_))
              exact bodyPost_ret (v := .tuple #[.agg #[.int .i64 q9.to, .int .i64 q9.frm, .bool q9.resp, .int .i64 q9.form, .int .i64 q9.kind, .int .i64 q9.ns, .int .i64 q9.nr, .bool q9.poll, .slice A5 q9.info.length c5], .int .i64 0]) (results_cell_and (by rfl) _ _ w.heap.size _ #[.int .i64 q9.to, .int .i64 q9.frm, .bool q9.resp, .int .i64 q9.form, .int .i64 q9.kind, .int .i64 q9.ns, .int .i64 q9.nr, .bool q9.poll, .slice A5 q9.info.length c5] (0, 0) _ (.int .i64 0) rfl (setRow_heap _ _ _ _ _ _ S8.out.res) rfl Try.underlying25 rfl pdu_size) rfl
                ⟨A5, c5, by rw [HD.out], by rw [HD.out]; exact (ownB_keep O8.out (fun i hi => setRow_other _ _ _ _ (by have := HBASE.out; omega))).mono (by have := HBASE.out; omega), Go.below_setRow S8.out.bel (Nat.le_refl _) _⟩
theorem ref_dec_any (A : Option Addr) (n c B : Nat) (l : List Int) (w : World) (hr : Row w B A n l) (hB : B ≤ w.heap.size) (hb : Bts l) (hc : n ≤ c) (hmax : n ≤ 140737488355328) :
    Calls Try.prog 15 #[.slice A n c] w (DecU (decR l) w) := by
  obtain rfl : l.length = n := hr.len
  by_cases h : l.length < 3
  · exact ref_dec_short A c l w h
  · match l, h, hr, hb, hc, hmax with
    | x0 :: x1 :: x2 :: r, _, hr, hb, hc, hmax =>
      rcases A with _ | ad
      · obtain ⟨ad, e, _⟩ := hr.cells 0 (by simp)
        cases e
      · exact ref_dec_long ad c B x0 x1 x2 r w hr hB hb hc hmax
    | [], h, _, _, _, _ | [_], h, _, _, _, _ | [_, _], h, _, _, _, _ => exact absurd (by simp) h
end Go.Proofs.Ytohegiphdgihpaa
