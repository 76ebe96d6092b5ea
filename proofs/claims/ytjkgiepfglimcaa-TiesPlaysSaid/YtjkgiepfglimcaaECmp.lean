/- How keys compare: bytes.Compare, cmp.Compare, cmp.Or, and the program's compare and Less. -/
import Derived.Lib.BytesEntry
import Derived.Sort.Grow
import Derived.Deep.RegionHeld3
import Derived.Deep.CutBlock
import Derived.Deep.DeepCutAuto
import Derived.Test.YtjkgiepfglimcaaEKey
namespace Go.Proofs.Ytjkgiepfglimcaa
open Go.RowKit Go.Sort
set_option linter.unusedVariables false

/-- one number against another one -/
def cmpI (x y : Int) : Int := if x < y then -1 else if y < x then 1 else 0
/-- words, number by number -/
def cmpW : List Int → List Int → Int
  | x :: a, y :: b => if x < y then -1 else if y < x then 1 else cmpW a b
  | _, _ => 0
def cmpE (a b : EK) : Int := cmpW a.word b.word
theorem cmpW_lt : ∀ a b : List Int, a.length = b.length → decide (cmpW a b < 0) = ltW a b
  | [], [], _ => rfl
  | x :: a, y :: b, h => by
    unfold cmpW ltW
    by_cases h1 : x < y
    · rw [if_pos h1, if_neg (by omega), decide_eq_true h1]; rfl
    · rw [if_neg h1]
      by_cases h2 : y < x
      · rw [if_pos h2, if_neg (by omega), decide_eq_false h1]; rfl
      · rw [if_neg h2, if_pos (by omega)]
        exact cmpW_lt a b (by simpa using h)
  | [], _ :: _, h => by simp at h
  | _ :: _, [], h => by simp at h
theorem cmpE_lt (a b : EK) : decide (cmpE a b < 0) = ltE a b := cmpW_lt _ _ rfl
/-- the first of three that is not nought -/
def or3 (a b c : Int) : Int := if a = 0 then (if b = 0 then c else b) else a
theorem cmpW_app : ∀ a b c d : List Int, a.length = b.length → cmpW (a ++ c) (b ++ d) = if cmpW a b = 0 then cmpW c d else cmpW a b
  | [], [], c, d, _ => by simp [cmpW]
  | x :: a, y :: b, c, d, h => by
    rw [List.cons_append, List.cons_append]
    unfold cmpW
    by_cases h1 : x < y
    · rw [if_pos h1, if_pos h1, if_neg (by omega)]
    · rw [if_neg h1, if_neg h1]
      by_cases h2 : y < x
      · rw [if_pos h2, if_pos h2, if_neg (by omega)]
      · rw [if_neg h2, if_neg h2]
        have := cmpW_app a b c d (by simpa using h)
        rw [this]
        cases c <;> cases d <;> simp [cmpW]
  | [], _ :: _, _, _, h => by simp at h
  | _ :: _, [], _, _, h => by simp at h
abbrev farE (k : EK) : List Int := [k.a0, k.a1, k.a2, k.a3, k.a4, k.a5]
theorem cmpE_or (a b : EK) : cmpE a b = or3 (cmpW (farE a) (farE b)) (cmpI a.near b.near) (cmpI a.there_ b.there_) := by
  have h := cmpW_app (farE a) (farE b) [a.near, a.there_] [b.near, b.there_] rfl
  have h2 := cmpW_app [a.near] [b.near] [a.there_] [b.there_] rfl
  have e1 : ∀ x y, cmpW [x] [y] = cmpI x y := fun x y => by simp [cmpW, cmpI]
  unfold cmpE or3
  rw [show a.word = farE a ++ [a.near, a.there_] from rfl, show b.word = farE b ++ [b.near, b.there_] from rfl, h]
  rw [show [a.near, a.there_] = [a.near] ++ [a.there_] from rfl, show [b.near, b.there_] = [b.near] ++ [b.there_] from rfl, h2, e1, e1]
/-- bytes, as the library compares them -/
theorem cmpW_bytes : ∀ a b : List Int, a.length = b.length → (∀ x ∈ a, U8 x) → (∀ x ∈ b, U8 x) → Lib.compareBytes (Lib.bytesOf a) (Lib.bytesOf b) = cmpW a b
  | [], [], _, _, _ => rfl
  | x :: a, y :: b, h, ha, hb => by
    have hx := u8_wf (ha x (by simp))
    have hy := u8_wf (hb y (by simp))
    have ih := cmpW_bytes a b (by simpa using h) (fun z hz => ha z (by simp [hz])) (fun z hz => hb z (by simp [hz]))
    have e : ∀ p q : Int, 0 ≤ p ∧ p ≤ 255 → 0 ≤ q ∧ q ≤ 255 → (UInt8.ofNat p.toNat < UInt8.ofNat q.toNat ↔ p < q) := fun p q hp hq => by
      rw [UInt8.lt_iff_toNat_lt, UInt8.toNat_ofNat', UInt8.toNat_ofNat']
      omega
    have e1 := e x y hx hy
    have e2 := e y x hy hx
    unfold Lib.bytesOf at ih ⊢
    rw [List.map_cons, List.map_cons]
    unfold Lib.compareBytes cmpW
    rw [ih]
    simp only [e1, e2]
  | [], _ :: _, h, _, _ => by simp at h
  | _ :: _, [], h, _, _ => by simp at h
theorem run_compareSlice {P : Program} (w : World) (xs ys : List Int) (a b : Addr) (c d : Nat) (hx : ∀ j x, xs[j]? = some x → w.cell? (a.add j) = some (.int .u8 x)) (hy : ∀ j x, ys[j]? = some x → w.cell? (b.add j) = some (.int .u8 x)) :
    (Extern.BytealgCompare.compare #[.slice (some a) xs.length c, .slice (some b) ys.length d]).run P w = .ok (.int .i64 (Lib.compareBytes (Lib.bytesOf xs) (Lib.bytesOf ys))) w := by
  change Sem.run P (do pure (goInt (Extern.BytealgCompare.cmp (← Extern.Bytes.bytesOf (.slice (some a) xs.length c)) (← Extern.Bytes.bytesOf (.slice (some b) ys.length d))))) w = _
  simp only [Extern.Bytes.bytesOf, Sem.run_bind, Sem.run_pure, Result.andThen, Lib.run_loadBytesX w xs a _ hx, Lib.run_loadBytesX w ys b _ hy]
  rw [Lib.cmp_eq]
  simp [goInt, ByteArray.empty, ByteArray.emptyWithCapacity]
  rfl
theorem bcompare_any (w : World) (xs ys : List Int) (n : Nat) (a b : Addr) (c d : Nat) (hn : xs.length = n) (hm : ys.length = n) (hx : ∀ j x, xs[j]? = some x → w.cell? (a.add j) = some (.int .u8 x)) (hy : ∀ j x, ys[j]? = some x → w.cell? (b.add j) = some (.int .u8 x)) (bx : ∀ x ∈ xs, U8 x) (bY : ∀ x ∈ ys, U8 x) :
    Calls Try.prog 28 #[.slice (some a) n c, .slice (some b) n d] w fun e w' => e = .returned (.int .i64 (cmpW xs ys)) ∧ w = w' := by
  have hov : ∀ W, W = w → (callFunc 34 #[.slice (some a) n c, .slice (some b) n d]).run Try.prog W = .ok (.value (.int .i64 (cmpW xs ys))) W := fun W hW => by
    rw [run_callFunc_extern Try.func34 (by kernel_rfl) (by kernel_rfl) (by kernel_rfl) (e := Extern.BytealgCompare.compare) (by kernel_rfl)]
    have := run_compareSlice (P := Try.prog) w xs ys a b c d hx hy
    rw [hn, hm, cmpW_bytes xs ys (by omega) bx bY] at this
    rw [hW, this]; rfl
  have h1 := hov w rfl
  clear hx hy bx bY hov
  generalize cmpW xs ys = r at h1 ⊢
  go_enter Try.func28, Try.ntmps28
  go_wp2
  go_ret
  exact ⟨rfl, rfl⟩
theorem isNaN_any (x : Int) (w : World) : Calls Try.prog 35 #[.int .i64 x] w fun e w' => e = .returned (.bool false) ∧ w = w' := by
  go_enter Try.func35, Try.ntmps35
  go_wp2
  go_ret
  exact ⟨rfl, rfl⟩
theorem ccompare_any (x y : Int) (w : World) : Calls Try.prog 29 #[.int .i64 x, .int .i64 y] w fun e w' => e = .returned (.int .i64 (cmpI x y)) ∧ w = w' := by
  have c1 := isNaN_any x
  have c2 := isNaN_any y
  by_cases h1 : x < y
  · have e : cmpI x y = -1 := by unfold cmpI; rw [if_pos h1]
    rw [e]
    clear e
    go_enter Try.func29, Try.ntmps29
    go_wp2_with (go_at_call 35; first | (refine (c1 _).mono ?_; rintro e w' ⟨rfl, rfl⟩) | (refine (c2 _).mono ?_; rintro e w' ⟨rfl, rfl⟩))
    go_ret
    exact ⟨rfl, rfl⟩
  · by_cases h2 : y < x
    · have e : cmpI x y = 1 := by unfold cmpI; rw [if_neg h1, if_pos h2]
      rw [e]
      clear e
      have h1' : y ≤ x := by omega
      go_enter Try.func29, Try.ntmps29
      go_wp2_with (go_at_call 35; first | (refine (c1 _).mono ?_; rintro e w' ⟨rfl, rfl⟩) | (refine (c2 _).mono ?_; rintro e w' ⟨rfl, rfl⟩))
      go_ret
      exact ⟨rfl, rfl⟩
    · have e : cmpI x y = 0 := by unfold cmpI; rw [if_neg h1, if_neg h2]
      rw [e]
      obtain rfl : x = y := by omega
      clear e h1 h2
      go_enter Try.func29, Try.ntmps29
      go_wp2_with (go_at_call 35; first | (refine (c1 _).mono ?_; rintro e w' ⟨rfl, rfl⟩) | (refine (c2 _).mono ?_; rintro e w' ⟨rfl, rfl⟩))
      go_ret
      exact ⟨rfl, rfl⟩
theorem or_any {w : World} {g c : Nat} {x y z : Int} (h0 : w.cell? ⟨g, 0, none⟩ = some (.int .i64 x)) (h1 : w.cell? ⟨g, 1, none⟩ = some (.int .i64 y)) (h2 : w.cell? ⟨g, 2, none⟩ = some (.int .i64 z)) :
    Calls Try.prog 27 #[.slice (some ⟨g, 0, none⟩) 3 c] w fun e w' => e = .returned (.int .i64 (or3 x y z)) ∧ w = w' := by
  have Hx : Hid (∀ j : Nat, j < 3 → ∃ v, w.cell? ⟨g, j, none⟩ = some (.int .i64 v) ∧ ((j = 0 ∧ v = x) ∨ (j = 1 ∧ v = y) ∨ (j = 2 ∧ v = z))) := cover fun j hj => by
    rcases j with _ | _ | _ | j
    · exact ⟨x, h0, .inl ⟨rfl, rfl⟩⟩
    · exact ⟨y, h1, .inr (.inl ⟨rfl, rfl⟩)⟩
    · exact ⟨z, h2, .inr (.inr ⟨rfl, rfl⟩)⟩
    · omega
  obtain ⟨R, hR⟩ : ∃ R, R = or3 x y z := ⟨_, rfl⟩
  rw [← hR]
  have HR := cover hR
  clear h0 h1 h2 hR
  go_enter Try.func27, Try.ntmps27
  go_wp2_with fail
  go_loopw [8] (fun i wr => ∃ j : Nat, j ≤ 3 ∧ i = .int .i64 j ∧ w = wr ∧ Hid ((0 < j → x = 0) ∧ (1 < j → y = 0) ∧ (2 < j → z = 0))) (fun i _ => 3 - (intOf i).toNat)
  case atStart => exact ⟨0, by omega, rfl, rfl, cover ⟨fun h => by omega, fun h => by omega, fun h => by omega⟩⟩
  case round =>
    obtain ⟨j, hj, rfl, rfl, hrel⟩ := hrel
    obtain ⟨z0, z1, z2⟩ := hrel.out
    by_cases hlt : j < 3
    · obtain ⟨v, hv, hw⟩ := Hx.out j hlt
      by_cases hv0 : v = 0
      · have HN : Hid ((0 < j + 1 → x = 0) ∧ (1 < j + 1 → y = 0) ∧ (2 < j + 1 → z = 0)) := cover ⟨fun h => by omega, fun h => by omega, fun h => by omega⟩
        subst hv0
        clear hrel z0 z1 z2 hw
        go_wp2
        go_roundw
        case rel => exact ⟨j + 1, by omega, by go_num, by first | rfl | trivial, HN⟩
        case measure => simp [intOf]; omega
      · have HN : Hid (v = R) := cover (by
          rw [HR.out]; unfold or3
          rcases hw with ⟨rfl, rfl⟩ | ⟨rfl, rfl⟩ | ⟨rfl, rfl⟩
          · rw [if_neg hv0]
          · rw [if_pos (z0 (by omega)), if_neg hv0]
          · rw [if_pos (z0 (by omega)), if_pos (z1 (by omega))])
        clear hrel z0 z1 z2 hw
        go_wp2
        go_ret
        rw [HN.out]
        exact ⟨rfl, rfl⟩
    · obtain rfl : j = 3 := by omega
      have HN : Hid ((0 : Int) = R) := cover (by rw [HR.out]; unfold or3; rw [if_pos (z0 (by omega)), if_pos (z1 (by omega)), z2 (by omega)])
      clear hrel z0 z1 z2
      go_wp2
      go_ret
      rw [HN.out]
      exact ⟨rfl, rfl⟩
/-- draws, and blocks behind what there is: nothing else -/
def GrowN (w w' : World) : Prop := ∃ q os, w' = grow (w.drewN q) os
theorem GrowN.refl (w : World) : GrowN w w := ⟨0, #[], by rw [grow_empty]; rfl⟩
theorem GrowN.alloc {w w' : World} (h : GrowN w w') (o : Obj) : GrowN w (w'.alloc o) := by
  obtain ⟨q, os, rfl⟩ := h
  exact ⟨q, os ++ #[o], by rw [alloc_eq_grow, grow_grow]⟩
theorem GrowN.drewN {w w' : World} (h : GrowN w w') (n : Nat) : GrowN w (w'.drewN n) := by
  obtain ⟨q, os, rfl⟩ := h
  exact ⟨q + n, os, by show grow ((w.drewN q).drewN n) os = _; rw [World.drewN_drewN]⟩
theorem GrowN.trans {w w' w'' : World} (h : GrowN w w') (h' : GrowN w' w'') : GrowN w w'' := by
  obtain ⟨q, os, rfl⟩ := h
  obtain ⟨q', os', rfl⟩ := h'
  refine ⟨q + q', os ++ os', ?_⟩
  rw [← grow_grow]; show grow (grow ((w.drewN q).drewN q') os) os' = _; rw [World.drewN_drewN]
theorem GrowN.below {w w' : World} (h : GrowN w w') : Below w.heap.size w w' := by
  obtain ⟨q, os, rfl⟩ := h
  refine ⟨rfl, rfl, rfl, by simp, fun k hk => ?_⟩
  rw [heap_grow_old _ _ (by simpa using hk)]; rfl
abbrev CellsK (w : World) (g : Nat) (k : EK) : Prop := w.cell? ⟨g, 0, none⟩ = some (.int .u8 k.a0) ∧ w.cell? ⟨g, 1, none⟩ = some (.int .u8 k.a1) ∧ w.cell? ⟨g, 2, none⟩ = some (.int .u8 k.a2) ∧ w.cell? ⟨g, 3, none⟩ = some (.int .u8 k.a3) ∧ w.cell? ⟨g, 4, none⟩ = some (.int .u8 k.a4) ∧ w.cell? ⟨g, 5, none⟩ = some (.int .u8 k.a5) ∧ w.cell? ⟨g, 6, none⟩ = some (.int .i64 k.near) ∧ w.cell? ⟨g, 7, none⟩ = some (.int .i64 k.there_)
theorem cells_of_key {w : World} {g : Nat} {k : EK} {t : TypeId} {fr : Nat × Nat} (h : w.heap[g]? = some (.cells #[.int .u8 k.a0, .int .u8 k.a1, .int .u8 k.a2, .int .u8 k.a3, .int .u8 k.a4, .int .u8 k.a5, .int .i64 k.near, .int .i64 k.there_] t fr)) : CellsK w g k :=
  ⟨by rw [cell_of_row _ _ _ _ _ _ h]; rfl, by rw [cell_of_row _ _ _ _ _ _ h]; rfl, by rw [cell_of_row _ _ _ _ _ _ h]; rfl, by rw [cell_of_row _ _ _ _ _ _ h]; rfl, by rw [cell_of_row _ _ _ _ _ _ h]; rfl, by rw [cell_of_row _ _ _ _ _ _ h]; rfl, by rw [cell_of_row _ _ _ _ _ _ h]; rfl, by rw [cell_of_row _ _ _ _ _ _ h]; rfl⟩
theorem CellsK.below {w w' : World} {g : Nat} {k : EK} (h : CellsK w g k) (hg : g < w.heap.size) (hb : Below w.heap.size w w') : CellsK w' g k := by
  obtain ⟨h0, h1, h2, h3, h4, h5, h6, h7⟩ := h
  exact ⟨(hb.cell (p := ⟨g, 0, none⟩) hg).trans h0, (hb.cell (p := ⟨g, 1, none⟩) hg).trans h1, (hb.cell (p := ⟨g, 2, none⟩) hg).trans h2, (hb.cell (p := ⟨g, 3, none⟩) hg).trans h3, (hb.cell (p := ⟨g, 4, none⟩) hg).trans h4, (hb.cell (p := ⟨g, 5, none⟩) hg).trans h5, (hb.cell (p := ⟨g, 6, none⟩) hg).trans h6, (hb.cell (p := ⟨g, 7, none⟩) hg).trans h7⟩
theorem CellsK.far {w : World} {g : Nat} {k : EK} (h : CellsK w g k) : ∀ j x, (farE k)[j]? = some x → w.cell? ((⟨g, 0, none⟩ : Addr).add j) = some (.int .u8 x) := by
  obtain ⟨h0, h1, h2, h3, h4, h5, h6, h7⟩ := h
  intro j x hj
  rw [add_off, Nat.zero_add]
  rcases j with _ | _ | _ | _ | _ | _ | j
  · simp at hj; subst hj; exact h0
  · simp at hj; subst hj; exact h1
  · simp at hj; subst hj; exact h2
  · simp at hj; subst hj; exact h3
  · simp at hj; subst hj; exact h4
  · simp at hj; subst hj; exact h5
  · simp at hj
theorem far_ok {k : EK} (h : OkE k) : ∀ x ∈ farE k, U8 x := by
  intro x hx
  simp at hx
  rcases hx with rfl | rfl | rfl | rfl | rfl | rfl
  · exact h.b0
  · exact h.b1
  · exact h.b2
  · exact h.b3
  · exact h.b4
  · exact h.b5
set_option maxRecDepth 100000 in
set_option maxHeartbeats 1600000 in
theorem compare_any {a b : EK} (ha : OkE a) (hb : OkE b) (w : World) : Calls Try.prog 25 #[keyV a, keyV b] w fun e w' => e = .returned (.int .i64 (cmpE a b)) ∧ GrowN w w' := by
  have HE := cover (cmpE_or a b)
  obtain ⟨R, hR⟩ : ∃ R, R = cmpE a b := ⟨_, rfl⟩
  rw [← hR]
  have HR := cover hR
  clear hR
  obtain ⟨w2, hw2⟩ : ∃ w2, w2 = (w.alloc (.cells #[.int .u8 a.a0, .int .u8 a.a1, .int .u8 a.a2, .int .u8 a.a3, .int .u8 a.a4, .int .u8 a.a5, .int .i64 a.near, .int .i64 a.there_] 28)).alloc (.cells #[.int .u8 b.a0, .int .u8 b.a1, .int .u8 b.a2, .int .u8 b.a3, .int .u8 b.a4, .int .u8 b.a5, .int .i64 b.near, .int .i64 b.there_] 28) := ⟨_, rfl⟩
  have hg2 : GrowN w w2 := by rw [hw2]; exact ((GrowN.refl w).alloc _).alloc _
  have k1 : CellsK w2 w.heap.size a := cells_of_key (t := 28) (fr := (0, 0)) (by
    rw [hw2, Below.heap_alloc _ _ _ (by simp)]; exact heap_alloc_new _ _)
  have k2 : CellsK w2 (w.heap.size + 1) b := cells_of_key (t := 28) (fr := (0, 0)) (by
    have := heap_alloc_new (w.alloc (.cells #[.int .u8 a.a0, .int .u8 a.a1, .int .u8 a.a2, .int .u8 a.a3, .int .u8 a.a4, .int .u8 a.a5, .int .i64 a.near, .int .i64 a.there_] 28)) (.cells #[.int .u8 b.a0, .int .u8 b.a1, .int .u8 b.a2, .int .u8 b.a3, .int .u8 b.a4, .int .u8 b.a5, .int .i64 b.near, .int .i64 b.there_] 28)
    rw [World.size_alloc] at this
    rw [hw2]; exact this)
  have hs2 : w2.heap.size = w.heap.size + 2 := by rw [hw2]; simp
  have HS : Hid (∀ W, GrowN w2 W → CellsK W w.heap.size a ∧ CellsK W (w.heap.size + 1) b ∧ GrowN w2 W) := cover fun W h => ⟨k1.below (by omega) h.below, k2.below (by omega) h.below, h⟩
  have HG := cover hg2
  obtain ⟨rw_, hrw⟩ : ∃ r, r = cmpW (farE a) (farE b) := ⟨_, rfl⟩
  obtain ⟨rn, hrn⟩ : ∃ r, r = cmpI a.near b.near := ⟨_, rfl⟩
  obtain ⟨rt, hrt⟩ : ∃ r, r = cmpI a.there_ b.there_ := ⟨_, rfl⟩
  have CB : Hid (∀ W, GrowN w2 W → Calls Try.prog 28 #[.slice (some ⟨w.heap.size, 0, none⟩) 6 6, .slice (some ⟨w.heap.size + 1, 0, none⟩) 6 6] W fun e w' => e = .returned (.int .i64 rw_) ∧ W = w') := cover fun W h => by
    rw [hrw]
    exact bcompare_any W (farE a) (farE b) 6 _ _ 6 6 rfl rfl (HS.out W h).1.far (HS.out W h).2.1.far (far_ok ha) (far_ok hb)
  have CN : Hid (∀ W, Calls Try.prog 29 #[.int .i64 a.near, .int .i64 b.near] W fun e w' => e = .returned (.int .i64 rn) ∧ W = w') := cover fun W => by rw [hrn]; exact ccompare_any _ _ W
  have CT : Hid (∀ W, Calls Try.prog 29 #[.int .i64 a.there_, .int .i64 b.there_] W fun e w' => e = .returned (.int .i64 rt) ∧ W = w') := cover fun W => by rw [hrt]; exact ccompare_any _ _ W
  have CO : Hid (Calls Try.prog 27 #[.slice (some ⟨w2.heap.size, 0, none⟩) 3 3] (w2.alloc (.cells #[.int .i64 rw_, .int .i64 rn, .int .i64 rt] 3)).drew fun e w' => e = .returned (.int .i64 R) ∧ (w2.alloc (.cells #[.int .i64 rw_, .int .i64 rn, .int .i64 rt] 3)).drew = w') := cover (by
    rw [HR.out, HE.out, ← hrw, ← hrn, ← hrt]
    have hn := heap_alloc_new w2 (.cells #[.int .i64 rw_, .int .i64 rn, .int .i64 rt] 3)
    exact or_any (w := (w2.alloc (.cells #[.int .i64 rw_, .int .i64 rn, .int .i64 rt] 3)).drew) (g := w2.heap.size) (by show (w2.alloc _).cell? _ = _; rw [cell_of_row _ _ _ _ _ _ hn]; rfl) (by show (w2.alloc _).cell? _ = _; rw [cell_of_row _ _ _ _ _ _ hn]; rfl) (by show (w2.alloc _).cell? _ = _; rw [cell_of_row _ _ _ _ _ _ hn]; rfl))
  clear hrw hrn hrt ha hb k1 k2 hg2 hs2
  go_enter Try.func25, Try.ntmps25
  go_upto_region 1 with fail
  rw [← hw2]
  clear hw2
  go_region_held3 (fun W => CellsK W w.heap.size a ∧ CellsK W (w.heap.size + 1) b ∧ GrowN w2 W)
    (first
      | exact HS.out _ ((GrowN.refl _).drewN 1)
      | exact HS.out _ (((GrowN.refl _).drewN 1).alloc _))
    (first
      | (go_at_call 28; refine (CB.out _ ?_).mono ?_; (go_split_ands; assumption); rintro e wX ⟨rfl, rfl⟩)
      | (go_at_call 29; (first | (with_reducible refine (CN.out _).mono ?_) | (with_reducible refine (CT.out _).mono ?_)); rintro e wX ⟨rfl, rfl⟩)
      | (go_at_call 27; refine CO.out.mono ?_; rintro e wX ⟨rfl, rfl⟩))
  clear CO CT CN CB HS HE HR
  go_wp2
  go_ret
  exact ⟨rfl, HG.out.trans (((GrowN.refl w2).alloc _).drewN 1)⟩
/-- Less: is the one ahead of the other? -/
theorem less_any {a b : EK} (ha : OkE a) (hb : OkE b) (w : World) : Calls Try.prog 14 #[keyV a, keyV b] w fun e w' => e = .returned (.bool (ltE a b)) ∧ Below w.heap.size w w' := by
  have C := compare_any ha hb
  have HE := cover (cmpE_lt a b)
  generalize cmpE a b = R at C HE
  have HC := cover C
  clear C ha hb
  rw [← HE.out]
  clear HE
  go_enter Try.func14, Try.ntmps14
  go_wp2_with fail
  refine (HC.out _).mono ?_
  rintro e w' ⟨rfl, hg⟩
  have hb := cover ((((GrowN.refl w).alloc _).alloc _).trans hg).below
  clear hg
  go_wp2
  go_ret
  exact ⟨rfl, hb.out⟩
end Go.Proofs.Ytjkgiepfglimcaa
