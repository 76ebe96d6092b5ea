/- What the document's own Hear hands back. -/
import Derived.Deep.CutBlock
import Derived.Deep.DeepCutAuto
import Derived.ArgAppend
import Derived.Test.YtgpmimohoepeiaaTRef
import Derived.Test.YtgpmimohoepeiaaOCopy
import Derived.Test.YtgpmimohoepeiaaSDo
import Derived.Test.YtgpmimohoepeiaaHHear
namespace Go.Proofs.Ytgpmimohoepeiaa
open Go.RowKit
set_option linter.unusedVariables false
set_option linter.unusedSimpArgs false

theorem RHas.ok {B : Nat} {w : World} {r : Nat} {l : List SV} (h : RHas B w r l) : InS l := by
  obtain ⟨V, us, rfl, h1, _⟩ := h; exact h1.ok
theorem typeP_one {p : PV} : typeP p = 1 ↔ IsOne p := by
  constructor
  · intro h
    by_cases hm : MayP p
    · rw [typeP_yes hm] at h
      by_cases hf : p.form = 2
      · rw [if_neg (by omega)] at h
        by_cases hk : p.kind = 0 ∨ p.kind = 1 ∨ p.kind = 2
        · exact ⟨hm, hf, by omega⟩
        · rw [if_neg hk] at h; split at h <;> omega
      · rw [if_pos hf] at h; omega
    · rw [typeP_no hm] at h; omega
  · intro h
    rw [typeP_yes h.1, if_neg (by have := h.2.1; omega), if_pos h.kinds]
/-- one more in a row -/
theorem IndsIn.app {B : Nat} {w : World} {v : Value} {xs : List IV} (h : IndsIn B w v xs) (hB : B ≤ w.heap.size) (y : IV) {A : Option Addr} {c z : Nat} (hi : InfI w (y, A, c)) (hc : w.heap[z]? = some (.cells (cellsI (y, A, c)).toArray 60 (0, 0))) (hbig : xs.length ≤ 1000) :
    Appends Try.prog 32 w v (.slice (some ⟨z, 0, none⟩) 1 1) (fun v' w' => (∃ A' c', v' = .slice A' (xs.length + 1) c') ∧ Hid (IndsIn B w' v' (xs ++ [y]) ∧ KeepO (isTyO 60) w w' ∧ ∀ w0, Below B w0 w → Below B w0 w')) := by
  obtain ⟨us, rfl, h1, h2⟩ := h.ex
  intro ty
  obtain ⟨v', w', hr, k1, k2⟩ := OwnIs.app h1 hB (y, A, c) hc (by rw [List.length_map] at hbig; omega) ty
  have kp := KeepO.grown h1 k2
  have hin : IndsIn B w' v' (us.map (·.1) ++ [y]) := ⟨us ++ [(y, A, c)], by rw [List.map_append]; rfl, k1, fun u hu => by
    rcases List.mem_append.1 hu with hu | hu
    · exact own_typed (h2 u hu) kp (fun _ _ => ty_ne (by decide) _ _)
    · obtain rfl : u = (y, A, c) := by simpa using hu
      exact own_typed hi kp (fun _ _ => ty_ne (by decide) _ _)⟩
  obtain ⟨A', c', e⟩ := hin.shape
  exact ⟨v', w', hr, ⟨A', c', by rw [e, List.length_append]; rfl⟩, cover ⟨hin, kp, fun w0 hb => below_grown hb hB h1 k2⟩⟩
theorem PdusIn.app {B : Nat} {w : World} {v : Value} {xs : List PV} (h : PdusIn B w v xs) (hB : B ≤ w.heap.size) (y : PV) {A : Option Addr} {c z : Nat} (hi : InfP w (y, A, c)) (hc : w.heap[z]? = some (.cells (cellsP (y, A, c)).toArray 29 (0, 0))) (hbig : xs.length ≤ 1000) :
    Appends Try.prog 33 w v (.slice (some ⟨z, 0, none⟩) 1 1) (fun v' w' => (∃ A' c', v' = .slice A' (xs.length + 1) c') ∧ Hid (PdusIn B w' v' (xs ++ [y]) ∧ KeepO (isTyO 29) w w' ∧ ∀ w0, Below B w0 w → Below B w0 w')) := by
  obtain ⟨us, rfl, h1, h2⟩ := h.ex
  intro ty
  obtain ⟨v', w', hr, k1, k2⟩ := OwnPs.app h1 hB (y, A, c) hc (by rw [List.length_map] at hbig; omega) ty
  have kp := KeepO.grown h1 k2
  have hin : PdusIn B w' v' (us.map (·.1) ++ [y]) := ⟨us ++ [(y, A, c)], by rw [List.map_append]; rfl, k1, fun u hu => by
    rcases List.mem_append.1 hu with hu | hu
    · exact own_typed (h2 u hu) kp (fun _ _ => ty_ne (by decide) _ _)
    · obtain rfl : u = (y, A, c) := by simpa using hu
      exact own_typed hi kp (fun _ _ => ty_ne (by decide) _ _)⟩
  obtain ⟨A', c', e⟩ := hin.shape
  exact ⟨v', w', hr, ⟨A', c', by rw [e, List.length_append]; rfl⟩, cover ⟨hin, kp, fun w0 hb => below_grown hb hB h1 k2⟩⟩
theorem IndsIn.mono {B B' : Nat} {w : World} {v : Value} {xs : List IV} (h : IndsIn B w v xs) (hb : B' ≤ B) : IndsIn B' w v xs := by
  obtain ⟨us, h0, h1, h2⟩ := h.ex; exact ⟨us, h0, own_base h1 hb, h2⟩
theorem PdusIn.mono {B B' : Nat} {w : World} {v : Value} {xs : List PV} (h : PdusIn B w v xs) (hb : B' ≤ B) : PdusIn B' w v xs := by
  obtain ⟨us, h0, h1, h2⟩ := h.ex; exact ⟨us, h0, own_base h1 hb, h2⟩
/-- the station itself, and those behind it -/
theorem append_zero {w : World} {y n base : Nat} {gv : Value} {l : List Int} (hy : w.heap[y]? = some (.cells #[.int .i64 0] 3 (0, 0))) (hby : base ≤ y) (hbs : base ≤ w.heap.size) (hg : w.ownsRow 0 3 1 gv n (l.map (Value.int .i64))) (hbig : n ≤ 1000) :
    Appends Try.prog 57 w (.slice (some ⟨y, 0, none⟩) 1 1) gv (fun v' w' => (∃ A' c', v' = .slice A' (n + 1) c') ∧ Hid (w'.ownsRow 0 3 1 v' (n + 1) ((0 :: l).map (Value.int .i64)) ∧ ∀ w0, Below base w0 w → Below base w0 w')) := by
  have hown : w.ownsRow base 3 1 (.slice (some ⟨y, 0, none⟩) 1 1) 1 (([0] : List Int).map (Value.int .i64)) := ⟨rfl, .inr ⟨y, 1, #[.int .i64 0], rfl, hby, hy, Nat.le_refl _, by unfold maxLen; omega, rfl, rfl⟩⟩
  intro ty
  by_cases h0 : n = 0
  · subst h0
    have hl : l = [] := by have := hg.1; simp at this; exact this
    subst hl
    obtain ⟨i0, hi, hz0, hz1, hz2⟩ := info_parts int_info
    obtain ⟨A, c, rfl, _⟩ := own_shape hg
    have hs : Src Try.prog i0.size 57 (.slice A 0 c) 0 [] w := by
      cases A with
      | none => exact Src.ofNil w Try.underlying57 c
      | some ad => exact Src.ofSlice w Try.underlying57 ad 0 c [] (by simp) (fun j u hj => by simp at hj) (fun u hu => by cases hu)
    exact ⟨_, _, run_append_nothing w 57 57 ty 3 i0 Try.underlying57 hi (some ⟨y, 0, none⟩) 1 1 (Nat.le_refl _) _ hs, ⟨_, _, rfl⟩, cover ⟨own_base hown (Nat.zero_le _), fun w0 hb => hb⟩⟩
  · rcases hg.2 with ⟨hv, h1⟩ | ⟨g', c', cur, hv, _, hh, _⟩
    · omega
    · subst hv
      obtain ⟨v', w', hr, k1, k2⟩ := append_i hown ⟨g', 0, none⟩ n c' l (by have := hg.1; simpa using this) (fun j u hj => by
        have hjl := (List.getElem?_eq_some_iff.1 hj).1
        rw [hg.1] at hjl
        have := World.ownsRow.cellAt hg j (by omega)
        rw [hj] at this
        rw [add_off, Nat.zero_add]
        exact this) hbs (by omega) ty
      obtain ⟨A', c2, e, _⟩ := own_shape k1
      rw [Nat.add_comm 1 n] at k1 e
      exact ⟨v', w', hr, ⟨A', c2, e⟩, cover ⟨own_base k1 (Nat.zero_le _), fun w0 hb => below_grown hb hbs hown k2⟩⟩
theorem rtypes_any (c : Int) (h0 : 0 ≤ c) (h4 : c ≤ 4) (w : World) : Calls Try.prog 28 #[.int .i64 c] w fun e w' => e = .returned (.int .i64 (if c = 0 then 0 else typS c)) ∧ Below w.heap.size w w' := by
  have hb : Below w.heap.size w (w.alloc (.cells #[.int .i64 0, .int .i64 1, .int .i64 3, .int .i64 5, .int .i64 7] 3)) := (Below.refl _ _).alloc (Nat.le_refl _) _
  have hc : c = 0 ∨ c = 1 ∨ c = 2 ∨ c = 3 ∨ c = 4 := by omega
  have HB := cover hb
  clear hb
  rcases hc with rfl | rfl | rfl | rfl | rfl
  all_goals
    go_enter Try.func28, Try.ntmps28
    go_wp2
    go_ret
    exact ⟨rfl, HB.out⟩
/-- at the head of a round: those who hear; what has been gathered -/
structure RI (w1 : World) (B : Nat) (A : Option Addr) (n c : Nat) (L : List Int) (xs : List IV) (v : Value) (wr : World) : Prop where
  row : wr.ownsRow 0 3 1 (.slice A n c) n (L.map (Value.int .i64))
  bel : Below B w1 wr
  ex : IndsIn B wr v xs
structure RP (w1 : World) (B : Nat) (A : Option Addr) (n c : Nat) (L : List Int) (xs : List PV) (v : Value) (wr : World) : Prop where
  row : wr.ownsRow 0 3 1 (.slice A n c) n (L.map (Value.int .i64))
  bel : Below B w1 wr
  ex : PdusIn B wr v xs
/-- what the operations of a response's region yield -/
def VRsp (B : Nat) (L0 : Nat) (p : PV) (x : Int) : Nat → Value → World → Prop
  | 12, v, w => ∃ A c, v = .slice A L0 c ∧ OwnB w B (.slice A p.info.length c) p.info
  | 13, v, w => ∃ A c, v = .agg #[.int .i64 p.frm, .int .i64 x, .bool true, .int .i64 2, .int .i64 p.kind, .int .i64 0, .int .i64 0, .bool p.poll, .slice A L0 c] ∧ OwnB w B (.slice A p.info.length c) p.info
  | 14, v, w => ∃ z, v = ptr z ∧ B ≤ z ∧ w.heap[z]? = some (.cells zp 29 (0, 0))
  | _, _, _ => True
theorem VRsp.stable {B L0 : Nat} {p : PV} {x : Int} (i : Nat) (v : Value) (w w' : World) (hb : Below w.heap.size w w') (h : VRsp B L0 p x i v w) : VRsp B L0 p x i v w' := by
  unfold VRsp at h ⊢
  split at h
  · obtain ⟨A, c, h1, h2⟩ := h; exact ⟨A, c, h1, ownB_below h2 hb⟩
  · obtain ⟨A, c, h1, h2⟩ := h; exact ⟨A, c, h1, ownB_below h2 hb⟩
  · obtain ⟨z, h1, h2, h3⟩ := h; exact ⟨z, h1, h2, (hb.block z (block_lt h3)).trans h3⟩
  · trivial
set_option maxRecDepth 100000 in
set_option maxHeartbeats 6400000 in
theorem rhear_no {Bs : Nat} {w : World} {r : Nat} {l : List SV} (h : RHas Bs w r l) (pe : A6) (p : PV) (Ap : Option Addr) (cp : Nat) (hr : Row w w.heap.size Ap p.info.length p.info) (hpl : p.info.length ≤ 140737488355328) (hno : ¬ IsOne p) :
    Calls Try.prog 22 #[ptr r, .agg #[.int .u8 pe.a0, .int .u8 pe.a1, .int .u8 pe.a2, .int .u8 pe.a3, .int .u8 pe.a4, .int .u8 pe.a5], .agg #[.int .i64 p.to, .int .i64 p.frm, .bool p.resp, .int .i64 p.form, .int .i64 p.kind, .int .i64 p.ns, .int .i64 p.nr, .bool p.poll, .slice Ap p.info.length cp]] w (HearOut (toldP l pe p) (sentP l p) w) := by
  obtain ⟨b, hb⟩ : ∃ b, w.heap.size = b := ⟨_, rfl⟩
  have HB := cover hb
  obtain ⟨L0, hL0⟩ : ∃ L0, L0 = p.info.length := ⟨_, rfl⟩
  have HL0 := cover hL0
  have HT := cover (fun W => ref_type_any p Ap cp W)
  rw [← hL0] at HT ⊢
  obtain ⟨w1, hw1⟩ : ∃ w1, w1 = (w.alloc (.cells #[.int .u8 pe.a0, .int .u8 pe.a1, .int .u8 pe.a2, .int .u8 pe.a3, .int .u8 pe.a4, .int .u8 pe.a5] 37)).alloc (.cells #[.int .i64 p.to, .int .i64 p.frm, .bool p.resp, .int .i64 p.form, .int .i64 p.kind, .int .i64 p.ns, .int .i64 p.nr, .bool p.poll, .slice Ap L0 cp] 29) := ⟨_, rfl⟩
  have hb1 : Below b w w1 := by rw [hw1, ← hb]; exact ((Below.refl _ _).alloc (Nat.le_refl _) _).alloc (by simp) _
  have hs1 : w1.heap.size = b + 2 := by rw [hw1]; simp [hb]
  have g0 : w1.heap[b]? = some (.cells #[.int .u8 pe.a0, .int .u8 pe.a1, .int .u8 pe.a2, .int .u8 pe.a3, .int .u8 pe.a4, .int .u8 pe.a5] 37 (0, 0)) := by rw [hw1, ← hb]; exact heap_alloc2_old _ _ _
  have g1 : w1.heap[b + 1]? = some (.cells #[.int .i64 p.to, .int .i64 p.frm, .bool p.resp, .int .i64 p.form, .int .i64 p.kind, .int .i64 p.ns, .int .i64 p.nr, .bool p.poll, .slice Ap L0 cp] 29 (0, 0)) := by rw [hw1, ← hb]; exact heap_alloc2_new _ _ _
  have HCell : Hid (∀ W, Below (b + 2) w1 W → (W.cell? ⟨b, 0, none⟩ = some (.int .u8 pe.a0) ∧ W.cell? ⟨b, 1, none⟩ = some (.int .u8 pe.a1) ∧ W.cell? ⟨b, 2, none⟩ = some (.int .u8 pe.a2) ∧ W.cell? ⟨b, 3, none⟩ = some (.int .u8 pe.a3) ∧ W.cell? ⟨b, 4, none⟩ = some (.int .u8 pe.a4) ∧ W.cell? ⟨b, 5, none⟩ = some (.int .u8 pe.a5)) ∧ (W.cell? ⟨b + 1, 0, none⟩ = some (.int .i64 p.to) ∧ W.cell? ⟨b + 1, 1, none⟩ = some (.int .i64 p.frm) ∧ W.cell? ⟨b + 1, 2, none⟩ = some (.bool p.resp) ∧ W.cell? ⟨b + 1, 3, none⟩ = some (.int .i64 p.form) ∧ W.cell? ⟨b + 1, 4, none⟩ = some (.int .i64 p.kind) ∧ W.cell? ⟨b + 1, 5, none⟩ = some (.int .i64 p.ns) ∧ W.cell? ⟨b + 1, 6, none⟩ = some (.int .i64 p.nr) ∧ W.cell? ⟨b + 1, 7, none⟩ = some (.bool p.poll) ∧ W.cell? ⟨b + 1, 8, none⟩ = some (.slice Ap L0 cp))) := cover fun W hW => by
    have e0 := (hW.block b (by omega)).trans g0
    have e1 := (hW.block (b + 1) (by omega)).trans g1
    refine ⟨⟨?_, ?_, ?_, ?_, ?_, ?_⟩, pdu_cells e1⟩
    all_goals (rw [cell_of_row _ _ _ _ _ _ e0]; rfl)
  have HSz : Hid (∀ W, Below (b + 2) w1 W → b + 2 ≤ W.heap.size) := cover fun W hW => by rw [← hs1]; exact hW.size
  have HRow : Hid (∀ W, Below (b + 2) w1 W → Row W b Ap p.info.length p.info) := cover fun W hW => by
    have h1 := hr
    rw [hb] at h1
    exact (h1.below hb1).below (hW.mono (by omega))
  have HRH : Hid (∀ W, Below (b + 2) w1 W → RHas Bs W r l) := cover fun W hW => h.below (by rw [hb]; exact hb1.trans (hW.mono (by omega)))
  have HOut : Hid (∀ W, Below (b + 2) w1 W → Below b w W) := cover fun W hW => hb1.trans (hW.mono (by omega))
  have hin := cover h.ok
  have mixed : Try.prog.follows .mixedOrders = true := by kernel_rfl
  obtain ⟨ty, hty⟩ : ∃ ty, ty = typeP p := ⟨_, rfl⟩
  rw [← hty] at HT
  have HTY := cover hty
  have hB0 : Below (b + 2) w1 w1 := Below.refl _ _
  have hsub : Below w1.heap.size w1 w1 := Below.refl _ _
  obtain ⟨_, p0, p1, p2, p3, p4, p5, p6, p7, p8⟩ := HCell.out w1 hB0
  have HS1 := cover hs1
  clear h hr g0 g1 hb1 hty hL0 hb
  have hty1 : (ty != 1) = true := by
    have : ty ≠ 1 := by rw [HTY.out]; exact fun e => hno (typeP_one.1 e)
    simpa using this
  have HN : Hid (∀ W, Below (b + 2) w1 W → HearOut (toldP l pe p) (sentP l p) w (.returned (.tuple #[.slice none 0 0, .slice none 0 0])) W) := cover fun W hW => by
    rw [toldP_no hno, sentP_no hno]
    exact ⟨none, 0, none, 0, rfl, cover ⟨IndsIn.nil _ _, PdusIn.nil _ _, by rw [HB.out]; exact HOut.out W hW⟩⟩
  clear hno
  go_enter Try.func22, Try.ntmps22
  go_upto_region 1 with fail
  rw [← hw1, HB.out]
  clear hw1
  go_wp2_with fail
  refine (HT.out w1).mono ?_
  rintro e w2 ⟨rfl, hb2⟩
  rw [HS1.out] at hb2
  clear p0 p1 p2 p3 p4 p5 p6 p7 p8 HT hs1 hsub hB0
  have HN2 := cover (HN.out w2 hb2)
  clear HN hb2 HCell HSz HRow HRH HOut
  go_wp2
  go_ret2
  exact HN2.out
set_option maxRecDepth 100000 in
set_option maxHeartbeats 6400000 in
theorem rhear_ui {Bs : Nat} {w : World} {r : Nat} {l : List SV} (h : RHas Bs w r l) (pe : A6) (p : PV) (Ap : Option Addr) (cp : Nat) (hr : Row w w.heap.size Ap p.info.length p.info) (hpl : p.info.length ≤ 140737488355328) (hone : IsOne p) (hk : p.kind = 0) :
    Calls Try.prog 22 #[ptr r, .agg #[.int .u8 pe.a0, .int .u8 pe.a1, .int .u8 pe.a2, .int .u8 pe.a3, .int .u8 pe.a4, .int .u8 pe.a5], .agg #[.int .i64 p.to, .int .i64 p.frm, .bool p.resp, .int .i64 p.form, .int .i64 p.kind, .int .i64 p.ns, .int .i64 p.nr, .bool p.poll, .slice Ap p.info.length cp]] w (HearOut (toldP l pe p) (sentP l p) w) := by
  obtain ⟨b, hb⟩ : ∃ b, w.heap.size = b := ⟨_, rfl⟩
  have HB := cover hb
  obtain ⟨L0, hL0⟩ : ∃ L0, L0 = p.info.length := ⟨_, rfl⟩
  have HL0 := cover hL0
  have HT := cover (fun W => ref_type_any p Ap cp W)
  rw [← hL0] at HT ⊢
  obtain ⟨w1, hw1⟩ : ∃ w1, w1 = (w.alloc (.cells #[.int .u8 pe.a0, .int .u8 pe.a1, .int .u8 pe.a2, .int .u8 pe.a3, .int .u8 pe.a4, .int .u8 pe.a5] 37)).alloc (.cells #[.int .i64 p.to, .int .i64 p.frm, .bool p.resp, .int .i64 p.form, .int .i64 p.kind, .int .i64 p.ns, .int .i64 p.nr, .bool p.poll, .slice Ap L0 cp] 29) := ⟨_, rfl⟩
  have hb1 : Below b w w1 := by rw [hw1, ← hb]; exact ((Below.refl _ _).alloc (Nat.le_refl _) _).alloc (by simp) _
  have hs1 : w1.heap.size = b + 2 := by rw [hw1]; simp [hb]
  have g0 : w1.heap[b]? = some (.cells #[.int .u8 pe.a0, .int .u8 pe.a1, .int .u8 pe.a2, .int .u8 pe.a3, .int .u8 pe.a4, .int .u8 pe.a5] 37 (0, 0)) := by rw [hw1, ← hb]; exact heap_alloc2_old _ _ _
  have g1 : w1.heap[b + 1]? = some (.cells #[.int .i64 p.to, .int .i64 p.frm, .bool p.resp, .int .i64 p.form, .int .i64 p.kind, .int .i64 p.ns, .int .i64 p.nr, .bool p.poll, .slice Ap L0 cp] 29 (0, 0)) := by rw [hw1, ← hb]; exact heap_alloc2_new _ _ _
  have HCell : Hid (∀ W, Below (b + 2) w1 W → (W.cell? ⟨b, 0, none⟩ = some (.int .u8 pe.a0) ∧ W.cell? ⟨b, 1, none⟩ = some (.int .u8 pe.a1) ∧ W.cell? ⟨b, 2, none⟩ = some (.int .u8 pe.a2) ∧ W.cell? ⟨b, 3, none⟩ = some (.int .u8 pe.a3) ∧ W.cell? ⟨b, 4, none⟩ = some (.int .u8 pe.a4) ∧ W.cell? ⟨b, 5, none⟩ = some (.int .u8 pe.a5)) ∧ (W.cell? ⟨b + 1, 0, none⟩ = some (.int .i64 p.to) ∧ W.cell? ⟨b + 1, 1, none⟩ = some (.int .i64 p.frm) ∧ W.cell? ⟨b + 1, 2, none⟩ = some (.bool p.resp) ∧ W.cell? ⟨b + 1, 3, none⟩ = some (.int .i64 p.form) ∧ W.cell? ⟨b + 1, 4, none⟩ = some (.int .i64 p.kind) ∧ W.cell? ⟨b + 1, 5, none⟩ = some (.int .i64 p.ns) ∧ W.cell? ⟨b + 1, 6, none⟩ = some (.int .i64 p.nr) ∧ W.cell? ⟨b + 1, 7, none⟩ = some (.bool p.poll) ∧ W.cell? ⟨b + 1, 8, none⟩ = some (.slice Ap L0 cp))) := cover fun W hW => by
    have e0 := (hW.block b (by omega)).trans g0
    have e1 := (hW.block (b + 1) (by omega)).trans g1
    refine ⟨⟨?_, ?_, ?_, ?_, ?_, ?_⟩, pdu_cells e1⟩
    all_goals (rw [cell_of_row _ _ _ _ _ _ e0]; rfl)
  have HSz : Hid (∀ W, Below (b + 2) w1 W → b + 2 ≤ W.heap.size) := cover fun W hW => by rw [← hs1]; exact hW.size
  have HRow : Hid (∀ W, Below (b + 2) w1 W → Row W b Ap p.info.length p.info) := cover fun W hW => by
    have h1 := hr
    rw [hb] at h1
    exact (h1.below hb1).below (hW.mono (by omega))
  have HRH : Hid (∀ W, Below (b + 2) w1 W → RHas Bs W r l) := cover fun W hW => h.below (by rw [hb]; exact hb1.trans (hW.mono (by omega)))
  have HOut : Hid (∀ W, Below (b + 2) w1 W → Below b w W) := cover fun W hW => hb1.trans (hW.mono (by omega))
  have hin := cover h.ok
  have mixed : Try.prog.follows .mixedOrders = true := by kernel_rfl
  obtain ⟨ty, hty⟩ : ∃ ty, ty = typeP p := ⟨_, rfl⟩
  rw [← hty] at HT
  have HTY := cover hty
  have hB0 : Below (b + 2) w1 w1 := Below.refl _ _
  have hsub : Below w1.heap.size w1 w1 := Below.refl _ _
  obtain ⟨_, p0, p1, p2, p3, p4, p5, p6, p7, p8⟩ := HCell.out w1 hB0
  have HS1 := cover hs1
  clear h hr g0 g1 hb1 hty hL0 hb
  have hty1 : (ty != 1) = false := by
    have : ty = 1 := by rw [HTY.out]; exact typeP_one.2 hone
    rw [this]; rfl
  have hresp := cover (ui_resp hone hk)
  have HTOLD : Hid (toldP l pe p = (hearS l p.to).map (indV 1 pe p)) := cover (toldP_ui hone hk)
  have HSENT : Hid (sentP l p = []) := cover (sentP_ui hk)
  have hk0 : (p.kind == 0) = true := by simpa using hk
  have hk1 : (p.kind == 1) = false := by rw [hk]; rfl
  have hk2 : (p.kind == 2) = false := by rw [hk]; rfl
  clear hone hk
  go_enter Try.func22, Try.ntmps22
  go_upto_region 1 with fail
  rw [← hw1, HB.out]
  clear hw1
  go_wp2_with fail
  refine (HT.out w1).mono ?_
  rintro e w2 ⟨rfl, hb2⟩
  rw [HS1.out] at hb2
  clear p0 p1 p2 p3 p4 p5 p6 p7 p8 HT hs1 hsub hB0
  obtain ⟨_, p0, p1, p2, p3, p4, p5, p6, p7, p8⟩ := HCell.out w2 hb2
  go_wp2_with fail
  refine (rhears_has (HRH.out w2 hb2) p.to).mono ?_
  rintro e w3 ⟨A, c, rfl, HO⟩
  obtain ⟨L, hL⟩ : ∃ L, L = hearS l p.to := ⟨_, rfl⟩
  have HLE := cover hL
  rw [← hL] at HO ⊢
  have hl16 : L.length ≤ 16 := by rw [hL]; exact hear_len16 hin.out _
  have hb3 : Below (b + 2) w1 w3 := hb2.trans (HO.out.2.mono (HSz.out w2 hb2))
  have HRW := cover (own_base (base' := 0) HO.out.1 (Nat.zero_le _))
  obtain ⟨n, hn⟩ : ∃ n, n = L.length := ⟨_, rfl⟩
  have HNL := cover hn
  rw [← hn] at HRW hl16 ⊢
  clear hb2 HO hL hn p0 p1 p2 p3 p4 p5 p6 p7 p8
  obtain ⟨_, p0, p1, p2, p3, p4, p5, p6, p7, p8⟩ := HCell.out w3 hb3
  rw [← HLE.out] at HTOLD
  rw [hresp.out] at p2
  have HI0 : Hid (RI w1 (b + 2) A n c L [] (.slice none 0 0) w3) := cover ⟨HRW.out, hb3, IndsIn.nil _ _⟩
  go_wp2_with fail
  clear HRW hb3 p0 p1 p2 p3 p4 p5 p6 p7 p8
  go_loopw [9, 12] (fun vv i wr => ∃ (v : Value) (j : Nat), j ≤ n ∧ vv = v ∧ i = .int .i64 j ∧ Hid (RI w1 (b + 2) A n c L ((L.take j).map (indV 1 pe p)) v wr)) (fun _ i _ => n - (intOf i).toNat)
  case atStart => exact ⟨_, 0, Nat.zero_le _, rfl, rfl, by rw [List.take_zero]; exact HI0⟩
  case round =>
    obtain ⟨v, j, hj, hv, rfl, hrel⟩ := hrel
    have hv2 := hv.symm
    subst hv2
    clear hv
    by_cases hlt : j < n
    · obtain ⟨x, hx⟩ : ∃ x, L[j]? = some x := ⟨_, List.getElem?_eq_getElem (by rw [← HNL.out]; exact hlt)⟩
      obtain ⟨g, hA, hgl, _, hc0⟩ := own_cell hrel.out.row (j := j) (x := .int .i64 x) (by rw [List.getElem?_map, hx]; rfl)
      subst hA
      obtain ⟨curg, hcurg⟩ := row_type hrel.out.row (i := g) rfl
      have HS : Hid (∀ W', KeepO (isTyO 60) wr W' → Below (b + 2) w1 W' → (fun W' : World => W'.cell? ⟨g, j, none⟩ = some (.int .i64 x) ∧ (W'.cell? ⟨b, 0, none⟩ = some (.int .u8 pe.a0) ∧ W'.cell? ⟨b, 1, none⟩ = some (.int .u8 pe.a1) ∧ W'.cell? ⟨b, 2, none⟩ = some (.int .u8 pe.a2) ∧ W'.cell? ⟨b, 3, none⟩ = some (.int .u8 pe.a3) ∧ W'.cell? ⟨b, 4, none⟩ = some (.int .u8 pe.a4) ∧ W'.cell? ⟨b, 5, none⟩ = some (.int .u8 pe.a5)) ∧ W'.cell? ⟨b + 1, 1, none⟩ = some (.int .i64 p.frm) ∧ W'.cell? ⟨b + 1, 8, none⟩ = some (.slice Ap L0 cp) ∧ KeepO (isTyO 60) wr W' ∧ Below (b + 2) w1 W') W') := cover fun W' hk hb' => by
        obtain ⟨e6, e0, e1, _, _, _, _, _, _, e8⟩ := HCell.out W' hb'
        exact ⟨hk.cell hcurg (ty_ne (by decide) _ _) hc0, e6, e1, e8, hk, hb'⟩
      have hbr := hrel.out.bel
      have hb0 : Below wr.heap.size wr wr.drew := (Below.refl _ _).drew
      have hbd : Below (b + 2) w1 wr.drew := hbr.trans (hb0.mono (HSz.out wr hbr))
      have h3 : (fun W' : World => W'.cell? ⟨g, j, none⟩ = some (.int .i64 x) ∧ (W'.cell? ⟨b, 0, none⟩ = some (.int .u8 pe.a0) ∧ W'.cell? ⟨b, 1, none⟩ = some (.int .u8 pe.a1) ∧ W'.cell? ⟨b, 2, none⟩ = some (.int .u8 pe.a2) ∧ W'.cell? ⟨b, 3, none⟩ = some (.int .u8 pe.a3) ∧ W'.cell? ⟨b, 4, none⟩ = some (.int .u8 pe.a4) ∧ W'.cell? ⟨b, 5, none⟩ = some (.int .u8 pe.a5)) ∧ W'.cell? ⟨b + 1, 1, none⟩ = some (.int .i64 p.frm) ∧ W'.cell? ⟨b + 1, 8, none⟩ = some (.slice Ap L0 cp) ∧ KeepO (isTyO 60) wr W' ∧ Below (b + 2) w1 W') wr.drew := HS.out _ (KeepO.of_below hb0) hbd
      have HX := cover hx
      have HC : Hid (Calls Try.prog 41 #[.slice Ap L0 cp] wr.drew (GivesB wr.drew p.info)) := cover (by
        rw [HL0.out]
        exact copy_any Ap p.info.length cp b p.info wr.drew (HRow.out _ hbd) (by have := HSz.out _ hbd; omega) hpl)
      clear hx hc0 hcurg
      go_wp2_with fail
      refine (wpIn_wide (n := 0)).1 ?_
      refine held_begin (fun W' : World => W'.cell? ⟨g, j, none⟩ = some (.int .i64 x) ∧ (W'.cell? ⟨b, 0, none⟩ = some (.int .u8 pe.a0) ∧ W'.cell? ⟨b, 1, none⟩ = some (.int .u8 pe.a1) ∧ W'.cell? ⟨b, 2, none⟩ = some (.int .u8 pe.a2) ∧ W'.cell? ⟨b, 3, none⟩ = some (.int .u8 pe.a3) ∧ W'.cell? ⟨b, 4, none⟩ = some (.int .u8 pe.a4) ∧ W'.cell? ⟨b, 5, none⟩ = some (.int .u8 pe.a5)) ∧ W'.cell? ⟨b + 1, 1, none⟩ = some (.int .i64 p.frm) ∧ W'.cell? ⟨b + 1, 8, none⟩ = some (.slice Ap L0 cp) ∧ KeepO (isTyO 60) wr W' ∧ Below (b + 2) w1 W') 15 mixed ?_
      refine hold_take 0 _ rfl (by kernel_rfl) (by kernel_rfl) (by kernel_rfl) (by kernel_rfl) (by kernel_rfl) (fun _ _ _ h => h) (by rfl) (fun _ => rfl) h3 (fun w' hS => by obtain ⟨q0, ⟨q1, q2, q3, q4, q5, q6⟩, q7, q8, q9, q10⟩ := hS; go_simp; rfl) ?_
      simp only [Act.put, List.setIfInBounds_toArray, List.set_cons_zero, List.set_cons_succ]
      refine hold_take 1 _ rfl (by kernel_rfl) (by kernel_rfl) (by kernel_rfl) (by kernel_rfl) (by kernel_rfl) (fun _ _ _ h => h) (by rfl) (fun _ => rfl) h3 (fun w' hS => by obtain ⟨q0, ⟨q1, q2, q3, q4, q5, q6⟩, q7, q8, q9, q10⟩ := hS; go_simp; rfl) ?_
      simp only [Act.put, List.setIfInBounds_toArray, List.set_cons_zero, List.set_cons_succ]
      refine hold_take 2 _ rfl (by kernel_rfl) (by kernel_rfl) (by kernel_rfl) (by kernel_rfl) (by kernel_rfl) (fun _ _ _ h => h) (by rfl) (fun _ => rfl) h3 (fun w' hS => by obtain ⟨q0, ⟨q1, q2, q3, q4, q5, q6⟩, q7, q8, q9, q10⟩ := hS; go_simp; rfl) ?_
      simp only [Act.put, List.setIfInBounds_toArray, List.set_cons_zero, List.set_cons_succ]
      refine hold_take 3 _ rfl (by kernel_rfl) (by kernel_rfl) (by kernel_rfl) (by kernel_rfl) (by kernel_rfl) (fun _ _ _ h => h) (by rfl) (fun _ => rfl) h3 (fun w' hS => by obtain ⟨q0, ⟨q1, q2, q3, q4, q5, q6⟩, q7, q8, q9, q10⟩ := hS; go_simp; rfl) ?_
      simp only [Act.put, List.setIfInBounds_toArray, List.set_cons_zero, List.set_cons_succ]
      refine hold_take 4 _ rfl (by kernel_rfl) (by kernel_rfl) (by kernel_rfl) (by kernel_rfl) (by kernel_rfl) (fun _ _ _ h => h) (by rfl) (fun _ => rfl) h3 (fun w' hS => by obtain ⟨q0, ⟨q1, q2, q3, q4, q5, q6⟩, q7, q8, q9, q10⟩ := hS; go_simp; rfl) ?_
      simp only [Act.put, List.setIfInBounds_toArray, List.set_cons_zero, List.set_cons_succ]
      refine hold_take 5 _ rfl (by kernel_rfl) (by kernel_rfl) (by kernel_rfl) (by kernel_rfl) (by kernel_rfl) (fun _ _ _ h => h) (by rfl) (fun _ => rfl) h3 (fun w' hS => by obtain ⟨q0, ⟨q1, q2, q3, q4, q5, q6⟩, q7, q8, q9, q10⟩ := hS; go_simp; rfl) ?_
      simp only [Act.put, List.setIfInBounds_toArray, List.set_cons_zero, List.set_cons_succ]
      refine hold_take 6 _ rfl (by kernel_rfl) (by kernel_rfl) (by kernel_rfl) (by kernel_rfl) (by kernel_rfl) (fun _ _ _ h => h) (by rfl) (fun _ => rfl) h3 (fun w' hS => by obtain ⟨q0, ⟨q1, q2, q3, q4, q5, q6⟩, q7, q8, q9, q10⟩ := hS; go_simp; rfl) ?_
      simp only [Act.put, List.setIfInBounds_toArray, List.set_cons_zero, List.set_cons_succ]
      refine hold_take 7 _ rfl (by kernel_rfl) (by kernel_rfl) (by kernel_rfl) (by kernel_rfl) (by kernel_rfl) (fun _ _ _ h => h) (by rfl) (fun _ => rfl) h3 (fun w' hS => by obtain ⟨q0, ⟨q1, q2, q3, q4, q5, q6⟩, q7, q8, q9, q10⟩ := hS; go_simp; rfl) ?_
      simp only [Act.put, List.setIfInBounds_toArray, List.set_cons_zero, List.set_cons_succ]
      refine hold_take 8 _ rfl (by kernel_rfl) (by kernel_rfl) (by kernel_rfl) (by kernel_rfl) (by kernel_rfl) (fun _ _ _ h => h) (by rfl) (fun _ => rfl) h3 (fun w' hS => by obtain ⟨q0, ⟨q1, q2, q3, q4, q5, q6⟩, q7, q8, q9, q10⟩ := hS; go_simp; rfl) ?_
      simp only [Act.put, List.setIfInBounds_toArray, List.set_cons_zero, List.set_cons_succ]
      refine hold_take 9 _ rfl (by kernel_rfl) (by kernel_rfl) (by kernel_rfl) (by kernel_rfl) (by kernel_rfl) (fun _ _ _ h => h) (by rfl) (fun _ => rfl) h3 (fun w' hS => by obtain ⟨q0, ⟨q1, q2, q3, q4, q5, q6⟩, q7, q8, q9, q10⟩ := hS; go_simp; rfl) ?_
      simp only [Act.put, List.setIfInBounds_toArray, List.set_cons_zero, List.set_cons_succ]
      refine hold_take 10 _ rfl (by kernel_rfl) (by kernel_rfl) (by kernel_rfl) (by kernel_rfl) (by kernel_rfl) (fun _ _ _ h => h) (by rfl) (fun _ => rfl) h3 (fun w' hS => by obtain ⟨q0, ⟨q1, q2, q3, q4, q5, q6⟩, q7, q8, q9, q10⟩ := hS; go_simp; rfl) ?_
      simp only [Act.put, List.setIfInBounds_toArray, List.set_cons_zero, List.set_cons_succ]
      refine hold_one 11 (by kernel_rfl) rfl (by rfl) fun K hK => ?_
      go_simp
      refine ⟨trivial, rfl, (callsIn_wide.2 HC.out).mono ?_⟩
      rintro e w4 ⟨A3, c3, rfl, ho4, hb4⟩
      rw [← HL0.out]
      have hB4 : Below wr.heap.size wr w4 := hb0.trans (hb4.mono hb0.size)
      have hb4' : Below (b + 2) w1 w4 := hbr.trans (hB4.mono (HSz.out wr hbr))
      have HO4 := cover ho4
      refine hK _ _ (.inr (HS.out _ (KeepO.of_below hB4) hb4')) ?_
      clear hK K ho4 hb4 HC
      refine hold_one 12 (by kernel_rfl) rfl (by rfl) fun K hK => ?_
      go_simp
      refine hK _ _ (.inr (HS.out _ (KeepO.of_below hB4) hb4')) ?_
      clear hK K
      refine hold_one 13 (by kernel_rfl) rfl (by rfl) fun K hK => ?_
      obtain ⟨z, hz⟩ : ∃ z, z = w4.heap.size := ⟨_, rfl⟩
      obtain ⟨wz, hwz⟩ : ∃ wz, wz = w4.alloc (.cells #[.int .i64 1, .int .i64 x, .int .i64 p.frm, .int .u8 pe.a0, .int .u8 pe.a1, .int .u8 pe.a2, .int .u8 pe.a3, .int .u8 pe.a4, .int .u8 pe.a5, .slice A3 L0 c3, .int .i64 0] 60) := ⟨_, rfl⟩
      have hmz : Below w4.heap.size w4 wz := by rw [hwz]; exact (Below.refl _ _).alloc (Nat.le_refl _) _
      have hBz : Below wr.heap.size wr wz := hB4.trans (hmz.mono hB4.size)
      have hbz' : Below (b + 2) w1 wz := hb4'.trans (hmz.mono (HSz.out w4 hb4'))
      have hnz : wz.heap[z]? = some (.cells #[.int .i64 1, .int .i64 x, .int .i64 p.frm, .int .u8 pe.a0, .int .u8 pe.a1, .int .u8 pe.a2, .int .u8 pe.a3, .int .u8 pe.a4, .int .u8 pe.a5, .slice A3 L0 c3, .int .i64 0] 60 (0, 0)) := by rw [hwz, hz]; exact heap_alloc_new _ _
      have hoz : InfI wz (indV 1 pe p x, A3, c3) := own_base (ownB_below HO4.out hmz) (Nat.zero_le _)
      refine run_in (fun c h => by cases h) (fun _ _ => trivial) (v := .slice (some ⟨z, 0, none⟩) 1 1) (w' := wz) (by rw [hwz, hz]; go_simp) ?_
      refine hK _ _ (.inr (HS.out _ (KeepO.of_below hBz) hbz')) ?_
      clear hK K hwz hz
      simp only [Act.put, List.setIfInBounds_toArray, List.set_cons_zero, List.set_cons_succ]
      refine hold_one 14 (by kernel_rfl) rfl (by rfl) fun K hK => ?_
      obtain ⟨v5, w5, hr5, ⟨A5, c5, hv5⟩, HO5⟩ := IndsIn.app (hrel.out.ex.below hBz) (HSz.out _ hbz') (indV 1 pe p x) hoz (by rw [HL0.out] at hnz; exact hnz) (by rw [List.length_map, List.length_take]; omega) 32
      obtain ⟨n5, hn5⟩ : ∃ n5, n5 = ((L.take j).map (indV 1 pe p)).length + 1 := ⟨_, rfl⟩
      rw [← hn5] at hv5
      subst hv5
      have k5 : KeepO (isTyO 60) wr w5 := (KeepO.of_below hBz).trans HO5.out.2.1
      have hb5 : Below (b + 2) w1 w5 := HO5.out.2.2 _ hbz'
      have hS5 := HS.out _ k5 hb5
      have HN : Hid (RI w1 (b + 2) (some ⟨g, 0, none⟩) n c L ((L.take (j + 1)).map (indV 1 pe p)) (.slice A5 n5 c5) w5) := cover ⟨own_typed hrel.out.row k5 (fun _ _ => ty_ne (by decide) _ _), hb5, by rw [List.take_add_one, HX.out, List.map_append]; exact HO5.out.1⟩
      refine run_in (fun c h => by cases h) (fun _ _ => trivial) (v := .slice A5 n5 c5) (w' := w5) (appends_exec _ _ _ _ rfl v (.slice (some ⟨z, 0, none⟩) 1 1) (by go_simp) (by go_simp) hr5) ?_
      refine hK _ _ (.inr hS5) ?_
      clear hK K hr5 hn5 HO5 k5 hb5 hnz hoz hBz hmz hbz' HO4
      simp only [Act.put, List.setIfInBounds_toArray, List.set_cons_zero, List.set_cons_succ]
      refine hold_one 15 (by kernel_rfl) rfl (by rfl) fun K hK => ?_
      go_simp
      refine hK _ _ (.inl rfl) (held_done (by kernel_rfl) ?_ _)
      clear hK K hS5 h3 hb0 hbd hbr hB4 hb4' HS hrel HX
      go_wp2
      go_roundw
      case rel => exact ⟨_, j + 1, by omega, rfl, by go_num, HN⟩
      case measure => simp [intOf]; omega
    · obtain rfl : j = n := by omega
      have hex := hrel.out.ex
      rw [List.take_of_length_le (by rw [HNL.out]; exact Nat.le_refl _)] at hex
      obtain ⟨Av, cv, hv⟩ := hex.shape
      have HN : Hid (HearOut (toldP l pe p) (sentP l p) w (.returned (.tuple #[v, .slice none 0 0])) wr) := cover (by
        rw [HTOLD.out, HSENT.out]
        exact ⟨Av, cv, none, 0, by rw [hv]; rfl, cover ⟨by rw [HB.out, ← hv]; exact hex.mono (by omega), PdusIn.nil _ _, by rw [HB.out]; exact HOut.out _ hrel.out.bel⟩⟩)
      clear hex hv hrel HCell HSz HRow HRH HOut
      go_wp2
      go_ret2
      exact HN.out
set_option maxRecDepth 100000 in
set_option maxHeartbeats 6400000 in
theorem rhear_deaf {Bs : Nat} {w : World} {r : Nat} {l : List SV} (h : RHas Bs w r l) (pe : A6) (p : PV) (Ap : Option Addr) (cp : Nat) (hr : Row w w.heap.size Ap p.info.length p.info) (hpl : p.info.length ≤ 140737488355328) (hone : IsOne p) (hk : p.kind ≠ 0) (hrs : p.resp = true) (hcl : clsS l p.to = 0) :
    Calls Try.prog 22 #[ptr r, .agg #[.int .u8 pe.a0, .int .u8 pe.a1, .int .u8 pe.a2, .int .u8 pe.a3, .int .u8 pe.a4, .int .u8 pe.a5], .agg #[.int .i64 p.to, .int .i64 p.frm, .bool p.resp, .int .i64 p.form, .int .i64 p.kind, .int .i64 p.ns, .int .i64 p.nr, .bool p.poll, .slice Ap p.info.length cp]] w (HearOut (toldP l pe p) (sentP l p) w) := by
  obtain ⟨b, hb⟩ : ∃ b, w.heap.size = b := ⟨_, rfl⟩
  have HB := cover hb
  obtain ⟨L0, hL0⟩ : ∃ L0, L0 = p.info.length := ⟨_, rfl⟩
  have HL0 := cover hL0
  have HT := cover (fun W => ref_type_any p Ap cp W)
  rw [← hL0] at HT ⊢
  obtain ⟨w1, hw1⟩ : ∃ w1, w1 = (w.alloc (.cells #[.int .u8 pe.a0, .int .u8 pe.a1, .int .u8 pe.a2, .int .u8 pe.a3, .int .u8 pe.a4, .int .u8 pe.a5] 37)).alloc (.cells #[.int .i64 p.to, .int .i64 p.frm, .bool p.resp, .int .i64 p.form, .int .i64 p.kind, .int .i64 p.ns, .int .i64 p.nr, .bool p.poll, .slice Ap L0 cp] 29) := ⟨_, rfl⟩
  have hb1 : Below b w w1 := by rw [hw1, ← hb]; exact ((Below.refl _ _).alloc (Nat.le_refl _) _).alloc (by simp) _
  have hs1 : w1.heap.size = b + 2 := by rw [hw1]; simp [hb]
  have g0 : w1.heap[b]? = some (.cells #[.int .u8 pe.a0, .int .u8 pe.a1, .int .u8 pe.a2, .int .u8 pe.a3, .int .u8 pe.a4, .int .u8 pe.a5] 37 (0, 0)) := by rw [hw1, ← hb]; exact heap_alloc2_old _ _ _
  have g1 : w1.heap[b + 1]? = some (.cells #[.int .i64 p.to, .int .i64 p.frm, .bool p.resp, .int .i64 p.form, .int .i64 p.kind, .int .i64 p.ns, .int .i64 p.nr, .bool p.poll, .slice Ap L0 cp] 29 (0, 0)) := by rw [hw1, ← hb]; exact heap_alloc2_new _ _ _
  have HCell : Hid (∀ W, Below (b + 2) w1 W → (W.cell? ⟨b, 0, none⟩ = some (.int .u8 pe.a0) ∧ W.cell? ⟨b, 1, none⟩ = some (.int .u8 pe.a1) ∧ W.cell? ⟨b, 2, none⟩ = some (.int .u8 pe.a2) ∧ W.cell? ⟨b, 3, none⟩ = some (.int .u8 pe.a3) ∧ W.cell? ⟨b, 4, none⟩ = some (.int .u8 pe.a4) ∧ W.cell? ⟨b, 5, none⟩ = some (.int .u8 pe.a5)) ∧ (W.cell? ⟨b + 1, 0, none⟩ = some (.int .i64 p.to) ∧ W.cell? ⟨b + 1, 1, none⟩ = some (.int .i64 p.frm) ∧ W.cell? ⟨b + 1, 2, none⟩ = some (.bool p.resp) ∧ W.cell? ⟨b + 1, 3, none⟩ = some (.int .i64 p.form) ∧ W.cell? ⟨b + 1, 4, none⟩ = some (.int .i64 p.kind) ∧ W.cell? ⟨b + 1, 5, none⟩ = some (.int .i64 p.ns) ∧ W.cell? ⟨b + 1, 6, none⟩ = some (.int .i64 p.nr) ∧ W.cell? ⟨b + 1, 7, none⟩ = some (.bool p.poll) ∧ W.cell? ⟨b + 1, 8, none⟩ = some (.slice Ap L0 cp))) := cover fun W hW => by
    have e0 := (hW.block b (by omega)).trans g0
    have e1 := (hW.block (b + 1) (by omega)).trans g1
    refine ⟨⟨?_, ?_, ?_, ?_, ?_, ?_⟩, pdu_cells e1⟩
    all_goals (rw [cell_of_row _ _ _ _ _ _ e0]; rfl)
  have HSz : Hid (∀ W, Below (b + 2) w1 W → b + 2 ≤ W.heap.size) := cover fun W hW => by rw [← hs1]; exact hW.size
  have HRow : Hid (∀ W, Below (b + 2) w1 W → Row W b Ap p.info.length p.info) := cover fun W hW => by
    have h1 := hr
    rw [hb] at h1
    exact (h1.below hb1).below (hW.mono (by omega))
  have HRH : Hid (∀ W, Below (b + 2) w1 W → RHas Bs W r l) := cover fun W hW => h.below (by rw [hb]; exact hb1.trans (hW.mono (by omega)))
  have HOut : Hid (∀ W, Below (b + 2) w1 W → Below b w W) := cover fun W hW => hb1.trans (hW.mono (by omega))
  have hin := cover h.ok
  have mixed : Try.prog.follows .mixedOrders = true := by kernel_rfl
  obtain ⟨ty, hty⟩ : ∃ ty, ty = typeP p := ⟨_, rfl⟩
  rw [← hty] at HT
  have HTY := cover hty
  have hB0 : Below (b + 2) w1 w1 := Below.refl _ _
  have hsub : Below w1.heap.size w1 w1 := Below.refl _ _
  obtain ⟨_, p0, p1, p2, p3, p4, p5, p6, p7, p8⟩ := HCell.out w1 hB0
  have HS1 := cover hs1
  clear h hr g0 g1 hb1 hty hL0 hb
  have hty1 : (ty != 1) = false := by
    have : ty = 1 := by rw [HTY.out]; exact typeP_one.2 hone
    rw [this]; rfl
  have HN : Hid (∀ W, Below (b + 2) w1 W → HearOut (toldP l pe p) (sentP l p) w (.returned (.tuple #[.slice none 0 0, .slice none 0 0])) W) := cover fun W hW => by
    rw [toldP_resp hone hk hrs, sentP_resp hrs]
    unfold askerS
    rw [if_pos hcl]
    exact ⟨none, 0, none, 0, rfl, cover ⟨IndsIn.nil _ _, PdusIn.nil _ _, by rw [HB.out]; exact HOut.out W hW⟩⟩
  have hresp := cover hrs
  have HCLS := cover hcl
  have hk0 : (p.kind == 0) = false := by simpa using hk
  clear hone hk hrs hcl
  go_enter Try.func22, Try.ntmps22
  go_upto_region 1 with fail
  rw [← hw1, HB.out]
  clear hw1
  go_wp2_with fail
  refine (HT.out w1).mono ?_
  rintro e w2 ⟨rfl, hb2⟩
  rw [HS1.out] at hb2
  clear p0 p1 p2 p3 p4 p5 p6 p7 p8 HT hs1 hsub hB0
  obtain ⟨_, p0, p1, p2, p3, p4, p5, p6, p7, p8⟩ := HCell.out w2 hb2
  go_wp2_with fail
  refine (rhears_has (HRH.out w2 hb2) p.to).mono ?_
  rintro e w3 ⟨A, c, rfl, HO⟩
  obtain ⟨L, hL⟩ : ∃ L, L = hearS l p.to := ⟨_, rfl⟩
  have HLE := cover hL
  rw [← hL] at HO ⊢
  have hl16 : L.length ≤ 16 := by rw [hL]; exact hear_len16 hin.out _
  have hb3 : Below (b + 2) w1 w3 := hb2.trans (HO.out.2.mono (HSz.out w2 hb2))
  have HRW := cover (own_base (base' := 0) HO.out.1 (Nat.zero_le _))
  obtain ⟨n, hn⟩ : ∃ n, n = L.length := ⟨_, rfl⟩
  have HNL := cover hn
  rw [← hn] at HRW hl16 ⊢
  clear hb2 HO hL hn p0 p1 p2 p3 p4 p5 p6 p7 p8
  obtain ⟨_, p0, p1, p2, p3, p4, p5, p6, p7, p8⟩ := HCell.out w3 hb3
  have s4 := rclass_has (HRH.out w3 hb3) p.to
  rw [HCLS.out] at s4
  rw [hresp.out] at p2
  go_wp2_with fail
  refine s4.mono ?_
  rintro e w4 ⟨rfl, rfl⟩
  have HN3 := cover (HN.out w3 hb3)
  clear HN hb3 HCell HSz HRow HRH HOut s4 HRW
  go_wp2
  go_ret2
  exact HN3.out
set_option maxRecDepth 100000 in
set_option maxHeartbeats 6400000 in
theorem rhear_resp1 {Bs : Nat} {w : World} {r : Nat} {l : List SV} (h : RHas Bs w r l) (pe : A6) (p : PV) (Ap : Option Addr) (cp : Nat) (hr : Row w w.heap.size Ap p.info.length p.info) (hpl : p.info.length ≤ 140737488355328) (hone : IsOne p) (hk : p.kind = 1) (hrs : p.resp = true) (hcl : clsS l p.to ≠ 0) :
    Calls Try.prog 22 #[ptr r, .agg #[.int .u8 pe.a0, .int .u8 pe.a1, .int .u8 pe.a2, .int .u8 pe.a3, .int .u8 pe.a4, .int .u8 pe.a5], .agg #[.int .i64 p.to, .int .i64 p.frm, .bool p.resp, .int .i64 p.form, .int .i64 p.kind, .int .i64 p.ns, .int .i64 p.nr, .bool p.poll, .slice Ap p.info.length cp]] w (HearOut (toldP l pe p) (sentP l p) w) := by
  obtain ⟨b, hb⟩ : ∃ b, w.heap.size = b := ⟨_, rfl⟩
  have HB := cover hb
  obtain ⟨L0, hL0⟩ : ∃ L0, L0 = p.info.length := ⟨_, rfl⟩
  have HL0 := cover hL0
  have HT := cover (fun W => ref_type_any p Ap cp W)
  rw [← hL0] at HT ⊢
  obtain ⟨w1, hw1⟩ : ∃ w1, w1 = (w.alloc (.cells #[.int .u8 pe.a0, .int .u8 pe.a1, .int .u8 pe.a2, .int .u8 pe.a3, .int .u8 pe.a4, .int .u8 pe.a5] 37)).alloc (.cells #[.int .i64 p.to, .int .i64 p.frm, .bool p.resp, .int .i64 p.form, .int .i64 p.kind, .int .i64 p.ns, .int .i64 p.nr, .bool p.poll, .slice Ap L0 cp] 29) := ⟨_, rfl⟩
  have hb1 : Below b w w1 := by rw [hw1, ← hb]; exact ((Below.refl _ _).alloc (Nat.le_refl _) _).alloc (by simp) _
  have hs1 : w1.heap.size = b + 2 := by rw [hw1]; simp [hb]
  have g0 : w1.heap[b]? = some (.cells #[.int .u8 pe.a0, .int .u8 pe.a1, .int .u8 pe.a2, .int .u8 pe.a3, .int .u8 pe.a4, .int .u8 pe.a5] 37 (0, 0)) := by rw [hw1, ← hb]; exact heap_alloc2_old _ _ _
  have g1 : w1.heap[b + 1]? = some (.cells #[.int .i64 p.to, .int .i64 p.frm, .bool p.resp, .int .i64 p.form, .int .i64 p.kind, .int .i64 p.ns, .int .i64 p.nr, .bool p.poll, .slice Ap L0 cp] 29 (0, 0)) := by rw [hw1, ← hb]; exact heap_alloc2_new _ _ _
  have HCell : Hid (∀ W, Below (b + 2) w1 W → (W.cell? ⟨b, 0, none⟩ = some (.int .u8 pe.a0) ∧ W.cell? ⟨b, 1, none⟩ = some (.int .u8 pe.a1) ∧ W.cell? ⟨b, 2, none⟩ = some (.int .u8 pe.a2) ∧ W.cell? ⟨b, 3, none⟩ = some (.int .u8 pe.a3) ∧ W.cell? ⟨b, 4, none⟩ = some (.int .u8 pe.a4) ∧ W.cell? ⟨b, 5, none⟩ = some (.int .u8 pe.a5)) ∧ (W.cell? ⟨b + 1, 0, none⟩ = some (.int .i64 p.to) ∧ W.cell? ⟨b + 1, 1, none⟩ = some (.int .i64 p.frm) ∧ W.cell? ⟨b + 1, 2, none⟩ = some (.bool p.resp) ∧ W.cell? ⟨b + 1, 3, none⟩ = some (.int .i64 p.form) ∧ W.cell? ⟨b + 1, 4, none⟩ = some (.int .i64 p.kind) ∧ W.cell? ⟨b + 1, 5, none⟩ = some (.int .i64 p.ns) ∧ W.cell? ⟨b + 1, 6, none⟩ = some (.int .i64 p.nr) ∧ W.cell? ⟨b + 1, 7, none⟩ = some (.bool p.poll) ∧ W.cell? ⟨b + 1, 8, none⟩ = some (.slice Ap L0 cp))) := cover fun W hW => by
    have e0 := (hW.block b (by omega)).trans g0
    have e1 := (hW.block (b + 1) (by omega)).trans g1
    refine ⟨⟨?_, ?_, ?_, ?_, ?_, ?_⟩, pdu_cells e1⟩
    all_goals (rw [cell_of_row _ _ _ _ _ _ e0]; rfl)
  have HSz : Hid (∀ W, Below (b + 2) w1 W → b + 2 ≤ W.heap.size) := cover fun W hW => by rw [← hs1]; exact hW.size
  have HRow : Hid (∀ W, Below (b + 2) w1 W → Row W b Ap p.info.length p.info) := cover fun W hW => by
    have h1 := hr
    rw [hb] at h1
    exact (h1.below hb1).below (hW.mono (by omega))
  have HRH : Hid (∀ W, Below (b + 2) w1 W → RHas Bs W r l) := cover fun W hW => h.below (by rw [hb]; exact hb1.trans (hW.mono (by omega)))
  have HOut : Hid (∀ W, Below (b + 2) w1 W → Below b w W) := cover fun W hW => hb1.trans (hW.mono (by omega))
  have hin := cover h.ok
  have mixed : Try.prog.follows .mixedOrders = true := by kernel_rfl
  obtain ⟨ty, hty⟩ : ∃ ty, ty = typeP p := ⟨_, rfl⟩
  rw [← hty] at HT
  have HTY := cover hty
  have hB0 : Below (b + 2) w1 w1 := Below.refl _ _
  have hsub : Below w1.heap.size w1 w1 := Below.refl _ _
  obtain ⟨_, p0, p1, p2, p3, p4, p5, p6, p7, p8⟩ := HCell.out w1 hB0
  have HS1 := cover hs1
  clear h hr g0 g1 hb1 hty hL0 hb
  have hty1 : (ty != 1) = false := by
    have : ty = 1 := by rw [HTY.out]; exact typeP_one.2 hone
    rw [this]; rfl
  have HTOLD0 : Hid (toldP l pe p = [p.to].map (indV 2 pe p)) := cover (by
    rw [toldP_resp hone (by omega) hrs]
    unfold askerS
    rw [if_neg hcl, hk]
    rfl)
  have HSENT : Hid (sentP l p = []) := cover (sentP_resp hrs)
  have hresp := cover hrs
  obtain ⟨cl, hcle⟩ : ∃ cl, cl = clsS l p.to := ⟨_, rfl⟩
  have HCLS := cover hcle
  have hcl0 : (cl == 0) = false := by rw [hcle]; simpa using hcl
  have hk0 : (p.kind == 0) = false := by rw [hk]; rfl
  have hk1 : (p.kind == 1) = true := by rw [hk]; rfl
  have hk2 : (p.kind == 2) = false := by rw [hk]; rfl
  clear hone hk hrs hcl hcle
  go_enter Try.func22, Try.ntmps22
  go_upto_region 1 with fail
  rw [← hw1, HB.out]
  clear hw1
  go_wp2_with fail
  refine (HT.out w1).mono ?_
  rintro e w2 ⟨rfl, hb2⟩
  rw [HS1.out] at hb2
  clear p0 p1 p2 p3 p4 p5 p6 p7 p8 HT hs1 hsub hB0
  obtain ⟨_, p0, p1, p2, p3, p4, p5, p6, p7, p8⟩ := HCell.out w2 hb2
  go_wp2_with fail
  refine (rhears_has (HRH.out w2 hb2) p.to).mono ?_
  rintro e w3 ⟨A, c, rfl, HO⟩
  obtain ⟨L, hL⟩ : ∃ L, L = hearS l p.to := ⟨_, rfl⟩
  have HLE := cover hL
  rw [← hL] at HO ⊢
  have hl16 : L.length ≤ 16 := by rw [hL]; exact hear_len16 hin.out _
  have hb3 : Below (b + 2) w1 w3 := hb2.trans (HO.out.2.mono (HSz.out w2 hb2))
  have HRW := cover (own_base (base' := 0) HO.out.1 (Nat.zero_le _))
  obtain ⟨n, hn⟩ : ∃ n, n = L.length := ⟨_, rfl⟩
  have HNL := cover hn
  rw [← hn] at HRW hl16 ⊢
  clear hb2 HO hL hn p0 p1 p2 p3 p4 p5 p6 p7 p8
  obtain ⟨_, p0, p1, p2, p3, p4, p5, p6, p7, p8⟩ := HCell.out w3 hb3
  have s4 := rclass_has (HRH.out w3 hb3) p.to
  rw [← HCLS.out] at s4
  rw [hresp.out] at p2
  go_wp2_with fail
  refine s4.mono ?_
  rintro e w4 ⟨rfl, rfl⟩
  obtain ⟨g3, hg3⟩ : ∃ g3, g3 = w3.heap.size := ⟨_, rfl⟩
  obtain ⟨w5, hw5⟩ : ∃ w5, w5 = w3.alloc (.cells #[.int .i64 p.to] 3) := ⟨_, rfl⟩
  have hm5 : Below w3.heap.size w3 w5 := by rw [hw5]; exact (Below.refl _ _).alloc (Nat.le_refl _) _
  have hb5 : Below (b + 2) w1 w5 := hb3.trans (hm5.mono (HSz.out w3 hb3))
  have hn5 : w5.heap[g3]? = some (.cells #[.int .i64 p.to] 3 (0, 0)) := by rw [hw5, hg3]; exact heap_alloc_new _ _
  clear HRW HNL HLE hl16
  have HRW : Hid (w5.ownsRow 0 3 1 (.slice (some ⟨g3, 0, none⟩) 1 1) 1 (([p.to] : List Int).map (Value.int .i64))) := cover ⟨rfl, .inr ⟨g3, 1, #[.int .i64 p.to], rfl, Nat.zero_le _, hn5, Nat.le_refl _, by unfold maxLen; omega, rfl, rfl⟩⟩
  go_upto_region 12 with fail
  rw [← hw5, ← hg3]
  have HW5 := cover (And.intro hw5 hg3)
  clear hw5 hg3 hm5 hn5 hb3 s4 p0 p1 p2 p3 p4 p5 p6 p7 p8
  obtain ⟨_, p0, p1, p2, p3, p4, p5, p6, p7, p8⟩ := HCell.out w5 hb5
  rw [hresp.out] at p2
  obtain ⟨L, hL⟩ : ∃ L, L = [p.to] := ⟨_, rfl⟩
  have hl16 : L.length ≤ 16 := by rw [hL]; simp
  obtain ⟨n1, hn1⟩ : ∃ n1, n1 = L.length := ⟨_, rfl⟩
  have HNL := cover hn1
  have hone1 : n1 = 1 := by rw [hn1, hL]; rfl
  rw [← hL] at HRW
  have HTOLD : Hid (toldP l pe p = L.map (indV 2 pe p)) := cover (by rw [HTOLD0.out, hL])
  obtain ⟨A, hA⟩ : ∃ A, A = some (⟨g3, 0, none⟩ : Addr) := ⟨_, rfl⟩
  obtain ⟨c1, hc1⟩ : ∃ c1, c1 = 1 := ⟨_, rfl⟩
  rw [← hA] at HRW ⊢
  clear hn1 hL hA
  subst hone1 hc1
  have HI0 : Hid (RI w1 (b + 2) A 1 1 L [] (.slice none 0 0) w5) := cover ⟨HRW.out, hb5, IndsIn.nil _ _⟩
  go_wp2_with fail
  clear HRW hb5 p0 p1 p2 p3 p4 p5 p6 p7 p8
  go_loopw [9, 12] (fun vv i wr => ∃ (v : Value) (j : Nat), j ≤ 1 ∧ vv = v ∧ i = .int .i64 j ∧ Hid (RI w1 (b + 2) A 1 1 L ((L.take j).map (indV 2 pe p)) v wr)) (fun _ i _ => 1 - (intOf i).toNat)
  case atStart => exact ⟨_, 0, Nat.zero_le _, rfl, rfl, by rw [List.take_zero]; exact HI0⟩
  case round =>
    obtain ⟨v, j, hj, hv, rfl, hrel⟩ := hrel
    have hv2 := hv.symm
    subst hv2
    clear hv
    by_cases hlt : j < 1
    · obtain ⟨x, hx⟩ : ∃ x, L[j]? = some x := ⟨_, List.getElem?_eq_getElem (by rw [← HNL.out]; exact hlt)⟩
      obtain ⟨g, hA, hgl, _, hc0⟩ := own_cell hrel.out.row (j := j) (x := .int .i64 x) (by rw [List.getElem?_map, hx]; rfl)
      subst hA
      obtain ⟨curg, hcurg⟩ := row_type hrel.out.row (i := g) rfl
      have HS : Hid (∀ W', KeepO (isTyO 60) wr W' → Below (b + 2) w1 W' → (fun W' : World => W'.cell? ⟨g, j, none⟩ = some (.int .i64 x) ∧ (W'.cell? ⟨b, 0, none⟩ = some (.int .u8 pe.a0) ∧ W'.cell? ⟨b, 1, none⟩ = some (.int .u8 pe.a1) ∧ W'.cell? ⟨b, 2, none⟩ = some (.int .u8 pe.a2) ∧ W'.cell? ⟨b, 3, none⟩ = some (.int .u8 pe.a3) ∧ W'.cell? ⟨b, 4, none⟩ = some (.int .u8 pe.a4) ∧ W'.cell? ⟨b, 5, none⟩ = some (.int .u8 pe.a5)) ∧ W'.cell? ⟨b + 1, 1, none⟩ = some (.int .i64 p.frm) ∧ W'.cell? ⟨b + 1, 8, none⟩ = some (.slice Ap L0 cp) ∧ KeepO (isTyO 60) wr W' ∧ Below (b + 2) w1 W') W') := cover fun W' hk hb' => by
        obtain ⟨e6, e0, e1, _, _, _, _, _, _, e8⟩ := HCell.out W' hb'
        exact ⟨hk.cell hcurg (ty_ne (by decide) _ _) hc0, e6, e1, e8, hk, hb'⟩
      have hbr := hrel.out.bel
      have hb0 : Below wr.heap.size wr wr.drew := (Below.refl _ _).drew
      have hbd : Below (b + 2) w1 wr.drew := hbr.trans (hb0.mono (HSz.out wr hbr))
      have h3 : (fun W' : World => W'.cell? ⟨g, j, none⟩ = some (.int .i64 x) ∧ (W'.cell? ⟨b, 0, none⟩ = some (.int .u8 pe.a0) ∧ W'.cell? ⟨b, 1, none⟩ = some (.int .u8 pe.a1) ∧ W'.cell? ⟨b, 2, none⟩ = some (.int .u8 pe.a2) ∧ W'.cell? ⟨b, 3, none⟩ = some (.int .u8 pe.a3) ∧ W'.cell? ⟨b, 4, none⟩ = some (.int .u8 pe.a4) ∧ W'.cell? ⟨b, 5, none⟩ = some (.int .u8 pe.a5)) ∧ W'.cell? ⟨b + 1, 1, none⟩ = some (.int .i64 p.frm) ∧ W'.cell? ⟨b + 1, 8, none⟩ = some (.slice Ap L0 cp) ∧ KeepO (isTyO 60) wr W' ∧ Below (b + 2) w1 W') wr.drew := HS.out _ (KeepO.of_below hb0) hbd
      have HX := cover hx
      have HC : Hid (Calls Try.prog 41 #[.slice Ap L0 cp] wr.drew (GivesB wr.drew p.info)) := cover (by
        rw [HL0.out]
        exact copy_any Ap p.info.length cp b p.info wr.drew (HRow.out _ hbd) (by have := HSz.out _ hbd; omega) hpl)
      clear hx hc0 hcurg
      go_wp2_with fail
      refine (wpIn_wide (n := 0)).1 ?_
      refine held_begin (fun W' : World => W'.cell? ⟨g, j, none⟩ = some (.int .i64 x) ∧ (W'.cell? ⟨b, 0, none⟩ = some (.int .u8 pe.a0) ∧ W'.cell? ⟨b, 1, none⟩ = some (.int .u8 pe.a1) ∧ W'.cell? ⟨b, 2, none⟩ = some (.int .u8 pe.a2) ∧ W'.cell? ⟨b, 3, none⟩ = some (.int .u8 pe.a3) ∧ W'.cell? ⟨b, 4, none⟩ = some (.int .u8 pe.a4) ∧ W'.cell? ⟨b, 5, none⟩ = some (.int .u8 pe.a5)) ∧ W'.cell? ⟨b + 1, 1, none⟩ = some (.int .i64 p.frm) ∧ W'.cell? ⟨b + 1, 8, none⟩ = some (.slice Ap L0 cp) ∧ KeepO (isTyO 60) wr W' ∧ Below (b + 2) w1 W') 15 mixed ?_
      refine hold_take 0 _ rfl (by kernel_rfl) (by kernel_rfl) (by kernel_rfl) (by kernel_rfl) (by kernel_rfl) (fun _ _ _ h => h) (by rfl) (fun _ => rfl) h3 (fun w' hS => by obtain ⟨q0, ⟨q1, q2, q3, q4, q5, q6⟩, q7, q8, q9, q10⟩ := hS; go_simp; rfl) ?_
      simp only [Act.put, List.setIfInBounds_toArray, List.set_cons_zero, List.set_cons_succ]
      refine hold_take 1 _ rfl (by kernel_rfl) (by kernel_rfl) (by kernel_rfl) (by kernel_rfl) (by kernel_rfl) (fun _ _ _ h => h) (by rfl) (fun _ => rfl) h3 (fun w' hS => by obtain ⟨q0, ⟨q1, q2, q3, q4, q5, q6⟩, q7, q8, q9, q10⟩ := hS; go_simp; rfl) ?_
      simp only [Act.put, List.setIfInBounds_toArray, List.set_cons_zero, List.set_cons_succ]
      refine hold_take 2 _ rfl (by kernel_rfl) (by kernel_rfl) (by kernel_rfl) (by kernel_rfl) (by kernel_rfl) (fun _ _ _ h => h) (by rfl) (fun _ => rfl) h3 (fun w' hS => by obtain ⟨q0, ⟨q1, q2, q3, q4, q5, q6⟩, q7, q8, q9, q10⟩ := hS; go_simp; rfl) ?_
      simp only [Act.put, List.setIfInBounds_toArray, List.set_cons_zero, List.set_cons_succ]
      refine hold_take 3 _ rfl (by kernel_rfl) (by kernel_rfl) (by kernel_rfl) (by kernel_rfl) (by kernel_rfl) (fun _ _ _ h => h) (by rfl) (fun _ => rfl) h3 (fun w' hS => by obtain ⟨q0, ⟨q1, q2, q3, q4, q5, q6⟩, q7, q8, q9, q10⟩ := hS; go_simp; rfl) ?_
      simp only [Act.put, List.setIfInBounds_toArray, List.set_cons_zero, List.set_cons_succ]
      refine hold_take 4 _ rfl (by kernel_rfl) (by kernel_rfl) (by kernel_rfl) (by kernel_rfl) (by kernel_rfl) (fun _ _ _ h => h) (by rfl) (fun _ => rfl) h3 (fun w' hS => by obtain ⟨q0, ⟨q1, q2, q3, q4, q5, q6⟩, q7, q8, q9, q10⟩ := hS; go_simp; rfl) ?_
      simp only [Act.put, List.setIfInBounds_toArray, List.set_cons_zero, List.set_cons_succ]
      refine hold_take 5 _ rfl (by kernel_rfl) (by kernel_rfl) (by kernel_rfl) (by kernel_rfl) (by kernel_rfl) (fun _ _ _ h => h) (by rfl) (fun _ => rfl) h3 (fun w' hS => by obtain ⟨q0, ⟨q1, q2, q3, q4, q5, q6⟩, q7, q8, q9, q10⟩ := hS; go_simp; rfl) ?_
      simp only [Act.put, List.setIfInBounds_toArray, List.set_cons_zero, List.set_cons_succ]
      refine hold_take 6 _ rfl (by kernel_rfl) (by kernel_rfl) (by kernel_rfl) (by kernel_rfl) (by kernel_rfl) (fun _ _ _ h => h) (by rfl) (fun _ => rfl) h3 (fun w' hS => by obtain ⟨q0, ⟨q1, q2, q3, q4, q5, q6⟩, q7, q8, q9, q10⟩ := hS; go_simp; rfl) ?_
      simp only [Act.put, List.setIfInBounds_toArray, List.set_cons_zero, List.set_cons_succ]
      refine hold_take 7 _ rfl (by kernel_rfl) (by kernel_rfl) (by kernel_rfl) (by kernel_rfl) (by kernel_rfl) (fun _ _ _ h => h) (by rfl) (fun _ => rfl) h3 (fun w' hS => by obtain ⟨q0, ⟨q1, q2, q3, q4, q5, q6⟩, q7, q8, q9, q10⟩ := hS; go_simp; rfl) ?_
      simp only [Act.put, List.setIfInBounds_toArray, List.set_cons_zero, List.set_cons_succ]
      refine hold_take 8 _ rfl (by kernel_rfl) (by kernel_rfl) (by kernel_rfl) (by kernel_rfl) (by kernel_rfl) (fun _ _ _ h => h) (by rfl) (fun _ => rfl) h3 (fun w' hS => by obtain ⟨q0, ⟨q1, q2, q3, q4, q5, q6⟩, q7, q8, q9, q10⟩ := hS; go_simp; rfl) ?_
      simp only [Act.put, List.setIfInBounds_toArray, List.set_cons_zero, List.set_cons_succ]
      refine hold_take 9 _ rfl (by kernel_rfl) (by kernel_rfl) (by kernel_rfl) (by kernel_rfl) (by kernel_rfl) (fun _ _ _ h => h) (by rfl) (fun _ => rfl) h3 (fun w' hS => by obtain ⟨q0, ⟨q1, q2, q3, q4, q5, q6⟩, q7, q8, q9, q10⟩ := hS; go_simp; rfl) ?_
      simp only [Act.put, List.setIfInBounds_toArray, List.set_cons_zero, List.set_cons_succ]
      refine hold_take 10 _ rfl (by kernel_rfl) (by kernel_rfl) (by kernel_rfl) (by kernel_rfl) (by kernel_rfl) (fun _ _ _ h => h) (by rfl) (fun _ => rfl) h3 (fun w' hS => by obtain ⟨q0, ⟨q1, q2, q3, q4, q5, q6⟩, q7, q8, q9, q10⟩ := hS; go_simp; rfl) ?_
      simp only [Act.put, List.setIfInBounds_toArray, List.set_cons_zero, List.set_cons_succ]
      refine hold_one 11 (by kernel_rfl) rfl (by rfl) fun K hK => ?_
      go_simp
      refine ⟨trivial, rfl, (callsIn_wide.2 HC.out).mono ?_⟩
      rintro e w4 ⟨A3, c3, rfl, ho4, hb4⟩
      rw [← HL0.out]
      have hB4 : Below wr.heap.size wr w4 := hb0.trans (hb4.mono hb0.size)
      have hb4' : Below (b + 2) w1 w4 := hbr.trans (hB4.mono (HSz.out wr hbr))
      have HO4 := cover ho4
      refine hK _ _ (.inr (HS.out _ (KeepO.of_below hB4) hb4')) ?_
      clear hK K ho4 hb4 HC
      refine hold_one 12 (by kernel_rfl) rfl (by rfl) fun K hK => ?_
      go_simp
      refine hK _ _ (.inr (HS.out _ (KeepO.of_below hB4) hb4')) ?_
      clear hK K
      refine hold_one 13 (by kernel_rfl) rfl (by rfl) fun K hK => ?_
      obtain ⟨z, hz⟩ : ∃ z, z = w4.heap.size := ⟨_, rfl⟩
      obtain ⟨wz, hwz⟩ : ∃ wz, wz = w4.alloc (.cells #[.int .i64 2, .int .i64 x, .int .i64 p.frm, .int .u8 pe.a0, .int .u8 pe.a1, .int .u8 pe.a2, .int .u8 pe.a3, .int .u8 pe.a4, .int .u8 pe.a5, .slice A3 L0 c3, .int .i64 0] 60) := ⟨_, rfl⟩
      have hmz : Below w4.heap.size w4 wz := by rw [hwz]; exact (Below.refl _ _).alloc (Nat.le_refl _) _
      have hBz : Below wr.heap.size wr wz := hB4.trans (hmz.mono hB4.size)
      have hbz' : Below (b + 2) w1 wz := hb4'.trans (hmz.mono (HSz.out w4 hb4'))
      have hnz : wz.heap[z]? = some (.cells #[.int .i64 2, .int .i64 x, .int .i64 p.frm, .int .u8 pe.a0, .int .u8 pe.a1, .int .u8 pe.a2, .int .u8 pe.a3, .int .u8 pe.a4, .int .u8 pe.a5, .slice A3 L0 c3, .int .i64 0] 60 (0, 0)) := by rw [hwz, hz]; exact heap_alloc_new _ _
      have hoz : InfI wz (indV 2 pe p x, A3, c3) := own_base (ownB_below HO4.out hmz) (Nat.zero_le _)
      refine run_in (fun c h => by cases h) (fun _ _ => trivial) (v := .slice (some ⟨z, 0, none⟩) 1 1) (w' := wz) (by rw [hwz, hz]; go_simp) ?_
      refine hK _ _ (.inr (HS.out _ (KeepO.of_below hBz) hbz')) ?_
      clear hK K hwz hz
      simp only [Act.put, List.setIfInBounds_toArray, List.set_cons_zero, List.set_cons_succ]
      refine hold_one 14 (by kernel_rfl) rfl (by rfl) fun K hK => ?_
      obtain ⟨v5, w5, hr5, ⟨A5, c5, hv5⟩, HO5⟩ := IndsIn.app (hrel.out.ex.below hBz) (HSz.out _ hbz') (indV 2 pe p x) hoz (by rw [HL0.out] at hnz; exact hnz) (by rw [List.length_map, List.length_take]; omega) 32
      obtain ⟨n5, hn5⟩ : ∃ n5, n5 = ((L.take j).map (indV 2 pe p)).length + 1 := ⟨_, rfl⟩
      rw [← hn5] at hv5
      subst hv5
      have k5 : KeepO (isTyO 60) wr w5 := (KeepO.of_below hBz).trans HO5.out.2.1
      have hb5 : Below (b + 2) w1 w5 := HO5.out.2.2 _ hbz'
      have hS5 := HS.out _ k5 hb5
      have HN : Hid (RI w1 (b + 2) (some ⟨g, 0, none⟩) 1 1 L ((L.take (j + 1)).map (indV 2 pe p)) (.slice A5 n5 c5) w5) := cover ⟨own_typed hrel.out.row k5 (fun _ _ => ty_ne (by decide) _ _), hb5, by rw [List.take_add_one, HX.out, List.map_append]; exact HO5.out.1⟩
      refine run_in (fun c h => by cases h) (fun _ _ => trivial) (v := .slice A5 n5 c5) (w' := w5) (appends_exec _ _ _ _ rfl v (.slice (some ⟨z, 0, none⟩) 1 1) (by go_simp) (by go_simp) hr5) ?_
      refine hK _ _ (.inr hS5) ?_
      clear hK K hr5 hn5 HO5 k5 hb5 hnz hoz hBz hmz hbz' HO4
      simp only [Act.put, List.setIfInBounds_toArray, List.set_cons_zero, List.set_cons_succ]
      refine hold_one 15 (by kernel_rfl) rfl (by rfl) fun K hK => ?_
      go_simp
      refine hK _ _ (.inl rfl) (held_done (by kernel_rfl) ?_ _)
      clear hK K hS5 h3 hb0 hbd hbr hB4 hb4' HS hrel HX
      go_wp2
      go_roundw
      case rel => exact ⟨_, j + 1, by omega, rfl, by go_num, HN⟩
      case measure => simp [intOf]; omega
    · obtain rfl : j = 1 := by omega
      have hex := hrel.out.ex
      rw [List.take_of_length_le (by rw [HNL.out]; exact Nat.le_refl _)] at hex
      obtain ⟨Av, cv, hv⟩ := hex.shape
      have HN : Hid (HearOut (toldP l pe p) (sentP l p) w (.returned (.tuple #[v, .slice none 0 0])) wr) := cover (by
        rw [HTOLD.out, HSENT.out]
        exact ⟨Av, cv, none, 0, by rw [hv]; rfl, cover ⟨by rw [HB.out, ← hv]; exact hex.mono (by omega), PdusIn.nil _ _, by rw [HB.out]; exact HOut.out _ hrel.out.bel⟩⟩)
      clear hex hv hrel HCell HSz HRow HRH HOut
      go_wp2
      go_ret2
      exact HN.out
set_option maxRecDepth 100000 in
set_option maxHeartbeats 6400000 in
theorem rhear_resp2 {Bs : Nat} {w : World} {r : Nat} {l : List SV} (h : RHas Bs w r l) (pe : A6) (p : PV) (Ap : Option Addr) (cp : Nat) (hr : Row w w.heap.size Ap p.info.length p.info) (hpl : p.info.length ≤ 140737488355328) (hone : IsOne p) (hk : p.kind = 2) (hrs : p.resp = true) (hcl : clsS l p.to ≠ 0) :
    Calls Try.prog 22 #[ptr r, .agg #[.int .u8 pe.a0, .int .u8 pe.a1, .int .u8 pe.a2, .int .u8 pe.a3, .int .u8 pe.a4, .int .u8 pe.a5], .agg #[.int .i64 p.to, .int .i64 p.frm, .bool p.resp, .int .i64 p.form, .int .i64 p.kind, .int .i64 p.ns, .int .i64 p.nr, .bool p.poll, .slice Ap p.info.length cp]] w (HearOut (toldP l pe p) (sentP l p) w) := by
  obtain ⟨b, hb⟩ : ∃ b, w.heap.size = b := ⟨_, rfl⟩
  have HB := cover hb
  obtain ⟨L0, hL0⟩ : ∃ L0, L0 = p.info.length := ⟨_, rfl⟩
  have HL0 := cover hL0
  have HT := cover (fun W => ref_type_any p Ap cp W)
  rw [← hL0] at HT ⊢
  obtain ⟨w1, hw1⟩ : ∃ w1, w1 = (w.alloc (.cells #[.int .u8 pe.a0, .int .u8 pe.a1, .int .u8 pe.a2, .int .u8 pe.a3, .int .u8 pe.a4, .int .u8 pe.a5] 37)).alloc (.cells #[.int .i64 p.to, .int .i64 p.frm, .bool p.resp, .int .i64 p.form, .int .i64 p.kind, .int .i64 p.ns, .int .i64 p.nr, .bool p.poll, .slice Ap L0 cp] 29) := ⟨_, rfl⟩
  have hb1 : Below b w w1 := by rw [hw1, ← hb]; exact ((Below.refl _ _).alloc (Nat.le_refl _) _).alloc (by simp) _
  have hs1 : w1.heap.size = b + 2 := by rw [hw1]; simp [hb]
  have g0 : w1.heap[b]? = some (.cells #[.int .u8 pe.a0, .int .u8 pe.a1, .int .u8 pe.a2, .int .u8 pe.a3, .int .u8 pe.a4, .int .u8 pe.a5] 37 (0, 0)) := by rw [hw1, ← hb]; exact heap_alloc2_old _ _ _
  have g1 : w1.heap[b + 1]? = some (.cells #[.int .i64 p.to, .int .i64 p.frm, .bool p.resp, .int .i64 p.form, .int .i64 p.kind, .int .i64 p.ns, .int .i64 p.nr, .bool p.poll, .slice Ap L0 cp] 29 (0, 0)) := by rw [hw1, ← hb]; exact heap_alloc2_new _ _ _
  have HCell : Hid (∀ W, Below (b + 2) w1 W → (W.cell? ⟨b, 0, none⟩ = some (.int .u8 pe.a0) ∧ W.cell? ⟨b, 1, none⟩ = some (.int .u8 pe.a1) ∧ W.cell? ⟨b, 2, none⟩ = some (.int .u8 pe.a2) ∧ W.cell? ⟨b, 3, none⟩ = some (.int .u8 pe.a3) ∧ W.cell? ⟨b, 4, none⟩ = some (.int .u8 pe.a4) ∧ W.cell? ⟨b, 5, none⟩ = some (.int .u8 pe.a5)) ∧ (W.cell? ⟨b + 1, 0, none⟩ = some (.int .i64 p.to) ∧ W.cell? ⟨b + 1, 1, none⟩ = some (.int .i64 p.frm) ∧ W.cell? ⟨b + 1, 2, none⟩ = some (.bool p.resp) ∧ W.cell? ⟨b + 1, 3, none⟩ = some (.int .i64 p.form) ∧ W.cell? ⟨b + 1, 4, none⟩ = some (.int .i64 p.kind) ∧ W.cell? ⟨b + 1, 5, none⟩ = some (.int .i64 p.ns) ∧ W.cell? ⟨b + 1, 6, none⟩ = some (.int .i64 p.nr) ∧ W.cell? ⟨b + 1, 7, none⟩ = some (.bool p.poll) ∧ W.cell? ⟨b + 1, 8, none⟩ = some (.slice Ap L0 cp))) := cover fun W hW => by
    have e0 := (hW.block b (by omega)).trans g0
    have e1 := (hW.block (b + 1) (by omega)).trans g1
    refine ⟨⟨?_, ?_, ?_, ?_, ?_, ?_⟩, pdu_cells e1⟩
    all_goals (rw [cell_of_row _ _ _ _ _ _ e0]; rfl)
  have HSz : Hid (∀ W, Below (b + 2) w1 W → b + 2 ≤ W.heap.size) := cover fun W hW => by rw [← hs1]; exact hW.size
  have HRow : Hid (∀ W, Below (b + 2) w1 W → Row W b Ap p.info.length p.info) := cover fun W hW => by
    have h1 := hr
    rw [hb] at h1
    exact (h1.below hb1).below (hW.mono (by omega))
  have HRH : Hid (∀ W, Below (b + 2) w1 W → RHas Bs W r l) := cover fun W hW => h.below (by rw [hb]; exact hb1.trans (hW.mono (by omega)))
  have HOut : Hid (∀ W, Below (b + 2) w1 W → Below b w W) := cover fun W hW => hb1.trans (hW.mono (by omega))
  have hin := cover h.ok
  have mixed : Try.prog.follows .mixedOrders = true := by kernel_rfl
  obtain ⟨ty, hty⟩ : ∃ ty, ty = typeP p := ⟨_, rfl⟩
  rw [← hty] at HT
  have HTY := cover hty
  have hB0 : Below (b + 2) w1 w1 := Below.refl _ _
  have hsub : Below w1.heap.size w1 w1 := Below.refl _ _
  obtain ⟨_, p0, p1, p2, p3, p4, p5, p6, p7, p8⟩ := HCell.out w1 hB0
  have HS1 := cover hs1
  clear h hr g0 g1 hb1 hty hL0 hb
  have hty1 : (ty != 1) = false := by
    have : ty = 1 := by rw [HTY.out]; exact typeP_one.2 hone
    rw [this]; rfl
  have HTOLD0 : Hid (toldP l pe p = [p.to].map (indV 3 pe p)) := cover (by
    rw [toldP_resp hone (by omega) hrs]
    unfold askerS
    rw [if_neg hcl, hk]
    rfl)
  have HSENT : Hid (sentP l p = []) := cover (sentP_resp hrs)
  have hresp := cover hrs
  obtain ⟨cl, hcle⟩ : ∃ cl, cl = clsS l p.to := ⟨_, rfl⟩
  have HCLS := cover hcle
  have hcl0 : (cl == 0) = false := by rw [hcle]; simpa using hcl
  have hk0 : (p.kind == 0) = false := by rw [hk]; rfl
  have hk1 : (p.kind == 1) = false := by rw [hk]; rfl
  have hk2 : (p.kind == 2) = true := by rw [hk]; rfl
  clear hone hk hrs hcl hcle
  go_enter Try.func22, Try.ntmps22
  go_upto_region 1 with fail
  rw [← hw1, HB.out]
  clear hw1
  go_wp2_with fail
  refine (HT.out w1).mono ?_
  rintro e w2 ⟨rfl, hb2⟩
  rw [HS1.out] at hb2
  clear p0 p1 p2 p3 p4 p5 p6 p7 p8 HT hs1 hsub hB0
  obtain ⟨_, p0, p1, p2, p3, p4, p5, p6, p7, p8⟩ := HCell.out w2 hb2
  go_wp2_with fail
  refine (rhears_has (HRH.out w2 hb2) p.to).mono ?_
  rintro e w3 ⟨A, c, rfl, HO⟩
  obtain ⟨L, hL⟩ : ∃ L, L = hearS l p.to := ⟨_, rfl⟩
  have HLE := cover hL
  rw [← hL] at HO ⊢
  have hl16 : L.length ≤ 16 := by rw [hL]; exact hear_len16 hin.out _
  have hb3 : Below (b + 2) w1 w3 := hb2.trans (HO.out.2.mono (HSz.out w2 hb2))
  have HRW := cover (own_base (base' := 0) HO.out.1 (Nat.zero_le _))
  obtain ⟨n, hn⟩ : ∃ n, n = L.length := ⟨_, rfl⟩
  have HNL := cover hn
  rw [← hn] at HRW hl16 ⊢
  clear hb2 HO hL hn p0 p1 p2 p3 p4 p5 p6 p7 p8
  obtain ⟨_, p0, p1, p2, p3, p4, p5, p6, p7, p8⟩ := HCell.out w3 hb3
  have s4 := rclass_has (HRH.out w3 hb3) p.to
  rw [← HCLS.out] at s4
  rw [hresp.out] at p2
  go_wp2_with fail
  refine s4.mono ?_
  rintro e w4 ⟨rfl, rfl⟩
  obtain ⟨g3, hg3⟩ : ∃ g3, g3 = w3.heap.size := ⟨_, rfl⟩
  obtain ⟨w5, hw5⟩ : ∃ w5, w5 = w3.alloc (.cells #[.int .i64 p.to] 3) := ⟨_, rfl⟩
  have hm5 : Below w3.heap.size w3 w5 := by rw [hw5]; exact (Below.refl _ _).alloc (Nat.le_refl _) _
  have hb5 : Below (b + 2) w1 w5 := hb3.trans (hm5.mono (HSz.out w3 hb3))
  have hn5 : w5.heap[g3]? = some (.cells #[.int .i64 p.to] 3 (0, 0)) := by rw [hw5, hg3]; exact heap_alloc_new _ _
  clear HRW HNL HLE hl16
  have HRW : Hid (w5.ownsRow 0 3 1 (.slice (some ⟨g3, 0, none⟩) 1 1) 1 (([p.to] : List Int).map (Value.int .i64))) := cover ⟨rfl, .inr ⟨g3, 1, #[.int .i64 p.to], rfl, Nat.zero_le _, hn5, Nat.le_refl _, by unfold maxLen; omega, rfl, rfl⟩⟩
  go_upto_region 12 with fail
  rw [← hw5, ← hg3]
  have HW5 := cover (And.intro hw5 hg3)
  clear hw5 hg3 hm5 hn5 hb3 s4 p0 p1 p2 p3 p4 p5 p6 p7 p8
  obtain ⟨_, p0, p1, p2, p3, p4, p5, p6, p7, p8⟩ := HCell.out w5 hb5
  rw [hresp.out] at p2
  obtain ⟨L, hL⟩ : ∃ L, L = [p.to] := ⟨_, rfl⟩
  have hl16 : L.length ≤ 16 := by rw [hL]; simp
  obtain ⟨n1, hn1⟩ : ∃ n1, n1 = L.length := ⟨_, rfl⟩
  have HNL := cover hn1
  have hone1 : n1 = 1 := by rw [hn1, hL]; rfl
  rw [← hL] at HRW
  have HTOLD : Hid (toldP l pe p = L.map (indV 3 pe p)) := cover (by rw [HTOLD0.out, hL])
  obtain ⟨A, hA⟩ : ∃ A, A = some (⟨g3, 0, none⟩ : Addr) := ⟨_, rfl⟩
  obtain ⟨c1, hc1⟩ : ∃ c1, c1 = 1 := ⟨_, rfl⟩
  rw [← hA] at HRW ⊢
  clear hn1 hL hA
  subst hone1 hc1
  have HI0 : Hid (RI w1 (b + 2) A 1 1 L [] (.slice none 0 0) w5) := cover ⟨HRW.out, hb5, IndsIn.nil _ _⟩
  go_wp2_with fail
  clear HRW hb5 p0 p1 p2 p3 p4 p5 p6 p7 p8
  go_loopw [9, 12] (fun vv i wr => ∃ (v : Value) (j : Nat), j ≤ 1 ∧ vv = v ∧ i = .int .i64 j ∧ Hid (RI w1 (b + 2) A 1 1 L ((L.take j).map (indV 3 pe p)) v wr)) (fun _ i _ => 1 - (intOf i).toNat)
  case atStart => exact ⟨_, 0, Nat.zero_le _, rfl, rfl, by rw [List.take_zero]; exact HI0⟩
  case round =>
    obtain ⟨v, j, hj, hv, rfl, hrel⟩ := hrel
    have hv2 := hv.symm
    subst hv2
    clear hv
    by_cases hlt : j < 1
    · obtain ⟨x, hx⟩ : ∃ x, L[j]? = some x := ⟨_, List.getElem?_eq_getElem (by rw [← HNL.out]; exact hlt)⟩
      obtain ⟨g, hA, hgl, _, hc0⟩ := own_cell hrel.out.row (j := j) (x := .int .i64 x) (by rw [List.getElem?_map, hx]; rfl)
      subst hA
      obtain ⟨curg, hcurg⟩ := row_type hrel.out.row (i := g) rfl
      have HS : Hid (∀ W', KeepO (isTyO 60) wr W' → Below (b + 2) w1 W' → (fun W' : World => W'.cell? ⟨g, j, none⟩ = some (.int .i64 x) ∧ (W'.cell? ⟨b, 0, none⟩ = some (.int .u8 pe.a0) ∧ W'.cell? ⟨b, 1, none⟩ = some (.int .u8 pe.a1) ∧ W'.cell? ⟨b, 2, none⟩ = some (.int .u8 pe.a2) ∧ W'.cell? ⟨b, 3, none⟩ = some (.int .u8 pe.a3) ∧ W'.cell? ⟨b, 4, none⟩ = some (.int .u8 pe.a4) ∧ W'.cell? ⟨b, 5, none⟩ = some (.int .u8 pe.a5)) ∧ W'.cell? ⟨b + 1, 1, none⟩ = some (.int .i64 p.frm) ∧ W'.cell? ⟨b + 1, 8, none⟩ = some (.slice Ap L0 cp) ∧ KeepO (isTyO 60) wr W' ∧ Below (b + 2) w1 W') W') := cover fun W' hk hb' => by
        obtain ⟨e6, e0, e1, _, _, _, _, _, _, e8⟩ := HCell.out W' hb'
        exact ⟨hk.cell hcurg (ty_ne (by decide) _ _) hc0, e6, e1, e8, hk, hb'⟩
      have hbr := hrel.out.bel
      have hb0 : Below wr.heap.size wr wr.drew := (Below.refl _ _).drew
      have hbd : Below (b + 2) w1 wr.drew := hbr.trans (hb0.mono (HSz.out wr hbr))
      have h3 : (fun W' : World => W'.cell? ⟨g, j, none⟩ = some (.int .i64 x) ∧ (W'.cell? ⟨b, 0, none⟩ = some (.int .u8 pe.a0) ∧ W'.cell? ⟨b, 1, none⟩ = some (.int .u8 pe.a1) ∧ W'.cell? ⟨b, 2, none⟩ = some (.int .u8 pe.a2) ∧ W'.cell? ⟨b, 3, none⟩ = some (.int .u8 pe.a3) ∧ W'.cell? ⟨b, 4, none⟩ = some (.int .u8 pe.a4) ∧ W'.cell? ⟨b, 5, none⟩ = some (.int .u8 pe.a5)) ∧ W'.cell? ⟨b + 1, 1, none⟩ = some (.int .i64 p.frm) ∧ W'.cell? ⟨b + 1, 8, none⟩ = some (.slice Ap L0 cp) ∧ KeepO (isTyO 60) wr W' ∧ Below (b + 2) w1 W') wr.drew := HS.out _ (KeepO.of_below hb0) hbd
      have HX := cover hx
      have HC : Hid (Calls Try.prog 41 #[.slice Ap L0 cp] wr.drew (GivesB wr.drew p.info)) := cover (by
        rw [HL0.out]
        exact copy_any Ap p.info.length cp b p.info wr.drew (HRow.out _ hbd) (by have := HSz.out _ hbd; omega) hpl)
      clear hx hc0 hcurg
      go_wp2_with fail
      refine (wpIn_wide (n := 0)).1 ?_
      refine held_begin (fun W' : World => W'.cell? ⟨g, j, none⟩ = some (.int .i64 x) ∧ (W'.cell? ⟨b, 0, none⟩ = some (.int .u8 pe.a0) ∧ W'.cell? ⟨b, 1, none⟩ = some (.int .u8 pe.a1) ∧ W'.cell? ⟨b, 2, none⟩ = some (.int .u8 pe.a2) ∧ W'.cell? ⟨b, 3, none⟩ = some (.int .u8 pe.a3) ∧ W'.cell? ⟨b, 4, none⟩ = some (.int .u8 pe.a4) ∧ W'.cell? ⟨b, 5, none⟩ = some (.int .u8 pe.a5)) ∧ W'.cell? ⟨b + 1, 1, none⟩ = some (.int .i64 p.frm) ∧ W'.cell? ⟨b + 1, 8, none⟩ = some (.slice Ap L0 cp) ∧ KeepO (isTyO 60) wr W' ∧ Below (b + 2) w1 W') 15 mixed ?_
      refine hold_take 0 _ rfl (by kernel_rfl) (by kernel_rfl) (by kernel_rfl) (by kernel_rfl) (by kernel_rfl) (fun _ _ _ h => h) (by rfl) (fun _ => rfl) h3 (fun w' hS => by obtain ⟨q0, ⟨q1, q2, q3, q4, q5, q6⟩, q7, q8, q9, q10⟩ := hS; go_simp; rfl) ?_
      simp only [Act.put, List.setIfInBounds_toArray, List.set_cons_zero, List.set_cons_succ]
      refine hold_take 1 _ rfl (by kernel_rfl) (by kernel_rfl) (by kernel_rfl) (by kernel_rfl) (by kernel_rfl) (fun _ _ _ h => h) (by rfl) (fun _ => rfl) h3 (fun w' hS => by obtain ⟨q0, ⟨q1, q2, q3, q4, q5, q6⟩, q7, q8, q9, q10⟩ := hS; go_simp; rfl) ?_
      simp only [Act.put, List.setIfInBounds_toArray, List.set_cons_zero, List.set_cons_succ]
      refine hold_take 2 _ rfl (by kernel_rfl) (by kernel_rfl) (by kernel_rfl) (by kernel_rfl) (by kernel_rfl) (fun _ _ _ h => h) (by rfl) (fun _ => rfl) h3 (fun w' hS => by obtain ⟨q0, ⟨q1, q2, q3, q4, q5, q6⟩, q7, q8, q9, q10⟩ := hS; go_simp; rfl) ?_
      simp only [Act.put, List.setIfInBounds_toArray, List.set_cons_zero, List.set_cons_succ]
      refine hold_take 3 _ rfl (by kernel_rfl) (by kernel_rfl) (by kernel_rfl) (by kernel_rfl) (by kernel_rfl) (fun _ _ _ h => h) (by rfl) (fun _ => rfl) h3 (fun w' hS => by obtain ⟨q0, ⟨q1, q2, q3, q4, q5, q6⟩, q7, q8, q9, q10⟩ := hS; go_simp; rfl) ?_
      simp only [Act.put, List.setIfInBounds_toArray, List.set_cons_zero, List.set_cons_succ]
      refine hold_take 4 _ rfl (by kernel_rfl) (by kernel_rfl) (by kernel_rfl) (by kernel_rfl) (by kernel_rfl) (fun _ _ _ h => h) (by rfl) (fun _ => rfl) h3 (fun w' hS => by obtain ⟨q0, ⟨q1, q2, q3, q4, q5, q6⟩, q7, q8, q9, q10⟩ := hS; go_simp; rfl) ?_
      simp only [Act.put, List.setIfInBounds_toArray, List.set_cons_zero, List.set_cons_succ]
      refine hold_take 5 _ rfl (by kernel_rfl) (by kernel_rfl) (by kernel_rfl) (by kernel_rfl) (by kernel_rfl) (fun _ _ _ h => h) (by rfl) (fun _ => rfl) h3 (fun w' hS => by obtain ⟨q0, ⟨q1, q2, q3, q4, q5, q6⟩, q7, q8, q9, q10⟩ := hS; go_simp; rfl) ?_
      simp only [Act.put, List.setIfInBounds_toArray, List.set_cons_zero, List.set_cons_succ]
      refine hold_take 6 _ rfl (by kernel_rfl) (by kernel_rfl) (by kernel_rfl) (by kernel_rfl) (by kernel_rfl) (fun _ _ _ h => h) (by rfl) (fun _ => rfl) h3 (fun w' hS => by obtain ⟨q0, ⟨q1, q2, q3, q4, q5, q6⟩, q7, q8, q9, q10⟩ := hS; go_simp; rfl) ?_
      simp only [Act.put, List.setIfInBounds_toArray, List.set_cons_zero, List.set_cons_succ]
      refine hold_take 7 _ rfl (by kernel_rfl) (by kernel_rfl) (by kernel_rfl) (by kernel_rfl) (by kernel_rfl) (fun _ _ _ h => h) (by rfl) (fun _ => rfl) h3 (fun w' hS => by obtain ⟨q0, ⟨q1, q2, q3, q4, q5, q6⟩, q7, q8, q9, q10⟩ := hS; go_simp; rfl) ?_
      simp only [Act.put, List.setIfInBounds_toArray, List.set_cons_zero, List.set_cons_succ]
      refine hold_take 8 _ rfl (by kernel_rfl) (by kernel_rfl) (by kernel_rfl) (by kernel_rfl) (by kernel_rfl) (fun _ _ _ h => h) (by rfl) (fun _ => rfl) h3 (fun w' hS => by obtain ⟨q0, ⟨q1, q2, q3, q4, q5, q6⟩, q7, q8, q9, q10⟩ := hS; go_simp; rfl) ?_
      simp only [Act.put, List.setIfInBounds_toArray, List.set_cons_zero, List.set_cons_succ]
      refine hold_take 9 _ rfl (by kernel_rfl) (by kernel_rfl) (by kernel_rfl) (by kernel_rfl) (by kernel_rfl) (fun _ _ _ h => h) (by rfl) (fun _ => rfl) h3 (fun w' hS => by obtain ⟨q0, ⟨q1, q2, q3, q4, q5, q6⟩, q7, q8, q9, q10⟩ := hS; go_simp; rfl) ?_
      simp only [Act.put, List.setIfInBounds_toArray, List.set_cons_zero, List.set_cons_succ]
      refine hold_take 10 _ rfl (by kernel_rfl) (by kernel_rfl) (by kernel_rfl) (by kernel_rfl) (by kernel_rfl) (fun _ _ _ h => h) (by rfl) (fun _ => rfl) h3 (fun w' hS => by obtain ⟨q0, ⟨q1, q2, q3, q4, q5, q6⟩, q7, q8, q9, q10⟩ := hS; go_simp; rfl) ?_
      simp only [Act.put, List.setIfInBounds_toArray, List.set_cons_zero, List.set_cons_succ]
      refine hold_one 11 (by kernel_rfl) rfl (by rfl) fun K hK => ?_
      go_simp
      refine ⟨trivial, rfl, (callsIn_wide.2 HC.out).mono ?_⟩
      rintro e w4 ⟨A3, c3, rfl, ho4, hb4⟩
      rw [← HL0.out]
      have hB4 : Below wr.heap.size wr w4 := hb0.trans (hb4.mono hb0.size)
      have hb4' : Below (b + 2) w1 w4 := hbr.trans (hB4.mono (HSz.out wr hbr))
      have HO4 := cover ho4
      refine hK _ _ (.inr (HS.out _ (KeepO.of_below hB4) hb4')) ?_
      clear hK K ho4 hb4 HC
      refine hold_one 12 (by kernel_rfl) rfl (by rfl) fun K hK => ?_
      go_simp
      refine hK _ _ (.inr (HS.out _ (KeepO.of_below hB4) hb4')) ?_
      clear hK K
      refine hold_one 13 (by kernel_rfl) rfl (by rfl) fun K hK => ?_
      obtain ⟨z, hz⟩ : ∃ z, z = w4.heap.size := ⟨_, rfl⟩
      obtain ⟨wz, hwz⟩ : ∃ wz, wz = w4.alloc (.cells #[.int .i64 3, .int .i64 x, .int .i64 p.frm, .int .u8 pe.a0, .int .u8 pe.a1, .int .u8 pe.a2, .int .u8 pe.a3, .int .u8 pe.a4, .int .u8 pe.a5, .slice A3 L0 c3, .int .i64 0] 60) := ⟨_, rfl⟩
      have hmz : Below w4.heap.size w4 wz := by rw [hwz]; exact (Below.refl _ _).alloc (Nat.le_refl _) _
      have hBz : Below wr.heap.size wr wz := hB4.trans (hmz.mono hB4.size)
      have hbz' : Below (b + 2) w1 wz := hb4'.trans (hmz.mono (HSz.out w4 hb4'))
      have hnz : wz.heap[z]? = some (.cells #[.int .i64 3, .int .i64 x, .int .i64 p.frm, .int .u8 pe.a0, .int .u8 pe.a1, .int .u8 pe.a2, .int .u8 pe.a3, .int .u8 pe.a4, .int .u8 pe.a5, .slice A3 L0 c3, .int .i64 0] 60 (0, 0)) := by rw [hwz, hz]; exact heap_alloc_new _ _
      have hoz : InfI wz (indV 3 pe p x, A3, c3) := own_base (ownB_below HO4.out hmz) (Nat.zero_le _)
      refine run_in (fun c h => by cases h) (fun _ _ => trivial) (v := .slice (some ⟨z, 0, none⟩) 1 1) (w' := wz) (by rw [hwz, hz]; go_simp) ?_
      refine hK _ _ (.inr (HS.out _ (KeepO.of_below hBz) hbz')) ?_
      clear hK K hwz hz
      simp only [Act.put, List.setIfInBounds_toArray, List.set_cons_zero, List.set_cons_succ]
      refine hold_one 14 (by kernel_rfl) rfl (by rfl) fun K hK => ?_
      obtain ⟨v5, w5, hr5, ⟨A5, c5, hv5⟩, HO5⟩ := IndsIn.app (hrel.out.ex.below hBz) (HSz.out _ hbz') (indV 3 pe p x) hoz (by rw [HL0.out] at hnz; exact hnz) (by rw [List.length_map, List.length_take]; omega) 32
      obtain ⟨n5, hn5⟩ : ∃ n5, n5 = ((L.take j).map (indV 3 pe p)).length + 1 := ⟨_, rfl⟩
      rw [← hn5] at hv5
      subst hv5
      have k5 : KeepO (isTyO 60) wr w5 := (KeepO.of_below hBz).trans HO5.out.2.1
      have hb5 : Below (b + 2) w1 w5 := HO5.out.2.2 _ hbz'
      have hS5 := HS.out _ k5 hb5
      have HN : Hid (RI w1 (b + 2) (some ⟨g, 0, none⟩) 1 1 L ((L.take (j + 1)).map (indV 3 pe p)) (.slice A5 n5 c5) w5) := cover ⟨own_typed hrel.out.row k5 (fun _ _ => ty_ne (by decide) _ _), hb5, by rw [List.take_add_one, HX.out, List.map_append]; exact HO5.out.1⟩
      refine run_in (fun c h => by cases h) (fun _ _ => trivial) (v := .slice A5 n5 c5) (w' := w5) (appends_exec _ _ _ _ rfl v (.slice (some ⟨z, 0, none⟩) 1 1) (by go_simp) (by go_simp) hr5) ?_
      refine hK _ _ (.inr hS5) ?_
      clear hK K hr5 hn5 HO5 k5 hb5 hnz hoz hBz hmz hbz' HO4
      simp only [Act.put, List.setIfInBounds_toArray, List.set_cons_zero, List.set_cons_succ]
      refine hold_one 15 (by kernel_rfl) rfl (by rfl) fun K hK => ?_
      go_simp
      refine hK _ _ (.inl rfl) (held_done (by kernel_rfl) ?_ _)
      clear hK K hS5 h3 hb0 hbd hbr hB4 hb4' HS hrel HX
      go_wp2
      go_roundw
      case rel => exact ⟨_, j + 1, by omega, rfl, by go_num, HN⟩
      case measure => simp [intOf]; omega
    · obtain rfl : j = 1 := by omega
      have hex := hrel.out.ex
      rw [List.take_of_length_le (by rw [HNL.out]; exact Nat.le_refl _)] at hex
      obtain ⟨Av, cv, hv⟩ := hex.shape
      have HN : Hid (HearOut (toldP l pe p) (sentP l p) w (.returned (.tuple #[v, .slice none 0 0])) wr) := cover (by
        rw [HTOLD.out, HSENT.out]
        exact ⟨Av, cv, none, 0, by rw [hv]; rfl, cover ⟨by rw [HB.out, ← hv]; exact hex.mono (by omega), PdusIn.nil _ _, by rw [HB.out]; exact HOut.out _ hrel.out.bel⟩⟩)
      clear hex hv hrel HCell HSz HRow HRH HOut
      go_wp2
      go_ret2
      exact HN.out
end Go.Proofs.Ytgpmimohoepeiaa
