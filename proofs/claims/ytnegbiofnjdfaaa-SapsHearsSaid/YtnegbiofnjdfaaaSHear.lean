/- Who hears: a SAP by itself, those of a group, all. -/
import Derived.Test.YtnegbiofnjdfaaaSClose
namespace Go.Proofs.Ytnegbiofnjdfaaa
open Go.RowKit
set_option linter.unusedVariables false

/-- at the head of a round: of those that were asked about, they who are in the group are in the set -/
structure MemAt (w : World) (b n : Nat) (D : DU) (l : List SV) (g : Int) (left : Lit → Bool) (cnt : Nat) (wr : World) : Prop where
  rng : wr.ranges Try.prog 59 unitElem b (w.heap.size + 1) n D left cnt
  ex : ∃ E : DU, wr.ownsMap Try.prog 3 unitElem w.heap.size (Maps.size E) E ∧ ∀ x, I64 x → Maps.has E (kI x) = (memS l x g && !left (kS x g))
  bel : Below w.heap.size w wr
theorem mem_size {w : World} {e n : Nat} {E : DU} {l : List SV} (hok : InS l) (h : w.ownsMap Try.prog 3 unitElem e n E) (hE : ∀ x, I64 x → Maps.has E (kI x) = true → hasS l x = true) : Maps.size E ≤ 16 := by
  have h1 := size_le h lawI (l.map fun s => kI s.sap) (fun kl hk => by
    obtain ⟨v, hv⟩ := has_key h hk
    obtain ⟨x, _, rfl, hx⟩ := Maps.keyOf_i64 Try.underlying3 hv
    obtain ⟨s, hs, rfl⟩ := hasS_iff.1 (hE x hx hk)
    exact List.mem_map.2 ⟨s, hs, rfl⟩)
  rw [List.length_map] at h1
  exact Nat.le_trans h1 hok.room
theorem Out.from {w w1 w' : World} {T : List Int} {e : Ending} (hb : Below w.heap.size w w1) (h : Out T w1 e w') : Out T w e w' := by
  obtain ⟨A, cp, rfl, hh⟩ := h
  exact ⟨A, cp, rfl, cover ⟨ownsRow_base_a hh.out.1 hb.size, hb.trans (hh.out.2.mono hb.size)⟩⟩
set_option maxRecDepth 100000 in
set_option maxHeartbeats 4000000 in
theorem members_any {w : World} {s a b : Nat} {l : List SV} (h : SapsIn w s a b l) {g : Int} (hg : I64 g) (h1 : hasS l g = false) (h2 : g ≠ 255) :
    Calls Try.prog 28 #[ptr s, .int .i64 g] w (Out (hearS l g) w) := by
  obtain ⟨D, hown, hD⟩ := h.seat.ex
  obtain ⟨n, hn⟩ : ∃ n, n = Maps.size D := ⟨_, rfl⟩
  rw [← hn] at hown
  clear hn
  have hbl := hown.lt
  obtain ⟨W, hW⟩ : ∃ W, W = w.alloc (.map #[] 0) := ⟨_, rfl⟩
  have hsW : W.heap.size = w.heap.size + 1 := by rw [hW]; simp
  have hE0 : W.ownsMap Try.prog 3 (unitElem (H := Unit)) w.heap.size 0 (.map []) := by rw [hW]; exact World.ownsMap_made w _ _ _
  have hbW : Below w.heap.size w W := by rw [hW]; exact (Below.refl _ _).alloc (Nat.le_refl _) _
  have hownW : W.ownsMap Try.prog 59 unitElem b n D := own_kept hown (hbW.block b hbl)
  obtain ⟨_, _, d2⟩ := (h.below hbW).cells
  have hok := h.ok
  have hm1 : ∀ w, (Instr.makeMap 69 none).run Try.prog w = .ok (.map (some w.heap.size)) (w.alloc (.map #[] 0)) := fun w => run_makeMap _ w
  have HD := cover hD
  have HE0 := cover (And.intro hE0 hbW)
  have H12 := cover (And.intro h1 h2)
  clear hD hE0 hbW h hown h1 h2
  obtain ⟨B, hB⟩ : ∃ B, B = w.heap.size := ⟨_, rfl⟩
  have HBB := cover hB
  go_enter Try.func28, Try.ntmps28
  go_upto_region 2 with fail
  rw [← hW, ← hB]
  rw [← hB] at hsW
  have HW := cover hW
  clear hW hB
  go_wp2_with (first
    | (at_range; refine wpList_range_own _ rfl _ 50 rfl 59 57 lawS Try.underlying50 unitElem b n _ rfl hownW ?_; intro w0 hrg0 hg0 hs0)
    | fail)
  go_frame
  rw [hsW] at hrg0 ⊢
  go_loopw [13] (fun _ wr => ∃ (left : Lit → Bool) (cnt : Nat), Hid (MemAt w b n D l g left cnt wr)) (fun _ wr => wr.rangeLeft b (B + 1))
  case atStart =>
    have hB := HBB.out
    refine ⟨_, _, cover ⟨by rw [← hB]; exact hrg0, ⟨.map [], own_tight (own_kept HE0.out.1 (hg0.block _ (by omega) (by simp))), fun x hx => ?_⟩, ?_⟩⟩
    · rw [HD.out x g hx hg]
      show Maps.has (DataW.map []) (kI x) = _
      cases memS l x g <;> rfl
    · exact HE0.out.2.grown hg0 (by omega) (fun j hj => by cases hj)
  case round =>
    obtain ⟨left, cnt, hrel⟩ := hrel
    obtain ⟨hrg, ⟨E, hE, hEm⟩, hbel⟩ := hrel.out
    rw [← HBB.out] at hrg hE
    clear hrel
    go_wp2_with (first
      | (at_next; refine wpList_next_ranges _ rfl _ rfl 59 lawS unitElem (fun (p : Int × Int) => seatV p.1 p.2) (fun (_ : Unit) => Value.agg #[]) (fun key kl hkey => by obtain ⟨x, g, rfl, _⟩ := key_S_inv hkey; exact ⟨(x, g), rfl⟩) (fun v _ hv => by obtain ⟨rfl, _⟩ := unitElem_inv hv; exact ⟨(), rfl⟩) b (B + 1) n _ _ _ rfl hrg ?_ ?_)
      | fail)
    · intro _ hl0
      have hT := keys_sorted hE (hear_rise hok.rise g) (fun x => by
        rw [hear_mem hok H12.out.1 H12.out.2]
        constructor
        · intro hx
          have h6 := sap_64 (ok_mem hok hx).1
          exact ⟨h6, by rw [hEm x h6, hl0, hx]; rfl⟩
        · rintro ⟨h6, hx⟩
          rw [hEm x h6, hl0] at hx
          simpa using hx)
      have HR := riseB_any hE hT (by have := hear_len l g; have := hok.room; omega)
      have HBel := cover hbel
      clear hT hEm hE hrg hl0 hbel
      go_wp2_with fail
      refine HR.mono ?_
      intro e w' hO
      have HO := cover (Out.from HBel.out hO)
      obtain ⟨A, cp, rfl, _⟩ := hO
      clear HR
      go_wp2
      go_ret
      exact HO.out
    · intro x y kl yd yp w1 cnt1 hkey hlx hv hat hrg1 hlt hg1 hs1 hen
      obtain ⟨x', y', e1, rfl, hx, hy⟩ := key_S_inv hkey
      obtain ⟨rfl, rfl⟩ : x = x' ∧ y = y' := by simpa using e1
      have hhas : memS l x y = true := by rw [← HD.out x y hx hy]; exact Maps.has_true_of_atKey hat
      have hbw := hrg1.owns.lt
      have hrl := hrg1.lt
      have hne := hrg1.ne
      have hE1 := hE.kept hg1 (by simp)
      have hb1 : Below B w w1 := Below.grown (by rw [HBB.out]; exact hbel) hg1 (by rw [HBB.out]; exact hbel.size) (fun j hj => by cases hj; omega)
      obtain ⟨w2, hw2⟩ : ∃ w2, w2 = w1.alloc (.cells #[.int .i64 x, .int .i64 y] 59) := ⟨_, rfl⟩
      have hb2 : Below w1.heap.size w1 w2 := by rw [hw2]; exact (Below.refl _ _).alloc (Nat.le_refl _) _
      have hblk2 : w2.heap[w1.heap.size]? = some (.cells #[.int .i64 x, .int .i64 y] 59 (0, 0)) := by rw [hw2]; exact heap_alloc_new _ _
      rw [hs1] at hblk2
      have hrg2 := hrg1.kept (grown_of_below hb2 none) (by simp) (by simp)
      have hE2 := hE1.kept (grown_of_below hb2 none) (by simp)
      have hB2 : Below B w w2 := hb1.trans (hb2.mono (by omega))
      by_cases hyg : y = g
      · have hgg : (y == g) = true := by simpa using hyg
        have hsz := mem_size hok hE2 (fun x2 hx2 hh => by
          rw [hEm x2 hx2] at hh
          have := mem_has (l := l) (n := x2) (g := g) (by cases hm : memS l x2 g <;> rw [hm] at hh <;> simp at hh ⊢)
          exact this)
        obtain ⟨w3, hr, hE3, ht3⟩ := hE2.store lawI Try.underlying69 (by unfold maxLen; omega) (key_I hx) unitElem_mk
        have hg3 := ht3.grown
        have hrg3 := hrg2.kept hg3 (by have := HBB.out; simp; omega) (by simp)
        have HN : Hid (MemAt w b n D l g (fun z => left z && !z.sameKey (kS x y)) cnt1 w3) := cover ⟨by rw [← HBB.out]; exact hrg3, ⟨_, by rw [← HBB.out]; exact own_tight hE3, fun x2 hx2 => by
          by_cases he : x2 = x
          · subst he
            rw [Maps.has_put_same hE2.isMap (lawI.key (key_I hx)), hyg, WideAt.sameKey_self (lawS.key (key_S hx hg)), ← hyg, hhas]
            simp
          · rw [Maps.has_put_other (fun e => he (kI_inj e)), hEm x2 hx2, Maps.sameKey_ne (fun e => he (kS_inj hx2 hg hx hy e).1)]
            simp⟩, by rw [← HBB.out]; exact hB2.grown hg3 (by have := hE2.lt; omega) (fun j hj => by cases hj; exact Nat.le_refl _)⟩
        have e1 := hrg3.left_eq
        have e2 := hrg.left_eq
        rw [hw2] at hr
        clear hrg hrg1 hrg2 hrg3 hE hE1 hE2 hE3 hEm hbel hb1 hb2 hB2 hblk2 hkey hlx hv hat hhas hyg hg1 hw2 ht3 hg3 hsz
        go_wp2
        go_roundw
        case rel => exact ⟨_, _, HN⟩
        case measure => rw [e1, e2]; exact hlt
      · have hgg : (y == g) = false := by simpa using hyg
        have HN : Hid (MemAt w b n D l g (fun z => left z && !z.sameKey (kS x y)) cnt1 w2) := cover ⟨by rw [← HBB.out]; exact hrg2, ⟨E, by rw [← HBB.out]; exact hE2, fun x2 hx2 => by
          rw [hEm x2 hx2, Maps.sameKey_ne (fun e => hyg (kS_inj hx2 hg hx hy e).2.symm)]
          simp⟩, by rw [← HBB.out]; exact hB2⟩
        have e1 := hrg2.left_eq
        have e2 := hrg.left_eq
        rw [hw2] at HN e1
        clear hrg hrg1 hrg2 hE hE1 hE2 hEm hbel hb1 hb2 hB2 hblk2 hkey hlx hv hat hhas hyg hg1 hw2
        go_wp2
        go_roundw
        case rel => exact ⟨_, _, HN⟩
        case measure => rw [e1, e2]; exact hlt
set_option maxRecDepth 100000 in
set_option maxHeartbeats 1600000 in
theorem hears_any {w : World} {s a b : Nat} {l : List SV} (h : SapsIn w s a b l) {n : Int} (hn : I64 n) :
    Calls Try.prog 14 #[ptr s, .int .i64 n] w (Out (hearS l n) w) := by
  by_cases h255 : n = 255
  · subst h255
    have HL := list_any h
    rw [← hear_all] at HL
    clear h
    go_enter Try.func14, Try.ntmps14
    go_wp2_with fail
    refine HL.mono ?_
    rintro e w' ⟨A, cp, rfl, hh⟩
    clear HL
    go_wp2
    go_ret
    exact ⟨A, cp, rfl, hh⟩
  · have hne : (n == 255) = false := by simpa using h255
    have c1 := isActive_any h hn
    have H := cover h
    cases hh : hasS l n
    · rw [hh] at c1
      have HH := cover (And.intro hh h255)
      clear h hh h255
      go_enter Try.func14, Try.ntmps14
      go_wp2_with fail
      refine c1.mono ?_
      rintro e w1 ⟨rfl, hb1⟩
      have HM := members_any (H.out.below hb1) hn HH.out.1 HH.out.2
      have HB := cover hb1
      clear c1 hb1
      go_wp2_with fail
      refine HM.mono ?_
      intro e w' hO
      have HO := cover (Out.from HB.out hO)
      obtain ⟨A, cp, rfl, _⟩ := hO
      clear HM
      go_wp2
      go_ret
      exact HO.out
    · rw [hh] at c1
      have ho := ok_has h.ok hh
      have e1 : hearS l n = [n] := by rw [hear_one h.ok ho.2.2, hh]; rfl
      rw [e1]
      clear h hh h255 ho e1
      go_enter Try.func14, Try.ntmps14
      go_wp2_with fail
      refine c1.mono ?_
      rintro e w1 ⟨rfl, hb1⟩
      have HO : Hid (Out [n] w (.returned (.slice (some ⟨w1.heap.size, 0, none⟩) 1 1)) (w1.alloc (.cells #[.int .i64 n] 3))) := cover ⟨some ⟨w1.heap.size, 0, none⟩, 1, rfl, cover ⟨⟨rfl, .inr ⟨w1.heap.size, 1, #[.int .i64 n], rfl, hb1.size, heap_alloc_new _ _, Nat.le_refl _, by unfold maxLen; omega, by simp, rfl⟩⟩, hb1.alloc hb1.size _⟩⟩
      clear c1 hb1
      go_wp2
      go_ret
      exact HO.out
end Go.Proofs.Ytnegbiofnjdfaaa
