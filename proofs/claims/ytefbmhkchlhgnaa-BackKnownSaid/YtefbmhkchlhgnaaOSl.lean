/- A slice of rows of bytes that is somebody's own, each row in memory of its own: how it reads, what is put behind it. -/
import Derived.Great.BuildSlice
import Derived.Maps.AppendAt
import Derived.Deep.Upon
import Derived.Test.YtefbmhkchlhgnaaFFoot
import Derived.Test.YtefbmhkchlhgnaaKWords
import Derived.Test.YtefbmhkchlhgnaaOMore
namespace Go.Proofs.Ytefbmhkchlhgnaa
open Go.RowKit
set_option linter.unusedVariables false
set_option linter.unusedSimpArgs false

/-- a row of bytes: where it lies, its room, its bytes -/
structure SL where
  A : Option Addr
  c : Nat
  l : List Int
abbrev SL.val (u : SL) : Value := .slice u.A u.l.length u.c
theorem sl_keep {w w' : World} {u : SL} {B : Nat} (h : OwnB w B u.val u.l) (hk : ∀ g, u.val.ownBlock = some g → w'.heap[g]? = w.heap[g]?) : OwnB w' B u.val u.l := own_keep (v := ⟨u.A, u.c, u.l, 0⟩) h hk
theorem sl_blk {w : World} {u : SL} {B : Nat} (h : OwnB w B u.val u.l) {g : Nat} (hg : u.val.ownBlock = some g) : B ≤ g ∧ ∃ cur, w.heap[g]? = some (.cells cur 5 (0, 0)) := own_blk (v := ⟨u.A, u.c, u.l, 0⟩) h hg
theorem sl_info : (Try.prog.info? 26).map (fun i => (i.zero, i.size, i.bytes)) = some (some (.slice none 0 0), 1, 24) := by kernel_rfl
/-- such a slice, its value v -/
structure RowS (w : World) (v : Value) (us : List SL) : Prop where
  row : w.ownsRow 0 26 1 v us.length (us.map SL.val)
  own : ∀ u ∈ us, OwnB w 0 u.val u.l
abbrev vownF (v : Value) : Foot := fun i => v.ownBlock = some i
/-- no block of bytes has turned -/
def U8Keep (w w' : World) : Prop := ∀ (i : Nat) (cur : Array Value) (fr : Nat × Nat), w.heap[i]? = some (.cells cur 5 fr) → w'.heap[i]? = w.heap[i]?
theorem U8Keep.refl (w : World) : U8Keep w w := fun _ _ _ _ => rfl
theorem U8Keep.trans {a b c : World} (h : U8Keep a b) (k : U8Keep b c) : U8Keep a c := fun i cur fr hi => (k i cur fr ((h i cur fr hi).trans hi)).trans (h i cur fr hi)
theorem U8Keep.of_below {a b : World} (h : Below a.heap.size a b) : U8Keep a b := fun i _ _ hi => h.block i (block_lt hi)
theorem U8Keep.drewN {a b : World} (h : U8Keep a b) (n : Nat) : U8Keep a (b.drewN n) := h
theorem U8Keep.setCell {a b : World} (h : U8Keep a b) {g : Nat} (hg : ∀ (cur : Array Value) (fr : Nat × Nat), a.heap[g]? ≠ some (.cells cur 5 fr)) (o : Nat) (v : Value) : U8Keep a (b.setCell ⟨g, o, none⟩ v) := fun i cur fr hi => (set_other _ _ (fun e => by subst e; exact hg cur fr hi)).trans (h i cur fr hi)
theorem not_u8 {w : World} {g : Nat} {cs : Array Value} {T : TypeId} {f : Nat × Nat} (h : w.heap[g]? = some (.cells cs T f)) (hT : T ≠ 5) : ∀ (cur : Array Value) (fr : Nat × Nat), w.heap[g]? ≠ some (.cells cur 5 fr) := fun cur fr hc => hT (by rw [h] at hc; injection hc with hc; injection hc)
theorem own_u8 {w w' : World} {B : Nat} {v : Value} {l : List Int} (h : OwnB w B v l) (hu : U8Keep w w') : OwnB w' B v l := row_keeps h fun i hi => by
  obtain ⟨cur, hc⟩ := row_type h hi
  exact hu i cur _ hc
section
variable {w w' : World} {v : Value} {us : List SL}
theorem RowS.keep (h : RowS w v us) (hk : ∀ i, vownF v i → w'.heap[i]? = w.heap[i]?) (hb : U8Keep w w') : RowS w' v us :=
  ⟨row_keeps h.row hk, fun u hu => own_u8 (h.own u hu) hb⟩
theorem RowS.vtype (h : RowS w v us) {i : Nat} (hi : vownF v i) : ∃ cur, w.heap[i]? = some (.cells cur 26 (0, 0)) := row_type h.row hi
theorem RowS.lt (h : RowS w v us) {i : Nat} (hi : vownF v i) : i < w.heap.size := by
  obtain ⟨cur, hc⟩ := h.vtype hi; exact block_lt hc
theorem RowS.below (h : RowS w v us) (hb : Below w.heap.size w w') : RowS w' v us := h.keep (fun i hi => hb.block i (h.lt hi)) (U8Keep.of_below hb)
theorem RowS.drewN (h : RowS w v us) (n : Nat) : RowS (w.drewN n) v us := h.keep (fun _ _ => rfl) (U8Keep.refl _)
theorem RowS.nil (w : World) : RowS w (.slice none 0 0) [] := ⟨World.ownsRow_nil _ _ _ _, fun u hu => by cases hu⟩
theorem RowS.shape (h : RowS w v us) : ∃ A c, v = .slice A us.length c ∧ us.length ≤ c := by
  obtain ⟨A, c, e, _⟩ := own_shape h.row
  rw [e] at h
  exact ⟨A, c, e, own_cap h.row⟩
/-- a row of it -/
theorem RowS.at_ (h : RowS w v us) {k : Nat} {u : SL} (hk : us[k]? = some u) : ∃ g c, v = .slice (some ⟨g, 0, none⟩) us.length c ∧ g < w.heap.size ∧ w.cell? ⟨g, k, none⟩ = some u.val ∧ ∀ o, w.frozen? ⟨g, o, none⟩ = false := by
  have hl := (List.getElem?_eq_some_iff.1 hk).1
  rcases h.row.2 with ⟨_, h0⟩ | ⟨g, c, cur, rfl, _, hh, hc, _⟩
  · omega
  · refine ⟨g, c, rfl, block_lt hh, ?_, fun o => by simp [World.frozen?, hh]⟩
    rw [World.ownsRow.cellAt h.row k (by omega), List.getElem?_map, hk]; rfl
/-- all that a slice of so many reads as, from the k-th on -/
theorem RowS.news (h : RowS w v us) {g c : Nat} (hv : v = .slice (some ⟨g, 0, none⟩) us.length c) : ∀ j u, (us.map SL.val)[j]? = some u → w.cell? ⟨g, j, none⟩ = some u := fun j u hj => by
  subst hv
  have hl := (List.getElem?_eq_some_iff.1 hj).1
  rw [List.length_map] at hl
  rw [World.ownsRow.cellAt h.row j (by omega)]; exact hj
end
/-- what is put behind such a slice: rows whose bytes lie there already -/
theorem RowS.append {w : World} {v : Value} {us news : List SL} (h : RowS w v us) (ad : Addr) (m c : Nat) (hm : news.length = m) (hc : ∀ j u, (news.map SL.val)[j]? = some u → w.cell? (ad.add j) = some u)
    (hn : ∀ u ∈ news, OwnB w 0 u.val u.l ∧ ∀ i, u.val.ownBlock = some i → ¬ vownF v i) (hbig : us.length + m ≤ 1000000) :
    Appends Try.prog 34 w v (.slice (some ad) m c) (fun v' w' => (∃ A c', v' = .slice A (us.length + m) c') ∧ Hid (RowS w' v' (us ++ news) ∧ Moves (vownF v) (vownF v') w w' ∧ ∀ i, i < w.heap.size → ¬ vownF v i → w'.heap[i]? = w.heap[i]?)) := by
  intro ty
  obtain ⟨i0, hi, hz0, hz1, hz2⟩ := info_parts sl_info
  obtain ⟨v', w', hr, h2, h3, _, h5⟩ := run_append_own_at (P := Try.prog) w 0 34 ty 26 i0 _ 1 24 Try.underlying34 hi hz0 hz1 hz2 rfl (by decide) v us.length (us.map SL.val) h.row ad m c (news.map SL.val) (by rw [List.length_map, hm, Nat.mul_one]) hc (fun u hu => by
    obtain ⟨x, _, rfl⟩ := List.mem_map.1 hu
    rfl) (by unfold maxLen; omega) (by omega) (Nat.zero_le _)
  have e1 : us.length + m = (us ++ news).length := by rw [List.length_append, hm]
  rw [← List.map_append] at h2
  obtain ⟨A, c', e, _⟩ := own_shape h2
  have hbl : ∀ i, i < w.heap.size → ¬ vownF v i → w'.heap[i]? = w.heap[i]? := fun i hi hn' => h3.block i hi (fun e => hn' e.symm)
  refine ⟨v', w', hr, ⟨A, c', e⟩, cover ⟨⟨by rw [e1] at h2; exact h2, fun u hu => ?_⟩, ⟨h3.os, h3.tape, h3.output, h3.size, hbl, fun k hk => ?_⟩, hbl⟩⟩
  · rcases List.mem_append.1 hu with hu | hu
    · refine sl_keep (h.own u hu) fun g hg => ?_
      obtain ⟨_, cur, hc⟩ := sl_blk (h.own u hu) hg
      refine hbl g (block_lt hc) fun hv => ?_
      obtain ⟨cur', hc'⟩ := h.vtype hv
      exact type_ne hc hc' (by decide) rfl
    · refine sl_keep (hn u hu).1 fun g hg => ?_
      obtain ⟨_, cur, hc⟩ := sl_blk (hn u hu).1 hg
      exact hbl g (block_lt hc) ((hn u hu).2 g hg)
  · rcases h5 with h5 | h5
    · exact .inl (h5.symm.trans hk)
    · have hk' : v'.ownBlock = some k := hk
      rw [h5] at hk'
      exact .inr (by injection hk' with hk'; omega)
/-- an empty one, made -/
theorem RowS.bare (w : World) : RowS (w.alloc (.cells #[] 26)) (.slice (some ⟨w.heap.size, 0, none⟩) 0 0) [] :=
  ⟨⟨rfl, .inr ⟨w.heap.size, 0, #[], rfl, Nat.zero_le _, heap_alloc_new _ _, Nat.le_refl _, by decide, by simp, rfl⟩⟩, fun u hu => by cases hu⟩
/-- what stands from the k-th on, put into a new one -/
theorem RowS.tail {w : World} {v : Value} {us : List SL} (h : RowS w v us) (k : Nat) (A' : Option Addr) (m c : Nat) (hm : m = us.length - k) (hbig : us.length ≤ 100000)
    (hA : 0 < m → ∃ ad, A' = some ad ∧ ∀ j u, ((us.drop k).map SL.val)[j]? = some u → w.cell? (ad.add j) = some u) :
    Appends Try.prog 34 (w.alloc (.cells #[] 26)) (.slice (some ⟨w.heap.size, 0, none⟩) 0 0) (.slice A' m c) (fun v' w' => (∃ A c', v' = .slice A m c') ∧ Hid (RowS w' v' (us.drop k) ∧ Below w.heap.size w w' ∧ ∀ i, vownF v' i → w.heap.size ≤ i)) := by
  have hb1 : Below w.heap.size w (w.alloc (.cells #[] 26)) := (Below.refl _ _).alloc (Nat.le_refl _) _
  have hld : (us.drop k).length = m := by rw [List.length_drop, hm]
  by_cases h0 : m = 0
  · subst h0
    intro ty
    obtain ⟨i0, hi, hz0, hz1, hz2⟩ := info_parts sl_info
    have hs : Src Try.prog i0.size 34 (.slice A' 0 c) 0 [] (w.alloc (.cells #[] 26)) := by
      cases A' with
      | none => exact Src.ofNil _ Try.underlying34 c
      | some ad => exact Src.ofSlice _ Try.underlying34 ad 0 c [] (by simp) (fun j u hj => by simp at hj) (fun u hu => by cases hu)
    have hn : us.drop k = [] := List.length_eq_zero_iff.1 hld
    rw [hn]
    exact ⟨_, _, run_append_nothing _ 34 34 ty 26 i0 Try.underlying34 hi _ _ 0 (Nat.le_refl _) _ hs, ⟨_, _, rfl⟩, cover ⟨RowS.bare w, hb1, fun i hi => by
      have hi' : w.heap.size = i := by simpa [vownF, Value.ownBlock] using hi
      omega⟩⟩
  · obtain ⟨ad, rfl, hc⟩ := hA (by omega)
    intro ty
    obtain ⟨v', w', hr, ⟨A, c', e⟩, hL⟩ := RowS.append (RowS.bare w) ad m c (news := us.drop k) hld (fun j u hj => cell_alloc_lt _ (hc j u hj)) (fun u hu => by
      have ho := h.own u (List.mem_of_mem_drop hu)
      refine ⟨ownB_below ho hb1, fun i hi hv => ?_⟩
      obtain ⟨_, cur, hcc⟩ := sl_blk ho hi
      have h1 := block_lt hcc
      have hi' : w.heap.size = i := by simpa [vownF, Value.ownBlock] using hv
      omega) (by simp; omega) ty
    refine ⟨v', w', hr, ⟨A, c', by rw [e]; simp⟩, cover ⟨by simpa using hL.out.1, ?_, ?_⟩⟩
    · have hmv := hL.out.2.1
      refine hb1.trans ⟨hmv.os, hmv.tape, hmv.output, hmv.size, fun i hi => hL.out.2.2 i (by simp; omega) (fun hv => ?_)⟩
      have hi' : w.heap.size = i := by simpa [vownF, Value.ownBlock] using hv
      omega
    · intro i hi
      rcases hL.out.2.1.own i hi with h1 | h1
      · have hi' : w.heap.size = i := by simpa [vownF, Value.ownBlock] using h1
        omega
      · simp at h1; omega
end Go.Proofs.Ytefbmhkchlhgnaa
