/- What the queue's functions do, at items of one kind: New, Len, Most, Peek, Cut, Take, and Insert and Put behind the last one. -/
import Derived.Test.YtefbmhkchlhgnaaRows
import Derived.Test.YtefbmhkchlhgnaaQMem
namespace Go.Proofs.Ytefbmhkchlhgnaa
open Go.RowKit

abbrev BIn (w : World) (q : Nat) (G : Option Nat) (m : Int) (ps : List Nat) (xs : List Value) : Prop := QIn 52 56 55 w q G m ps xs
theorem B_info : (Try.prog.info? 56).map (fun i => (i.zero, i.size, i.bytes)) = some (some (.pointer none), 1, 8) := by kernel_rfl

theorem newB_pos (n : Int) (w : World) (h : 0 < n) : Calls Try.prog 25 #[.int .i64 n] w fun e w' => e = .returned (ptr w.heap.size) ∧ Hid (BIn w' w.heap.size none n [] [] ∧ Below w.heap.size w w') := by
  go_enter Try.func25, Try.ntmps25
  go_wp2
  go_ret
  exact ⟨rfl, cover ⟨⟨⟨none, 0, heap_alloc_new _ _, PRow.nil _ _⟩, rfl, fun k p x h => by simp at h, List.nodup_nil⟩, (Below.refl _ _).alloc (Nat.le_refl _) _⟩⟩
theorem newB_neg (n : Int) (w : World) (h : n ≤ 0) : Calls Try.prog 25 #[.int .i64 n] w fun e w' => e = .returned (ptr w.heap.size) ∧ Hid (BIn w' w.heap.size none 0 [] [] ∧ Below w.heap.size w w') := by
  go_enter Try.func25, Try.ntmps25
  go_wp2
  go_ret
  exact ⟨rfl, cover ⟨⟨⟨none, 0, heap_alloc_new _ _, PRow.nil _ _⟩, rfl, fun k p x h => by simp at h, List.nodup_nil⟩, (Below.refl _ _).alloc (Nat.le_refl _) _⟩⟩

section
variable {w : World} {q : Nat} {G : Option Nat} {m : Int} {ps : List Nat} {xs : List Value}
theorem lenB_any (h : BIn w q G m ps xs) : Calls Try.prog 30 #[ptr q] w fun e w' => e = .returned (.int .i64 ps.length) ∧ w = w' := by
  obtain ⟨A, c, hh, hr⟩ := h.ex
  have h0 := cell_of_row w q 0 _ _ _ hh
  have h1 := cell_of_row w q 1 _ _ _ hh
  simp at h0 h1
  clear h hr
  go_enter Try.func30, Try.ntmps30
  go_wp2
  go_ret
  exact ⟨rfl, rfl⟩
theorem mostB_any (h : BIn w q G m ps xs) : Calls Try.prog 33 #[ptr q] w fun e w' => e = .returned (.int .i64 m) ∧ w = w' := by
  obtain ⟨A, c, hh, hr⟩ := h.ex
  have h0 := cell_of_row w q 0 _ _ _ hh
  have h1 := cell_of_row w q 1 _ _ _ hh
  simp at h0 h1
  clear h hr
  go_enter Try.func33, Try.ntmps33
  go_wp2
  go_ret
  exact ⟨rfl, rfl⟩
theorem peekB_yes (h : BIn w q G m ps xs) (i : Nat) (x : Value) (hx : xs[i]? = some x) : Calls Try.prog 28 #[ptr q, .int .i64 i] w fun e w' => e = .returned (.tuple #[x, .bool true]) ∧ w = w' := by
  obtain ⟨A, c, hh, hr⟩ := h.ex
  obtain ⟨hlt, _⟩ := List.getElem?_eq_some_iff.1 hx
  have hil : i < ps.length := by rw [h.len]; exact hlt
  have hp : ps[i]? = some ps[i] := List.getElem?_eq_getElem hil
  have hc := h.cells i _ x hp hx
  obtain ⟨g, o, rfl, rfl, hcell⟩ := hr.cell hp
  generalize ps[i] = p at hc hcell hp
  have h0 := cell_of_row w q 0 _ _ _ hh
  have h1 := cell_of_row w q 1 _ _ _ hh
  have h2 := cell_of_row w p 0 _ _ _ hc
  simp at h0 h1 h2
  have HL := lenB_any h
  clear h hr hx hp hc hh
  go_enter Try.func28, Try.ntmps28
  go_wp2_with (go_at_call 30; refine HL.mono ?_; rintro e w' ⟨rfl, rfl⟩)
  go_ret2
  exact ⟨rfl, rfl⟩
theorem peekB_no (h : BIn w q G m ps xs) (i : Int) (hi : i < 0 ∨ (ps.length : Int) ≤ i) : Calls Try.prog 28 #[ptr q, .int .i64 i] w fun e w' => e = .returned (.tuple #[.slice none 0 0, .bool false]) ∧ w = w' := by
  have HL := lenB_any h
  clear h
  by_cases h0 : i < 0
  · clear hi
    go_enter Try.func28, Try.ntmps28
    go_wp2
    go_ret2
    exact ⟨rfl, rfl⟩
  · have h1 : (ps.length : Int) ≤ i := by omega
    clear hi
    go_enter Try.func28, Try.ntmps28
    go_wp2_with (go_at_call 30; refine HL.mono ?_; rintro e w' ⟨rfl, rfl⟩)
    go_ret2
    exact ⟨rfl, rfl⟩
theorem cutB_none (h : BIn w q G m ps xs) (n : Int) (hn : n < 1 ∨ ps.length = 0) : Calls Try.prog 29 #[ptr q, .int .i64 n] w fun e w' => e = .returned (.int .i64 0) ∧ w = w' := by
  have HL := lenB_any h
  clear h
  generalize ps.length = k at HL hn
  by_cases hk : (k : Int) < n
  · have h0 : k = 0 := by omega
    subst h0
    clear hn
    go_enter Try.func29, Try.ntmps29
    go_wp2_with (go_at_call 30; refine HL.mono ?_; rintro e w' ⟨rfl, rfl⟩)
    go_ret
    exact ⟨rfl, rfl⟩
  · have h1 : n < 1 := by omega
    clear hn
    go_enter Try.func29, Try.ntmps29
    go_wp2_with (go_at_call 30; refine HL.mono ?_; rintro e w' ⟨rfl, rfl⟩)
    go_ret
    exact ⟨rfl, rfl⟩
theorem cutB_some (h : BIn w q G m ps xs) (n k : Nat) (h1 : 1 ≤ k) (hk : k = min n ps.length) (hn63 : n ≤ 9223372036854775807) : Calls Try.prog 29 #[ptr q, .int .i64 n] w fun e w' => e = .returned (.int .i64 k) ∧ Hid (BIn w' q G m (ps.drop k) (xs.drop k) ∧ Turned (q :: G.toList) w w') := by
  have HL := lenB_any h
  obtain ⟨A, c, hh, hr⟩ := h.ex
  rcases hr.ex with ⟨_, _, _, rfl⟩ | ⟨g, o, cur, rfl, rfl, hcur, hsz, hle, hat⟩
  · simp at hk; omega
  have hkl : k ≤ ps.length := by rw [hk]; exact Nat.min_le_right _ _
  have hgq : g ≠ q := type_ne hcur hh (by decide)
  have h0 := cell_of_row w q 0 _ _ _ hh
  have h1' := cell_of_row w q 1 _ _ _ hh
  simp at h0 h1'
  have hzv : ∀ w, (zeroValue 56).run Try.prog w = .ok (.pointer none) w := Try.zeroValue56
  have hcc : ∀ j, j < k → (w.cell? ⟨g, o + j, none⟩).isSome = true := fun j hj => by
    rw [cell_of_row w g _ _ _ _ hcur, Array.getElem?_eq_getElem (by omega)]; rfl
  have hcf : ∀ j, j < k → w.frozen? ⟨g, o + j, none⟩ = false := fun j _ => by simp [World.frozen?, hcur]
  have hclear : ∀ ty cp, (Builtin.clear_ #[50] ty #[.slice (some ⟨g, o, none⟩) k cp]).run Try.prog w = _ := fun ty cp =>
    Lib.run_clear_slice w 50 56 ty (.pointer none) Try.underlying50 hzv rfl rfl g o k cp (by omega) hcc hcf
  obtain ⟨w1, hw1⟩ : ∃ w1, w.setCells g o (List.replicate k (.pointer none)) = w1 := ⟨_, rfl⟩
  rw [hw1] at hclear
  have hq1 : w1.heap[q]? = w.heap[q]? := by rw [← hw1]; exact setCells_other (fun e => hgq e.symm) _ _ _
  have hc0 : w1.cell? ⟨q, 0, none⟩ = some (.int .i64 m) := by rw [← h0]; exact World.cell?_of_block hq1
  have hc1 : w1.cell? ⟨q, 1, none⟩ = some (.slice (some ⟨g, o, none⟩) ps.length c) := by rw [← h1']; exact World.cell?_of_block hq1
  have hf1 : w1.frozen? ⟨q, 1, none⟩ = false := by simp [World.frozen?, hq1, hh]
  have hfin : ∀ v, v = Value.slice (if c = k then some ⟨g, o, none⟩ else some ((⟨g, o, none⟩ : Addr).add k)) (ps.length - k) (c - k) → Hid (BIn (w1.setCell ⟨q, 1, none⟩ v) q (some g) m (ps.drop k) (xs.drop k) ∧ Turned (q :: (some g).toList) w (w1.setCell ⟨q, 1, none⟩ v)) := by
    intro v hv
    have hT1 : Turned [g] w w1 := by rw [← hw1]; exact (Turned.refl _ _).setCells (.inl (by simp)) _ _
    refine cover ⟨⟨⟨_, c - k, ?_, ⟨.inr ⟨g, if c = k then o else o + k, setAll cur o (List.replicate k (.pointer none)), rfl, rfl, ?_, ?_, ?_, ?_⟩⟩⟩, by simp [h.len], ?_, h.nd.sublist (List.drop_sublist _ _)⟩, (hT1.mono (by simp)).setCell (.inl (by simp)) _ _⟩
    · rw [set_block (hq1.trans hh)]
      rw [hv, add_off, List.length_drop]
      by_cases hck : c = k <;> simp [hck]
    · rw [set_other _ _ hgq, ← hw1]; exact setCells_block _ _ _ _ hcur
    · rw [setAll_size]; split <;> omega
    · rw [List.length_drop]; omega
    · intro j p hj
      rw [List.getElem?_drop] at hj
      obtain ⟨hlt, _⟩ := List.getElem?_eq_some_iff.1 hj
      rw [if_neg (show ¬ c = k by omega), setAll_out _ _ _ _ (by simp), Nat.add_assoc]
      exact hat _ p hj
    · intro j p x hp hx
      rw [List.getElem?_drop] at hp hx
      have hpc := h.cells _ p x hp hx
      rw [set_other _ _ (type_ne hpc hh (by decide))]
      exact hT1.at_ hpc (by simpa using type_ne hpc hcur (by decide))
  have HF := cover hfin
  clear hfin hcc hcf hh hr hat hcur h hzv hq1 hw1
  obtain rfl | hnk : n = k ∨ k < n := by omega
  · have hnl : ¬ ((ps.length : Int) < (n : Int)) := by omega
    clear hk
    go_enter Try.func29, Try.ntmps29
    go_wp2_with (first | (go_at_call 30; refine HL.mono ?_; rintro e w' ⟨rfl, rfl⟩) | (at_builtin; refine run_to rfl _ _ (by simp [execOp, resolve, invoke, builtin, hclear, Act.eval, Act.put]) ?_))
    all_goals (go_ret; exact ⟨rfl, HF.out _ (by first | rfl | (simp [show c = n by assumption]; done) | (simp [show ¬ c = n by assumption, add_off]; done))⟩)
  · have hkp : k = ps.length := by omega
    have hnl : (ps.length : Int) < (n : Int) := by omega
    rw [← hkp] at hnl
    have hkc : k ≤ c := by omega
    rw [← hkp] at HL h1' hc1 HF
    clear hk hkp hkl hle
    go_enter Try.func29, Try.ntmps29
    go_wp2_with (first | (go_at_call 30; refine HL.mono ?_; rintro e w' ⟨rfl, rfl⟩) | (at_builtin; refine run_to rfl _ _ (by simp [execOp, resolve, invoke, builtin, hclear, Act.eval, Act.put]) ?_))
    all_goals (go_ret; exact ⟨rfl, HF.out _ (by first | rfl | (simp [show c = k by assumption]; done) | (simp [show ¬ c = k by assumption, add_off]; done))⟩)
/-- one more behind the row -/
def BEnd (ps : List Nat) (p : Nat) (G : Option Nat) (w : World) (e : Ending) (w' : World) : Prop :=
  ∃ A' c' G', e = .returned (.slice A' (ps.length + 1) c') ∧ PRow 56 w' G' A' c' (ps ++ [p]) ∧ Turned G.toList w w' ∧ Next w G G'
theorem insEndB {A : Option Addr} {c v p : Nat} (h : PRow 56 w G A c ps) (hv : w.cell? ⟨v, 0, none⟩ = some (ptr p)) (hbig : (ps.length + 1) * 8 ≤ 140737488355328) :
    Calls Try.prog 34 #[.slice A ps.length c, .int .i64 ps.length, .slice (some ⟨v, 0, none⟩) 1 1] w (BEnd ps p G w) := by
  obtain ⟨i0, hi, hz0, hz1, hz2⟩ := info_parts B_info
  obtain ⟨A', c', G', w1, hrun, hp, hT, hN⟩ := append_prow (P := Try.prog) (TS := 50) Try.underlying50 hi hz0 hz1 hz2 h hv hbig
  have H : Hid (PRow 56 w1 G' A' c' (ps ++ [p]) ∧ Turned G.toList w w1 ∧ Next w G G') := cover ⟨hp, hT, hN⟩
  have hc := h.cap
  have HE : ∀ w', w' = w1 → Hid (BEnd ps p G w (.returned (.slice A' (ps.length + 1) c')) w') := fun w' e => by subst e; exact cover ⟨A', c', G', rfl, H.out⟩
  clear hi hz0 hz1 hz2 hp hT hN h hv H
  generalize hEnd : BEnd ps p G w = Post at HE ⊢
  clear hEnd
  generalize ps.length = n at hrun hc hbig HE ⊢
  go_enter Try.func34, Try.ntmps34
  rcases A with _ | ⟨ab, ao, asp⟩
  all_goals (go_wp2_with (at_builtin; refine Lib.wpList_append_run _ rfl _ _ _ _ rfl _ _ rfl rfl _ _ (hrun _) ?_))
  all_goals (exact (HE _ rfl).out)
/-- one is put behind the last -/
def BPut (x : Value) (q : Nat) (G : Option Nat) (m : Int) (ps : List Nat) (xs : List Value) (w w' : World) : Prop :=
  ∃ G' p, BIn w' q G' m (ps ++ [p]) (xs ++ [x]) ∧ Turned (q :: G.toList) w w' ∧ Next w G G' ∧ w.heap.size ≤ p
theorem insertB_end (h : BIn w q G m ps xs) (x : Option Addr × Nat × Nat) (hm : (ps.length : Int) < m) (hbig : (ps.length + 1) * 8 ≤ 140737488355328) :
    Calls Try.prog 32 #[ptr q, .int .i64 ps.length, .slice x.1 x.2.1 x.2.2] w fun e w' => e = .returned (.bool true) ∧ Hid (BPut (.slice x.1 x.2.1 x.2.2) q G m ps xs w w') := by
  have HL := lenB_any h
  have HM := mostB_any h
  obtain ⟨A, c, hh, hr⟩ := h.ex
  have h0 := cell_of_row w q 0 _ _ _ hh
  have h1 := cell_of_row w q 1 _ _ _ hh
  simp at h0 h1
  have hql := h.lt
  obtain ⟨z, hz⟩ : ∃ z, z = w.heap.size := ⟨_, rfl⟩
  have hrow : PRow 56 ((w.alloc (.cells #[.slice x.1 x.2.1 x.2.2, .bool false] 55)).alloc (.cells #[ptr z] 56)) G A c ps := hr.keep fun g hg => by
    obtain ⟨cur, hc⟩ := hr.lt hg
    have := block_lt hc
    exact (Below.heap_alloc _ _ _ (by simp; omega)).trans (Below.heap_alloc _ _ _ this)
  have HI := insEndB hrow (v := z + 1) (p := z) (by have := cell_one_new (w.alloc (.cells #[.slice x.1 x.2.1 x.2.2, .bool false] 55)) (ptr z) 56 0 (ptr z) rfl; rw [World.size_alloc, ← hz, add_off] at this; exact this) hbig
  have hfin : ∀ A' c' G' w2, PRow 56 w2 G' A' c' (ps ++ [z]) → Turned G.toList ((w.alloc (.cells #[.slice x.1 x.2.1 x.2.2, .bool false] 55)).alloc (.cells #[ptr z] 56)) w2 → Next ((w.alloc (.cells #[.slice x.1 x.2.1 x.2.2, .bool false] 55)).alloc (.cells #[ptr z] 56)) G G' →
      (w2.cell? ⟨q, 1, none⟩ = some (.slice A ps.length c) ∧ w2.frozen? ⟨q, 1, none⟩ = false) ∧ Hid (BPut (.slice x.1 x.2.1 x.2.2) q G m ps xs w (w2.setCell ⟨q, 1, none⟩ (.slice A' (ps.length + 1) c'))) := by
    intro A' c' G' w2 hp hT hN
    have hT2 : Turned G.toList w w2 := ((Turned.refl _ w).alloc _ |>.alloc _).trans hT (fun i hi => .inl hi)
    have hqG : q ∉ G.toList := by
      intro hm; simp at hm
      obtain ⟨cur, hc⟩ := hr.lt hm
      exact type_ne hc hh (by decide) rfl
    have hq2 := hT2.at_ hh hqG
    have hzc : w2.heap[z]? = some (.cells #[.slice x.1 x.2.1 x.2.2, .bool false] 55 (0, 0)) := by
      refine hT.at_ (o := .cells #[.slice x.1 x.2.1 x.2.2, .bool false] 55 (0, 0)) ?_ ?_
      · rw [Below.heap_alloc _ _ _ (by simp; omega), hz]; exact heap_alloc_new w _
      · intro hm; simp at hm
        obtain ⟨cur, hc⟩ := hr.lt hm
        have := block_lt hc; omega
    have hN2 : Next w G G' := by
      rcases hN with e | ⟨g, e, hg⟩
      · exact .inl e
      · exact .inr ⟨g, e, by simp at hg; omega⟩
    refine ⟨⟨by rw [cell_of_row w2 q _ _ _ _ hq2]; rfl, by simp [World.frozen?, hq2]⟩, cover ⟨G', z, ⟨⟨A', c', ?_, ?_⟩, by simp [h.len], ?_, ?_⟩, (hT2.mono (fun i hi => List.mem_cons_of_mem _ hi)).setCell (.inl (by simp)) _ _, hN2, by omega⟩⟩
    · rw [set_block hq2]; simp
    · exact hp.keep fun g hg => by
        obtain ⟨cur, hc⟩ := hp.lt hg
        exact set_other _ _ (type_ne hc hq2 (by decide))
    · intro k p y hk hy
      by_cases hkl : k < ps.length
      · rw [List.getElem?_append_left hkl] at hk
        rw [List.getElem?_append_left (by rw [← h.len]; exact hkl)] at hy
        have hpc := h.cells k p y hk hy
        rw [set_other _ _ (type_ne hpc hh (by decide))]
        refine hT2.at_ hpc ?_
        intro hm; simp at hm
        obtain ⟨cur, hc⟩ := hr.lt hm
        exact type_ne hc hpc (by decide) rfl
      · rw [List.getElem?_append_right (by omega)] at hk
        rw [List.getElem?_append_right (by rw [← h.len]; omega)] at hy
        obtain ⟨hlt, _⟩ := List.getElem?_eq_some_iff.1 hk
        have hk0 : k - ps.length = 0 := by simp at hlt; omega
        rw [hk0] at hk
        rw [show k - xs.length = 0 by rw [← h.len]; omega] at hy
        simp at hk hy
        subst hk hy
        rw [set_other _ _ (by omega)]
        exact hzc
    · refine List.nodup_append.2 ⟨h.nd, by simp, ?_⟩
      intro a ha b hb
      simp at hb
      have := h.inSize (.inr (.inr ha))
      omega
  have HF := cover hfin
  clear hfin hrow h hr hh
  go_enter Try.func32, Try.ntmps32
  rw [hz] at HI HF
  clear hz
  go_wp2_with (first | (go_at_call 30; refine HL.mono ?_; rintro e w' ⟨rfl, rfl⟩) | (go_at_call 33; refine HM.mono ?_; rintro e w' ⟨rfl, rfl⟩) | (go_at_call 34; refine HI.mono ?_; rintro e w2 ⟨A', c', G', rfl, hp, hT, hN⟩; obtain ⟨⟨hc2, hf2⟩, hP⟩ := HF.out A' c' G' w2 hp hT hN; clear hp hT hN))
  go_ret
  exact ⟨rfl, hP⟩
theorem insertB_no (h : BIn w q G m ps xs) (i : Int) (x : Option Addr × Nat × Nat) (hi : m ≤ (ps.length : Int) ∨ i < 0 ∨ (ps.length : Int) < i) :
    Calls Try.prog 32 #[ptr q, .int .i64 i, .slice x.1 x.2.1 x.2.2] w fun e w' => e = .returned (.bool false) ∧ w = w' := by
  have HL := lenB_any h
  have HM := mostB_any h
  clear h
  generalize ps.length = n at HL hi
  by_cases h1 : m ≤ (n : Int)
  · clear hi
    go_enter Try.func32, Try.ntmps32
    go_wp2_with (first | (go_at_call 30; refine HL.mono ?_; rintro e w' ⟨rfl, rfl⟩) | (go_at_call 33; refine HM.mono ?_; rintro e w' ⟨rfl, rfl⟩))
    go_ret
    exact ⟨rfl, rfl⟩
  · by_cases h2 : i < 0
    · clear hi
      go_enter Try.func32, Try.ntmps32
      go_wp2_with (first | (go_at_call 30; refine HL.mono ?_; rintro e w' ⟨rfl, rfl⟩) | (go_at_call 33; refine HM.mono ?_; rintro e w' ⟨rfl, rfl⟩))
      go_ret
      exact ⟨rfl, rfl⟩
    · have h3 : (n : Int) < i := by omega
      clear hi
      go_enter Try.func32, Try.ntmps32
      go_wp2_with (first | (go_at_call 30; refine HL.mono ?_; rintro e w' ⟨rfl, rfl⟩) | (go_at_call 33; refine HM.mono ?_; rintro e w' ⟨rfl, rfl⟩))
      go_ret
      exact ⟨rfl, rfl⟩
theorem putB_yes (h : BIn w q G m ps xs) (x : Option Addr × Nat × Nat) (hm : (ps.length : Int) < m) (hbig : (ps.length + 1) * 8 ≤ 140737488355328) :
    Calls Try.prog 26 #[ptr q, .slice x.1 x.2.1 x.2.2] w fun e w' => e = .returned (.bool true) ∧ Hid (BPut (.slice x.1 x.2.1 x.2.2) q G m ps xs w w') := by
  have HL := lenB_any h
  have HI := insertB_end h x hm hbig
  clear h hm hbig
  go_enter Try.func26, Try.ntmps26
  go_wp2_with (first | (go_at_call 30; refine HL.mono ?_; rintro e w' ⟨rfl, rfl⟩) | (go_at_call 32; refine HI.mono ?_; rintro e w' ⟨rfl, hP⟩))
  go_ret
  exact ⟨rfl, hP⟩
theorem putB_no (h : BIn w q G m ps xs) (x : Option Addr × Nat × Nat) (hm : m ≤ (ps.length : Int)) :
    Calls Try.prog 26 #[ptr q, .slice x.1 x.2.1 x.2.2] w fun e w' => e = .returned (.bool false) ∧ w = w' := by
  have HL := lenB_any h
  have HI := insertB_no h ps.length x (.inl hm)
  clear h hm
  go_enter Try.func26, Try.ntmps26
  go_wp2_with (first | (go_at_call 30; refine HL.mono ?_; rintro e w' ⟨rfl, rfl⟩) | (go_at_call 32; refine HI.mono ?_; rintro e w' ⟨rfl, rfl⟩))
  go_ret
  exact ⟨rfl, rfl⟩
end
end Go.Proofs.Ytefbmhkchlhgnaa
