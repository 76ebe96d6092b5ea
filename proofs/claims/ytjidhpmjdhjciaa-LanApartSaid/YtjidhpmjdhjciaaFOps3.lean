/- What the queue's functions do, at frames: Put behind the last one, Take. -/
import Derived.Test.YtjidhpmjdhjciaaFOps2
namespace Go.Proofs.Ytjidhpmjdhjciaa
open Go.RowKit

section
variable {w : World} {q : Nat} {G : Option Nat} {m : Int} {ps : List Nat} {xs : List (Array Value)}
theorem FPut.before {x : Array Value} {w0 w' : World} (h : FPut x q G m ps xs w0 w') (hb : Below w.heap.size w w0) : FPut x q G m ps xs w w' := by
  obtain ⟨G', p, h1, h2, h3, h4⟩ := h
  have hs := hb.size
  refine ⟨G', p, h1, (Turned.of_below hb).trans h2 (fun i hi => .inl hi), ?_, by omega⟩
  rcases h3 with e | ⟨g, e, hg⟩
  · exact .inl e
  · exact .inr ⟨g, e, by omega⟩
set_option maxRecDepth 100000 in
theorem putF_yes (h : FIn w q G m ps xs) (B : Option Addr) (k d : Nat) (n : Int) (hm : (ps.length : Int) < m) (hbig : (ps.length + 1) * 8 ≤ 140737488355328) :
    Calls Try.prog 34 #[ptr q, .agg (fl B k d n)] w fun e w' => e = .returned (.bool true) ∧ Hid (FPut (fl B k d n) q G m ps xs w w') := by
  have hb0 := fun v => (((Below.refl w.heap.size w).alloc (Nat.le_refl _) v).drew)
  have HL := fun v => lenF_any (h.below (hb0 v))
  have HI := fun v => insertF_end (h.below (hb0 v)) B k d n hm hbig
  have HB := cover hb0
  clear h hm hbig hb0
  go_enter Try.func34, Try.ntmps34
  go_wp2_with fail
  go_region_with (first | (go_at_call 57; refine (HL _).mono ?_; rintro e w' ⟨rfl, rfl⟩) | (go_at_call 37; refine (HI _).mono ?_; rintro e w' ⟨rfl, hP⟩))
  all_goals (go_wp2; go_ret; exact ⟨rfl, cover (hP.out.before (HB.out _))⟩)
set_option maxRecDepth 100000 in
theorem putF_no (h : FIn w q G m ps xs) (B : Option Addr) (k d : Nat) (n : Int) (hm : m ≤ (ps.length : Int)) :
    Calls Try.prog 34 #[ptr q, .agg (fl B k d n)] w fun e w' => e = .returned (.bool false) ∧ Below w.heap.size w w' := by
  have hb0 := fun v => (((Below.refl w.heap.size w).alloc (Nat.le_refl _) v).drew)
  have HL := fun v => lenF_any (h.below (hb0 v))
  have HI := fun v => insertF_no (h.below (hb0 v)) ps.length B k d n (.inl hm)
  have HB := cover hb0
  clear h hm hb0
  go_enter Try.func34, Try.ntmps34
  go_wp2_with fail
  go_region_with (first | (go_at_call 57; refine (HL _).mono ?_; rintro e w' ⟨rfl, rfl⟩) | (go_at_call 37; refine (HI _).mono ?_; rintro e w' ⟨rfl, hP⟩))
  all_goals (go_wp2; go_ret; exact ⟨rfl, (HB.out _).trans (hP.mono (by simp [World.drew]))⟩)
/-- what lies in a block of its own -/
theorem flight_size : (Try.prog.info? 73).map (fun x => x.size) = some 2 := by kernel_rfl
theorem fl_one (A : Option Addr) (k c : Nat) (n : Int) : ((fl A k c n).all fun x => x.oneCell') = true := by simp [Value.oneCell']
set_option maxRecDepth 100000 in
theorem takeF_yes (h : FIn w q G m ps xs) (B : Option Addr) (k d : Nat) (n : Int) (hx : xs[0]? = some (fl B k d n)) :
    Calls Try.prog 38 #[ptr q] w fun e w' => e = .returned (.tuple #[.agg (fl B k d n), .bool true]) ∧ Hid (FIn w' q G m (ps.drop 1) (xs.drop 1) ∧ Turned (q :: G.toList) w w') := by
  have hl : 1 ≤ ps.length := by rw [h.len]; obtain ⟨hlt, _⟩ := List.getElem?_eq_some_iff.1 hx; omega
  have HP := fun v => peekF_yes (h.below ((Below.refl w.heap.size w).alloc (Nat.le_refl _) v)) 0 B k d n hx
  rw [show ((0 : Nat) : Int) = 0 from rfl] at HP
  have HQ := cover h
  clear h hx
  go_enter Try.func38, Try.ntmps38
  go_wp2_with fail
  refine (HP _).mono ?_
  rintro e w1 ⟨rfl, hb1⟩
  have hl1 : w1.heap[w.heap.size]? = some (.cells (fl none 0 0 0) 73 (0, 0)) := by
    rw [hb1.block _ (by simp)]; exact heap_alloc_new _ _
  have hb2 : Below w.heap.size w w1 := ((Below.refl _ _).alloc (Nat.le_refl _) _).trans (hb1.mono (by simp))
  have hs1 : w.heap.size + 1 ≤ w1.heap.size := by have := hb1.size; simpa using this
  have h2 := HQ.out.below (hb2.alloc (by omega) (.cells (fl B k d n) 73))
  have HC := cutF_some h2 1 1 (by omega) (by omega) (by omega)
  rw [show ((1 : Nat) : Int) = 1 from rfl] at HC
  have HB := cover (And.intro hb2 hl1)
  obtain ⟨z, hz⟩ : ∃ z, z = w1.heap.size := ⟨_, rfl⟩
  have HZ := cover hz
  clear HP hb1 hb2 hl1
  go_wp2_with fail
  rw [← hz] at hs1 ⊢
  clear hz
  refine HC.mono ?_
  rintro e w3 ⟨rfl, hP⟩
  obtain ⟨h3, hT⟩ := hP.out
  have hG : ∀ j (T : TypeId) cs, (w1.alloc (.cells (fl B k d n) 73)).heap[j]? = some (.cells cs T (0, 0)) → T = 73 → j ∉ q :: G.toList := by
    intro j T cs hj he hm
    obtain ⟨A, c, hh, hr⟩ := h2.ex
    subst he
    rcases List.mem_cons.1 hm with rfl | hm
    · exact type_ne hj hh (by decide) rfl
    · obtain ⟨cur, hc⟩ := hr.lt (by simpa using hm)
      exact type_ne hj hc (by decide) rfl
  have hzl : w3.heap[z]? = some (.cells (fl B k d n) 73 (0, 0)) := by
    have : (w1.alloc (.cells (fl B k d n) 73)).heap[z]? = some (.cells (fl B k d n) 73 (0, 0)) := by rw [HZ.out]; exact heap_alloc_new _ _
    exact hT.at_ this (hG _ _ _ this rfl)
  have hbl : w3.heap[w.heap.size]? = some (.cells (fl none 0 0 0) 73 (0, 0)) := by
    have : (w1.alloc (.cells (fl B k d n) 73)).heap[w.heap.size]? = some (.cells (fl none 0 0 0) 73 (0, 0)) := by rw [Below.heap_alloc _ _ _ (by have := HZ.out; omega)]; exact HB.out.2
    exact hT.at_ this (hG _ _ _ this rfl)
  have c0 := cell_of_row w3 z 0 _ _ _ hzl
  have c1 := cell_of_row w3 z 1 _ _ _ hzl
  simp at c0 c1
  have HF : Hid (FIn ((w3.setCell ⟨w.heap.size, 0, none⟩ (.slice B k d)).setCell ⟨w.heap.size, 1, none⟩ (.int .i64 n)) q G m (ps.drop 1) (xs.drop 1) ∧ Turned (q :: G.toList) w ((w3.setCell ⟨w.heap.size, 0, none⟩ (.slice B k d)).setCell ⟨w.heap.size, 1, none⟩ (.int .i64 n))) := by
    refine cover ⟨h3.keep fun i hi => ?_, ((Turned.trans (Turned.of_below (HB.out.1.alloc (by have := HZ.out; omega) _)) hT (fun i hi => .inl hi)).setCell (.inr (Nat.le_refl _)) _ _).setCell (.inr (Nat.le_refl _)) _ _⟩
    have hne : i ≠ w.heap.size := by
      have h8 : i = q ∨ G = some i ∨ i ∈ ps := by
        rcases hi with h | h | h
        · exact .inl h
        · exact .inr (.inl h)
        · exact .inr (.inr (List.mem_of_mem_drop h))
      have := HQ.out.inSize h8
      omega
    rw [set_other _ _ hne, set_other _ _ hne]
  have HH : Hid (((w3.setCell ⟨w.heap.size, 0, none⟩ (.slice B k d)).setCell ⟨w.heap.size, 1, none⟩ (.int .i64 n)).heap[w.heap.size]? = some (.cells (fl B k d n) 73 (0, 0))) := by
    refine cover ?_
    rw [set_block (set_block hbl 0 _)]
    simp
  have c2 := cell_of_row w3 w.heap.size 0 _ _ _ hbl
  have c3 := cell_of_row w3 w.heap.size 1 _ _ _ hbl
  have f2 : w3.frozen? ⟨w.heap.size, 0, none⟩ = false := by simp [World.frozen?, hbl]
  have f3 : w3.frozen? ⟨w.heap.size, 1, none⟩ = false := by simp [World.frozen?, hbl]
  simp at c2 c3
  clear hzl hbl hP h3 hT hG h2 HC
  go_wp2_with fail
  exact bodyPost_ret (v := .tuple #[.agg (fl B k d n), .bool true]) (results_two (by rfl) _ _ w.heap.size _ (fl B k d n) (0, 0) _ (.bool true) rfl HH.out rfl Try.underlying73 rfl flight_size) rfl ⟨rfl, HF⟩
theorem takeF_no (h : FIn w q G m [] []) :
    Calls Try.prog 38 #[ptr q] w fun e w' => e = .returned (.tuple #[.agg (fl none 0 0 0), .bool false]) ∧ Below w.heap.size w w' := by
  have HP := fun v => peekF_no (h.below ((Below.refl w.heap.size w).alloc (Nat.le_refl _) v)) 0 (.inr (by simp))
  have HQ := cover h
  clear h
  go_enter Try.func38, Try.ntmps38
  go_wp2_with fail
  refine (HP _).mono ?_
  rintro e w1 ⟨rfl, hb1⟩
  have hl1 : w1.heap[w.heap.size]? = some (.cells (fl none 0 0 0) 73 (0, 0)) := by
    rw [hb1.block _ (by simp)]; exact heap_alloc_new _ _
  have hb2 : Below w.heap.size w w1 := ((Below.refl _ _).alloc (Nat.le_refl _) _).trans (hb1.mono (by simp))
  have hs1 : w.heap.size + 1 ≤ w1.heap.size := by have := hb1.size; simpa using this
  have h2 := HQ.out.below (hb2.alloc (by omega) (.cells (fl none 0 0 0) 73))
  have HC := cutF_none h2 1 (.inr rfl)
  obtain ⟨w2, hw2⟩ : ∃ w2, w2 = w1.alloc (.cells (fl none 0 0 0) 73) := ⟨_, rfl⟩
  obtain ⟨z, hz⟩ : ∃ z, z = w1.heap.size := ⟨_, rfl⟩
  rw [← hw2] at HC
  have hb3 : Below w.heap.size w w2 := by rw [hw2]; exact hb2.alloc (by omega) _
  have hbl : w2.heap[w.heap.size]? = some (.cells (fl none 0 0 0) 73 (0, 0)) := by rw [hw2, Below.heap_alloc _ _ _ (by omega)]; exact hl1
  have hzl : w2.heap[z]? = some (.cells (fl none 0 0 0) 73 (0, 0)) := by rw [hw2, hz]; exact heap_alloc_new _ _
  clear HP hb1 hb2 hl1 h2
  go_wp2_with fail
  have e2 : w1.alloc (.cells #[.slice none 0 0, .int .i64 0] 73) = w2 := hw2.symm
  rw [← hz, e2]
  clear hz hw2 e2
  refine HC.mono ?_
  rintro e w3 ⟨rfl, rfl⟩
  have c0 := cell_of_row w2 z 0 _ _ _ hzl
  have c1 := cell_of_row w2 z 1 _ _ _ hzl
  have c2 := cell_of_row w2 w.heap.size 0 _ _ _ hbl
  have c3 := cell_of_row w2 w.heap.size 1 _ _ _ hbl
  have f2 : w2.frozen? ⟨w.heap.size, 0, none⟩ = false := by simp [World.frozen?, hbl]
  have f3 : w2.frozen? ⟨w.heap.size, 1, none⟩ = false := by simp [World.frozen?, hbl]
  simp at c0 c1 c2 c3
  have HF : Hid (Below w.heap.size w ((w2.setCell ⟨w.heap.size, 0, none⟩ (.slice none 0 0)).setCell ⟨w.heap.size, 1, none⟩ (.int .i64 0))) := cover ((hb3.setCell (Nat.le_refl _) _).setCell (Nat.le_refl _) _)
  have HH : Hid (((w2.setCell ⟨w.heap.size, 0, none⟩ (.slice none 0 0)).setCell ⟨w.heap.size, 1, none⟩ (.int .i64 0)).heap[w.heap.size]? = some (.cells (fl none 0 0 0) 73 (0, 0))) := by
    refine cover ?_
    rw [set_block (set_block hbl 0 _)]
    simp
  clear hzl hbl hb3 HC
  go_wp2_with fail
  exact bodyPost_ret (v := .tuple #[.agg (fl none 0 0 0), .bool false]) (results_two (by rfl) _ _ w.heap.size _ (fl none 0 0 0) (0, 0) _ (.bool false) rfl HH.out rfl Try.underlying73 rfl flight_size) rfl ⟨rfl, HF.out⟩
end
end Go.Proofs.Ytjidhpmjdhjciaa
