/- What the document's own Join and Leave do. -/
import Derived.Deep.Upon
import Derived.ArgAppend
import Derived.Test.YtnegbiofnjdfaaaFNet
import Derived.Test.YtnegbiofnjdfaaaSRClose
namespace Go.Proofs.Ytnegbiofnjdfaaa
open Go.RowKit
set_option linter.unusedVariables false

theorem set_map {f : SV → SV} {l : List SV} (h : l.Pairwise (fun a b => a.sap < b.sap)) {i : Nat} {s : SV} (hi : l[i]? = some s) (hf : ∀ t ∈ l, t.sap ≠ s.sap → f t = t) : l.set i (f s) = l.map f := by
  induction l generalizing i with
  | nil => simp at hi
  | cons y l ih =>
    rw [List.pairwise_cons] at h
    cases i with
    | zero =>
      simp at hi
      subst hi
      rw [List.set_cons_zero, List.map_cons]
      congr 1
      have : l.map f = l.map id := List.map_congr_left (fun t ht => hf t (by simp [ht]) (by have := h.1 t ht; omega))
      rw [this, List.map_id]
    | succ i =>
      have hi' : l[i]? = some s := by simpa using hi
      have := h.1 s (List.mem_of_getElem? hi')
      rw [List.set_cons_succ, List.map_cons, ih h.2 hi' (fun t ht => hf t (by simp [ht])), hf y (by simp) (by omega)]
theorem flat3_set : ∀ (us : List SU) (i : Nat) (u : SU) (gs : List Int) (v : Value), us[i]? = some u → flat3 (us.set i (⟨u.1.sap, u.1.cls, gs⟩, v)) = (flat3 us).set (i * 3 + 2) v
  | y :: us, 0, u, gs, v, h => by
    simp at h; subst h; rfl
  | y :: us, i + 1, u, gs, v, h => by
    have := flat3_set us i u gs v (by simpa using h)
    rw [List.set_cons_succ, flat3_cons, flat3_cons, show (i + 1) * 3 + 2 = (i * 3 + 2) + 1 + 1 + 1 by omega, List.set_cons_succ, List.set_cons_succ, List.set_cons_succ, this]
/-- its groups are others now -/
theorem RSIn.setGrp {w w5 : World} {r g c i : Nat} {us : List SU} {u : SU} (h : RSIn w r (.slice (some ⟨g, 0, none⟩) us.length c) us) (hb : Below w.heap.size w w5) (hi : us[i]? = some u) (gs : List Int) (v : Value) (ho : w5.ownsRow w.heap.size 3 1 v gs.length (gs.map (Value.int .i64))) (hok : InS ((us.map (·.1)).set i ⟨u.1.sap, u.1.cls, gs⟩)) :
    RSNow r (.slice (some ⟨g, 0, none⟩) us.length c) ((us.map (·.1)).set i ⟨u.1.sap, u.1.cls, gs⟩) w (w5.setCell ⟨g, i * 3 + 2, none⟩ v) := by
  have hil := (List.getElem?_eq_some_iff.1 hi).1
  have hmap : (us.set i (⟨u.1.sap, u.1.cls, gs⟩, v)).map (·.1) = (us.map (·.1)).set i ⟨u.1.sap, u.1.cls, gs⟩ := by rw [List.map_set]
  have h5 := h.below hb
  rcases h5.row.2 with ⟨h0, _⟩ | ⟨g', c', cur, hv, _, hh, hc1, hc2, hc3, hc4⟩
  · cases h0
  · injection hv with hv1 hv2 hv3
    have hg : g = g' := by simpa using hv1
    subst hg hv3
    have hne : r ≠ g := type_ne h5.hd hh (by decide)
    refine ⟨_, _, hmap, ⟨?_, ⟨?_, .inr ⟨g, c, cur.setIfInBounds (i * 3 + 2) v, by rw [List.length_set], Nat.zero_le _, set_block hh _ _, by rw [List.length_set]; exact hc1, hc2, by rw [Array.size_setIfInBounds]; exact hc3, ?_⟩⟩, ?_, by rw [hmap]; exact hok⟩, ?_⟩
    · rw [set_other _ _ hne]; exact h5.hd
    · rw [flat3_len]
    · rw [flat3_set us i u gs v hi, List.length_set, Array.toList_setIfInBounds, List.take_set, hc4]
    · intro x hx
      rcases List.mem_or_eq_of_mem_set hx with hx | rfl
      · refine row_keeps (h5.grp x hx) (fun j hj => set_other _ _ (fun e => ?_))
        obtain ⟨cu, hcu⟩ := row_type (h5.grp x hx) hj
        exact type_ne hcu hh (by decide) e
      · refine row_keeps (own_base (base' := 0) ho (Nat.zero_le _)) (fun j hj => set_other _ _ (fun e => ?_))
        obtain ⟨cu, hcu⟩ := row_type ho hj
        exact type_ne hcu hh (by decide) e
    · exact (Moves.of_below _ hb).setCell (.inl (.inr rfl)) _ _
/-- put behind a row of nothing -/
theorem append_fresh {w : World} {y n base : Nat} {gv : Value} {l : List Int} (hy : w.heap[y]? = some (.cells #[] 3 (0, 0))) (hby : base ≤ y) (hbs : base ≤ w.heap.size) (hg : w.ownsRow 0 3 1 gv n (l.map (Value.int .i64))) (hbig : n ≤ 1000000) :
    Appends Try.prog 28 w (.slice (some ⟨y, 0, none⟩) 0 0) gv (fun v' w' => w'.ownsRow base 3 1 v' n (l.map (Value.int .i64)) ∧ Below w.heap.size w w') := by
  intro ty
  obtain ⟨i0, hi, hz0, hz1, hz2⟩ := info_parts int_info
  obtain ⟨A, c, rfl, _⟩ := own_shape hg
  have hown : w.ownsRow base 3 1 (.slice (some ⟨y, 0, none⟩) 0 0) 0 [] := ⟨rfl, .inr ⟨y, 0, #[], rfl, hby, hy, Nat.le_refl _, Nat.zero_le _, rfl, rfl⟩⟩
  by_cases h0 : n = 0
  · subst h0
    have hl : l = [] := by have := hg.1; simp at this; exact this
    subst hl
    have hs : Src Try.prog i0.size 28 (.slice A 0 c) 0 [] w := by
      cases A with
      | none => exact Src.ofNil w Try.underlying28 c
      | some ad => exact Src.ofSlice w Try.underlying28 ad 0 c [] (by simp) (fun j u hj => by simp at hj) (fun u hu => by cases hu)
    exact ⟨_, _, run_append_nothing w 28 28 ty 3 i0 Try.underlying28 hi (some ⟨y, 0, none⟩) 0 0 (Nat.le_refl _) _ hs, hown, Below.refl _ _⟩
  · rcases hg.2 with ⟨hv, h1⟩ | ⟨g', c', cur, hv, _, hh, _⟩
    · omega
    · injection hv with hv1 _ hv3
      subst hv1
      obtain ⟨v', w', hr, h2, h3⟩ := run_append_arg_grows (P := Try.prog) (w := w) 28 ty 3 i0 (.int .i64 0) 1 8 Try.underlying28 hi hz0 hz1 hz2 rfl (by decide) ⟨y, 0, none⟩ 0 0 [] rfl (fun j u hj => by simp at hj) ⟨g', 0, none⟩ n c (l.map (Value.int .i64)) (by have := hg.1; simpa using this) (fun j u hj => by
        have hjl := (List.getElem?_eq_some_iff.1 hj).1
        rw [hg.1] at hjl
        have := World.ownsRow.cellAt hg j (by omega)
        rw [hj] at this
        rw [add_off, Nat.zero_add]
        exact this) (by omega) (by unfold maxLen; omega) (by omega)
      rw [Nat.zero_add, List.nil_append] at h2
      exact ⟨v', w', hr, own_base h2 hbs, h3.os, h3.tape, h3.output, h3.size, fun i hi => h3.block i hi (by simp)⟩
/-- what the operations of Join's region yield -/
def VJ (B : Nat) (n : Nat) (gs : List Int) (x : Int) : Nat → Value → World → Prop
  | 5, v, w => ∃ y, v = .slice (some ⟨y, 0, none⟩) 0 0 ∧ B ≤ y ∧ w.heap[y]? = some (.cells #[] 3 (0, 0))
  | 16, v, w => ∃ z, v = .slice (some ⟨z, 0, none⟩) 1 1 ∧ w.heap[z]? = some (.cells #[.int .i64 x] 3 (0, 0))
  | 14, v, w => w.ownsRow B 3 1 v n (gs.map (Value.int .i64))
  | _, _, _ => True
theorem VJ.stable {B n : Nat} {gs : List Int} {x : Int} (i : Nat) (v : Value) (w w' : World) (hb : Below w.heap.size w w') (h : VJ B n gs x i v w) : VJ B n gs x i v w' := by
  unfold VJ at h ⊢
  split at h
  · obtain ⟨y, h1, h2, h3⟩ := h
    exact ⟨y, h1, h2, (hb.block y (block_lt h3)).trans h3⟩
  · obtain ⟨z, h1, h3⟩ := h
    exact ⟨z, h1, (hb.block z (block_lt h3)).trans h3⟩
  · exact row_keeps h (fun i hi => hb.block i (h.lt i hi).2)
  · trivial
theorem join_set {w : World} {r : Nat} {V : Value} {us : List SU} (h : RSIn w r V us) {i : Nat} {u : SU} (hi : us[i]? = some u) (f : SV → SV) (hf : ∀ t, t.sap ≠ u.1.sap → f t = t) : (us.map (·.1)).set i (f u.1) = (us.map (·.1)).map f :=
  set_map h.ok.rise (by rw [List.getElem?_map, hi]; rfl) (fun t _ ht => hf t ht)
set_option maxRecDepth 100000 in
set_option maxHeartbeats 1600000 in
theorem rjoin_yes {w : World} {r : Nat} {V : Value} {us : List SU} (h : RSIn w r V us) {k x : Int} (he : joinE (us.map (·.1)) k x = 0) :
    Calls Try.prog 31 #[ptr r, .int .i64 k, .int .i64 x] w fun e w' => e = .returned (.int .i64 0) ∧ Hid (RSNow r V (joinS (us.map (·.1)) k x) w w') := by
  obtain ⟨o1, o2, o3⟩ := joinE_0 he
  obtain ⟨i, u, hi, hsk, hno⟩ := placeU_ex o2
  have HF := rat_at h k i u hi hsk hno
  have c1 := rgroup_any x
  rw [decide_eq_true o1] at c1
  have hil := (List.getElem?_eq_some_iff.1 hi).1
  obtain ⟨g, cp, hv, hncp, hgl, _, _, hgc, hgf⟩ := h.row.cell hi
  have hG := h.grp u (List.mem_of_getElem? hi)
  have hin0 : u.1.gs.contains x = false := by rw [← (us_at h hi x).1, hsk]; exact o3
  obtain ⟨gv, hgv⟩ : ∃ gv, gv = u.2 := ⟨_, rfl⟩
  unfold GrpIn at hG
  rw [← hgv] at hgc hG
  obtain ⟨m, hm⟩ : ∃ m, m = u.1.gs.length := ⟨_, rfl⟩
  rw [← hm] at hG
  obtain ⟨Ag, cg, rfl, _⟩ := own_shape hG
  have hm127 : m ≤ 1000 := by
    have hn := (h.ok.ok u.1 (List.mem_map.2 ⟨u, List.mem_of_getElem? hi, rfl⟩)).2.2
    have := nodup_le u.1.gs ((List.range 256).map fun (i : Nat) => (i : Int)) hn.2 (fun x hx => by
      have := hn.1 x hx
      unfold OkGrp at this
      exact List.mem_map.2 ⟨x.toNat, List.mem_range.2 (by omega), by omega⟩)
    simp at this
    omega
  have c3 := rin_any (c := cg) (w := w) x hm.symm (by omega) (Nums.of_own hG)
  rw [hin0] at c3
  have HG : Hid (∀ wx, Below w.heap.size w wx → wx.ownsRow 0 3 1 (.slice Ag m cg) m (u.1.gs.map (Value.int .i64))) := cover (fun wx hb => row_keeps hG (fun j hj => hb.block j (hG.lt j hj).2))
  have HH := cover (And.intro h (And.intro hi (And.intro hsk (And.intro he hm))))
  have hlen := h.len
  obtain ⟨n, hn⟩ : ∃ n, n = us.length := ⟨_, rfl⟩
  rw [← hn] at hv hncp hil hlen
  have HNL := cover hn
  have hrl := block_lt h.hd
  have hcl2 := h.cell0
  rw [hv] at hcl2
  have HV := cover hv
  have hfz := hgf (i * 3 + 2)
  have h4 : (fun W' : World => W'.cell? ⟨r, 0, none⟩ = some (.slice (some ⟨g, 0, none⟩) n cp) ∧ W'.cell? ⟨g, i * 3 + 2, none⟩ = some (.slice Ag m cg) ∧ W'.frozen? ⟨g, i * 3 + 2, none⟩ = false ∧ Below w.heap.size w W') w.drew := ⟨hcl2, hgc, hfz, (Below.refl _ _).drew⟩
  have HS : Hid (∀ wx, Below w.heap.size w wx → wx.cell? ⟨r, 0, none⟩ = some (.slice (some ⟨g, 0, none⟩) n cp) ∧ wx.cell? ⟨g, i * 3 + 2, none⟩ = some (.slice Ag m cg) ∧ wx.frozen? ⟨g, i * 3 + 2, none⟩ = false) := cover (fun wx hb => ⟨(hb.cell (p := ⟨r, 0, none⟩) hrl).trans hcl2, (hb.cell (p := ⟨g, i * 3 + 2, none⟩) hgl).trans hgc, by have h0 := hb.block g hgl; unfold World.frozen? at hfz ⊢; rw [h0]; exact hfz⟩)
  clear h o1 o2 o3 hi hsk hno he hv hG hgv hm hin0 hgf hn
  have hin : (i : Int) < (n : Int) := by omega
  have hi0 : (0 : Int) ≤ (i : Int) := by omega
  have hi9 : ¬ (i : Int) < 0 := by omega
  have mixed : Try.prog.follows .mixedOrders = true := by kernel_rfl
  go_enter Try.func31, Try.ntmps31
  go_wp2_with (first
    | (go_at_call 33; refine HF.mono ?_; rintro e w1 ⟨rfl, rfl⟩)
    | (go_at_call 40; refine (c1 _).mono ?_; rintro e w1 ⟨rfl, rfl⟩)
    | (go_at_call 34; refine c3.mono ?_; rintro e w1 ⟨rfl, rfl⟩))
  refine (wpIn_wide (n := 0)).1 ?_
  refine held_begin (fun W' : World => W'.cell? ⟨r, 0, none⟩ = some (.slice (some ⟨g, 0, none⟩) n cp) ∧ W'.cell? ⟨g, i * 3 + 2, none⟩ = some (.slice Ag m cg) ∧ W'.frozen? ⟨g, i * 3 + 2, none⟩ = false ∧ Below w.heap.size w W') 20 mixed ?_
  refine hold_take 0 _ rfl (by kernel_rfl) (by kernel_rfl) (by kernel_rfl) (by kernel_rfl) (by kernel_rfl) (fun _ _ _ h => h) (by rfl) (fun _ => rfl) h4 (fun w' hS => by obtain ⟨q0, q1, q2, q3⟩ := hS; go_simp; rfl) ?_
  simp only [Act.put, List.setIfInBounds_toArray, List.set_cons_zero, List.set_cons_succ]
  refine hold_take 1 _ rfl (by kernel_rfl) (by kernel_rfl) (by kernel_rfl) (by kernel_rfl) (by kernel_rfl) (fun _ _ _ h => h) (by rfl) (fun _ => rfl) h4 (fun w' hS => by obtain ⟨q0, q1, q2, q3⟩ := hS; go_simp; rfl) ?_
  simp only [Act.put, List.setIfInBounds_toArray, List.set_cons_zero, List.set_cons_succ]
  refine hold_take 2 _ rfl (by kernel_rfl) (by kernel_rfl) (by kernel_rfl) (by kernel_rfl) (by kernel_rfl) (fun _ _ _ h => h) (by rfl) (fun _ => rfl) h4 (fun w' hS => by obtain ⟨q0, q1, q2, q3⟩ := hS; go_simp; rfl) ?_
  simp only [Act.put, List.setIfInBounds_toArray, List.set_cons_zero, List.set_cons_succ]
  refine hold_take 3 _ rfl (by kernel_rfl) (by kernel_rfl) (by kernel_rfl) (by kernel_rfl) (by kernel_rfl) (fun _ _ _ h => h) (by rfl) (fun _ => rfl) h4 (fun w' hS => by obtain ⟨q0, q1, q2, q3⟩ := hS; go_simp; rfl) ?_
  simp only [Act.put, List.setIfInBounds_toArray, List.set_cons_zero, List.set_cons_succ]
  refine hold_take 4 _ rfl (by kernel_rfl) (by kernel_rfl) (by kernel_rfl) (by kernel_rfl) (by kernel_rfl) (fun _ _ _ h => h) (by rfl) (fun _ => rfl) h4 (fun w' hS => by obtain ⟨q0, q1, q2, q3⟩ := hS; go_simp; rfl) ?_
  simp only [Act.put, List.setIfInBounds_toArray, List.set_cons_zero, List.set_cons_succ]
  refine hold_take 6 _ rfl (by kernel_rfl) (by kernel_rfl) (by kernel_rfl) (by kernel_rfl) (by kernel_rfl) (fun _ _ _ h => h) (by rfl) (fun _ => rfl) h4 (fun w' hS => by obtain ⟨q0, q1, q2, q3⟩ := hS; go_simp; rfl) ?_
  simp only [Act.put, List.setIfInBounds_toArray, List.set_cons_zero, List.set_cons_succ]
  refine hold_take 7 _ rfl (by kernel_rfl) (by kernel_rfl) (by kernel_rfl) (by kernel_rfl) (by kernel_rfl) (fun _ _ _ h => h) (by rfl) (fun _ => rfl) h4 (fun w' hS => by obtain ⟨q0, q1, q2, q3⟩ := hS; go_simp; rfl) ?_
  simp only [Act.put, List.setIfInBounds_toArray, List.set_cons_zero, List.set_cons_succ]
  refine hold_take 8 _ rfl (by kernel_rfl) (by kernel_rfl) (by kernel_rfl) (by kernel_rfl) (by kernel_rfl) (fun _ _ _ h => h) (by rfl) (fun _ => rfl) h4 (fun w' hS => by obtain ⟨q0, q1, q2, q3⟩ := hS; go_simp; rfl) ?_
  simp only [Act.put, List.setIfInBounds_toArray, List.set_cons_zero, List.set_cons_succ]
  refine hold_take 9 _ rfl (by kernel_rfl) (by kernel_rfl) (by kernel_rfl) (by kernel_rfl) (by kernel_rfl) (fun _ _ _ h => h) (by rfl) (fun _ => rfl) h4 (fun w' hS => by obtain ⟨q0, q1, q2, q3⟩ := hS; go_simp; rfl) ?_
  simp only [Act.put, List.setIfInBounds_toArray, List.set_cons_zero, List.set_cons_succ]
  refine hold_take 10 _ rfl (by kernel_rfl) (by kernel_rfl) (by kernel_rfl) (by kernel_rfl) (by kernel_rfl) (fun _ _ _ h => h) (by rfl) (fun _ => rfl) h4 (fun w' hS => by obtain ⟨q0, q1, q2, q3⟩ := hS; go_simp; rfl) ?_
  simp only [Act.put, List.setIfInBounds_toArray, List.set_cons_zero, List.set_cons_succ]
  refine hold_take 11 _ rfl (by kernel_rfl) (by kernel_rfl) (by kernel_rfl) (by kernel_rfl) (by kernel_rfl) (fun _ _ _ h => h) (by rfl) (fun _ => rfl) h4 (fun w' hS => by obtain ⟨q0, q1, q2, q3⟩ := hS; go_simp; rfl) ?_
  simp only [Act.put, List.setIfInBounds_toArray, List.set_cons_zero, List.set_cons_succ]
  refine hold_take 12 _ rfl (by kernel_rfl) (by kernel_rfl) (by kernel_rfl) (by kernel_rfl) (by kernel_rfl) (fun _ _ _ h => h) (by rfl) (fun _ => rfl) h4 (fun w' hS => by obtain ⟨q0, q1, q2, q3⟩ := hS; go_simp; rfl) ?_
  simp only [Act.put, List.setIfInBounds_toArray, List.set_cons_zero, List.set_cons_succ]
  refine hold_take 13 _ rfl (by kernel_rfl) (by kernel_rfl) (by kernel_rfl) (by kernel_rfl) (by kernel_rfl) (fun _ _ _ h => h) (by rfl) (fun _ => rfl) h4 (fun w' hS => by obtain ⟨q0, q1, q2, q3⟩ := hS; go_simp; rfl) ?_
  simp only [Act.put, List.setIfInBounds_toArray, List.set_cons_zero, List.set_cons_succ]
  refine hold_take 15 _ rfl (by kernel_rfl) (by kernel_rfl) (by kernel_rfl) (by kernel_rfl) (by kernel_rfl) (fun _ _ _ h => h) (by rfl) (fun _ => rfl) h4 (fun w' hS => by obtain ⟨q0, q1, q2, q3⟩ := hS; go_simp; rfl) ?_
  simp only [Act.put, List.setIfInBounds_toArray, List.set_cons_zero, List.set_cons_succ]
  refine net_law (k := 4) [(5, 34), (16, 45), (14, 43)] (VJ w.heap.size m u.1.gs x) (fun a b => Below a.heap.size a b) _
    #[true, true, true, true, true, true, true, true, true, true, true, true, true, true, true, true, true, false, false, false, false] _ _ (by kernel_rfl) h4 VJ.stable ?_ ?_
  · intro y hy o ho uu W hSW hd
    have hsW := hSW.2.2.2.size
    have keep : ∀ W', Below W.heap.size W W' → (fun W' : World => W'.cell? ⟨r, 0, none⟩ = some (.slice (some ⟨g, 0, none⟩) n cp) ∧ W'.cell? ⟨g, i * 3 + 2, none⟩ = some (.slice Ag m cg) ∧ W'.frozen? ⟨g, i * 3 + 2, none⟩ = false ∧ Below w.heap.size w W') W' := fun W' hb => by
      obtain ⟨q0, q1, q2, q3⟩ := hSW
      have hw' := q3.trans (hb.mono hsW)
      have hS := HS.out W' hw'
      exact ⟨hS.1, hS.2.1, hS.2.2, hw'⟩
    simp only [List.mem_cons, List.not_mem_nil, or_false] at hy
    rcases hy with rfl | rfl | rfl
    · obtain rfl := op_of ho rfl
      simp only [upd, List.foldl_cons, List.foldl_nil, List.setIfInBounds_toArray, List.set_cons_zero, List.set_cons_succ]
      go_simp
      have hb := (Below.refl W.heap.size W).alloc (Nat.le_refl _) (.cells #[] 3)
      exact ⟨keep _ hb, ⟨W.heap.size, rfl, hsW, heap_alloc_new _ _⟩, hb⟩
    · obtain rfl := op_of ho rfl
      simp only [upd, List.foldl_cons, List.foldl_nil, List.setIfInBounds_toArray, List.set_cons_zero, List.set_cons_succ]
      go_simp
      have hb := (Below.refl W.heap.size W).alloc (Nat.le_refl _) (.cells #[.int .i64 x] 3)
      exact ⟨keep _ hb, ⟨W.heap.size, rfl, heap_alloc_new _ _⟩, hb⟩
    · obtain rfl := op_of ho rfl
      simp only [upd, List.foldl_cons, List.foldl_nil, List.setIfInBounds_toArray, List.set_cons_zero, List.set_cons_succ]
      obtain ⟨y, e34, hBy, hy0⟩ : VJ w.heap.size m u.1.gs x 5 (uu 34) W := hd (5, 34) (by simp) (by kernel_rfl)
      rw [e34]
      obtain ⟨v', w', hr, k1, k2⟩ := append_fresh hy0 hBy hsW (HG.out W hSW.2.2.2) (by omega) 28
      refine run_in (fun c h => by cases h) (fun _ _ => trivial) (v := v') (w' := w') (appends_exec _ _ _ _ rfl (.slice (some ⟨y, 0, none⟩) 0 0) (.slice Ag m cg) (by go_simp) (by go_simp) hr) ?_
      exact ⟨v', rfl, keep _ k2, k1, k2⟩
  · intro uu W hSW hV
    obtain ⟨z, e45, hz⟩ : VJ w.heap.size m u.1.gs x 16 (uu 45) W := hV (16, 45) (by simp)
    have ho14 : W.ownsRow w.heap.size 3 1 (uu 43) m (u.1.gs.map (Value.int .i64)) := hV (14, 43) (by simp)
    obtain ⟨v14, hv14⟩ : ∃ v, v = uu 43 := ⟨_, rfl⟩
    rw [← hv14] at ho14
    have hB3 := hSW.2.2.2
    have hsW := hB3.size
    simp only [upd, List.foldl_cons, List.foldl_nil, List.setIfInBounds_toArray, List.set_cons_zero, List.set_cons_succ]
    rw [e45, ← hv14]
    clear hV e45 hv14
    obtain ⟨v5, w5, hr5, k1, k3⟩ := append_i ho14 ⟨z, 0, none⟩ 1 1 [x] rfl (fun j u hj => by
      rw [add_off, Nat.zero_add, cell_of_row _ _ _ _ _ _ hz]
      simpa using hj) hsW (by omega) 28
    have hb5 : Below w.heap.size w w5 := below_grown hB3 hsW ho14 k3
    have hS5 := HS.out w5 hb5
    have h35 : (fun W' : World => W'.cell? ⟨r, 0, none⟩ = some (.slice (some ⟨g, 0, none⟩) n cp) ∧ W'.cell? ⟨g, i * 3 + 2, none⟩ = some (.slice Ag m cg) ∧ W'.frozen? ⟨g, i * 3 + 2, none⟩ = false ∧ Below w.heap.size w W') w5 := ⟨hS5.1, hS5.2.1, hS5.2.2, hb5⟩
    refine hold_one 17 (by kernel_rfl) rfl (by rfl) fun K hK => ?_
    refine run_in (fun c h => by cases h) (fun _ _ => trivial) (v := v5) (w' := w5) (appends_exec _ _ _ _ rfl v14 (.slice (some ⟨z, 0, none⟩) 1 1) (by go_simp) (by go_simp) hr5) ?_
    refine hK _ _ (.inr h35) ?_
    clear hK K hr5
    simp only [Act.put, List.setIfInBounds_toArray, List.set_cons_zero, List.set_cons_succ]
    have HN : Hid (RSNow r (.slice (some ⟨g, 0, none⟩) n cp) (joinS (us.map (·.1)) k x) w (w5.setCell ⟨g, i * 3 + 2, none⟩ v5)) := cover (by
      obtain ⟨hh, hi, hsk, he, hm⟩ := HH.out
      have hV' := HV.out
      subst hV'
      have hj : (us.map (·.1)).set i ⟨u.1.sap, u.1.cls, u.1.gs ++ [x]⟩ = joinS (us.map (·.1)) k x := by
        rw [joinS_yes he, ← join_set hh hi (joinF k x) (fun t ht => by unfold joinF; rw [if_neg (by rw [← hsk]; exact ht)])]
        unfold joinF
        rw [if_pos hsk]
      have hok := hh.ok.join k x
      rw [← hj] at hok ⊢
      have hNL := HNL.out
      subst hNL
      exact hh.setGrp hb5 hi _ v5 (by rw [List.length_append, ← hm]; exact k1) hok)
    rw [← HV.out] at HN
    refine hold_one 18 (by kernel_rfl) rfl (by rfl) fun K hK => ?_
    go_simp
    refine hK _ _ (.inr h35) ?_
    clear hK K
    refine hold_one 19 (by kernel_rfl) rfl (by rfl) fun K hK => ?_
    go_simp
    refine hK _ _ (.inr h35) ?_
    clear hK K
    refine hold_one 20 (by kernel_rfl) rfl (by rfl) fun K hK => ?_
    obtain ⟨q0, q1, q2, q3⟩ := h35
    obtain ⟨A5, c5, rfl, _⟩ := own_shape k1
    go_simp
    refine hK _ _ (.inl rfl) (held_done (by kernel_rfl) ?_ _)
    clear hK K
    go_wp2
    go_ret
    exact ⟨rfl, HN⟩
end Go.Proofs.Ytnegbiofnjdfaaa
