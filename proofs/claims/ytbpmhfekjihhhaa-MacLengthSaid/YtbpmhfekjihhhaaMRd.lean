/- What read hands back. -/
import Derived.Test.YtbpmhfekjihhhaaMRead
import Derived.Test.YtbpmhfekjihhhaaMZero
namespace Go.Proofs.Ytbpmhfekjihhhaa
open Go.RowKit
set_option linter.unusedVariables false

theorem results_cell_two {P : Program} {fn : Func} {p s : Tmp} {ty : TypeId} (h : fn.results = #[.cell p ty, .tmp s]) (tmps : Array Value) (w : World) (g : Nat) (t : TypeId) (cs : Array Value) (fr : Nat × Nat) (d : TypeDesc) (v : Value)
    (hp : tmps.getD p undef = .pointer (some ⟨g, 0, none⟩)) (hg : w.heap[g]? = some (.cells cs t fr)) (hv : tmps.getD s undef = v)
    (hu : P.underlying ty = some d) (hd : (match d with | .struct _ | .array _ _ => true | _ => false) = true) (hi : (P.info? ty).map (·.size) = some cs.size) :
    (results fn tmps).run P w = .ok (.tuple #[.agg cs, v]) w := by
  have hp' : tmps[p]?.getD undef = .pointer (some ⟨g, 0, none⟩) := by simpa using hp
  have hv' : tmps[s]?.getD undef = v := by simpa using hv
  simp [results, h, hp', hv', asAddr, run_loadVar_row w g t ty cs fr d hg hu hd hi]
theorem frm_size : (Try.prog.info? 36).map (fun x => x.size) = some 13 := by kernel_rfl
/-- a frame of noughts -/
abbrev zf : Array Value := #[.int .u8 0, .int .u8 0, .int .u8 0, .int .u8 0, .int .u8 0, .int .u8 0, .int .u8 0, .int .u8 0, .int .u8 0, .int .u8 0, .int .u8 0, .int .u8 0, .slice none 0 0]
theorem zf_one : (zf.all fun x => x.oneCell') = true := by simp [Value.oneCell']
theorem frm_one (t0 t1 t2 t3 t4 t5 f0 f1 f2 f3 f4 f5 : Int) (A : Option Addr) (n c : Nat) : ((#[.int .u8 t0, .int .u8 t1, .int .u8 t2, .int .u8 t3, .int .u8 t4, .int .u8 t5, .int .u8 f0, .int .u8 f1, .int .u8 f2, .int .u8 f3, .int .u8 f4, .int .u8 f5, .slice A n c] : Array Value).all fun x => x.oneCell') = true := by simp [Value.oneCell']
theorem Six.only {w w' : World} {b o g : Nat} {L : List Int} (h : Six w b o L) (ho : OnlyB g w w') (hb : b < w.heap.size) (hne : b ≠ g) : Six w' b o L := fun j hj =>
  (World.cell?_of_block (a := ⟨b, o + j, none⟩) (ho.block b hb (fun e => hne (by injection e)))).trans (h j hj)
theorem heap_only {w w' : World} {b g : Nat} {o : Obj} (h : w.heap[b]? = some o) (ho : OnlyB g w w') (hne : b ≠ g) : w'.heap[b]? = some o :=
  (ho.block b (block_lt h) (fun e => hne (by injection e))).trans h
theorem setRow_only (w : World) (b : Nat) (cs : Array Value) : OnlyB b w (w.setRow b cs) :=
  ⟨rfl, rfl, rfl, by simp, fun i hi hne => setRow_other w b i cs (fun e => hne (by rw [e]))⟩
/-- read has answered -/
def ReadD (x : List Int) (w : World) (e : Ending) (w' : World) : Prop :=
  ∃ (t0 t1 t2 t3 t4 t5 f0 f1 f2 f3 f4 f5 : Int) (A : Option Addr) (c : Nat) (dd : List Int), e = .returned (.tuple #[.agg #[.int .u8 t0, .int .u8 t1, .int .u8 t2, .int .u8 t3, .int .u8 t4, .int .u8 t5, .int .u8 f0, .int .u8 f1, .int .u8 f2, .int .u8 f3, .int .u8 f4, .int .u8 f5, .slice A dd.length c], .bool (okF x)]) ∧ Hid ([t0, t1, t2, t3, t4, t5] = toF x ∧ [f0, f1, f2, f3, f4, f5] = frF x ∧ dd = daF x) ∧ OwnB w' w.heap.size (.slice A dd.length c) dd ∧ Below w.heap.size w w'
theorem ReadD.no {x : List Int} {w w' : World} (h : okF x = false) (hb : Below w.heap.size w w') : ReadD x w (.returned (.tuple #[.agg zf, .bool false])) w' :=
  ⟨0, 0, 0, 0, 0, 0, 0, 0, 0, 0, 0, 0, none, 0, [], by rw [h]; rfl, cover ⟨by simp [toF, h], by simp [frF, h], by simp [daF, h]⟩, OwnB.nil _ _, hb⟩

set_option maxRecDepth 100000 in
set_option maxHeartbeats 3200000 in
theorem read_any (A : Option Addr) (c B : Nat) (x : List Int) (w : World) (hr : Row w B A x.length x) (hB : B ≤ w.heap.size) (hb : Hid (Bts x)) (h60 : 60 ≤ x.length) (hmax : x.length ≤ 140737488355328) :
    Calls Try.prog 39 #[.slice A x.length c] w (ReadD x w) := by
  obtain ⟨w1, hw1⟩ : ∃ w1, Hid (w1 = w.alloc (.cells zf 36)) := ⟨_, cover rfl⟩
  have hs1 : w1.heap.size = w.heap.size + 1 := by rw [hw1.out]; simp
  have H1 : Hid (Below w.heap.size w w1) := cover (by rw [hw1.out]; exact (Below.refl _ _).alloc (Nat.le_refl _) _)
  have G1 : Hid (w1.heap[w.heap.size]? = some (.cells zf 36 (0, 0))) := cover (by rw [hw1.out]; exact heap_alloc_new _ _)
  have hr1 : Row w1 B A x.length x := hr.below (H1.out.mono hB)
  have hs1' : w.heap.size < w1.heap.size := by omega
  clear hr hs1
  go_enter Try.func39, Try.ntmps39
  go_wp2_with fail
  rw [← hw1.out]
  refine (new_any A x.length c B x w1 hr1 (by omega) hmax).mono ?_
  rintro e w2 ⟨g, rfl, hrd2, hg2, hb2⟩
  have hs2 := hb2.size
  have hgl2 := hrd2.lt
  have H2 := cover (H1.out.trans (hb2.mono (by omega)))
  have G2 := cover ((hb2.block w.heap.size (by omega)).trans G1.out)
  have hgne : w.heap.size ≠ g := by omega
  have HRd2 := cover hrd2
  clear hb2 hr1 hrd2
  go_wp2_with fail
  refine (readAddr_any g g x w2 HRd2.out (by omega) hmax).mono ?_
  rintro e w3 ⟨t0, t1, t2, t3, t4, t5, rfl, hT, hrd3, hon3⟩
  have H3 := cover (below_only H2.out hon3 (by omega) (by omega))
  have G3 := cover (heap_only G2.out hon3 hgne)
  have hs3 := hon3.size
  have HRd3 := cover hrd3
  clear hrd3 hon3
  go_wp2_with fail
  obtain ⟨w4, hw4⟩ : ∃ w4, Hid (w4 = w3.alloc (.cells #[.int .u8 t0, .int .u8 t1, .int .u8 t2, .int .u8 t3, .int .u8 t4, .int .u8 t5] 33)) := ⟨_, cover rfl⟩
  rw [← hw4.out]
  obtain ⟨gt, hgt⟩ : ∃ gt, gt = w3.heap.size := ⟨_, rfl⟩
  rw [← hgt]
  have hs4 : w4.heap.size = w3.heap.size + 1 := by rw [hw4.out]; simp
  have hb34 : Below w3.heap.size w3 w4 := by rw [hw4.out]; exact (Below.refl _ _).alloc (Nat.le_refl _) _
  have S4 : Hid (Six w4 gt 0 [t0, t1, t2, t3, t4, t5]) := cover (by rw [hw4.out, hgt]; exact six_boxed w3 t0 t1 t2 t3 t4 t5)
  have H4 := cover (H3.out.trans (hb34.mono (by omega)))
  have G4 := cover ((hb34.block w.heap.size (by omega)).trans G3.out)
  have hrd4 := HRd3.out.below hb34 (by omega)
  have hgt4 : gt < w4.heap.size := by omega
  have hgg : gt ≠ g := by omega
  have hs34 : w3.heap.size ≤ w4.heap.size := by omega
  clear hb34 hs4 hgt
  refine (readAddr_any g g (x.drop 6) w4 hrd4 (by rw [List.length_drop]; omega) (by rw [List.length_drop]; omega)).mono ?_
  rintro e w5 ⟨f0, f1, f2, f3, f4, f5, rfl, hF, hrd5, hon5⟩
  have H5 := cover (below_only H4.out hon5 (by omega) (by omega))
  have G5 := cover (heap_only G4.out hon5 hgne)
  have S5 := cover (S4.out.only hon5 hgt4 hgg)
  have hs5 := hon5.size
  rw [List.drop_drop] at hrd5
  have HRd5 := cover hrd5
  clear hrd5 hon5 hrd4
  go_wp2_with fail
  obtain ⟨w6, hw6⟩ : ∃ w6, Hid (w6 = w5.alloc (.cells #[.int .u8 f0, .int .u8 f1, .int .u8 f2, .int .u8 f3, .int .u8 f4, .int .u8 f5] 33)) := ⟨_, cover rfl⟩
  rw [← hw6.out]
  obtain ⟨gf, hgf⟩ : ∃ gf, gf = w5.heap.size := ⟨_, rfl⟩
  rw [← hgf]
  have hs6 : w6.heap.size = w5.heap.size + 1 := by rw [hw6.out]; simp
  have hb56 : Below w5.heap.size w5 w6 := by rw [hw6.out]; exact (Below.refl _ _).alloc (Nat.le_refl _) _
  have F6 : Hid (Six w6 gf 0 [f0, f1, f2, f3, f4, f5]) := cover (by rw [hw6.out, hgf]; exact six_boxed w5 f0 f1 f2 f3 f4 f5)
  have S6 := cover (S5.out.below hb56 (by omega))
  have H6 := cover (H5.out.trans (hb56.mono (by omega)))
  have G6 := cover ((hb56.block w.heap.size (by omega)).trans G5.out)
  have hrd6 := HRd5.out.below hb56 (by omega)
  have hgf6 : gf < w6.heap.size := by omega
  have hgfg : gf ≠ g := by omega
  have hs56 : w5.heap.size ≤ w6.heap.size := by omega
  clear hb56 hs6 hgf
  refine (num_yes g g 2 (x.drop (6 + 6)) w6 hrd6 (hb.out.drop _) (by rw [List.length_drop]; omega) (by decide) (by decide) (by rw [List.length_drop]; omega)).mono ?_
  rintro e w7 ⟨he, hrd7, hon7⟩
  have hN := lenF_val hb.out
  have hNlt := lenF_lt hb.out
  obtain ⟨N, hNN⟩ : ∃ N, Hid (lenF x = N) := ⟨_, cover rfl⟩
  rw [hNN.out] at hN hNlt
  rw [show 6 + 6 = 12 from rfl, hN] at he
  subst he
  have H7 := cover (below_only H6.out hon7 (by omega) (by omega))
  have G7 := cover (heap_only G6.out hon7 hgne)
  have S7 := cover (S6.out.only hon7 (by omega) hgg)
  have F7 := cover (F6.out.only hon7 hgf6 hgfg)
  have hs7 := hon7.size
  rw [show 6 + 6 = 12 from rfl, List.drop_drop, show 12 + 2 = 14 from rfl] at hrd7
  have HRd7 := cover hrd7
  have hcf := F7.out.all
  clear hrd7 hon7 hrd6 hN
  go_wp2_with fail
  refine (group_any f0 f1 f2 f3 f4 f5 w7).mono ?_
  rintro e w8 ⟨he, hb8⟩
  have hs8 := hb8.size
  have H8 := cover (H7.out.trans (hb8.mono (by omega)))
  have G8 := cover ((hb8.block w.heap.size (by omega)).trans G7.out)
  have S8 := cover (S7.out.below hb8 (by omega))
  have F8 := cover (F7.out.below hb8 (by omega))
  have hrd8 := HRd7.out.below hb8 (by omega)
  obtain ⟨y, hy⟩ : ∃ y, Hid (x.drop 14 = y) := ⟨_, cover rfl⟩
  rw [hy.out] at hrd8
  have HRd8 := cover hrd8
  have hyl : Hid (y.length ≤ 140737488355328) := cover (by rw [← hy.out, List.length_drop]; omega)
  have hx6 : Hid (x.getD 6 0 = f0) := cover (by
    have h := congrArg (fun l => l.getD 0 0) hF.out
    simpa [List.getD_eq_getElem?_getD, List.getElem?_take, List.getElem?_drop] using h)
  clear hb8 hrd8 hcf
  rcases hq1 : grp f0 with _ | _
  · rw [hq1] at he
    subst he
    have HQ1 := cover hq1
    clear hq1
    by_cases h2 : N ≤ 1500
    · have h2I : ¬ ((1500 : Int) < (N : Int)) := by omega
      by_cases h46 : N < 46
      · have h46I : (N : Int) < 46 := by omega
        by_cases hm : y.length = 46
        · have hbne : ((y.length : Int) != 46) = false := by rw [hm]; rfl
          have hmx := cover (show y.length = max N 46 by omega)
          have hyN := cover (show N ≤ y.length by omega)
          clear hm
          go_wp2_with (go_at_call 54; refine (left_any g g y false w8 HRd8.out).mono ?_; rintro e w' ⟨rfl, rfl⟩)
          refine (raw_yes g g N y w8 HRd8.out (by have := hyN.out; omega) (by have := hyl.out; omega)).mono ?_
          rintro e w9 ⟨A9, c9, rfl, ho9, hrd9, hon9⟩
          have H9 := cover (below_only H8.out hon9 (by omega) (by omega))
          have G9 := cover (heap_only G8.out hon9 hgne)
          have S9 := cover (S8.out.only hon9 (by omega) hgg)
          have F9 := cover (F8.out.only hon9 (by omega) hgfg)
          have hs9 := hon9.size
          have HO9 := cover ho9
          have HRd9 := cover hrd9
          clear ho9 hrd9 hon9
          go_wp2_with fail
          refine (rest_yes g g (y.drop N) w9 HRd9.out (by rw [List.length_drop]; have := hyl.out; omega)).mono ?_
          rintro e w10 ⟨A10, c10, rfl, ho10, hrd10, hon10⟩
          have H10 := cover (below_only H9.out hon10 (by omega) (by omega))
          have G10 := cover (heap_only G9.out hon10 hgne)
          have S10 := cover (S9.out.only hon10 (by omega) hgg)
          have F10 := cover (F9.out.only hon10 (by omega) hgfg)
          have hs10 := hon10.size
          have HO10 : Hid (w10.ownsRow w8.heap.size 5 1 (.slice A9 N c9) (y.take N).length ((y.take N).map (Value.int .u8))) := cover (World.ownsRow.kept HO9.out hon10 (.inr (fun e => by have := (HO9.out.lt g e).1; omega)))
          have hrow10 := ho10
          rw [List.take_of_length_le (Nat.le_refl _)] at hrow10
          have hrow11 := RowK.of_own hrow10 rfl
          rw [List.length_drop] at hrow11
          have HRow10 := cover hrow11
          have hcs := S10.out.all
          have hcf10 := F10.out.all
          clear ho10 hrow10 hrow11 hrd10 hon10
          go_wp2_with fail
          rcases hz : allZ (y.drop N) with _ | _
          · refine (containsFunc_any A10 (y.length - N) c10 w10.heap.size (y.drop N) w10 true (cover (by rw [hz]; rfl)) HRow10.out (by have := hyl.out; omega)).mono ?_
            rintro e w' ⟨rfl, rfl⟩
            have hno : Hid (okF x = false) := cover (by unfold okF; rw [hNN.out, hy.out, hz]; simp)
            clear hz
            go_wp2_with (refine wpList_store_row rfl _ _ _ rfl w.heap.size zf rfl rfl 36 zf G10.out frm_size rfl zf_one ?_)
            exact bodyPost_ret (v := .tuple #[.agg zf, .bool false]) (results_cell_two (by rfl) _ _ w.heap.size _ zf (0, 0) _ (.bool false) rfl (setRow_heap _ _ _ _ _ _ G10.out) rfl Try.underlying36 rfl frm_size) rfl (ReadD.no hno.out (Go.below_setRow H10.out (Nat.le_refl _) _))
          · refine (containsFunc_any A10 (y.length - N) c10 w10.heap.size (y.drop N) w10 false (cover (by rw [hz]; rfl)) HRow10.out (by have := hyl.out; omega)).mono ?_
            rintro e w' ⟨rfl, rfl⟩
            have hyes : Hid (okF x = true) := cover (by unfold okF; rw [hNN.out, hy.out, hz, hx6.out, HQ1.out]; simp; exact ⟨by omega, by have := hmx.out; omega⟩)
            have hlen : Hid ((y.take N).length = N) := cover (by rw [List.length_take]; have := hyN.out; omega)
            clear hz
            go_wp2_with (refine wpList_store_row rfl _ _ _ rfl w.heap.size #[.int .u8 t0, .int .u8 t1, .int .u8 t2, .int .u8 t3, .int .u8 t4, .int .u8 t5, .int .u8 f0, .int .u8 f1, .int .u8 f2, .int .u8 f3, .int .u8 f4, .int .u8 f5, .slice A9 N c9] rfl rfl 36 zf G10.out frm_size rfl (frm_one t0 t1 t2 t3 t4 t5 f0 f1 f2 f3 f4 f5 A9 N c9) ?_)
            exact bodyPost_ret (v := .tuple #[.agg #[.int .u8 t0, .int .u8 t1, .int .u8 t2, .int .u8 t3, .int .u8 t4, .int .u8 t5, .int .u8 f0, .int .u8 f1, .int .u8 f2, .int .u8 f3, .int .u8 f4, .int .u8 f5, .slice A9 N c9], .bool true]) (results_cell_two (by rfl) _ _ w.heap.size _ #[.int .u8 t0, .int .u8 t1, .int .u8 t2, .int .u8 t3, .int .u8 t4, .int .u8 t5, .int .u8 f0, .int .u8 f1, .int .u8 f2, .int .u8 f3, .int .u8 f4, .int .u8 f5, .slice A9 N c9] (0, 0) _ (.bool true) rfl (setRow_heap _ _ _ _ _ _ G10.out) rfl Try.underlying36 rfl frm_size) rfl
              ⟨t0, t1, t2, t3, t4, t5, f0, f1, f2, f3, f4, f5, A9, c9, y.take N, by rw [hyes.out, hlen.out], cover ⟨by unfold toF; rw [if_pos hyes.out, hT.out], by unfold frF; rw [if_pos hyes.out, hF.out], by unfold daF; rw [if_pos hyes.out, hNN.out, hy.out]⟩,
                by
                  have h1 := own_base HO10.out (show w.heap.size ≤ w8.heap.size by omega)
                  have h2 := World.ownsRow.kept h1 (setRow_only w10 w.heap.size #[.int .u8 t0, .int .u8 t1, .int .u8 t2, .int .u8 t3, .int .u8 t4, .int .u8 t5, .int .u8 f0, .int .u8 f1, .int .u8 f2, .int .u8 f3, .int .u8 f4, .int .u8 f5, .slice A9 N c9]) (.inr (fun e => by have := (HO10.out.lt w.heap.size e).1; omega))
                  unfold OwnB; rw [hlen.out] at h2 ⊢; exact h2, Go.below_setRow H10.out (Nat.le_refl _) _⟩
        · have hbne : ((y.length : Int) != 46) = true := by simpa using (by omega : ¬ (y.length : Int) = 46)
          have hno : Hid (okF x = false) := cover (by unfold okF; rw [hNN.out, hy.out, decide_eq_false (by omega : ¬ y.length = max N 46)]; simp)
          clear hm
          go_wp2_with (first
            | (go_at_call 54; refine (left_any g g y false w8 HRd8.out).mono ?_; rintro e w' ⟨rfl, rfl⟩)
            | (refine wpList_store_row rfl _ _ _ rfl w.heap.size zf rfl rfl 36 zf G8.out frm_size rfl zf_one ?_))
          exact bodyPost_ret (v := .tuple #[.agg zf, .bool false]) (results_cell_two (by rfl) _ _ w.heap.size _ zf (0, 0) _ (.bool false) rfl (setRow_heap _ _ _ _ _ _ G8.out) rfl Try.underlying36 rfl frm_size) rfl (ReadD.no hno.out (Go.below_setRow H8.out (Nat.le_refl _) _))
      · have h46I : ¬ ((N : Int) < 46) := by omega
        by_cases hm : y.length = N
        · have hbne : ((y.length : Int) != (N : Int)) = false := by rw [hm]; simp
          have hbne2 : (y.length != N) = false := by rw [hm]; simp
          have hmx := cover (show y.length = max N 46 by omega)
          have hyN := cover (show N ≤ y.length by omega)
          clear hm
          go_wp2_with (go_at_call 54; refine (left_any g g y false w8 HRd8.out).mono ?_; rintro e w' ⟨rfl, rfl⟩)
          refine (raw_yes g g N y w8 HRd8.out (by have := hyN.out; omega) (by have := hyl.out; omega)).mono ?_
          rintro e w9 ⟨A9, c9, rfl, ho9, hrd9, hon9⟩
          have H9 := cover (below_only H8.out hon9 (by omega) (by omega))
          have G9 := cover (heap_only G8.out hon9 hgne)
          have S9 := cover (S8.out.only hon9 (by omega) hgg)
          have F9 := cover (F8.out.only hon9 (by omega) hgfg)
          have hs9 := hon9.size
          have HO9 := cover ho9
          have HRd9 := cover hrd9
          clear ho9 hrd9 hon9
          go_wp2_with fail
          refine (rest_yes g g (y.drop N) w9 HRd9.out (by rw [List.length_drop]; have := hyl.out; omega)).mono ?_
          rintro e w10 ⟨A10, c10, rfl, ho10, hrd10, hon10⟩
          have H10 := cover (below_only H9.out hon10 (by omega) (by omega))
          have G10 := cover (heap_only G9.out hon10 hgne)
          have S10 := cover (S9.out.only hon10 (by omega) hgg)
          have F10 := cover (F9.out.only hon10 (by omega) hgfg)
          have hs10 := hon10.size
          have HO10 : Hid (w10.ownsRow w8.heap.size 5 1 (.slice A9 N c9) (y.take N).length ((y.take N).map (Value.int .u8))) := cover (World.ownsRow.kept HO9.out hon10 (.inr (fun e => by have := (HO9.out.lt g e).1; omega)))
          have hrow10 := ho10
          rw [List.take_of_length_le (Nat.le_refl _)] at hrow10
          have hrow11 := RowK.of_own hrow10 rfl
          rw [List.length_drop] at hrow11
          have HRow10 := cover hrow11
          have hcs := S10.out.all
          have hcf10 := F10.out.all
          clear ho10 hrow10 hrow11 hrd10 hon10
          go_wp2_with fail
          rcases hz : allZ (y.drop N) with _ | _
          · refine (containsFunc_any A10 (y.length - N) c10 w10.heap.size (y.drop N) w10 true (cover (by rw [hz]; rfl)) HRow10.out (by have := hyl.out; omega)).mono ?_
            rintro e w' ⟨rfl, rfl⟩
            have hno : Hid (okF x = false) := cover (by unfold okF; rw [hNN.out, hy.out, hz]; simp)
            clear hz
            go_wp2_with (refine wpList_store_row rfl _ _ _ rfl w.heap.size zf rfl rfl 36 zf G10.out frm_size rfl zf_one ?_)
            exact bodyPost_ret (v := .tuple #[.agg zf, .bool false]) (results_cell_two (by rfl) _ _ w.heap.size _ zf (0, 0) _ (.bool false) rfl (setRow_heap _ _ _ _ _ _ G10.out) rfl Try.underlying36 rfl frm_size) rfl (ReadD.no hno.out (Go.below_setRow H10.out (Nat.le_refl _) _))
          · refine (containsFunc_any A10 (y.length - N) c10 w10.heap.size (y.drop N) w10 false (cover (by rw [hz]; rfl)) HRow10.out (by have := hyl.out; omega)).mono ?_
            rintro e w' ⟨rfl, rfl⟩
            have hyes : Hid (okF x = true) := cover (by unfold okF; rw [hNN.out, hy.out, hz, hx6.out, HQ1.out]; simp; exact ⟨by omega, by have := hmx.out; omega⟩)
            have hlen : Hid ((y.take N).length = N) := cover (by rw [List.length_take]; have := hyN.out; omega)
            clear hz
            go_wp2_with (refine wpList_store_row rfl _ _ _ rfl w.heap.size #[.int .u8 t0, .int .u8 t1, .int .u8 t2, .int .u8 t3, .int .u8 t4, .int .u8 t5, .int .u8 f0, .int .u8 f1, .int .u8 f2, .int .u8 f3, .int .u8 f4, .int .u8 f5, .slice A9 N c9] rfl rfl 36 zf G10.out frm_size rfl (frm_one t0 t1 t2 t3 t4 t5 f0 f1 f2 f3 f4 f5 A9 N c9) ?_)
            exact bodyPost_ret (v := .tuple #[.agg #[.int .u8 t0, .int .u8 t1, .int .u8 t2, .int .u8 t3, .int .u8 t4, .int .u8 t5, .int .u8 f0, .int .u8 f1, .int .u8 f2, .int .u8 f3, .int .u8 f4, .int .u8 f5, .slice A9 N c9], .bool true]) (results_cell_two (by rfl) _ _ w.heap.size _ #[.int .u8 t0, .int .u8 t1, .int .u8 t2, .int .u8 t3, .int .u8 t4, .int .u8 t5, .int .u8 f0, .int .u8 f1, .int .u8 f2, .int .u8 f3, .int .u8 f4, .int .u8 f5, .slice A9 N c9] (0, 0) _ (.bool true) rfl (setRow_heap _ _ _ _ _ _ G10.out) rfl Try.underlying36 rfl frm_size) rfl
              ⟨t0, t1, t2, t3, t4, t5, f0, f1, f2, f3, f4, f5, A9, c9, y.take N, by rw [hyes.out, hlen.out], cover ⟨by unfold toF; rw [if_pos hyes.out, hT.out], by unfold frF; rw [if_pos hyes.out, hF.out], by unfold daF; rw [if_pos hyes.out, hNN.out, hy.out]⟩,
                by
                  have h1 := own_base HO10.out (show w.heap.size ≤ w8.heap.size by omega)
                  have h2 := World.ownsRow.kept h1 (setRow_only w10 w.heap.size #[.int .u8 t0, .int .u8 t1, .int .u8 t2, .int .u8 t3, .int .u8 t4, .int .u8 t5, .int .u8 f0, .int .u8 f1, .int .u8 f2, .int .u8 f3, .int .u8 f4, .int .u8 f5, .slice A9 N c9]) (.inr (fun e => by have := (HO10.out.lt w.heap.size e).1; omega))
                  unfold OwnB; rw [hlen.out] at h2 ⊢; exact h2, Go.below_setRow H10.out (Nat.le_refl _) _⟩
        · have hbne : ((y.length : Int) != (N : Int)) = true := by simpa using (by omega : ¬ (y.length : Int) = (N : Int))
          have hbne2 : (y.length != N) = true := by simpa using hm
          have hno : Hid (okF x = false) := cover (by unfold okF; rw [hNN.out, hy.out, decide_eq_false (by omega : ¬ y.length = max N 46)]; simp)
          clear hm
          go_wp2_with (first
            | (go_at_call 54; refine (left_any g g y false w8 HRd8.out).mono ?_; rintro e w' ⟨rfl, rfl⟩)
            | (refine wpList_store_row rfl _ _ _ rfl w.heap.size zf rfl rfl 36 zf G8.out frm_size rfl zf_one ?_))
          exact bodyPost_ret (v := .tuple #[.agg zf, .bool false]) (results_cell_two (by rfl) _ _ w.heap.size _ zf (0, 0) _ (.bool false) rfl (setRow_heap _ _ _ _ _ _ G8.out) rfl Try.underlying36 rfl frm_size) rfl (ReadD.no hno.out (Go.below_setRow H8.out (Nat.le_refl _) _))
    · have h2I : (1500 : Int) < (N : Int) := by omega
      have hno : Hid (okF x = false) := cover (by unfold okF; rw [hNN.out, decide_eq_false h2]; simp)
      go_wp2_with (first
        | (go_at_call 54; refine (left_any g g y false w8 HRd8.out).mono ?_; rintro e w' ⟨rfl, rfl⟩)
        | (refine wpList_store_row rfl _ _ _ rfl w.heap.size zf rfl rfl 36 zf G8.out frm_size rfl zf_one ?_))
      exact bodyPost_ret (v := .tuple #[.agg zf, .bool false]) (results_cell_two (by rfl) _ _ w.heap.size _ zf (0, 0) _ (.bool false) rfl (setRow_heap _ _ _ _ _ _ G8.out) rfl Try.underlying36 rfl frm_size) rfl (ReadD.no hno.out (Go.below_setRow H8.out (Nat.le_refl _) _))
  · rw [hq1] at he
    subst he
    have hno : Hid (okF x = false) := cover (by unfold okF; rw [hx6.out, hq1]; simp)
    clear hq1
    go_wp2_with (first
      | (go_at_call 54; refine (left_any g g y false w8 HRd8.out).mono ?_; rintro e w' ⟨rfl, rfl⟩)
      | (refine wpList_store_row rfl _ _ _ rfl w.heap.size zf rfl rfl 36 zf G8.out frm_size rfl zf_one ?_))
    exact bodyPost_ret (v := .tuple #[.agg zf, .bool false]) (results_cell_two (by rfl) _ _ w.heap.size _ zf (0, 0) _ (.bool false) rfl (setRow_heap _ _ _ _ _ _ G8.out) rfl Try.underlying36 rfl frm_size) rfl (ReadD.no hno.out (Go.below_setRow H8.out (Nat.le_refl _) _))
end Go.Proofs.Ytbpmhfekjihhhaa
