/- A state's rows, as rowsOf makes them. -/
import Derived.Deep.RegionHeld3
import Derived.Test.YtlffhnplcgmhlaaJShare
namespace Go.Proofs.Ytlffhnplcgmhlaa
open Go.RowKit
set_option linter.unusedVariables false
set_option linter.unusedSimpArgs false

def baseT (s : Int) : List RowV := List.replicate 34 ([], s, false)
def shareP (b : Bool) (T : List RowV) (rs : List RuleV) : List RowV := if b = true then layP T rs else T
/-- the rows of a state -/
def tabP (s : Int) : List RowV :=
  shareP (([11, 12, 13] : List Int).contains s) (shareP (([8, 9, 10] : List Int).contains s) (shareP (([8, 9, 10, 11, 12, 13] : List Int).contains s) (shareP (([2, 3] : List Int).contains s) (layP (baseT s) (ownL s)) (askingL s)) linkedL)
    (sendingL s (askedI s) (pollI s) (partnerI s))) (awaitingL s (askedI s) (pollI s) (partnerI s))
theorem shareP_len (b : Bool) (T : List RowV) (rs : List RuleV) : (shareP b T rs).length = T.length := by
  unfold shareP; split
  · exact layP_len _ _
  · rfl
theorem tabP_len (s : Int) : (tabP s).length = 34 := by
  unfold tabP
  rw [shareP_len, shareP_len, shareP_len, shareP_len, layP_len]; rfl
/-- all of a table, checked -/
theorem tabP_all : ∀ s : Fin 14, ∀ e : Fin 34, (tabP s.val)[e.val]? = some (stepG s.val e.val) := by decide +kernel
theorem ownL_far {s : Int} (h : ¬ (0 ≤ s ∧ s ≤ 13)) : ownL s = [] := by
  unfold ownL
  simp only [show s ≠ 0 by omega, show s ≠ 1 by omega, show s ≠ 2 by omega, show s ≠ 3 by omega, show s ≠ 4 by omega, show s ≠ 5 by omega, show s ≠ 6 by omega, show s ≠ 7 by omega, show s ≠ 8 by omega, show s ≠ 9 by omega, show s ≠ 10 by omega, show s ≠ 11 by omega, show s ≠ 12 by omega, show s ≠ 13 by omega, if_false]
theorem tabP_is {s e : Int} (he : 0 ≤ e ∧ e ≤ 33) : (tabP s)[e.toNat]? = some (stepG s e) := by
  obtain ⟨j, rfl⟩ : ∃ j : Nat, e = (j : Int) := ⟨e.toNat, by omega⟩
  by_cases hs : 0 ≤ s ∧ s ≤ 13
  · obtain ⟨i, rfl⟩ : ∃ i : Nat, s = (i : Int) := ⟨s.toNat, by omega⟩
    exact tabP_all ⟨i, by omega⟩ ⟨j, by omega⟩
  · rw [stepG_far (by omega)]
    have h1 : ([11, 12, 13] : List Int).contains s = false := by simp; omega
    have h2 : ([8, 9, 10] : List Int).contains s = false := by simp; omega
    have h3 : ([8, 9, 10, 11, 12, 13] : List Int).contains s = false := by simp; omega
    have h4 : ([2, 3] : List Int).contains s = false := by simp; omega
    unfold tabP shareP
    rw [h1, h2, h3, h4, ownL_far hs]
    simp only [Bool.false_eq_true, if_false, layP]
    unfold baseT
    rw [List.getElem?_replicate, if_pos (by omega)]
theorem ev_ok {rs : List RuleV} (h : rs.all (fun r => decide (0 ≤ r.1 ∧ r.1 ≤ 33)) = true) : ∀ r ∈ rs, 0 ≤ r.1 ∧ r.1 ≤ 33 := fun r hr => of_decide_eq_true (List.all_eq_true.1 h r hr)
theorem ownL_all : ∀ s : Fin 14, (ownL s.val).length ≤ 100 ∧ (ownL s.val).all (fun r => decide (0 ≤ r.1 ∧ r.1 ≤ 33)) = true := by decide +kernel
theorem ownL_ev (s : Int) : (ownL s).length ≤ 100 ∧ (ownL s).all (fun r => decide (0 ≤ r.1 ∧ r.1 ≤ 33)) = true := by
  by_cases hs : 0 ≤ s ∧ s ≤ 13
  · obtain ⟨i, rfl⟩ : ∃ i : Nat, s = (i : Int) := ⟨s.toNat, by omega⟩
    exact ownL_all ⟨i, by omega⟩
  · rw [ownL_far hs]; exact ⟨by simp, rfl⟩

/-- rows of nought -/
def zeroRows : Array Value := (tabC (List.replicate 34 (.slice none 0 0)) (baseT 0)).toArray
/-- the slice that make hands back -/
theorem mk_grid (w : World) : (Instr.makeSlice 29 (.int .i64 34) (.int .i64 34)).run Try.prog w = .ok (.slice (some ⟨w.heap.size, 0, none⟩) 34 34) (w.alloc (.cells zeroRows 25)) := by
  kernel_rfl
/-- the next states laid in: of the first k rows -/
def nextT (s : Int) (k : Nat) : List RowV := List.replicate k ([], s, false) ++ List.replicate (34 - k) ([], 0, false)
theorem nextT_zero (s : Int) : nextT s 0 = baseT 0 := rfl
theorem nextT_all (s : Int) : nextT s 34 = baseT s := by simp [nextT, baseT]
theorem nextT_len (s : Int) {k : Nat} (hk : k ≤ 34) : (nextT s k).length = 34 := by simp [nextT]; omega
theorem nextT_step (s : Int) {k : Nat} (hk : k < 34) (h' : k < (nextT s k).length) : (nextT s k).set k ((nextT s k)[k].1, s, (nextT s k)[k].2.2) = nextT s (k + 1) := by
  have h1 : (nextT s k)[k] = ([], 0, false) := by simp [nextT]
  rw [h1]
  unfold nextT
  rw [List.set_append_right _ _ (by simp), show 34 - k = (34 - (k + 1)) + 1 by omega, List.replicate_succ, List.replicate_succ' (n := k)]
  simp
theorem TabAt.next {w : World} {B gr : Nat} {T : List RowV} (h : TabAt w B gr T) {j : Nat} (hj : j < T.length) (n : Int) :
    (∃ x, w.cell? ⟨gr, j * 3 + 1, none⟩ = some x) ∧ w.frozen? ⟨gr, j * 3 + 1, none⟩ = false ∧
    TabAt (w.setCell ⟨gr, j * 3 + 1, none⟩ (.int .i64 n)) B gr (T.set j (T[j].1, n, T[j].2.2)) ∧ OnlyB gr w (w.setCell ⟨gr, j * 3 + 1, none⟩ (.int .i64 n)) := by
  obtain ⟨vs, hl, hh, hi⟩ := h
  have h1 := set_block hh (j * 3 + 1) (.int .i64 n)
  have hlen := tabC_len vs T hl
  have hO := (OnlyB.refl gr w).setCell (j * 3 + 1) (.int .i64 n)
  refine ⟨cell_ex hh _ (by simp; omega), unfrozen hh _, ⟨vs, by simp [hl], ?_, fun i hi1 hi2 => ?_⟩, hO⟩
  · rw [h1, List.setIfInBounds_toArray, tabC_next vs T hl j hj n]
  · by_cases hij : j = i
    · subst hij
      simp only [List.getElem_set_self]
      exact (hi j hj hi2).only hO hh
    · simp only [List.getElem_set_ne hij]
      exact (hi i (by simpa using hi1) (by simpa using hi2)).only hO hh
theorem TabAt.zero {w : World} {B gr : Nat} (h : w.heap[gr]? = some (.cells zeroRows 25 (0, 0))) : TabAt w B gr (baseT 0) :=
  ⟨List.replicate 34 (.slice none 0 0), rfl, h, fun i h1 h2 => by
    simp only [baseT, List.getElem_replicate]
    exact .inl ⟨rfl, rfl⟩⟩
theorem run_store_fnJ {P : Program} {w : World} (a : Addr) (m : Mode) (fn : Fn) (first captured : Array Value) : (store a (.func fn first captured) m).run P w = stored P w a (.func fn first captured) m := run_store P w a _ m rfl
attribute [local go_sem] run_store_fnJ
/-- share, called with a slice of states written out -/
theorem share_lit {w : World} {B st tr lv gr f : Nat} {s : Int} {T : List RowV} {rs : List RuleV} (ls : List Int) (hls : ls.length ≤ 1000) (h : ROf w B st tr lv gr s T) (hB : B ≤ w.heap.size)
    (hF : ∀ W, Calls Try.prog f #[.int .i64 s] W (RulesOut W rs)) (hrn : rs.length ≤ 100 ∧ rs.all (fun r => decide (0 ≤ r.1 ∧ r.1 ≤ 33)) = true) (hf : f = 37 ∨ f = 38 ∨ f = 39 ∨ f = 40) :
    Calls Try.prog 34 #[.func (.func f) #[] #[], .slice (some ⟨w.heap.size, 0, none⟩) ls.length ls.length, ptr st, ptr lv] (w.alloc (.cells (intsC ls) 3)) (LaidOut w B st tr lv gr s (shareP (ls.contains s) T rs)) := by
  have hb : Below w.heap.size w (w.alloc (.cells (intsC ls) 3)) := (Below.refl _ _).alloc (Nat.le_refl _) _
  have hr := RowK.made (κ := .i64) w ls (intsC ls) 3 rfl
  rcases hc : ls.contains s with _ | _
  · refine (share_no (f := .func (.func f) #[] #[]) (lv := lv) (h.below hb).hst hr hls hc).mono ?_
    rintro e w' ⟨rfl, rfl⟩
    exact ⟨rfl, cover ⟨h.below hb, OnlyB.of_below hb⟩⟩
  · refine (share_yes (h.below hb) (Nat.le_trans hB hb.size) hr hls hc hF hrn.1 (ev_ok hrn.2) hf).mono ?_
    rintro e w' ⟨rfl, H⟩
    exact ⟨rfl, cover ⟨H.out.1, (OnlyB.of_below hb).trans H.out.2⟩⟩
theorem ROf.kept {w : World} {B st tr lv gr : Nat} {s : Int} {T : List RowV} (h : ROf w B st tr lv gr s T) (W : World) (hW : OnlyB gr w W) : W.cell? ⟨lv, 0, none⟩ = some (layF tr) ∧ W.cell? ⟨st, 0, none⟩ = some (.int .i64 s) :=
  ⟨by rw [cell_of_row W lv 0 _ _ _ (only_keeps h.hlv hW h.ne.2.2)]; rfl, by rw [cell_of_row W st 0 _ _ _ (only_keeps h.hst hW h.ne.1)]; rfl⟩
theorem rules_at {w : World} {B st tr lv gr f : Nat} {args : Array Value} {s : Int} {T : List RowV} {rs : List RuleV} (h : ROf w B st tr lv gr s T) (hB : B ≤ w.heap.size) (hF : ∀ W, Calls Try.prog f args W (RulesOut W rs)) :
    ∀ W, Below w.heap.size w W → Calls Try.prog f args W fun e w' => ∃ v, e = .returned v ∧ RulesIn w' B v rs ∧ Below w.heap.size w w' ∧ w'.cell? ⟨lv, 0, none⟩ = some (layF tr) ∧ w'.cell? ⟨st, 0, none⟩ = some (.int .i64 s) :=
  fun W hW => (hF W).mono fun e w' he => by
    obtain ⟨v, h1, h2⟩ := he
    have h3 := hW.trans (h2.out.2.mono hW.size)
    exact ⟨v, h1, h2.out.1.more (Nat.le_trans hB hW.size), h3, h.kept _ (OnlyB.of_below h3)⟩
theorem lay_at {w : World} {B st tr lv gr : Nat} {s : Int} {T : List RowV} {rs : List RuleV} (h : ROf w B st tr lv gr s T) (hB : B ≤ w.heap.size) (hrn : rs.length ≤ 100 ∧ rs.all (fun r => decide (0 ≤ r.1 ∧ r.1 ≤ 33)) = true) :
    ∀ W, Below w.heap.size w W → ∀ v, RulesIn W B v rs → Calls Try.prog 33 #[v, ptr tr] W fun e w' => e = .returned (.tuple #[]) ∧ Hid (ROf w' B st tr lv gr s (layP T rs)) ∧ OnlyB gr w w' ∧ w'.cell? ⟨lv, 0, none⟩ = some (layF tr) ∧ w'.cell? ⟨st, 0, none⟩ = some (.int .i64 s) :=
  fun W hW v hv => (lay_in (h.below hW) (Nat.le_trans hB hW.size) hv hrn.1 (ev_ok hrn.2)).mono fun e w' he => by
    have h3 := (OnlyB.of_below hW).trans he.2.out.2
    exact ⟨he.1, cover he.2.out.1, h3, h.kept _ h3⟩
theorem share_step {w0 w : World} {B tr lv gr f : Nat} {s : Int} {T : List RowV} {rs : List RuleV} (ls : List Int) (hls : ls.length ≤ 1000) (h : Hid (ROf w B B tr lv gr s T ∧ Below B w0 w ∧ B + 1 = gr))
    (hF : ∀ W, Calls Try.prog f #[.int .i64 s] W (RulesOut W rs)) (hrn : rs.length ≤ 100 ∧ rs.all (fun r => decide (0 ≤ r.1 ∧ r.1 ≤ 33)) = true) (hf : f = 37 ∨ f = 38 ∨ f = 39 ∨ f = 40) :
    Calls Try.prog 34 #[.func (.func f) #[] #[], .slice (some ⟨w.heap.size, 0, none⟩) ls.length ls.length, ptr B, ptr lv] (w.alloc (.cells (intsC ls) 3)) fun e w' => e = .returned (.tuple #[]) ∧ Hid (ROf w' B B tr lv gr s (shareP (ls.contains s) T rs) ∧ Below B w0 w' ∧ B + 1 = gr) := by
  have hB : B ≤ w.heap.size := Nat.le_of_lt (block_lt h.out.1.hst)
  refine (share_lit ls hls h.out.1 hB hF hrn hf).mono ?_
  rintro e w' ⟨rfl, H⟩
  exact ⟨rfl, cover ⟨H.out.1, below_only h.out.2.1 H.out.2 (by have := h.out.2.2; omega) hB, h.out.2.2⟩⟩
set_option maxHeartbeats 3200000 in
theorem rowsOf_any (s : Int) (w : World) : Calls Try.prog 18 #[.int .i64 s] w fun e w' => ∃ gr, e = .returned (.slice (some ⟨gr, 0, none⟩) 34 34) ∧ Hid (TabAt w' w.heap.size gr (tabP s) ∧ Below w.heap.size w w' ∧ w.heap.size ≤ gr) := by
  obtain ⟨b, hb⟩ : ∃ b, w.heap.size = b := ⟨_, rfl⟩
  have hmk := fun w => mk_grid w
  have hmf : ∀ (fn : Fn) (first cap : Array Value) (w : World), (Instr.makeFunc fn first cap).run Try.prog w = .ok (.func fn first cap) w := fun _ _ _ _ => rfl
  obtain ⟨w3, hw3⟩ : ∃ w3, w3 = ((w.alloc (.cells #[.int .i64 s] 3)).alloc (.cells zeroRows 25)).alloc (.cells #[.slice (some ⟨b + 1, 0, none⟩) 34 34] 29) := ⟨_, rfl⟩
  have a1 : w3.heap[b]? = some (.cells #[.int .i64 s] 3 (0, 0)) := by
    rw [hw3, Below.heap_alloc _ _ _ (by simp; omega), Below.heap_alloc _ _ _ (by simp; omega), ← hb]; exact heap_alloc_new w _
  have a2 : w3.heap[b + 1]? = some (.cells zeroRows 25 (0, 0)) := by
    rw [hw3, Below.heap_alloc _ _ _ (by simp; omega), ← hb]
    have := heap_alloc_new (w.alloc (.cells #[.int .i64 s] 3)) (.cells zeroRows 25)
    rw [World.size_alloc] at this; exact this
  have a3 : w3.heap[b + 2]? = some (.cells #[.slice (some ⟨b + 1, 0, none⟩) 34 34] 29 (0, 0)) := by
    have := heap_alloc_new ((w.alloc (.cells #[.int .i64 s] 3)).alloc (.cells zeroRows 25)) (.cells #[.slice (some ⟨b + 1, 0, none⟩) 34 34] 29)
    simp only [World.size_alloc, hb] at this
    rw [hw3]; exact this
  have hb3 : Hid (Below b w w3) := cover (by rw [hw3]; exact (((Below.refl _ _).alloc (by omega) _).alloc (by simp; omega) _).alloc (by simp; omega) _)
  have hs3 : Hid (b + 3 ≤ w3.heap.size) := cover (by rw [hw3]; simp; omega)
  obtain ⟨gr, hgr⟩ : ∃ gr, Hid (b + 1 = gr) := ⟨_, cover rfl⟩
  obtain ⟨tr, htr⟩ : ∃ tr, Hid (b + 1 + 1 = tr) := ⟨_, cover rfl⟩
  have A1 := cover a1
  have A3 : Hid (w3.heap[tr]? = some (.cells #[.slice (some ⟨gr, 0, none⟩) 34 34] 29 (0, 0))) := cover (by rw [← htr.out, ← hgr.out]; exact a3)
  have A2 : Hid (TabAt w3 b gr (nextT s 0)) := cover (TabAt.zero (by rw [← hgr.out]; exact a2))
  have HB0 := cover hb
  clear a1 a2 a3
  go_enter Try.func18, Try.ntmps18
  go_upto_region 2 with fail
  rw [← hw3, htr.out, hgr.out]
  have p0 : w3.cell? ⟨tr, 0, none⟩ = some (.slice (some ⟨gr, 0, none⟩) 34 34) := by rw [cell_of_row w3 tr 0 _ _ _ A3.out]; rfl
  clear hw3 hb hmk
  go_wp2
  go_loopw [10] (fun iv wr => ∃ k : Nat, k ≤ 34 ∧ iv = .int .i64 k ∧ Hid (TabAt wr b gr (nextT s k) ∧ OnlyB gr w3 wr)) (fun i _ => 34 - (intOf i).toNat)
  case atStart => exact ⟨0, by omega, rfl, cover ⟨A2.out, OnlyB.refl _ _⟩⟩
  case round =>
    obtain ⟨k, hk, rfl, H⟩ := hrel
    have hne1 : b ≠ gr := by have := hgr.out; omega
    have hne2 : tr ≠ gr := by have := hgr.out; have := htr.out; omega
    have hb1 := only_keeps A1.out H.out.2 hne1
    have hb2 := only_keeps A3.out H.out.2 hne2
    by_cases hlt : k < 34
    · have q0 : wr.cell? ⟨b, 0, none⟩ = some (.int .i64 s) := by rw [cell_of_row wr b 0 _ _ _ hb1]; rfl
      have q1 : wr.cell? ⟨tr, 0, none⟩ = some (.slice (some ⟨gr, 0, none⟩) 34 34) := by rw [cell_of_row wr tr 0 _ _ _ hb2]; rfl
      obtain ⟨⟨x1, q2⟩, f2, HT, HO⟩ := H.out.1.next (j := k) (by rw [nextT_len s hk]; exact hlt) s
      rw [nextT_step s hlt] at HT
      have HN : Hid (TabAt (wr.setCell ⟨gr, k * 3 + 1, none⟩ (.int .i64 s)) b gr (nextT s (k + 1)) ∧ OnlyB gr w3 (wr.setCell ⟨gr, k * 3 + 1, none⟩ (.int .i64 s))) := cover ⟨HT, H.out.2.trans HO⟩
      clear HT HO hb1 hb2 hne1 hne2 p0
      go_wp2
      go_roundw
      case rel => exact ⟨k + 1, by omega, by go_num, HN⟩
      case measure => simp [intOf]; omega
    · obtain rfl : k = 34 := by omega
      obtain ⟨lv, hlv⟩ : ∃ lv, Hid (wr.heap.size = lv) := ⟨_, cover rfl⟩
      obtain ⟨w4, hw4⟩ : ∃ w4, Hid (w4 = wr.alloc (.cells #[layF tr] 45)) := ⟨_, cover rfl⟩
      have R4 : Hid (ROf w4 b b tr lv gr s (baseT s) ∧ Below b w w4 ∧ b + 1 = gr) := cover (by
        have hal : Below wr.heap.size wr w4 := by rw [hw4.out]; exact (Below.refl _ _).alloc (Nat.le_refl _) _
        refine ⟨⟨(hal.block _ (block_lt hb1)).trans hb1, (hal.block _ (block_lt hb2)).trans hb2, by rw [hw4.out, ← hlv.out]; exact heap_alloc_new _ _, ?_, by simp [baseT]⟩, ?_, hgr.out⟩
        · have := H.out.1.below hal
          rwa [nextT_all] at this
        · exact (below_only hb3.out H.out.2 (by have := hgr.out; omega) (by have := hs3.out; omega)).trans (hal.mono (by have := H.out.2.size; have := hs3.out; omega)))
      clear hb1 hb2 hne1 hne2 p0 A1 A2 A3 H hb3 hs3 hlt hk
      go_upto_region 8 with fail
      rw [← hw4.out, hlv.out]
      have f9 : w4.cell? ⟨lv, 0, none⟩ = some (layF tr) := by rw [cell_of_row w4 lv 0 _ _ _ R4.out.1.hlv]; rfl
      have f10 : w4.cell? ⟨b, 0, none⟩ = some (.int .i64 s) := by rw [cell_of_row w4 b 0 _ _ _ R4.out.1.hst]; rfl
      clear hw4 hlv
      go_upto_region 9 with fail
      have HBB : Hid (b ≤ w4.heap.size) := cover (by have := block_lt R4.out.1.hst; omega)
      have HF := cover (rules_at R4.out.1 HBB.out (ownRules_any s))
      have HL := cover (lay_at R4.out.1 HBB.out (ownL_ev s))
      obtain ⟨T1, hT1⟩ : ∃ T1, Hid (T1 = layP (baseT s) (ownL s)) := ⟨_, cover rfl⟩
      rw [← hT1.out] at HL
      go_region_held3 (fun W' : World => W'.cell? ⟨lv, 0, none⟩ = some (layF tr) ∧ W'.cell? ⟨b, 0, none⟩ = some (.int .i64 s) ∧ OnlyB gr w4 W')
        (first
          | exact ⟨f9, f10, (OnlyB.refl _ _).drewN 1⟩
          | exact ⟨k1, k2, OnlyB.of_below hbX⟩
          | exact ⟨l1, l2, hoX⟩)
        (first
          | (go_at_call 33; refine (HL.out _ hbX _ hvX).mono ?_; rintro e w5 ⟨rfl, HX, hoX, l1, l2⟩)
          | (go_at_call 36; refine (HF.out _ (Below.refl _ _).drew).mono ?_; rintro e w6 ⟨v, rfl, hvX, hbX, k1, k2⟩))
      have R5 : Hid (ROf w5 b b tr lv gr s T1 ∧ Below b w w5 ∧ b + 1 = gr) := cover ⟨HX.out, below_only R4.out.2.1 hoX (by have := R4.out.2.2; omega) HBB.out, R4.out.2.2⟩
      have s6 := cover (share_step [2, 3] (by decide) R5 (asking_any s) ⟨by show 6 ≤ 100; decide, by rfl⟩ (.inl rfl))
      obtain ⟨T2, hT2⟩ : ∃ T2, Hid (T2 = shareP (([2, 3] : List Int).contains s) T1 (askingL s)) := ⟨_, cover rfl⟩
      rw [← hT2.out] at s6
      clear HX hoX l1 l2 hbX hvX k1 k2 f9 f10 R4 HF HL
      go_wp2_with fail
      refine s6.out.mono ?_
      rintro e w6 ⟨rfl, R6⟩
      have s7 := cover (share_step [8, 9, 10, 11, 12, 13] (by decide) R6 (fun W => linked_any s W) ⟨by show 8 ≤ 100; decide, by rfl⟩ (.inr (.inl rfl)))
      obtain ⟨T3, hT3⟩ : ∃ T3, Hid (T3 = shareP (([8, 9, 10, 11, 12, 13] : List Int).contains s) T2 linkedL) := ⟨_, cover rfl⟩
      rw [← hT3.out] at s7
      clear s6 R5
      go_wp2_with fail
      refine s7.out.mono ?_
      rintro e w7 ⟨rfl, R7⟩
      have s8 := cover (share_step [8, 9, 10] (by decide) R7 (fun W => sending_any s W) ⟨by show 9 ≤ 100; decide, by rfl⟩ (.inr (.inr (.inl rfl))))
      obtain ⟨T4, hT4⟩ : ∃ T4, Hid (T4 = shareP (([8, 9, 10] : List Int).contains s) T3 (sendingL s (askedI s) (pollI s) (partnerI s))) := ⟨_, cover rfl⟩
      rw [← hT4.out] at s8
      clear s7 R6
      go_wp2_with fail
      refine s8.out.mono ?_
      rintro e w8 ⟨rfl, R8⟩
      have s9 := cover (share_step [11, 12, 13] (by decide) R8 (fun W => awaiting_any s W) ⟨by show 10 ≤ 100; decide, by rfl⟩ (.inr (.inr (.inr rfl))))
      obtain ⟨T5, hT5⟩ : ∃ T5, Hid (T5 = shareP (([11, 12, 13] : List Int).contains s) T4 (awaitingL s (askedI s) (pollI s) (partnerI s))) := ⟨_, cover rfl⟩
      rw [← hT5.out] at s9
      clear s8 R7
      go_wp2_with fail
      refine s9.out.mono ?_
      rintro e w9 ⟨rfl, R9⟩
      have f0 : w9.cell? ⟨tr, 0, none⟩ = some (.slice (some ⟨gr, 0, none⟩) 34 34) := by rw [cell_of_row w9 tr 0 _ _ _ R9.out.1.htr]; rfl
      clear s9 R8
      go_wp2
      go_ret
      refine ⟨gr, rfl, cover ⟨?_, ?_, ?_⟩⟩
      · have h1 : T5 = tabP s := by rw [hT5.out, hT4.out, hT3.out, hT2.out, hT1.out]; rfl
        rw [HB0.out, ← h1]; exact R9.out.1.tab
      · rw [HB0.out]; exact R9.out.2.1
      · rw [HB0.out, ← R9.out.2.2]; omega
end Go.Proofs.Ytlffhnplcgmhlaa
