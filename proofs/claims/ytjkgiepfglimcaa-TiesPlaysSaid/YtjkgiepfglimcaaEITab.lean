/- A table of things by whom: New, Len, Get, Put, Del. -/
import Derived.BigQuiet
import Derived.Deep.QuietTactic
import Derived.Deep.CutBlock
import Derived.Deep.DeepCutAuto
import Derived.Deep.RegionHeld3
import Derived.Test.YtjkgiepfglimcaaFHeld
import Derived.Test.YtjkgiepfglimcaaECmp
import Derived.Test.YtjkgiepfglimcaaEMap
namespace Go.Proofs.Ytjkgiepfglimcaa
open Go.RowKit
set_option linter.unusedVariables false

/-- a table in block t: its map lies at b -/
structure TabI (w : World) (t b m : Nat) (l : List (EK × Int)) : Prop where
  hd : w.heap[t]? = some (.cells #[.int .i64 m, .map (some b)] 64 (0, 0))
  held : HeldIn elI w b l
  most : l.length ≤ m
  room : m ≤ 1000
section
variable {w w' : World} {t b m : Nat} {l : List (EK × Int)}
theorem TabI.keep (h : TabI w t b m l) (hk : ∀ i, tfoot t b i → w'.heap[i]? = w.heap[i]?) : TabI w' t b m l := ⟨(hk t (.inl rfl)).trans h.hd, h.held.keep (hk b (.inr rfl)), h.most, h.room⟩
theorem TabI.lt (h : TabI w t b m l) {i : Nat} (hi : tfoot t b i) : i < w.heap.size := by
  rcases hi with rfl | rfl
  · exact block_lt h.hd
  · exact h.held.lt
theorem TabI.below (h : TabI w t b m l) (hb : Below w.heap.size w w') : TabI w' t b m l := h.keep fun i hi => hb.block i (h.lt hi)
theorem TabI.drewN (h : TabI w t b m l) (n : Nat) : TabI (w.drewN n) t b m l := h.keep fun _ _ => rfl
theorem TabI.cells (h : TabI w t b m l) : w.cell? ⟨t, 0, none⟩ = some (.int .i64 m) ∧ w.cell? ⟨t, 1, none⟩ = some (.map (some b)) :=
  ⟨by rw [cell_of_row _ _ _ _ _ _ h.hd]; rfl, by rw [cell_of_row _ _ _ _ _ _ h.hd]; rfl⟩
theorem TabI.ne (h : TabI w t b m l) : t ≠ b := by
  rintro rfl
  obtain ⟨D, h1, _⟩ := h.held.ex
  obtain ⟨es, c, h2⟩ := own_obj h1
  rw [h.hd] at h2; cases h2
/-- the table is such now; of what there was its own blocks alone have turned -/
def TNowI (t b m : Nat) (l : List (EK × Int)) (w w' : World) : Prop := TabI w' t b m l ∧ Moves (tfoot t b) (tfoot t b) w w'
theorem TNowI.of_below (h : TabI w t b m l) (hb : Below w.heap.size w w') : TNowI t b m l w w' := ⟨h.below hb, Moves.of_below _ hb⟩
theorem TNowI.after {w1 : World} (hb : Below w.heap.size w w1) (h : TNowI t b m l w1 w') : TNowI t b m l w w' := ⟨h.1, Moves.after hb h.2⟩
/-- its map is another one now -/
theorem TabI.now {l' : List (EK × Int)} (h : TabI w t b m l) (ht : w.mapTurned w' b) (hh : HeldIn elI w' b l') (hm : l'.length ≤ m) : TNowI t b m l' w w' := by
  have hg := ht.grown
  exact ⟨⟨(hg.block t (h.lt (.inl rfl)) (fun e => h.ne (by cases e; rfl))).trans h.hd, hh, hm, h.room⟩, moves_map ht⟩
theorem zeroI (w : World) : (zeroValue 3).run Try.prog w = .ok (elI.val 0) w := Try.zeroValue3 w
theorem TabI.look (h : TabI w t b m l) {k : EK} (hk : OkE k) (d : Nat) : (Instr.lookup 62 (.map (some b)) (keyV k) true).run Try.prog (w.drewN d) = .ok (.tuple #[.int .i64 ((getT l k).getD 0), .bool (hasT l k)]) (w.drewN d) := by
  have := (h.held.drewN d).got hk Try.underlying62 (zeroI (w.drewN d)) true
  rw [if_pos rfl] at this
  exact this
end
set_option maxHeartbeats 800000 in
theorem lenI_any {w : World} {t b m : Nat} {l : List (EK × Int)} (h : TabI w t b m l) : Calls Try.prog 21 #[ptr t] w fun e w' => e = .returned (.int .i64 l.length) ∧ w = w' := by
  have hln := h.held.len (T := 62) Try.underlying62
  obtain ⟨_, h1⟩ := h.cells
  clear h
  go_enter Try.func21, Try.ntmps21
  go_wp2
  go_ret
  exact ⟨rfl, rfl⟩
set_option maxHeartbeats 800000 in
theorem getI_any {w : World} {t b m : Nat} {l : List (EK × Int)} (h : TabI w t b m l) {k : EK} (hk : OkE k) :
    Calls Try.prog 19 #[ptr t, keyV k] w fun e w' => e = .returned (.tuple #[.int .i64 ((getT l k).getD 0), .bool (hasT l k)]) ∧ Below w.heap.size w w' := by
  obtain ⟨w1, hw1⟩ : ∃ w1, w1 = w.alloc (.cells #[.int .u8 k.a0, .int .u8 k.a1, .int .u8 k.a2, .int .u8 k.a3, .int .u8 k.a4, .int .u8 k.a5, .int .i64 k.near, .int .i64 k.there_] 28) := ⟨_, rfl⟩
  have hb1 : Below w.heap.size w w1 := by rw [hw1]; exact (Below.refl _ _).alloc (Nat.le_refl _) _
  have hlk := (h.below hb1).look hk
  have k1 : CellsK w1 w.heap.size k := cells_of_key (t := 28) (fr := (0, 0)) (by rw [hw1]; exact heap_alloc_new _ _)
  obtain ⟨k0, k1, k2, k3, k4, k5, k6, k7⟩ := k1
  obtain ⟨_, d1⟩ := (h.below hb1).cells
  obtain ⟨v, hv⟩ : ∃ v, v = (getT l k).getD 0 := ⟨_, rfl⟩
  obtain ⟨s, hs⟩ : ∃ s, s = hasT l k := ⟨_, rfl⟩
  rw [← hv, ← hs] at hlk
  rw [← hv, ← hs]
  have HB := cover hb1
  clear h hk hb1 hv hs
  go_enter Try.func19, Try.ntmps19
  go_upto_region 1 with fail
  rw [← hw1]
  clear hw1
  go_wp2_with fail
  go_quiet (fail)
  go_wp2
  go_ret2
  exact ⟨rfl, below_drewN HB.out _⟩
set_option maxHeartbeats 1600000 in
theorem delI_any {w : World} {t b m : Nat} {l : List (EK × Int)} (h : TabI w t b m l) {k : EK} (hk : OkE k) :
    Calls Try.prog 20 #[ptr t, keyV k] w fun e w' => e = .returned (.bool (hasT l k)) ∧ Hid (TNowI t b m (delT l k) w w') := by
  obtain ⟨w1, hw1⟩ : ∃ w1, w1 = w.alloc (.cells #[.int .u8 k.a0, .int .u8 k.a1, .int .u8 k.a2, .int .u8 k.a3, .int .u8 k.a4, .int .u8 k.a5, .int .i64 k.near, .int .i64 k.there_] 28) := ⟨_, rfl⟩
  have hb1 : Below w.heap.size w w1 := by rw [hw1]; exact (Below.refl _ _).alloc (Nat.le_refl _) _
  have k1 : CellsK w1 w.heap.size k := cells_of_key (t := 28) (fr := (0, 0)) (by rw [hw1]; exact heap_alloc_new _ _)
  have hlt1 : w.heap.size < w1.heap.size := by rw [hw1]; simp
  have h1 := h.below hb1
  have hget := getI_any h1 hk
  have K1 := cover k1
  obtain ⟨k0, k1, k2, k3, k4, k5, k6, k7⟩ := k1
  have HH := cover h
  have HK := cover hk
  have H1 := cover h1
  have HB1 := cover hb1
  generalize (getT l k).getD 0 = v at hget
  cases hh : hasT l k
  · rw [hh] at hget
    have HN : Hid (delT l k = l) := cover (delT_no hh)
    clear h hk h1 hb1 hh
    go_enter Try.func20, Try.ntmps20
    go_upto_region 1 with fail
    rw [← hw1]
    clear hw1
    go_wp2_with fail
    refine hget.mono ?_
    rintro e w2 ⟨rfl, hb2⟩
    have HB2 : Hid (Below w.heap.size w w2) := cover (HB1.out.trans (hb2.mono (Nat.le_of_lt hlt1)))
    clear hget hb2
    go_wp2
    go_ret
    rw [HN.out]
    exact ⟨rfl, cover (TNowI.of_below HH.out HB2.out)⟩
  · rw [hh] at hget
    clear h hk h1 hb1 hh
    go_enter Try.func20, Try.ntmps20
    go_upto_region 1 with fail
    rw [← hw1]
    clear hw1
    go_wp2_with fail
    refine hget.mono ?_
    rintro e w2 ⟨rfl, hb2⟩
    have HB2 : Hid (Below w.heap.size w w2) := cover (HB1.out.trans (hb2.mono (Nat.le_of_lt hlt1)))
    have h2 := HH.out.below HB2.out
    obtain ⟨k0, k1, k2, k3, k4, k5, k6, k7⟩ := K1.out.below hlt1 hb2
    obtain ⟨_, d1⟩ := h2.cells
    obtain ⟨w2', hw2'⟩ : ∃ w2', w2' = w2.drew := ⟨_, rfl⟩
    obtain ⟨w3, e1, e2, e3⟩ := (h2.held.drewN 1).del HK.out Try.underlying62 0
    have HD : Hid (TNowI t b m (delT l k) w w3) := cover (TNowI.after (below_drewN HB2.out 1) ((h2.drewN 1).now e3 e2 (Nat.le_trans (delT_len l k) h2.most)))
    have e1' : (Builtin.delete_ #[62, 28] 0 #[.map (some b), keyV k]).run Try.prog w2.drew = .ok (.tuple #[]) w3 := e1
    clear hget hb2 h2 e1 e2 e3 K1 H1 HB1 HB2
    go_wp2_with fail
    go_region
    go_wp2
    go_ret
    exact ⟨rfl, HD⟩
set_option maxRecDepth 100000 in
set_option maxHeartbeats 1600000 in
theorem putI_any {w : World} {t b m : Nat} {l : List (EK × Int)} (h : TabI w t b m l) {k : EK} (hk : OkE k) (x : Int) :
    Calls Try.prog 17 #[ptr t, keyV k, .int .i64 x] w fun e w' => e = .returned (.int .i64 (if fullT m l k = true then 6 else 0)) ∧ Hid (TNowI t b m (putT ltE m l k x) w w') := by
  obtain ⟨w1, hw1⟩ : ∃ w1, w1 = w.alloc (.cells #[.int .u8 k.a0, .int .u8 k.a1, .int .u8 k.a2, .int .u8 k.a3, .int .u8 k.a4, .int .u8 k.a5, .int .i64 k.near, .int .i64 k.there_] 28) := ⟨_, rfl⟩
  have hb1 : Below w.heap.size w w1 := by rw [hw1]; exact (Below.refl _ _).alloc (Nat.le_refl _) _
  have hlk := (h.below hb1).look hk
  have k1 : CellsK w1 w.heap.size k := cells_of_key (t := 28) (fr := (0, 0)) (by rw [hw1]; exact heap_alloc_new _ _)
  have hlt1 : w.heap.size < w1.heap.size := by rw [hw1]; simp
  have K1 := cover k1
  have h1 := h.below hb1
  have HH := cover h
  have HK := cover hk
  have HB1 := cover hb1
  have mixed : Try.prog.follows .mixedOrders = true := by kernel_rfl
  obtain ⟨k0, k1, k2, k3, k4, k5, k6, k7⟩ := k1
  obtain ⟨d0, d1⟩ := h1.cells
  generalize (getT l k).getD 0 = v at hlk
  -- the store
  have HP : Hid (fullT m l k = false → ∀ W, Below w1.heap.size w1 W → ∃ w', (Instr.mapUpdate 62 (.map (some b)) (keyV k) (.int .i64 x)).run Try.prog W = .ok () w' ∧ Hid (TNowI t b m (putT ltE m l k x) w w')) := cover fun hf W hbW => by
    have hbW2 : Below w.heap.size w W := HB1.out.trans (hbW.mono (Nat.le_of_lt hlt1))
    have hW := HH.out.below hbW2
    have hroom := HH.out.room
    have hmost := HH.out.most
    obtain ⟨w', e1, e2, e3⟩ := hW.held.put HK.out Try.underlying62 (most := m) hf (by unfold maxLen; omega) x
    exact ⟨w', e1, cover (TNowI.after hbW2 (hW.now e3 e2 (putT_len ltE hmost k x)))⟩
  cases hh : hasT l k
  · rw [hh] at hlk
    have hL := fun W (hW : Below w1.heap.size w1 W) => lenI_any (h1.below hW)
    have HL := cover hL
    by_cases hf : m ≤ l.length
    · have hfull : fullT m l k = true := by unfold fullT; rw [hh, decide_eq_true hf]; rfl
      rw [if_pos hfull, putT_full ltE x hfull]
      clear h hk h1 hb1 hh hfull HP hL
      go_enter Try.func17, Try.ntmps17
      go_upto_region 1 with fail
      rw [← hw1]
      clear hw1
      go_wp2_with fail
      go_quiet (fail)
      obtain ⟨w2, hw2⟩ : ∃ w2, w2 = w1.drewN nq := ⟨_, rfl⟩
      rw [← hw2]
      have hb2 : Below w1.heap.size w1 w2 := by rw [hw2]; exact below_drewN (Below.refl _ _) _
      have hl2 := HL.out _ (below_drewN hb2 1)
      obtain ⟨d0, d1⟩ := (HH.out.below (HB1.out.trans (hb2.mono (Nat.le_of_lt hlt1)))).cells
      have HB2 : Hid (Below w.heap.size w w2) := cover (HB1.out.trans (hb2.mono (Nat.le_of_lt hlt1)))
      clear hw2 hlk k0 k1 k2 k3 k4 k5 k6 k7 hb2 HL
      have hge : (l.length : Int) ≥ (m : Int) := by omega
      go_wp2_with fail
      go_region_held3 (fun W : World => W = w2.drew) (first | rfl)
        ((go_at_call 21; refine hl2.mono ?_; rintro e wX ⟨rfl, rfl⟩))
      go_wp2
      go_ret
      exact ⟨rfl, cover (TNowI.of_below HH.out (below_drewN HB2.out 1))⟩
    · have hfull : fullT m l k = false := by unfold fullT; rw [hh, decide_eq_false hf]; rfl
      rw [if_neg (by rw [hfull]; decide)]
      have HP2 := cover (HP.out hfull)
      clear h hk h1 hb1 hh hfull HP hL
      go_enter Try.func17, Try.ntmps17
      go_upto_region 1 with fail
      rw [← hw1]
      clear hw1
      go_wp2_with fail
      go_quiet (fail)
      obtain ⟨w2, hw2⟩ : ∃ w2, w2 = w1.drewN nq := ⟨_, rfl⟩
      rw [← hw2]
      have hb2 : Below w1.heap.size w1 w2 := by rw [hw2]; exact below_drewN (Below.refl _ _) _
      have hl2 := HL.out _ (below_drewN hb2 1)
      obtain ⟨d0, d1⟩ := (HH.out.below (HB1.out.trans (hb2.mono (Nat.le_of_lt hlt1)))).cells
      obtain ⟨k0, k1, k2, k3, k4, k5, k6, k7⟩ := K1.out.below hlt1 hb2
      obtain ⟨w4, e4, H4⟩ := HP2.out _ (below_drewN (below_drewN hb2 1) 1)
      clear hw2 hlk hb2 HL HP2
      have hge : ¬ (l.length : Int) ≥ (m : Int) := by omega
      go_wp2_with fail
      go_region_held3 (fun W : World => W = w2.drew) (first | rfl)
        ((go_at_call 21; refine hl2.mono ?_; rintro e wX ⟨rfl, rfl⟩))
      have e4' : (Instr.mapUpdate 62 (.map (some b)) (keyV k) (.int .i64 x)).run Try.prog w2.drew.drew = .ok () w4 := e4
      clear hl2 e4
      go_wp2_with fail
      go_region
      go_wp2
      go_ret
      exact ⟨rfl, H4⟩
  · rw [hh] at hlk
    have hfull : fullT m l k = false := by unfold fullT; rw [hh]; rfl
    rw [if_neg (by rw [hfull]; decide)]
    have HP2 := cover (HP.out hfull)
    clear h hk h1 hb1 hh hfull HP
    go_enter Try.func17, Try.ntmps17
    go_upto_region 1 with fail
    rw [← hw1]
    clear hw1
    go_wp2_with fail
    go_quiet (fail)
    obtain ⟨w2, hw2⟩ : ∃ w2, w2 = w1.drewN nq := ⟨_, rfl⟩
    rw [← hw2]
    have hb2 : Below w1.heap.size w1 w2 := by rw [hw2]; exact below_drewN (Below.refl _ _) _
    obtain ⟨d0, d1⟩ := (HH.out.below (HB1.out.trans (hb2.mono (Nat.le_of_lt hlt1)))).cells
    obtain ⟨k0, k1, k2, k3, k4, k5, k6, k7⟩ := K1.out.below hlt1 hb2
    obtain ⟨w4, e4, H4⟩ := HP2.out _ (below_drewN (below_drewN hb2 1) 1)
    clear hw2 hlk hb2 HP2
    go_wp2_with fail
    refine (wpIn_wide (n := 0)).1 ?_
    refine held_begin (fun W' : World => W' = w2.drew) 99 mixed ?_
    have HSS : (fun W' : World => W' = w2.drew) w2.drew := rfl
    refine hold_take 0 _ rfl (by kernel_rfl) (by kernel_rfl) (by kernel_rfl) (by kernel_rfl) (by kernel_rfl) (fun _ _ _ h => h) (by rfl) (fun _ => rfl) HSS (fun w' hS => by subst hS; go_simp; rfl) ?_
    simp only [Act.put, List.setIfInBounds_toArray, List.set_cons_zero, List.set_cons_succ]
    refine hold_take 1 (.bool false) rfl (by kernel_rfl) (by kernel_rfl) (by kernel_rfl) (by kernel_rfl) (by kernel_rfl) (fun _ _ _ h => h) (by rfl) (fun _ => rfl) HSS (fun w' hS => by subst hS; go_simp; skip) ?_
    simp only [Act.put, List.setIfInBounds_toArray, List.set_cons_zero, List.set_cons_succ]
    refine hold_take 2 _ rfl (by kernel_rfl) (by kernel_rfl) (by kernel_rfl) (by kernel_rfl) (by kernel_rfl) (fun _ _ _ h => h) (by rfl) (fun _ => rfl) HSS (fun w' hS => by subst hS; go_simp; rfl) ?_
    simp only [Act.put, List.setIfInBounds_toArray, List.set_cons_zero, List.set_cons_succ]
    refine hold_skip 3 rfl (by kernel_rfl) (by kernel_rfl) (by kernel_rfl) (by kernel_rfl) (by kernel_rfl) (fun _ _ _ h => h) (by rfl) (fun _ => rfl) HSS ?_
    simp only [Act.put, List.setIfInBounds_toArray, List.set_cons_zero, List.set_cons_succ]
    refine hold_skip 5 rfl (by kernel_rfl) (by kernel_rfl) (by kernel_rfl) (by kernel_rfl) (by kernel_rfl) (fun _ _ _ h => h) (by rfl) (fun _ => rfl) HSS ?_
    simp only [Act.put, List.setIfInBounds_toArray, List.set_cons_zero, List.set_cons_succ]
    refine hold_skip 6 rfl (by kernel_rfl) (by kernel_rfl) (by kernel_rfl) (by kernel_rfl) (by kernel_rfl) (fun _ _ _ h => h) (by rfl) (fun _ => rfl) HSS ?_
    simp only [Act.put, List.setIfInBounds_toArray, List.set_cons_zero, List.set_cons_succ]
    refine hold_skip 7 rfl (by kernel_rfl) (by kernel_rfl) (by kernel_rfl) (by kernel_rfl) (by kernel_rfl) (fun _ _ _ h => h) (by rfl) (fun _ => rfl) HSS ?_
    simp only [Act.put, List.setIfInBounds_toArray, List.set_cons_zero, List.set_cons_succ]
    refine hold_skip 8 rfl (by kernel_rfl) (by kernel_rfl) (by kernel_rfl) (by kernel_rfl) (by kernel_rfl) (fun _ _ _ h => h) (by rfl) (fun _ => rfl) HSS ?_
    simp only [Act.put, List.setIfInBounds_toArray, List.set_cons_zero, List.set_cons_succ]
    refine hold_pass 4 (by kernel_rfl) rfl (by rfl) (fun _ _ => trivial) HSS ?_
    simp only [Act.put, List.setIfInBounds_toArray, List.set_cons_zero, List.set_cons_succ]
    refine hold_skip 9 rfl (by kernel_rfl) (by kernel_rfl) (by kernel_rfl) (by kernel_rfl) (by kernel_rfl) (fun _ _ _ h => h) (by rfl) (fun _ => rfl) HSS ?_
    simp only [Act.put, List.setIfInBounds_toArray, List.set_cons_zero, List.set_cons_succ]
    refine hold_take 10 (.bool false) rfl (by kernel_rfl) (by kernel_rfl) (by kernel_rfl) (by kernel_rfl) (by kernel_rfl) (fun _ _ _ h => h) (by rfl) (fun _ => rfl) HSS (fun w' hS => by subst hS; go_simp; skip) ?_
    simp only [Act.put, List.setIfInBounds_toArray, List.set_cons_zero, List.set_cons_succ]
    refine held_done (by kernel_rfl) ?_ _
    clear HSS K1 HB1
    go_wp2_with fail
    have e4' : (Instr.mapUpdate 62 (.map (some b)) (keyV k) (.int .i64 x)).run Try.prog w2.drew.drew = .ok () w4 := e4
    clear e4
    go_region
    go_wp2
    go_ret
    exact ⟨rfl, H4⟩
set_option maxHeartbeats 800000 in
theorem newI_any (n : Int) (hn : n ≤ 1000) (w : World) : Calls Try.prog 15 #[.int .i64 n] w fun e w' => ∃ t b, e = .returned (ptr t) ∧ Hid (TabI w' t b n.toNat [] ∧ Below w.heap.size w w' ∧ ∀ i, tfoot t b i → w.heap.size ≤ i) := by
  obtain ⟨m, hm⟩ : ∃ m : Nat, m = n.toNat := ⟨_, rfl⟩
  have HF : Hid (∀ w1, w1 = (w.alloc (.map #[] 0)).alloc (.cells #[.int .i64 m, .map (some w.heap.size)] 64) → TabI w1 (w.heap.size + 1) w.heap.size m [] ∧ Below w.heap.size w w1 ∧ ∀ i, tfoot (w.heap.size + 1) w.heap.size i → w.heap.size ≤ i) := cover fun w1 hw1 => by
    have hm0 := World.ownsMap_made w Try.prog 28 elI.R
    have e0 : w1.heap[w.heap.size]? = (w.alloc (.map #[] 0)).heap[w.heap.size]? := by
      rw [hw1, Below.heap_alloc _ _ _ (by simp)]
    refine ⟨⟨?_, ⟨⟨.map [], own_tight (own_kept hm0 e0), fun k _ z => rfl⟩, fun x hx => (by cases hx), List.Pairwise.nil⟩, Nat.zero_le _, by omega⟩, ?_, ?_⟩
    · rw [hw1]
      have := World.alloc_heap_new (w.alloc (.map #[] 0)) (.cells #[.int .i64 m, .map (some w.heap.size)] 64)
      simpa using this
    · rw [hw1]
      exact ((Below.refl _ w).alloc (Nat.le_refl _) _).alloc (by simp) _
    · rintro i (rfl | rfl) <;> omega
  rw [← hm]
  have hm1 : ∀ w, (Instr.makeMap 62 none).run Try.prog w = .ok (.map (some w.heap.size)) (w.alloc (.map #[] 0)) := fun w => run_makeMap _ w
  have hcases : (n < 0 ∧ m = 0) ∨ (m = 0 ∧ n = 0) ∨ (0 < n ∧ n = (m : Int)) := by omega
  clear hm
  rcases hcases with ⟨h1, rfl⟩ | ⟨rfl, rfl⟩ | ⟨h1, rfl⟩
  · have h2 : ¬ (0 : Int) < n := by omega
    have h3 : n ≤ 0 := by omega
    go_enter Try.func15, Try.ntmps15
    go_wp2
    go_ret
    first | exact ⟨w.heap.size + 1, w.heap.size, rfl, cover (HF.out _ rfl)⟩ | exact ⟨w.heap.size + 1, rfl, w.heap.size, cover (HF.out _ rfl)⟩
  · go_enter Try.func15, Try.ntmps15
    go_wp2
    go_ret
    first | exact ⟨w.heap.size + 1, w.heap.size, rfl, cover (HF.out _ rfl)⟩ | exact ⟨w.heap.size + 1, rfl, w.heap.size, cover (HF.out _ rfl)⟩
  · have h2 : ¬ ((m : Int) ≤ 0) := by omega
    go_enter Try.func15, Try.ntmps15
    go_wp2
    go_ret
    first | exact ⟨w.heap.size + 1, w.heap.size, rfl, cover (HF.out _ rfl)⟩ | exact ⟨w.heap.size + 1, rfl, w.heap.size, cover (HF.out _ rfl)⟩
end Go.Proofs.Ytjkgiepfglimcaa
