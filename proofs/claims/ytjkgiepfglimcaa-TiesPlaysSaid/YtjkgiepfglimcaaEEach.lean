/- The walk over the keys that are there as it begins, in order: maps.Clone, Each, and what Each hands out. -/
import Derived.WalkKit
import Derived.OwnWalkIn
import Derived.TacticsInMore
import Derived.LoopNIn
import Derived.LoopIn
import Derived.Test.YtjkgiepfglimcaaFHeld
import Derived.Test.YtjkgiepfglimcaaEIHas
import Derived.Test.YtjkgiepfglimcaaESort
namespace Go.Proofs.Ytjkgiepfglimcaa
open Go.RowKit Go.Shelf
set_option linter.unusedVariables false
attribute [local go_sem] Oper.semAt_some

theorem clone_any {w : World} {b : Nat} {l : List (EK × Int)} (h : HeldIn elI w b l) : Calls Try.prog 31 #[.map (some b)] w fun e w' => e = .returned (.map (some w.heap.size)) ∧ HeldIn elI w' w.heap.size l ∧ Below w.heap.size w w' := by
  obtain ⟨D, h1, h2⟩ := h.ex
  refine (AnyW.maps_Clone_owns cloneM 28 elI.R b _ D w h1).mono ?_
  rintro e w' ⟨he, k1, _, k2⟩
  exact ⟨he, ⟨⟨D, k1, h2⟩, h.ok, h.rise⟩, k2⟩
theorem each_any (t : Nat) (w : World) : Calls Try.prog 26 #[ptr t] w fun e w' => e = .returned (.func (.func 30) #[] #[ptr w.heap.size]) ∧ w' = w.alloc (.cells #[ptr t] 37) := by
  have hmf : ∀ (fn : Fn) (first cap : Array Value) (w : World), (Instr.makeFunc fn first cap).run Try.prog w = .ok (.func fn first cap) w := fun _ _ _ _ => rfl
  go_enter Try.func26, Try.ntmps26
  go_wp2
  go_ret
  exact ⟨rfl, rfl⟩
/-- the cells of a row of keys -/
theorem keys_cell {w : World} {base n c : Nat} {A : Option Addr} {ks : List EK} (h : w.ownsRow base 28 8 (.slice A n c) n (flatE ks)) {i : Nat} {k : EK} (hk : ks[i]? = some k) : ∃ g, A = some ⟨g, 0, none⟩ ∧ g < w.heap.size ∧ base ≤ g ∧ w.cell? ⟨g, i * 8, none⟩ = some (.int .u8 k.a0) ∧ w.cell? ⟨g, i * 8 + 1, none⟩ = some (.int .u8 k.a1) ∧ w.cell? ⟨g, i * 8 + 2, none⟩ = some (.int .u8 k.a2) ∧ w.cell? ⟨g, i * 8 + 3, none⟩ = some (.int .u8 k.a3) ∧ w.cell? ⟨g, i * 8 + 4, none⟩ = some (.int .u8 k.a4) ∧ w.cell? ⟨g, i * 8 + 5, none⟩ = some (.int .u8 k.a5) ∧ w.cell? ⟨g, i * 8 + 6, none⟩ = some (.int .i64 k.near) ∧ w.cell? ⟨g, i * 8 + 7, none⟩ = some (.int .i64 k.there_) := by
  have hl := (List.getElem?_eq_some_iff.1 hk).1
  have hfl := flatE_len ks
  have hn := h.1
  rcases h.2 with ⟨_, h0⟩ | ⟨g, cp, cur, hv, hb, hh, _⟩
  · omega
  · obtain ⟨rfl, rfl⟩ : A = some ⟨g, 0, none⟩ ∧ c = cp := by
      injection hv with h1 h2 h3
      exact ⟨h1, h3⟩
    have hc : ∀ j, j < 8 → ∀ u, (cellsE k)[j]? = some u → w.cell? ⟨g, i * 8 + j, none⟩ = some u := fun j hj u hu => by
      rw [World.ownsRow.cellAt h (i * 8 + j) (by omega), flatE_get ks i j hj, hk]
      exact hu
    exact ⟨g, rfl, block_lt hh, hb, hc 0 (by omega) _ rfl, hc 1 (by omega) _ rfl, hc 2 (by omega) _ rfl, hc 3 (by omega) _ rfl, hc 4 (by omega) _ rfl, hc 5 (by omega) _ rfl, hc 6 (by omega) _ rfl, hc 7 (by omega) _ rfl⟩
set_option maxRecDepth 100000 in
set_option maxHeartbeats 1600000 in
/-- Each's walk, for every body that keeps what the walk has made -/
theorem each1_in {n : Nat} (lp : Nat) {W : World} {t b m bq : Nat} {l : List (EK × Int)} (h : TabI W t b m l) (hq : W.cell? ⟨bq, 0, none⟩ = some (ptr t)) (J : Nat → Nat → World → Prop) (Jx : Nat → World → Prop)
    (hst : ∀ K i A A', J K i A → Below A.heap.size A A' → J K i A')
    (h0 : ∀ K, W.heap.size ≤ K → J K 0 W)
    (hY : ∀ K i x wr W1, l[i]? = some x → OkE x.1 → J K i wr → Below wr.heap.size wr W1 → wr.heap.size < W1.heap.size → W.heap.size ≤ K → K ≤ wr.heap.size → ∀ m, YieldAt Fence.wide m Try.prog lp #[keyV x.1, .int .i64 x.2] W1 fun e W' =>
      ((e = .returned (.bool true) ∧ J K (i + 1) W' ∧ W1.heap.size ≤ W'.heap.size) ∨ (e = .returned (.bool false) ∧ Jx (i + 1) W')) ∧ ∀ j, W.heap.size ≤ j → (j < K ∨ j = wr.heap.size) → W'.heap[j]? = W1.heap[j]?) :
    CallsIn Fence.wide n Try.prog 30 #[.func (.yield lp) #[] #[], ptr bq] W fun e W' => (∃ v, e = .returned v) ∧ ((∃ K, W.heap.size ≤ K ∧ J K l.length W') ∨ ∃ i, Jx i W') := by
  have hfn : ∀ w : World, (binOp .eql 72 (.func (.yield lp) #[] #[]) Value.nilFunc).run Try.prog w = .ok (.bool false) w := fun _ => by kernel_rfl
  have mixed : Try.prog.follows .mixedOrders = true := by kernel_rfl
  obtain ⟨d0, d1⟩ := h.cells
  have hlen : l.length ≤ 1000 := Nat.le_trans h.most h.room
  obtain ⟨s, hs⟩ : ∃ s, W.heap.size = s := ⟨_, rfl⟩
  have hC := clone_any h.held
  have HS := cover hs
  refine callsIn_wide.2 ((callsIn_wide (n := 9)).1 ?_)
  refine callsIn_of_wp Try.func30 rfl trivial ?_ rfl
  simp only [Try.ntmps30, List.size_toArray, List.length_cons, List.length_nil, Nat.reduceAdd, Nat.reduceSub, Array.replicate_succ, Array.replicate_zero, List.push_toArray, List.append_toArray, List.nil_append, List.cons_append]
  clear hs h
  gi_wp2_with fail
  refine ⟨trivial, (callsIn_wide.2 hC).mono ?_⟩
  rintro e W1 ⟨rfl, hH1, hb1⟩
  rw [HS.out] at hH1 hb1 ⊢
  have hK1 := keys_any (some s) W1
  clear hC
  gi_wp2_with fail
  refine ⟨trivial, (callsIn_wide.2 hK1).mono ?_⟩
  rintro e W2 ⟨rfl, hw2⟩
  have hb2 : Below W1.heap.size W1 W2 := by rw [hw2]; exact (Below.refl _ _).alloc (Nat.le_refl _) _
  have hq2 : W2.cell? ⟨W1.heap.size, 0, none⟩ = some (.map (some s)) := by rw [hw2, cell_of_row _ _ _ _ _ _ (heap_alloc_new _ _)]; rfl
  have hH2 := hH1.below hb2
  have hS2 := sorted_any hH2 hq2 (by omega)
  have HB2 : Hid (Below s W W2) := cover (hb1.trans (hb2.mono (by have := hb1.size; have := HS.out; omega)))
  have HH2 := cover hH2
  clear hw2 hK1 hb2 hq2 hH1 hH2 hb1
  gi_wp2_with fail
  refine ⟨trivial, (callsIn_wide.2 hS2).mono ?_⟩
  rintro e W3 ⟨A, c, rfl, hh⟩
  have hsz2 := HB2.out.size
  have H3 : Hid (Below s W W3 ∧ HeldIn elI W3 s l ∧ W3.ownsRow s 28 8 (.slice A l.length c) l.length (flatE (l.map (·.1)))) := cover ⟨HB2.out.trans (hh.out.2.mono (by have := HS.out; omega)), HH2.out.below hh.out.2, own_base hh.out.1 (by have := HS.out; omega)⟩
  clear hS2 hh HB2 HH2 hsz2
  obtain ⟨K, hK⟩ : ∃ K, K = W3.heap.size := ⟨_, rfl⟩
  have hsK : s ≤ K := by have := H3.out.1.size; have := HS.out; omega
  have HJ0 : Hid (J K 0 W3) := cover (hst K 0 W W3 (h0 K (by have := HS.out; omega)) (by rw [HS.out]; exact H3.out.1))
  have HHK := cover hK
  have hKW : K ≤ W3.heap.size := by omega
  clear hK h0 d0 d1
  gi_wp2_with fail
  gi_loopw [21] (fun i wr => ∃ k : Nat, k ≤ l.length ∧ i = .int .i64 k ∧ K ≤ wr.heap.size ∧ Hid (J K k wr ∧ HeldIn elI wr s l ∧ wr.ownsRow s 28 8 (.slice A l.length c) l.length (flatE (l.map (·.1))) ∧ s < K ∧ ∀ g, (Value.slice A l.length c).ownBlock = some g → g < K)) (fun i _ => l.length - (intOf i).toNat)
  case atStart => exact ⟨0, Nat.zero_le _, rfl, hKW, cover ⟨HJ0.out, H3.out.2.1, H3.out.2.2, by rw [HHK.out]; exact H3.out.2.1.lt, fun g hg => by rw [HHK.out]; exact (H3.out.2.2.lt g hg).2⟩⟩
  case round =>
    obtain ⟨k, hk, rfl, hsz, hrel⟩ := hrel
    by_cases hlt : k < l.length
    · obtain ⟨⟨x1, x2⟩, hx⟩ : ∃ x, l[k]? = some x := ⟨_, List.getElem?_eq_getElem hlt⟩
      obtain ⟨g, rfl, hgl, hsg, e0, e1, e2, e3, e4, e5, e6, e7⟩ := keys_cell hrel.out.2.2.1 (i := k) (k := x1) (by rw [List.getElem?_map, hx]; rfl)
      have hok := hrel.out.2.1.ok _ (List.mem_of_getElem? hx)
      have hgt : getT l x1 = some x2 := getT_at ltE_ord hrel.out.2.1.rise hx
      obtain ⟨w4, hw4⟩ : ∃ w4, w4 = wr.alloc (.cells #[.int .u8 x1.a0, .int .u8 x1.a1, .int .u8 x1.a2, .int .u8 x1.a3, .int .u8 x1.a4, .int .u8 x1.a5, .int .i64 x1.near, .int .i64 x1.there_] 28) := ⟨_, rfl⟩
      have hb4 : Below wr.heap.size wr w4 := by rw [hw4]; exact (Below.refl _ _).alloc (Nat.le_refl _) _
      have hn4 : w4.heap[wr.heap.size]? = some (.cells #[.int .u8 x1.a0, .int .u8 x1.a1, .int .u8 x1.a2, .int .u8 x1.a3, .int .u8 x1.a4, .int .u8 x1.a5, .int .i64 x1.near, .int .i64 x1.there_] 28 (0, 0)) := by rw [hw4]; exact heap_alloc_new _ _
      have hH4 := hrel.out.2.1.below hb4
      have HLK : Hid (∀ W', HeldIn elI W' s l → (Instr.lookup 62 (.map (some s)) (keyV x1) false).run Try.prog W' = .ok (.int .i64 x2) W') := cover fun W' hW => by
        have := hW.got hok Try.underlying62 (zeroI W') false
        rw [if_neg (by decide), hgt] at this
        exact this
      have hrow4 : w4.ownsRow s 28 8 (.slice (some ⟨g, 0, none⟩) l.length c) l.length (flatE (l.map (·.1))) := row_keeps hrel.out.2.2.1 (fun i hi => hb4.block i (hrel.out.2.2.1.lt i hi).2)
      have hsz4 : w4.heap.size = wr.heap.size + 1 := by rw [hw4]; simp
      obtain ⟨fn, tmps, assign, body, hy, hR⟩ := hY K k (x1, x2) wr w4.drew hx hok hrel.out.1 (below_drewN hb4 1) (by show wr.heap.size < w4.heap.size; omega) (by have := HS.out; omega) hsz 8
      have HN : Hid (HeldIn elI w4.drew s l ∧ w4.drew.ownsRow s 28 8 (.slice (some ⟨g, 0, none⟩) l.length c) l.length (flatE (l.map (·.1))) ∧ s < K ∧ (∀ g', (Value.slice (some ⟨g, 0, none⟩) l.length c).ownBlock = some g' → g' < K) ∧ w4.drew.heap[wr.heap.size]? = some (.cells #[.int .u8 x1.a0, .int .u8 x1.a1, .int .u8 x1.a2, .int .u8 x1.a3, .int .u8 x1.a4, .int .u8 x1.a5, .int .i64 x1.near, .int .i64 x1.there_] 28 (0, 0)) ∧ K ≤ w4.drew.heap.size) := cover ⟨hH4.drewN 1, hrow4, hrel.out.2.2.2.1, hrel.out.2.2.2.2, hn4, by show K ≤ w4.heap.size; omega⟩
      have HWR : Hid (s ≤ wr.heap.size) := cover (by omega)
      clear hrel hx hok hgt hb4 hH4 hrow4 hsz4 hn4
      gi_wp2_with fail
      rw [← hw4]
      clear hw4
      refine held_begin (fun W' : World => HeldIn elI W' s l ∧ W'.heap[wr.heap.size]? = some (.cells #[.int .u8 x1.a0, .int .u8 x1.a1, .int .u8 x1.a2, .int .u8 x1.a3, .int .u8 x1.a4, .int .u8 x1.a5, .int .i64 x1.near, .int .i64 x1.there_] 28 (0, 0))) 99 mixed ?_
      have HSS : (fun W' : World => HeldIn elI W' s l ∧ W'.heap[wr.heap.size]? = some (.cells #[.int .u8 x1.a0, .int .u8 x1.a1, .int .u8 x1.a2, .int .u8 x1.a3, .int .u8 x1.a4, .int .u8 x1.a5, .int .i64 x1.near, .int .i64 x1.there_] 28 (0, 0))) w4.drew := ⟨HN.out.1, HN.out.2.2.2.2.1⟩
      refine hold_take 0 _ rfl (by kernel_rfl) (by kernel_rfl) (by kernel_rfl) (by kernel_rfl) (by kernel_rfl) (fun _ _ _ h => h) (by rfl) (fun _ => rfl) HSS (fun w' hS => by go_simp; try rfl) ?_
      simp only [Act.put, List.setIfInBounds_toArray, List.set_cons_zero, List.set_cons_succ]
      refine hold_take 1 _ rfl (by kernel_rfl) (by kernel_rfl) (by kernel_rfl) (by kernel_rfl) (by kernel_rfl) (fun _ _ _ h => h) (by rfl) (fun _ => rfl) HSS (fun w' hS => by obtain ⟨k0, k1, k2, k3, k4, k5, k6, k7⟩ := cells_of_key hS.2; go_simp; try rfl) ?_
      simp only [Act.put, List.setIfInBounds_toArray, List.set_cons_zero, List.set_cons_succ]
      refine hold_take 2 _ rfl (by kernel_rfl) (by kernel_rfl) (by kernel_rfl) (by kernel_rfl) (by kernel_rfl) (fun _ _ _ h => h) (by rfl) (fun _ => rfl) HSS (fun w' hS => by go_simp; try rfl) ?_
      simp only [Act.put, List.setIfInBounds_toArray, List.set_cons_zero, List.set_cons_succ]
      refine hold_take 3 _ rfl (by kernel_rfl) (by kernel_rfl) (by kernel_rfl) (by kernel_rfl) (by kernel_rfl) (fun _ _ _ h => h) (by rfl) (fun _ => rfl) HSS (fun w' hS => by obtain ⟨k0, k1, k2, k3, k4, k5, k6, k7⟩ := cells_of_key hS.2; go_simp; try rfl) ?_
      simp only [Act.put, List.setIfInBounds_toArray, List.set_cons_zero, List.set_cons_succ]
      refine hold_take 4 _ rfl (by kernel_rfl) (by kernel_rfl) (by kernel_rfl) (by kernel_rfl) (by kernel_rfl) (fun _ _ _ h => h) (by rfl) (fun _ => rfl) HSS (fun w' hS => by have hlk := HLK.out _ hS.1; go_simp; try rfl) ?_
      simp only [Act.put, List.setIfInBounds_toArray, List.set_cons_zero, List.set_cons_succ]
      refine hold_one 5 (by kernel_rfl) rfl (by rfl) fun K1 hK1 => ?_
      go_simp
      refine hR.mono ?_
      clear hR hy
      rintro e W4 ⟨hpost, hkeep⟩
      have hks := hkeep s (by have := HS.out; omega) (.inl HN.out.2.2.1)
      have hkv := hkeep wr.heap.size (by have := HS.out; have := HWR.out; omega) (.inr rfl)
      have hH5 : HeldIn elI W4 s l := HN.out.1.keep hks
      have hrow5 : W4.ownsRow s 28 8 (.slice (some ⟨g, 0, none⟩) l.length c) l.length (flatE (l.map (·.1))) := row_keeps HN.out.2.1 (fun i hi => hkeep i (by have := (HN.out.2.1.lt i hi).1; have := HS.out; omega) (.inl (HN.out.2.2.2.1 i hi)))
      have HSS5 : (fun W' : World => HeldIn elI W' s l ∧ W'.heap[wr.heap.size]? = some (.cells #[.int .u8 x1.a0, .int .u8 x1.a1, .int .u8 x1.a2, .int .u8 x1.a3, .int .u8 x1.a4, .int .u8 x1.a5, .int .i64 x1.near, .int .i64 x1.there_] 28 (0, 0))) W4 := ⟨hH5, hkv.trans HN.out.2.2.2.2.1⟩
      rcases hpost with ⟨rfl, hJ3, hs3⟩ | ⟨rfl, hJx3⟩
      · have HJ : Hid (J K (k + 1) W4 ∧ HeldIn elI W4 s l ∧ W4.ownsRow s 28 8 (.slice (some ⟨g, 0, none⟩) l.length c) l.length (flatE (l.map (·.1))) ∧ s < K ∧ ∀ g', (Value.slice (some ⟨g, 0, none⟩) l.length c).ownBlock = some g' → g' < K) := cover ⟨hJ3, hH5, hrow5, HN.out.2.2.1, HN.out.2.2.2.1⟩
        have hK4 : K ≤ W4.heap.size := Nat.le_trans HN.out.2.2.2.2.2 hs3
        refine hK1 _ _ (.inr HSS5) ?_
        clear hK1 K1 HSS HN HLK hJ3 hs3 hH5 hrow5 hks hkv hkeep
        refine hold_take 6 (.bool false) rfl (by kernel_rfl) (by kernel_rfl) (by kernel_rfl) (by kernel_rfl) (by kernel_rfl) (fun _ _ _ h => h) (by rfl) (fun _ => rfl) HSS5 (fun w' hS => by go_simp; try rfl) ?_
        simp only [Act.put, List.setIfInBounds_toArray, List.set_cons_zero, List.set_cons_succ]
        refine held_done (by kernel_rfl) ?_ _
        clear HSS5
        gi_wp2
        go_roundw
        case rel => exact ⟨k + 1, by omega, by go_num, hK4, HJ⟩
        case measure => simp [intOf]; omega
      · have HJ := cover hJx3
        refine hK1 _ _ (.inr HSS5) ?_
        clear hK1 K1 HSS HN HLK hJx3 hH5 hrow5 hks hkv hkeep
        refine hold_take 6 (.bool true) rfl (by kernel_rfl) (by kernel_rfl) (by kernel_rfl) (by kernel_rfl) (by kernel_rfl) (fun _ _ _ h => h) (by rfl) (fun _ => rfl) HSS5 (fun w' hS => by go_simp; try rfl) ?_
        simp only [Act.put, List.setIfInBounds_toArray, List.set_cons_zero, List.set_cons_succ]
        refine held_done (by kernel_rfl) ?_ _
        clear HSS5
        gi_wp2
        refine bodyPost_ret (results_none rfl _ _ _) rfl ?_
        exact ⟨⟨_, rfl⟩, .inr ⟨k + 1, HJ.out⟩⟩
    · obtain rfl : k = l.length := by omega
      have HJ : Hid (J K l.length wr) := cover hrel.out.1
      clear hrel
      gi_wp2
      go_end0
      exact ⟨⟨_, rfl⟩, .inl ⟨K, by have := HS.out; omega, HJ.out⟩⟩
end Go.Proofs.Ytjkgiepfglimcaa
