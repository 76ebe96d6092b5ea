/- The walk over the cells that are there as it begins: slices.Clone, eachCell. -/
import Derived.WalkKit
import Derived.OwnWalkIn
import Derived.TacticsInMore
import Derived.LoopNIn
import Derived.LoopIn
import Derived.Test.YtjidhpmjdhjciaaQRange
import Derived.Test.YtjidhpmjdhjciaaFOps3
namespace Go.Proofs.Ytjidhpmjdhjciaa
open Go.RowKit Go.Shelf
set_option linter.unusedVariables false
attribute [local go_sem] Oper.semAt_some

/-- a clone of a row of pointers -/
def CloneOut (ps : List Nat) (w : World) (e : Ending) (w' : World) : Prop :=
  (ps = [] ∧ Below w.heap.size w w' ∧ ∃ A c, e = .returned (.slice A 0 c)) ∨
  (ps ≠ [] ∧ Below w.heap.size w w' ∧ w'.heap.size = w.heap.size + 2 ∧ ∃ (cur : Array Value) (c : Nat), e = .returned (.slice (some ⟨w.heap.size + 1, 0, none⟩) ps.length c) ∧ w'.heap[w.heap.size + 1]? = some (.cells cur 95 (0, 0)) ∧ ∀ (k p : Nat), ps[k]? = some p → (cur : Array Value)[k]? = some (ptr p))

set_option maxRecDepth 100000 in
set_option maxHeartbeats 1600000 in
theorem clone_ptrs {w : World} {G : Option Nat} {A : Option Addr} {c : Nat} {ps : List Nat} (h : PRow 95 w G A c ps) (hbig : ps.length ≤ 1000000) :
    Calls Try.prog 69 #[.slice A ps.length c] w (CloneOut ps w) := by
  obtain ⟨i0, hi, hz0, hz1, hz2⟩ := info_parts F_info
  have hnil := fun (W : World) (A : Option Addr) (n c : Nat) => Lib.run_eql_slice_nil (P := Try.prog) W 90 95 A n c 0 0 Try.underlying90
  have hcap := h.cap
  rcases A with _ | ⟨g, o, sp⟩
  · have hps : ps = [] := by
      rcases h.ex with ⟨_, _, _, h4⟩ | ⟨g, o, cur, _, h2, _⟩
      · exact h4
      · cases h2
    have hout : Hid (∀ w', w' = w → CloneOut ps w (.returned (.slice none 0 0)) w') := cover fun w' e => by subst e; exact Or.inl ⟨hps, Below.refl _ _, none, 0, rfl⟩
    generalize hC : CloneOut ps w = Post at hout ⊢
    clear hC h
    go_enter Try.func69, Try.ntmps69
    go_wp2
    exact hout.out _ rfl
  · obtain ⟨w1, hw1⟩ : ∃ w1, w1 = w.alloc (.cells #[] 95) := ⟨_, rfl⟩
    have h1 : PRow 95 w1 G (some ⟨g, o, sp⟩) c ps := h.keep fun g hg => by obtain ⟨cur, hc⟩ := h.lt hg; rw [hw1]; exact Below.heap_alloc _ _ _ (block_lt hc)
    have hs1 : w1.heap.size = w.heap.size + 1 := by rw [hw1]; simp
    have hsrc : Src Try.prog i0.size 90 (.slice (some ⟨g, o, sp⟩) ps.length c) ps.length (ps.map ptr) w1 := by
      rw [hz1]
      refine Src.ofSlice w1 Try.underlying90 ⟨g, o, sp⟩ ps.length c (ps.map ptr) (by simp) (fun j u hj => ?_) (by intro u hu; simp at hu; obtain ⟨_, _, rfl⟩ := hu; rfl)
      rw [List.getElem?_map] at hj
      obtain ⟨p, hp, rfl⟩ := Option.map_eq_some_iff.1 hj
      obtain ⟨g', o', _, h3, h4⟩ := h1.cell hp
      injection h3 with h3
      rw [h3, add_off]; exact h4
    have hbel : Below w.heap.size w w1 := by rw [hw1]; exact (Below.refl _ _).alloc (Nat.le_refl _) _
    by_cases hps : ps = []
    · subst hps
      have hrun := fun ty => run_append_room_src w1 90 90 ty 95 i0 Try.underlying90 hi w.heap.size 0 0 0 _ 0 [] hsrc (by simp) (fun j hj => by simp at hj) (fun j hj => by simp at hj)
      have hout : Hid (∀ w', w' = w1 → ∀ A c, CloneOut [] w (.returned (.slice A 0 c)) w') := cover fun w' e A c => by subst e; exact Or.inl ⟨rfl, hbel, A, c, rfl⟩
      generalize hC : CloneOut [] w = Post at hout ⊢
      clear hC h h1 hsrc hbel hs1
      subst hw1
      go_enter Try.func69, Try.ntmps69
      go_wp2_with (at_builtin; refine Lib.wpList_append_run _ rfl _ _ _ _ rfl _ _ rfl rfl _ _ (hrun _) ?_)
      exact hout.out _ rfl _ _
    · have hpos : 0 < ps.length := List.length_pos_iff.2 hps
      have hold : (Builtin.firstCells i0.size 0 (.slice (some ⟨w.heap.size, 0, none⟩) 0 0)).run Try.prog w1.drew = .ok (([] : List Value).toArray) w1.drew := by
        rw [hz1]; exact run_firstCells_some w1.drew 1 0 ⟨w.heap.size, 0, none⟩ 0 0 [] rfl (fun j v hj => by simp at hj)
      have hrun := fun ty => run_append_grow_src w1 90 90 ty 95 i0 _ Try.underlying90 hi hz0 (some ⟨w.heap.size, 0, none⟩) 0 0 [] hold _ ps.length (ps.map ptr) hsrc (by omega) (by omega)
        (by rw [hz2]; exact growslice_fits (by omega) (by omega))
      rw [hs1] at hrun
      have hge := grownCap_ge w1 (0 + ps.length) 0 95
      simp only [Nat.zero_add] at hrun hge
      obtain ⟨C, hC⟩ : ∃ C, C = grownCap w1 ps.length 0 95 := ⟨_, rfl⟩
      rw [← hC] at hrun hge
      obtain ⟨cur, hcur⟩ : ∃ cur, cur = ([] ++ ps.map ptr : List Value).toArray ++ Builtin.zeroCells (Value.pointer none).cells (C - ps.length) := ⟨_, rfl⟩
      rw [← hcur] at hrun
      obtain ⟨w2, hw2⟩ : ∃ w2, w2 = w1.drew.alloc (.cells cur 95) := ⟨_, rfl⟩
      rw [← hw2] at hrun
      have hout : Hid (∀ w', w' = w2 → ∀ c, CloneOut ps w (.returned (.slice (some ⟨w.heap.size + 1, 0, none⟩) ps.length c)) w') := cover fun w' e c => by
        subst e
        refine Or.inr ⟨hps, ?_, by rw [hw2]; simp [hs1], cur, c, rfl, ?_, ?_⟩
        · rw [hw2]; exact hbel.trans ((((Below.refl w1.heap.size w1).drew).alloc (by simp) _).mono (by omega))
        · rw [hw2, ← hs1]; exact heap_alloc_new w1.drew _
        · intro k p hk
          obtain ⟨hlt, _⟩ := List.getElem?_eq_some_iff.1 hk
          rw [hcur, Array.getElem?_append_left (by simpa using hlt)]
          simp [hk]
      generalize hC' : CloneOut ps w = Post at hout ⊢
      clear hC' h h1 hsrc hbel hs1 hC hcur hold hps
      generalize ps.length = n at hrun hcap hbig hpos hout hge ⊢
      have hw2' := cover hw2
      clear hw2
      subst hw1
      go_enter Try.func69, Try.ntmps69
      go_wp2_with (at_builtin; refine Lib.wpList_append_run _ rfl _ _ _ _ rfl _ _ rfl rfl _ _ (hrun _) ?_)
      exact hout.out _ rfl _

/-- a round keeps the iterator's own blocks, from s on -/
structure Keeps (s k : Nat) (ks : List Nat) (w w' : World) : Prop where
  size : w.heap.size ≤ w'.heap.size
  block : ∀ i, (s ≤ i ∧ i < s + k) ∨ i ∈ ks → w'.heap[i]? = w.heap[i]?

set_option maxRecDepth 100000 in
set_option maxHeartbeats 1600000 in
/-- eachCell, for every body that keeps its two blocks -/
theorem eachCell_in {n : Nat} (l : Nat) {W : World} {q : Nat} {G : Option Nat} {m : Int} {ps : List Nat} {xs : List (Array Value)} (h : FIn W q G m ps xs) (hbig : ps.length ≤ 1000000) (J Jx : Nat → World → Prop)
    (h0 : ∀ W1, Below W.heap.size W W1 → J 0 W1)
    (hY : ∀ i p W1, ps[i]? = some p → J i W1 → W.heap.size + 2 ≤ W1.heap.size → ∀ m, YieldAt Fence.wide m Try.prog l #[.int .i64 i, ptr p] W1 fun e W' =>
      (e = .returned (.bool true) ∧ J (i + 1) W' ∧ Keeps W.heap.size 2 [] W1 W') ∨ (e = .returned (.bool false) ∧ Jx (i + 1) W')) :
    CallsIn Fence.wide n Try.prog 62 #[ptr q, .func (.yield l) #[] #[]] W fun e W' => (∃ v, e = .returned v) ∧ (J ps.length W' ∨ ∃ i, Jx i W') := by
  obtain ⟨A, c, hh, hr⟩ := h.ex
  have hc0 := cell_of_row W q 0 _ _ _ hh
  have hc1 := cell_of_row W q 1 _ _ _ hh
  simp at hc0 hc1
  have HC := clone_ptrs hr hbig
  clear h hr hh
  have hclone : Fence.wide.fn 69 := trivial
  refine callsIn_wide.2 ((callsIn_wide (n := 9)).1 ?_)
  refine callsIn_of_wp Try.func62 rfl trivial ?_ rfl
  simp only [Try.ntmps62, List.size_toArray, List.length_cons, List.length_nil, Nat.reduceAdd, Nat.reduceSub, Array.replicate_succ, Array.replicate_zero, List.push_toArray, List.append_toArray, List.nil_append, List.cons_append]
  gi_wp2_with fail
  refine (callsIn_wide.2 HC).mono ?_
  rintro e W1 (⟨hps, hb1, A', c', rfl⟩ | ⟨hps, hb1, hs1, cur, c', rfl, hcur, hat⟩)
  · have hJ := cover (h0 W1 hb1)
    clear h0 hY
    subst hps
    gi_wp2
    gi_loopw [14] (fun i wr => i = .int .i64 0 ∧ Hid (J 0 wr)) (fun _ _ => 0)
    case atStart => exact ⟨rfl, hJ⟩
    case round =>
      obtain ⟨rfl, hJs⟩ := hrel
      gi_wp2
      go_end0
      exact ⟨⟨_, rfl⟩, .inl hJs.out⟩
  · have hJ := cover (h0 W1 hb1)
    obtain ⟨s, hs⟩ : ∃ s, W.heap.size = s := ⟨_, rfl⟩
    rw [hs] at hs1 hcur hY ⊢
    clear h0 hs
    gi_wp2
    gi_loopw [14] (fun i wr => ∃ k : Nat, k ≤ ps.length ∧ i = .int .i64 k ∧ Hid (J k wr) ∧ s + 2 ≤ wr.heap.size ∧ Hid (wr.heap[s + 1]? = some (.cells cur 95 (0, 0)))) (fun i _ => ps.length - (intOf i).toNat)
    case atStart => exact ⟨0, Nat.zero_le _, rfl, hJ, by omega, cover hcur⟩
    case round =>
      obtain ⟨k, hk, rfl, hJs, hsz, hcu⟩ := hrel
      by_cases hlt : k < ps.length
      · have hp : ps[k]? = some ps[k] := List.getElem?_eq_getElem hlt
        have hc2 : wr.cell? ⟨s + 1, k, none⟩ = some (ptr ps[k]) := by rw [cell_of_row wr _ _ _ _ _ hcu.out]; exact hat k _ hp
        obtain ⟨fn, tmps, assign, body, hy, hR⟩ := hY k _ wr hp hJs.out hsz 8
        generalize ps[k] = p at hc2 hy hR
        clear hp
        gi_wp2
        refine hR.mono ?_
        rintro e W3 (⟨rfl, hJ3, hk3⟩ | ⟨rfl, hJx3⟩)
        · have HJ := cover hJ3
          have hs3 := Nat.le_trans hsz hk3.size
          have HC3 := cover ((hk3.block (s + 1) (.inl (by omega))).trans hcu.out)
          clear hJ3 hk3
          gi_wp2
          go_roundw
          case rel => exact ⟨k + 1, by omega, by go_num, HJ, hs3, HC3⟩
          case measure => simp [intOf]; omega
        · have HJ := cover hJx3
          clear hJx3
          gi_wp2
          refine bodyPost_ret (results_none rfl _ _ _) rfl ?_
          exact ⟨⟨_, rfl⟩, .inr ⟨k + 1, HJ.out⟩⟩
      · obtain rfl : k = ps.length := by omega
        gi_wp2
        go_end0
        exact ⟨⟨_, rfl⟩, .inl hJs.out⟩
end Go.Proofs.Ytjidhpmjdhjciaa
