/- The walk over the timers that run as it begins: slices.Clone, Each, and what Each hands out. -/
import Derived.WalkKit
import Derived.OwnWalkIn
import Derived.TacticsInMore
import Derived.LoopNIn
import Derived.LoopIn
import Derived.Test.YtodiocioldakjaaQRange
import Derived.Test.YtodiocioldakjaaKIFind
namespace Go.Proofs.Ytodiocioldakjaa
open Go.RowKit Go.Shelf
set_option linter.unusedVariables false
attribute [local go_sem] Oper.semAt_some

/-- a clone of such a row -/
def CloneI (l : List (Int × Int)) (w : World) (e : Ending) (w' : World) : Prop :=
  ∃ A c, e = .returned (.slice A l.length c) ∧ Hid (Below w.heap.size w w' ∧ OwnI 72 w' (.slice A l.length c) l ∧ ∀ k, (Value.slice A l.length c).ownBlock = some k → w.heap.size ≤ k)
set_option maxRecDepth 100000 in
set_option maxHeartbeats 1600000 in
theorem cloneI_any {w : World} {V : Value} {l : List (Int × Int)} (h : OwnI 72 w V l) (hbig : l.length ≤ 100000) :
    Calls Try.prog 46 #[V] w (CloneI l w) := by
  have hnil := fun (W : World) (A : Option Addr) (n c : Nat) => Lib.run_eql_slice_nil (P := Try.prog) W 68 72 A n c 0 0 Try.underlying68
  rcases h.2 with ⟨rfl, h0⟩ | ⟨g, cp, cur, rfl, _, hh, hnc, hcm, hcs, htk⟩
  · have hl : l = [] := List.eq_nil_of_length_eq_zero h0
    subst hl
    have HF : Hid (CloneI [] w (.returned (.slice none 0 0)) w) := cover ⟨none, 0, rfl, cover ⟨Below.refl _ _, World.ownsRow_nil _ _ _ _, fun k hk => by cases hk⟩⟩
    generalize CloneI [] w = Post at HF ⊢
    clear h
    go_enter Try.func46, Try.ntmps46
    go_wp2
    exact HF.out
  · obtain ⟨i0, hi0, hz0, hz1, hz2⟩ := info_parts timerI_info
    obtain ⟨s, hs⟩ : ∃ s, w.heap.size = s := ⟨_, rfl⟩
    obtain ⟨w1, hw1⟩ : ∃ w1, w1 = w.alloc (.cells #[] 72) := ⟨_, rfl⟩
    have hb1 : Below w.heap.size w w1 := by rw [hw1]; exact (Below.refl _ _).alloc (Nat.le_refl _) _
    have hn1 : w1.heap[s]? = some (.cells #[] 72 (0, 0)) := by rw [hw1, ← hs]; exact heap_alloc_new _ _
    have hown1 : OwnI 72 w1 (.slice (some ⟨s, 0, none⟩) 0 0) [] := ⟨rfl, .inr ⟨s, 0, #[], rfl, Nat.zero_le _, hn1, Nat.le_refl _, Nat.zero_le _, rfl, rfl⟩⟩
    have hcell : ∀ j u, (flatI l)[j]? = some u → w1.cell? ((⟨g, 0, none⟩ : Addr).add j) = some u := fun j u hj => by
      rw [add_off, Nat.zero_add, hb1.cell (p := ⟨g, j, none⟩) (block_lt hh), World.ownsRow.cellAt h j (by have := (List.getElem?_eq_some_iff.1 hj).1; rw [flatI_len] at this; omega)]; exact hj
    have happ := OwnI.append (TS := 68) Try.underlying68 hi0 hz0 rfl hz1 (by rw [hz2]; decide) hown1 ⟨g, 0, none⟩ l.length cp rfl hcell (by simp; omega)
    have HF : Hid (∀ A c w', OwnI 72 w' (.slice A l.length c) l → Moves (fun k => (Value.slice (some ⟨s, 0, none⟩) 0 0).ownBlock = some k) (fun k => (Value.slice A l.length c).ownBlock = some k) w1 w' → CloneI l w (.returned (.slice A l.length c)) w') := cover fun A c w' ho hm => by
      refine ⟨A, c, rfl, cover ⟨Moves.below hb1 hm (fun i hi => ?_) hb1.size, ho, fun k hk => ?_⟩⟩
      · have : s = i := by simpa [Value.ownBlock] using hi
        omega
      · rcases hm.own k hk with h1 | h1
        · have : s = k := by simpa [Value.ownBlock] using h1
          omega
        · have := hb1.size; omega
    have HA := cover happ
    have hw1' := hw1
    generalize CloneI l w = Post at HF ⊢
    clear h happ hcell hown1 hn1 hb1 hw1 hh hcs htk hcm
    subst hw1'
    go_enter Try.func46, Try.ntmps46
    go_wp2_with (at_builtin; refine appends_list rfl _ _ _ rfl _ _ rfl rfl HA.out ?_)
    rintro v' w' A c' rfl HO
    have HN : Hid (Post (.returned (.slice A l.length c')) w') := cover (HF.out A c' w' HO.out.1 HO.out.2)
    clear HA HF HO
    go_wp2
    exact HN.out

theorem eachI_any (c : Nat) (w : World) : Calls Try.prog 37 #[ptr c] w fun e w' => e = .returned (.func (.func 45) #[] #[ptr w.heap.size]) ∧ w' = w.alloc (.cells #[ptr c] 30) := by
  have hmf : ∀ (fn : Fn) (first cap : Array Value) (w : World), (Instr.makeFunc fn first cap).run Try.prog w = .ok (.func fn first cap) w := fun _ _ _ _ => rfl
  go_enter Try.func37, Try.ntmps37
  go_wp2
  go_ret
  exact ⟨rfl, rfl⟩
set_option maxRecDepth 100000 in
set_option maxHeartbeats 1600000 in
/-- Each's walk, for every body that keeps what the walk has made -/
theorem each1I_in {n : Nat} (lp : Nat) {W : World} {c bq : Nat} {V : Value} {m now : Nat} {l : List (Int × Int)} (h : CIRaw W c V m now l) (hq : W.cell? ⟨bq, 0, none⟩ = some (ptr c)) (J : Nat → Nat → World → Prop) (Jx : Nat → World → Prop)
    (hst : ∀ kb i A A', J kb i A → Below A.heap.size A A' → J kb i A')
    (h0 : ∀ kb, W.heap.size ≤ kb → J kb 0 W)
    (hY : ∀ kb i x W1, l[i]? = some x → J kb i W1 → W.heap.size ≤ kb → kb < W1.heap.size → ∀ m, YieldAt Fence.wide m Try.prog lp #[.int .i64 x.1, .int .i64 x.2] W1 fun e W' =>
      (e = .returned (.bool true) ∧ J kb (i + 1) W' ∧ W1.heap.size ≤ W'.heap.size ∧ W'.heap[kb]? = W1.heap[kb]?) ∨ (e = .returned (.bool false) ∧ Jx (i + 1) W')) :
    CallsIn Fence.wide n Try.prog 45 #[.func (.yield lp) #[] #[], ptr bq] W fun e W' => (∃ v, e = .returned v) ∧ ((∃ kb, J kb l.length W') ∨ ∃ i, Jx i W') := by
  have hfn : ∀ w : World, (binOp .eql 38 (.func (.yield lp) #[] #[]) Value.nilFunc).run Try.prog w = .ok (.bool false) w := fun _ => by kernel_rfl
  obtain ⟨A, cp, rfl⟩ := h.shape
  obtain ⟨d0, d1, d2⟩ := h.cells
  have hC := (cloneI_any h.row (by rw [endsK_len]; exact h.len)).mono (R' := fun e w' => ∃ A c, e = .returned (.slice A l.length c) ∧ Hid (Below W.heap.size W w' ∧ OwnI 72 w' (.slice A l.length c) (endsK now l) ∧ ∀ k, (Value.slice A l.length c).ownBlock = some k → W.heap.size ≤ k)) (fun e w' ⟨A, c, he, ho⟩ => ⟨A, c, by rw [he, endsK_len], by rw [endsK_len] at ho; exact ho⟩)
  have HC := cover h
  have hlen := h.len
  have hnb := h.nb
  clear h
  refine callsIn_wide.2 ((callsIn_wide (n := 9)).1 ?_)
  refine callsIn_of_wp Try.func45 rfl trivial ?_ rfl
  simp only [Try.ntmps45, List.size_toArray, List.length_cons, List.length_nil, Nat.reduceAdd, Nat.reduceSub, Array.replicate_succ, Array.replicate_zero, List.push_toArray, List.append_toArray, List.nil_append, List.cons_append]
  gi_wp2_with fail
  refine ⟨trivial, (callsIn_wide.2 hC).mono ?_⟩
  rintro e W1 ⟨A', c', rfl, HO⟩
  obtain ⟨kb, hkb⟩ : ∃ kb, W.heap.size ≤ kb ∧ ∀ i, (Value.slice A' l.length c').ownBlock = some i → i = kb := by
    rcases A' with _ | ⟨ab, ao, asp⟩
    · exact ⟨W.heap.size, Nat.le_refl _, fun i hi => by cases hi⟩
    · exact ⟨ab, HO.out.2.2 ab rfl, fun i hi => by simpa [Value.ownBlock] using hi.symm⟩
  have hJ := cover (hst kb 0 W W1 (h0 kb hkb.1) HO.out.1)
  have hs1 := HO.out.1.size
  obtain ⟨s, hs⟩ : ∃ s, W.heap.size = s := ⟨_, rfl⟩
  have HS := cover hs
  have HO1 : Hid (OwnI 72 W1 (.slice A' l.length c') (endsK now l) ∧ s ≤ kb ∧ ∀ i, (Value.slice A' l.length c').ownBlock = some i → i = kb) := cover ⟨HO.out.2.1, by rw [← hs]; exact hkb⟩
  rw [hs] at hs1 hY
  clear h0 hs hC HO hkb
  gi_wp2_with fail
  gi_loopw [22] (fun i wr => ∃ k : Nat, k ≤ l.length ∧ i = .int .i64 k ∧ Hid (J kb k wr) ∧ s ≤ wr.heap.size ∧ Hid (OwnI 72 wr (.slice A' l.length c') (endsK now l))) (fun i _ => l.length - (intOf i).toNat)
  case atStart => exact ⟨0, Nat.zero_le _, rfl, hJ, hs1, cover HO1.out.1⟩
  case round =>
    obtain ⟨k, hk, rfl, hJs, hsz, hrow⟩ := hrel
    by_cases hlt : k < l.length
    · obtain ⟨x, hx⟩ : ∃ x, l[k]? = some x := ⟨_, List.getElem?_eq_getElem hlt⟩
      have hxe : (endsK now l)[k]? = some (x.1, (now : Int) + x.2) := by rw [endsK_get, hx]; rfl
      obtain ⟨g, c2, hv, _, hgl, e0, e1, _⟩ := hrow.out.cell hxe
      have hA : A' = some ⟨g, 0, none⟩ := by injection hv
      subst hA
      obtain rfl : g = kb := HO1.out.2.2 g rfl
      have hgs : s ≤ g := HO1.out.2.1
      have hxb := HC.out.left _ (List.mem_of_getElem? hx)
      obtain ⟨z, hz⟩ : ∃ z : Int, z = (now : Int) + x.2 := ⟨_, rfl⟩
      have hzw : IntKind.i64.wrap (z - (now : Int)) = x.2 := by rw [IntKind.wrap_i64]; omega
      have e1' : wr.cell? ⟨g, k * 2 + 1, none⟩ = some (.int .i64 z) := by rw [hz]; exact e1
      have e0' : wr.cell? ⟨g, k * 2, none⟩ = some (.int .i64 x.1) := e0
      obtain ⟨w2, hw2⟩ : ∃ w2, w2 = wr.alloc (.cells #[.int .i64 x.1, .int .i64 z] 72) := ⟨_, rfl⟩
      have hb2 : Below wr.heap.size wr w2 := by rw [hw2]; exact (Below.refl _ _).alloc (Nat.le_refl _) _
      have hrow2 : OwnI 72 w2 (.slice (some ⟨g, 0, none⟩) l.length c') (endsK now l) := row_keeps hrow.out (fun i hi => by
        have : g = i := by simpa [Value.ownBlock] using hi
        exact hb2.block i (by omega))
      obtain ⟨fn, tmps, assign, body, hy, hR⟩ := hY _ k x w2 hx (hst _ k _ _ hJs.out hb2) HO1.out.2.1 (by have := hb2.size; omega) 8
      have HR2 := cover (And.intro hrow2 (And.intro hgs (And.intro hb2 hgl)))
      have hw2s := hb2.size
      obtain ⟨x1, x2⟩ := x
      have hzw' : IntKind.i64.wrap (z - (now : Int)) = x2 := hzw
      have e0'' : wr.cell? ⟨g, k * 2, none⟩ = some (.int .i64 x1) := e0'
      subst hw2
      clear hx hxe hz e1 e0 e0' hzw hb2 hrow2 hxb hv hrow hJs
      gi_wp2_with fail
      refine hR.mono ?_
      clear hR hy
      rintro e W3 (⟨rfl, hJ3, hk3⟩ | ⟨rfl, hJx3⟩)
      · have HJ := cover hJ3
        have hs3 := Nat.le_trans (Nat.le_trans hsz hw2s) hk3.1
        have HR3 : Hid (OwnI 72 W3 (.slice (some ⟨g, 0, none⟩) l.length c') (endsK now l)) := cover (row_keeps HR2.out.1 (fun i hi => by
          have : g = i := by simpa [Value.ownBlock] using hi
          rw [← this]; exact hk3.2))
        clear hJ3 hk3
        gi_wp2
        go_roundw
        case rel => exact ⟨k + 1, by omega, by go_num, HJ, hs3, HR3⟩
        case measure => simp [intOf]; omega
      · have HJ := cover hJx3
        clear hJx3
        gi_wp2
        refine bodyPost_ret (results_none rfl _ _ _) rfl ?_
        exact ⟨⟨_, rfl⟩, .inr ⟨k + 1, HJ.out⟩⟩
    · obtain rfl : k = l.length := by omega
      gi_wp2
      go_end0
      exact ⟨⟨_, rfl⟩, .inl ⟨kb, hJs.out⟩⟩
end Go.Proofs.Ytodiocioldakjaa
