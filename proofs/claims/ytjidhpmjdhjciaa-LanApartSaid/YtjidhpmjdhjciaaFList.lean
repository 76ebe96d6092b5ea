/- The list that Row gathers; Each of no queue. -/
import Derived.RangeFuncBox
import Derived.Test.YtjidhpmjdhjciaaFEach1
import Derived.Test.YtjidhpmjdhjciaaFHeld
import Derived.Test.YtjidhpmjdhjciaaFHas
namespace Go.Proofs.Ytjidhpmjdhjciaa
open Go.RowKit Go.Shelf
set_option linter.unusedVariables false
attribute [local go_sem] Oper.semAt_some

/-- one frame of what Row tells: where its bytes lie, its bytes, its age -/
structure UV where
  A : Option Addr
  c : Nat
  l : List Int
  age : Int
abbrev UV.val (u : UV) : Value := .slice u.A u.l.length u.c
def flat (us : List UV) : List Value := us.flatMap fun u => [.slice u.A u.l.length u.c, .int .i64 u.age]
theorem flat_snoc (us : List UV) (u : UV) : flat (us ++ [u]) = flat us ++ [.slice u.A u.l.length u.c, .int .i64 u.age] := by simp [flat]
theorem flat_length (us : List UV) : (flat us).length = us.length * 2 := by
  induction us with
  | nil => rfl
  | cons u us ih => unfold flat at ih ⊢; rw [List.flatMap_cons, List.length_append, ih]; simp; omega
theorem uv_keep {w w' : World} {u : UV} {B : Nat} (h : OwnB w B u.val u.l) (hk : ∀ g, u.val.ownBlock = some g → w'.heap[g]? = w.heap[g]?) : OwnB w' B u.val u.l :=
  own_keep (v := ⟨u.A, u.c, u.l, 0⟩) h hk
theorem uv_blk {w : World} {u : UV} {B : Nat} (h : OwnB w B u.val u.l) {g : Nat} (hg : u.val.ownBlock = some g) : B ≤ g ∧ ∃ cur, w.heap[g]? = some (.cells cur 5 (0, 0)) := own_blk (v := ⟨u.A, u.c, u.l, 0⟩) h hg
structure AtRow (L : List Nat) (W : World) (b base : Nat) (us : List UV) (A : World) : Prop where
  row : ∃ v, A.heap[b]? = some (.cells #[v] 44 (0, 0)) ∧ A.ownsRow base 62 2 v us.length (flat us)
  own : ∀ u ∈ us, OwnB A base u.val u.l
  tur : Turned L W A
theorem own_turned2 {L : List Nat} {a b : World} {base e size n : Nat} {v : Value} {xs : List Value} (h : a.ownsRow base e size v n xs) (hT : Turned L a b) (hL : ∀ g, v.ownBlock = some g → g ∉ L) : b.ownsRow base e size v n xs := by
  refine ⟨h.1, ?_⟩
  rcases h.2 with h0 | ⟨g, cap, cur, rfl, hg, hh, hr⟩
  · exact .inl h0
  · exact .inr ⟨g, cap, cur, rfl, hg, hT.at_ hh (hL g rfl), hr⟩
theorem AtRow.turned {L M : List Nat} {W A A' : World} {b base : Nat} {us : List UV} (h : AtRow L W b base us A) (hT : Turned M A A') (hb : b ∉ M) (hM : ∀ i ∈ M, W.heap.size ≤ i ∧ i < base) : AtRow L W b base us A' := by
  obtain ⟨v, h1, h2⟩ := h.row
  refine ⟨⟨v, hT.at_ h1 hb, own_turned2 h2 hT (fun g hg hm => by have := (h2.lt g hg).1; have := hM g hm; omega)⟩, fun u hu => uv_keep (h.own u hu) fun g hg => ?_, h.tur.trans hT (fun i hi => .inr (hM i hi).1)⟩
  obtain ⟨h3, cur, hc⟩ := uv_blk (h.own u hu) hg
  exact hT.block g (block_lt hc) (fun hm => by have := hM g hm; omega)
theorem AtRow.app {L : List Nat} {W A A5 w1 : World} {b base : Nat} {v v' : Value} {us : List UV} {u : UV} {o : Obj} (h1 : A.heap[b]? = some (.cells #[v] 44 (0, 0))) (h2 : A.ownsRow base 62 2 v us.length (flat us)) (hown : ∀ u ∈ us, OwnB A base u.val u.l)
    (tur : Turned L W A) (hb : b ∈ L) (hbb : b < base) (hW : W.heap.size ≤ base) (hbA : base ≤ A.heap.size) (h5 : Below A.heap.size A A5) (hu : OwnB A5 A.heap.size u.val u.l)
    (hown' : w1.ownsRow base 62 2 v' (us.length + 1) (flat us ++ [.slice u.A u.l.length u.c, .int .i64 u.age])) (hgrow : (A5.alloc o).grownBy w1 v.ownBlock) :
    AtRow L W b base (us ++ [u]) (w1.setCell ⟨b, 0, none⟩ v') ∧ A.heap.size ≤ (w1.setCell ⟨b, 0, none⟩ v').heap.size ∧ ∀ k, k < A.heap.size → k ≠ b → k < base → (w1.setCell ⟨b, 0, none⟩ v').heap[k]? = A.heap[k]? := by
  have hlt := block_lt h1
  have hsz := hgrow.size
  have hs5 := h5.size
  simp at hsz
  have hbase : ∀ g, v.ownBlock = some g → base ≤ g := fun g hg => (h2.lt g hg).1
  have hty : ∀ g cur, v.ownBlock = some g → A.heap[g]? ≠ some (.cells cur 5 (0, 0)) := fun g cur hg hc => by
    rcases h2.2 with ⟨hv, _⟩ | ⟨g', cap, cur', hv, _, hh, _⟩
    · rw [hv] at hg; simp [Value.ownBlock] at hg
    · rw [hv] at hg
      have : g' = g := by simpa [Value.ownBlock] using hg
      subst this; exact type_ne hc hh (by decide) rfl
  have hlt2 : ∀ g, v.ownBlock = some g → g < A.heap.size := fun g hg => (h2.lt g hg).2
  have hk1 : ∀ k, k < A.heap.size → v.ownBlock ≠ some k → w1.heap[k]? = A.heap[k]? := fun k hk hn => (hgrow.block k (by simp; omega) (fun e => hn e.symm)).trans ((Below.heap_alloc _ _ _ (by omega)).trans (h5.block k hk))
  have hb1 : w1.heap[b]? = some (.cells #[v] 44 (0, 0)) := (hk1 b hlt (fun e => by have := hbase b e; omega)).trans h1
  refine ⟨⟨⟨v', by rw [set_block hb1]; rfl, ?_⟩, fun x hx => ?_, ?_⟩, by rw [set_size]; omega, ?_⟩
  · rw [flat_snoc, List.length_append]
    exact ownsRow_setCell_other hown' (fun e => by have := (hown'.lt b e).1; omega) _
  · rcases List.mem_append.1 hx with hx | hx
    · refine uv_keep (hown x hx) fun g hg => ?_
      obtain ⟨h3, cur, hc⟩ := uv_blk (hown x hx) hg
      rw [set_other _ _ (by omega)]
      exact hk1 g (block_lt hc) (fun e => hty g cur e hc)
    · simp at hx; subst hx
      have hub : OwnB A5 base x.val x.l := OwnB.mono hu hbA
      refine uv_keep hub fun g hg => ?_
      obtain ⟨h3, cur, hc⟩ := uv_blk hu hg
      rw [set_other _ _ (by omega)]
      exact (hgrow.block g (by have := block_lt hc; simp; omega) (fun e => by have := hlt2 g e.symm; omega)).trans (Below.heap_alloc _ _ _ (block_lt hc))
  · refine Turned.setCell ⟨hgrow.os.trans (h5.os.trans tur.os), hgrow.tape.trans (h5.tape.trans tur.tape), hgrow.output.trans (h5.output.trans tur.output), by have := tur.size; omega, fun k hk hn => ?_⟩ (.inl hb) _ _
    have := tur.size
    exact (hk1 k (by omega) (fun e => by have := hbase k e; omega)).trans (tur.block k hk hn)
  · intro k hk hne hor
    rw [set_other _ _ hne]
    exact hk1 k hk (fun e => by have := hbase k e; omega)
theorem fly_info : (Try.prog.info? 62).map (fun i => (i.zero, i.size, i.bytes)) = some (some (.agg #[.slice none 0 0, .int .i64 0]), 2, 32) := by kernel_rfl

theorem eachF_any (v : Option Addr) (w : World) : Calls Try.prog 47 #[.pointer v] w fun e w' => e = .returned (.func (.func 61) #[] #[ptr w.heap.size]) ∧ w' = w.alloc (.cells #[.pointer v] 70) := by
  have hmf : ∀ (fn : Fn) (first cap : Array Value) (w : World), (Instr.makeFunc fn first cap).run Try.prog w = .ok (.func fn first cap) w := fun _ _ _ _ => rfl
  go_enter Try.func47, Try.ntmps47
  go_wp2
  go_ret
  exact ⟨rfl, rfl⟩
theorem eachCell_nil (l : Nat) (w : World) : Calls Try.prog 62 #[.pointer none, .func (.yield l) #[] #[]] w fun e w' => (∃ v, e = .returned v) ∧ w = w' := by
  go_enter Try.func62, Try.ntmps62
  go_wp2
  exact bodyPost_ret (v := .tuple #[]) (by simp [results, Try.results62, go_sem]) rfl ⟨⟨_, rfl⟩, rfl⟩

set_option maxRecDepth 100000 in
set_option maxHeartbeats 1600000 in
/-- the walk over no queue -/
theorem each1_nil {n : Nat} (l : Nat) {W : World} {bq : Nat} (hq : W.cell? ⟨bq, 0, none⟩ = some (.pointer none)) :
    CallsIn Fence.wide n Try.prog 61 #[.func (.yield l) #[] #[], ptr bq] W fun e W' => (∃ v, e = .returned v) ∧ Below W.heap.size W W' := by
  have hfn : ∀ w : World, (binOp .eql 79 (.func (.yield l) #[] #[]) Value.nilFunc).run Try.prog w = .ok (.bool false) w := fun _ => by kernel_rfl
  have hmf : ∀ (fn : Fn) (first cap : Array Value) (w : World), (Instr.makeFunc fn first cap).run Try.prog w = .ok (.func fn first cap) w := fun _ _ _ _ => rfl
  obtain ⟨w1, hw1⟩ : ∃ w1, w1 = W.alloc (.cells #[.func (.yield l) #[] #[]] 79) := ⟨_, rfl⟩
  have hbox : w1.heap[W.heap.size]? = some (.cells #[.func (.yield l) #[] #[]] 79 (0, 0)) := by rw [hw1]; exact heap_alloc_new _ _
  have hs1 : w1.heap.size = W.heap.size + 1 := by rw [hw1]; simp
  have hb1 : Below W.heap.size W w1 := by rw [hw1]; exact (Below.refl _ _).alloc (Nat.le_refl _) _
  have hql : bq < W.heap.size := by
    unfold World.cell? at hq
    rcases Nat.lt_or_ge bq W.heap.size with h1 | h1
    · exact h1
    · rw [Array.getElem?_eq_none h1] at hq; simp at hq
  refine callsIn_wide.2 ((callsIn_wide (n := 9)).1 ?_)
  refine callsIn_of_wp_marks Try.func61 rfl trivial ?_ rfl
  simp only [Try.ntmps61, List.size_toArray, List.length_cons, List.length_nil, Nat.reduceAdd, Nat.reduceSub, Array.replicate_succ, Array.replicate_zero, List.push_toArray, List.append_toArray, List.nil_append, List.cons_append]
  gi_wp2
  rw [← hw1]
  obtain ⟨s, hs⟩ : ∃ s, W.heap.size = s := ⟨_, rfl⟩
  have HS := cover hs
  rw [hs] at hbox hs1 hb1 hql ⊢
  clear hs hw1 hfn hq
  refine range_outer rfl (by omega) (gf := 62) (ba := #[.pointer none]) (lb := #[]) rfl trivial (enters_of Try.func62 (by kernel_rfl) rfl)
    (fun A => Below s W A) (fun c A => False) ?hit ?hdone ?hstop
  case hit =>
    intro fn Rc W2 hF hRc hW2
    rw [hs1] at hRc ⊢
    show CallsIn Fence.wide _ _ _ #[.pointer none, .func (.yield (s + 1 + 1)) #[] #[]] _ _
    have hdf2 : W2.heap[s + 1]? = some (.deferred (some [])) := by
      rw [hW2, Below.heap_alloc _ _ _ (by simp; omega), ← hs1]; exact World.alloc_heap_new w1 _
    have hrc2 : W2.heap[s + 2]? = some (Rc .ready none) := by
      have := World.alloc_heap_new (w1.alloc (.deferred (some []))) (Rc .ready none)
      rw [World.size_alloc, hs1] at this; rw [hW2]; exact this
    have hb2 : Below s W W2 := by rw [hW2]; exact (hb1.alloc (by omega) _).alloc (by simp; omega) _
    refine (callsIn_wide.2 (eachCell_nil (s + 1 + 1) W2)).mono ?_
    rintro e w' ⟨hv, rfl⟩
    exact ⟨hv, hdf2, .inl ⟨hrc2, hb2⟩⟩
  case hdone =>
    intro o W' hj hd
    rw [hs1] at hd ⊢
    have HJ : Hid (Below s W ((W'.putObj (s + 1 + 1) o).putObj (s + 1) (.deferred none))) := cover (below_put (below_put hj (by omega) _) (by omega) _)
    have hd2 : (W'.putObj (s + 1 + 1) o).heap[s + 1]? = some (.deferred (some [])) := (World.putObj_heap_other (by omega)).trans hd
    clear hj
    gi_wp2
    refine ⟨by simp, .inl ⟨_, _, rfl, run_takeDeferred hd2, ?_⟩⟩
    exact ⟨_, results_none rfl _ _ _, ⟨_, rfl⟩, by rw [HS.out]; exact HJ.out⟩
  case hstop =>
    rintro o c A h
    exact h.elim
end Go.Proofs.Ytjidhpmjdhjciaa
