/- What the law's 'do' does: one deed, of the program's lan and of the document's. -/
import Derived.Test.YtjidhpmjdhjciaaFRPut
import Derived.Test.YtjidhpmjdhjciaaFDeed
namespace Go.Proofs.Ytjidhpmjdhjciaa
open Go.RowKit
set_option linter.unusedVariables false

/-- what a deed makes of a lan -/
noncomputable def doS (s : LS) (q : DV) : LS :=
  if q.what ≤ 2 then sendS s q.f q.t q.b else if q.what = 3 then (putR s q.f q.b).1 else if q.what ≤ 6 then passS s q.f q.t else if q.what = 7 then dropS s q.f q.t
  else if q.what = 8 then twiceS s q.f q.t else if q.what = 9 then spoilS s q.f q.t q.bit else if q.what = 10 then ageS s else cutS s q.f
/-- what bounds a lan that a law plays with -/
structure Fit (s : LS) : Prop where
  now : s.now ≤ 800000
  lost : s.lost ≤ 80000000
  small : ∀ k, ∀ x ∈ s.rows k, x.1.length ≤ 200 ∧ Bts x.1 ∧ x.2 ≤ 800000
theorem Fit.at_ {s : LS} (h : Fit s) (f t : Int) : ∀ x ∈ theRow s f t, x.1.length ≤ 200 ∧ Bts x.1 ∧ x.2 ≤ 800000 := by
  unfold theRow; split
  · exact h.small _
  · intro x hx; cases hx
/-- both lans, what they own apart, beside the deed that was handed over; nothing else has turned since W -/
structure Duo (S T : Foot) (W : World) (l r z : Nat) (q : DV) (s s' : LS) (w : World) : Prop where
  ex : ∃ S' T', LIn S' w l s ∧ RIn T' w r s' ∧ (∀ i, S' i → ¬ T' i) ∧ Moves (fun i => S i ∨ T i) (fun i => S' i ∨ T' i) W w ∧ ¬ S' z ∧ ¬ T' z
  box : w.heap[z]? = some (dobj q)
section
variable {S T : Foot} {W w w2 : World} {l r z : Nat} {q : DV} {s s' s2 : LS}
theorem Moves.left {S S' T : Foot} (h : Moves S S' w w2) : Moves (fun i => S i ∨ T i) (fun i => S' i ∨ T i) w w2 :=
  ⟨h.os, h.tape, h.output, h.size, fun k hk hn => h.block k hk (fun h' => hn (.inl h')), fun k hk => hk.elim (fun h1 => (h.own k h1).imp .inl id) (fun h1 => .inl (.inr h1))⟩
theorem Moves.right {S S' T : Foot} (h : Moves S S' w w2) : Moves (fun i => T i ∨ S i) (fun i => T i ∨ S' i) w w2 :=
  ⟨h.os, h.tape, h.output, h.size, fun k hk hn => h.block k hk (fun h' => hn (.inr h')), fun k hk => hk.elim (fun h1 => .inl (.inl h1)) (fun h1 => (h.own k h1).imp .inr id)⟩
theorem Duo.lan (D : Duo S T W l r z q s s' w) (hN : ∃ S' T', LIn S' w l s ∧ RIn T' w r s' ∧ (∀ i, S' i → ¬ T' i) ∧ Moves (fun i => S i ∨ T i) (fun i => S' i ∨ T' i) W w ∧ ¬ S' z ∧ ¬ T' z ∧ LNow S' l s2 w w2) : Duo S T W l r z q s2 s' w2 := by
  obtain ⟨S', T', h1, h2, h3, h4, h5, h6, S3, k1, k2⟩ := hN
  have hz := block_lt D.box
  refine ⟨⟨S3, T', k1, h2.apart k2 (fun k hk hs => h3 k hs hk), fun i hi ht => ?_, h4.trans k2.left, fun hs => ?_, h6⟩, k2.at_ D.box h5⟩
  · rcases k2.own i hi with h7 | h7
    · exact h3 i h7 ht
    · have := h2.lt i ht; omega
  · rcases k2.own z hs with h7 | h7
    · exact h5 h7
    · omega
theorem Duo.ref (D : Duo S T W l r z q s s' w) (hN : ∃ S' T', LIn S' w l s ∧ RIn T' w r s' ∧ (∀ i, S' i → ¬ T' i) ∧ Moves (fun i => S i ∨ T i) (fun i => S' i ∨ T' i) W w ∧ ¬ S' z ∧ ¬ T' z ∧ RNow T' r s2 w w2) : Duo S T W l r z q s s2 w2 := by
  obtain ⟨S', T', h1, h2, h3, h4, h5, h6, T3, k1, k2⟩ := hN
  have hz := block_lt D.box
  refine ⟨⟨S', T3, h1.apart k2 h3, k1, fun i hi ht => ?_, h4.trans k2.right, h5, fun hs => ?_⟩, k2.at_ D.box h6⟩
  · rcases k2.own i ht with h7 | h7
    · exact h3 i hi h7
    · have := h1.lt i hi; omega
  · rcases k2.own z hs with h7 | h7
    · exact h6 h7
    · omega
/-- the deed's bytes lie where neither lan can turn them -/
def Aside (S T : Foot) (W : World) (q : DV) : Prop := ∀ w' S', Moves (fun i => S i ∨ T i) S' W w' → Row w' w'.heap.size q.A q.b.length q.b
theorem Duo.onL (D : Duo S T W l r z q s s' w) (HR : Aside S T W q) {F : FuncId} {args : Array Value} {P : Ending → Prop} (hC : ∀ S', LIn S' w l s → (∀ w' S'', Moves S' S'' w w' → Row w' w'.heap.size q.A q.b.length q.b) → Calls Try.prog F args w fun e w' => P e ∧ Hid (LNow S' l s2 w w')) :
    Calls Try.prog F args w fun e w' => P e ∧ Hid (Duo S T W l r z q s2 s' w') := by
  obtain ⟨S', T', h1, h2, h3, h4, h5, h6⟩ := D.ex
  exact (hC S' h1 (fun w' S'' hm => HR w' _ (h4.trans hm.left))).mono fun e w' ⟨he, hn⟩ => ⟨he, cover (D.lan ⟨S', T', h1, h2, h3, h4, h5, h6, hn.out⟩)⟩
theorem Duo.onR (D : Duo S T W l r z q s s' w) (HR : Aside S T W q) {F : FuncId} {args : Array Value} {P : Ending → Prop} (hC : ∀ T', RIn T' w r s' → (∀ w' S'', Moves T' S'' w w' → Row w' w'.heap.size q.A q.b.length q.b) → Calls Try.prog F args w fun e w' => P e ∧ Hid (RNow T' r s2 w w')) :
    Calls Try.prog F args w fun e w' => P e ∧ Hid (Duo S T W l r z q s s2 w') := by
  obtain ⟨S', T', h1, h2, h3, h4, h5, h6⟩ := D.ex
  exact (hC T' h2 (fun w' S'' hm => HR w' _ (h4.trans hm.right))).mono fun e w' ⟨he, hn⟩ => ⟨he, cover (D.ref ⟨S', T', h1, h2, h3, h4, h5, h6, hn.out⟩)⟩
theorem Duo.cells (D : Duo S T W l r z q s s' w) : w.cell? ⟨z, 0, none⟩ = some (.int .i64 q.what) ∧ w.cell? ⟨z, 1, none⟩ = some (.int .i64 q.f) ∧ w.cell? ⟨z, 2, none⟩ = some (.int .i64 q.t) ∧ w.cell? ⟨z, 3, none⟩ = some (.int .i64 q.bit) ∧ w.cell? ⟨z, 4, none⟩ = some (.slice q.A q.b.length q.c) := dobj_cells D.box
end
theorem same_both (A A' : Option Addr) (c c' B B' : Nat) (l l' : List Int) (w : World) (h1 : Row w B A l.length l) (h2 : Row w B' A' l'.length l') (hmax : l.length ≤ 1000000) :
    Calls Try.prog 17 #[.slice A l.length c, .slice A' l'.length c'] w fun e w' => e = .returned (.bool (decide (l = l'))) ∧ ∃ d, w' = w.drewN d := by
  by_cases h : l.length = l'.length
  · rw [← h] at h2 ⊢
    exact same_any A A' l.length c c' B B' l l' w h1 h2 (by omega)
  · have e : decide (l = l') = false := by rw [decide_eq_false_iff_not]; exact fun e => h (by rw [e])
    rw [e]
    exact same_len A A' l.length c l'.length c' w h
theorem Duo.drewN {S T : Foot} {W w : World} {l r z : Nat} {q : DV} {s s' : LS} (D : Duo S T W l r z q s s' w) (d : Nat) : Duo S T W l r z q s s' (w.drewN d) := by
  obtain ⟨S', T', h1, h2, h3, h4, h5, h6⟩ := D.ex
  exact ⟨⟨S', T', h1.drewN d, h2.drewN d, h3, h4.drewN d, h5, h6⟩, D.box⟩
/-- the program's lan has passed a frame, the document's not yet -/
structure PassMid (S T : Foot) (W : World) (l r z : Nat) (q : DV) (s s' : LS) (A : Option Addr) (c : Nat) (w : World) : Prop where
  ex : ∃ S' T', LIn S' w l (passS s q.f q.t) ∧ RIn T' w r s' ∧ (∀ i, S' i → ¬ T' i) ∧ Moves (fun i => S i ∨ T i) (fun i => S' i ∨ T' i) W w ∧ ¬ S' z ∧ ¬ T' z ∧ ∀ g, (Value.slice A (passL s q.f q.t).length c).ownBlock = some g → ¬ T' g
  box : w.heap[z]? = some (dobj q)
  own : OwnB w 0 (.slice A (passL s q.f q.t).length c) (passL s q.f q.t)
theorem Duo.passed {S T : Foot} {W w : World} {l r z : Nat} {q : DV} {s s' : LS} (D : Duo S T W l r z q s s' w) :
    Calls Try.prog 16 #[ptr l, .int .i64 q.f, .int .i64 q.t] w fun e w' => ∃ A c, e = .returned (.tuple #[.slice A (passL s q.f q.t).length c, .bool (passB s q.f q.t)]) ∧ Hid (PassMid S T W l r z q s s' A c w') := by
  obtain ⟨S', T', h1, h2, h3, h4, h5, h6⟩ := D.ex
  refine (pass_any h1 q.f q.t).mono fun e w' ⟨A, c, he, ho, S3, k1, k2, k3⟩ => ⟨A, c, he, cover ?_⟩
  have hz := block_lt D.box
  refine ⟨⟨S3, T', k1, h2.apart k2 (fun k hk hs => h3 k hs hk), fun i hi ht => ?_, h4.trans k2.left, fun hs => ?_, h6, fun g hg => h3 g (k3 g hg).2⟩, k2.at_ D.box h5, ho⟩
  · rcases k2.own i hi with h7 | h7
    · exact h3 i h7 ht
    · have := h2.lt i ht; omega
  · rcases k2.own z hs with h7 | h7
    · exact h5 h7
    · omega
theorem PassMid.next {S T : Foot} {W w : World} {l r z : Nat} {q : DV} {s s' : LS} {A : Option Addr} {c : Nat} (D : PassMid S T W l r z q s s' A c w) (hmax : ∀ x ∈ theRow s q.f q.t, x.1.length ≤ 1000000) :
    Calls Try.prog 41 #[ptr r, .int .i64 q.f, .int .i64 q.t] w fun e w' => ∃ A' c', e = .returned (.tuple #[.slice A' (passL s' q.f q.t).length c', .bool (passB s' q.f q.t)]) ∧ Hid (Duo S T W l r z q (passS s q.f q.t) (passS s' q.f q.t) w' ∧
      ∀ c1 c2, Calls Try.prog 17 #[.slice A (passL s q.f q.t).length c1, .slice A' (passL s' q.f q.t).length c2] w' fun e w'' => e = .returned (.bool (decide (passL s q.f q.t = passL s' q.f q.t))) ∧ ∃ d, w'' = w'.drewN d) := by
  obtain ⟨S', T', h1, h2, h3, h4, h5, h6, h7⟩ := D.ex
  refine (rpass_any h2 q.f q.t).mono fun e w' ⟨A', c', he, ho, hn⟩ => ⟨A', c', he, cover ?_⟩
  obtain ⟨T3, k1, k2⟩ := hn.out
  have hz := block_lt D.box
  refine ⟨⟨⟨S', T3, h1.apart k2 h3, k1, fun i hi ht => ?_, h4.trans k2.right, h5, fun hs => ?_⟩, k2.at_ D.box h6⟩, fun c1 c2 => ?_⟩
  · rcases k2.own i ht with h8 | h8
    · exact h3 i hi h8
    · have := h1.lt i hi; omega
  · rcases k2.own z hs with h8 | h8
    · exact h6 h8
    · omega
  · have hx : OwnB w' 0 (.slice A (passL s q.f q.t).length c) (passL s q.f q.t) := own_keep (v := ⟨A, c, passL s q.f q.t, 0⟩) D.own (fun g hg => k2.block g (blk_lt (v := ⟨A, c, passL s q.f q.t, 0⟩) D.own hg) (h7 g hg))
    refine same_both A A' c1 c2 _ _ _ _ w' hx.row ho.row ?_
    unfold passL
    split
    · simp
    · rename_i x _ hr; exact hmax x (by rw [hr]; simp)
theorem put_any {S : Foot} {w : World} {l : Nat} {s : LS} (h : LIn S w l s) (f : Int) (A : Option Addr) (n c : Nat) (b : List Int) (HR : ∀ w' S', Moves S S' w w' → Row w' w'.heap.size A n b) (hmax : n ≤ 1000000) (hnow : s.now ≤ 1000000) (hlost : s.lost ≤ 90000000) (hbt : Bts b) (hc : n ≤ c) :
    Calls Try.prog 29 #[ptr l, .int .i64 f, .slice A n c] w fun e w' => e = .returned (.int .i64 (putR s f b).2) ∧ Hid (LNow S l (putR s f b).1 w w') := by
  have hl := (HR w S (Moves.refl S w)).len
  by_cases h6 : n < 6
  · refine (put_short f h6).mono ?_
    rintro e w' ⟨rfl, rfl⟩
    have e : putR s f b = (s, 0) := by unfold putR; rw [if_pos (by omega)]
    rw [e]
    exact ⟨rfl, cover (LNow.same h)⟩
  · obtain ⟨ad, rfl⟩ : ∃ ad, A = some ad := by
      obtain ⟨ad, _, e, _⟩ := (HR w S (Moves.refl S w)).at_ (k := 0) (by omega)
      exact ⟨ad, e⟩
    have e : putR s f b = putTo s f b (putA s b).1 (putA s b).2 := by unfold putR; rw [if_neg (by omega)]
    rw [e]
    exact put_long h f ad n c b HR hmax hnow hlost hbt (by omega) hc (putA s b).1 (putA s b).2 rfl
/-- what comes of a deed -/
def DoOut (S T : Foot) (W : World) (l r : Nat) (q : DV) (s s' : LS) (e : Ending) (w' : World) : Prop :=
  ∃ bb, e = .returned (.bool bb) ∧ Hid (s = s' → bb = true) ∧ Hid (∃ S' T', LIn S' w' l (doS s q) ∧ RIn T' w' r (doS s' q) ∧ (∀ i, S' i → ¬ T' i) ∧ Moves (fun i => S i ∨ T i) (fun i => S' i ∨ T' i) W w')
theorem Duo.done {S T : Foot} {W w : World} {l r z : Nat} {q : DV} {s s' a b : LS} (D : Duo S T W l r z q a b w) (h : Hid (doS s q = a ∧ doS s' q = b)) {bb : Bool} (hb : s = s' → bb = true) : DoOut S T W l r q s s' (.returned (.bool bb)) w := by
  obtain ⟨S', T', h1, h2, h3, h4, _⟩ := D.ex
  exact ⟨bb, rfl, cover hb, cover ⟨S', T', by rw [h.out.1]; exact h1, by rw [h.out.2]; exact h2, h3, h4⟩⟩
set_option maxRecDepth 100000 in
set_option maxHeartbeats 3200000 in
theorem do_any {S T : Foot} {W : World} {l r : Nat} {s s' : LS} (q : DV) (h : LIn S W l s) (h' : RIn T W r s') (hST : ∀ i, S i → ¬ T i) (HR : Aside S T W q) (hs : Fit s) (hs' : Fit s') (hq : DOk q) (hq2 : q.b.length ≤ 200) (hqc : q.b.length ≤ q.c) :
    Calls Try.prog 21 #[ptr l, ptr r, .agg #[.int .i64 q.what, .int .i64 q.f, .int .i64 q.t, .int .i64 q.bit, .slice q.A q.b.length q.c]] W (DoOut S T W l r q s s') := by
  have D0 : Duo S T W l r W.heap.size q s s' (W.alloc (dobj q)) := by
    have hb : Below W.heap.size W (W.alloc (dobj q)) := (Below.refl _ _).alloc (Nat.le_refl _) _
    exact ⟨⟨S, T, h.below hb, h'.below hb, hST, Moves.of_below _ hb, fun hx => by have := h.lt _ hx; omega, fun hx => by have := h'.lt _ hx; omega⟩, heap_alloc_new W _⟩
  have HH := cover (And.intro HR (And.intro hs (And.intro hs' (And.intro hq (And.intro hq2 hqc)))))
  obtain ⟨w0, hw0⟩ : ∃ w0, w0 = W.alloc (dobj q) := ⟨_, rfl⟩
  obtain ⟨z, hz⟩ : ∃ z, z = W.heap.size := ⟨_, rfl⟩
  rw [← hw0, ← hz] at D0
  have D0 := cover D0
  unfold dobj at hw0
  clear h h' hST HR hs hs' hq hq2 hqc
  by_cases c2 : q.what ≤ 2
  · as_aux_lemma =>
      have hbl : q.b.length ≤ 1000000 := by have := HH.out.2.2.2.2.1; omega
      have HD : Hid (doS s q = sendS s q.f q.t q.b ∧ doS s' q = sendS s' q.f q.t q.b) := cover ⟨by unfold doS; rw [if_pos c2], by unfold doS; rw [if_pos c2]⟩
      have hL := D0.out.onL (s2 := sendS s q.f q.t q.b) HH.out.1 (fun S' h hrow => send_any h q.f q.t q.A q.b.length q.c _ q.b (hrow _ _ (Moves.refl _ _)) (Nat.le_refl _) hbl (by have := HH.out.2.1.now; omega) (by have := HH.out.2.1.lost; omega))
      go_enter Try.func21, Try.ntmps21
      go_wp2_with fail
      rw [← hw0, ← hz]
      clear hw0 hz
      refine hL.mono ?_
      rintro e w2 ⟨rfl, D2⟩
      clear hL
      obtain ⟨d0, d1, d2, d3, d4⟩ := D2.out.cells
      have hR := D2.out.onR (s2 := sendS s' q.f q.t q.b) HH.out.1 (fun T' h hrow => rsend_any h q.f q.t q.A q.b.length q.c _ q.b (hrow _ _ (Moves.refl _ _)) (Nat.le_refl _) hbl (by have := HH.out.2.2.1.lost; omega))
      go_wp2_with fail
      refine hR.mono ?_
      rintro e w3 ⟨rfl, D3⟩
      clear hR d0 d1 d2 d3 d4
      go_wp2
      go_ret
      exact D3.out.done HD (fun e => by subst e; simp)
  · by_cases c3 : q.what = 3
    · as_aux_lemma =>
        have hbl : q.b.length ≤ 1000000 := by have := HH.out.2.2.2.2.1; omega
        have c2' : ¬ q.what ≤ 2 := c2
        have e3 : (q.what == 3) = true := by simpa using c3
        have HD : Hid (doS s q = (putR s q.f q.b).1 ∧ doS s' q = (putR s' q.f q.b).1) := cover ⟨by unfold doS; rw [if_neg c2, if_pos c3], by unfold doS; rw [if_neg c2, if_pos c3]⟩
        have hL := D0.out.onL (s2 := (putR s q.f q.b).1) HH.out.1 (fun S' h hrow => put_any h q.f q.A q.b.length q.c q.b hrow hbl (by have := HH.out.2.1.now; omega) (by have := HH.out.2.1.lost; omega) HH.out.2.2.2.1.2.2.2.2.1 HH.out.2.2.2.2.2)
        clear c3 c2
        go_enter Try.func21, Try.ntmps21
        go_wp2_with fail
        rw [← hw0, ← hz]
        clear hw0 hz
        refine hL.mono ?_
        rintro e w2 ⟨rfl, D2⟩
        clear hL
        obtain ⟨d0, d1, d2, d3, d4⟩ := D2.out.cells
        have hR := D2.out.onR (s2 := (putR s' q.f q.b).1) HH.out.1 (fun T' h hrow => rput_any h q.f q.A q.b.length q.c q.b hrow hbl (by have := HH.out.2.2.1.lost; omega) HH.out.2.2.2.1.2.2.2.2.1)
        go_wp2_with fail
        refine hR.mono ?_
        rintro e w3 ⟨rfl, D3⟩
        clear hR d0 d1 d2 d3 d4
        go_wp2
        go_ret
        exact D3.out.done HD (fun e => by subst e; simp)
    · have e3 : (q.what == 3) = false := by simpa using c3
      by_cases c6 : q.what ≤ 6
      · as_aux_lemma =>
          have HD : Hid (doS s q = passS s q.f q.t ∧ doS s' q = passS s' q.f q.t) := cover ⟨by unfold doS; rw [if_neg c2, if_neg c3, if_pos c6], by unfold doS; rw [if_neg c2, if_neg c3, if_pos c6]⟩
          have hL := D0.out.passed
          go_enter Try.func21, Try.ntmps21
          go_wp2_with fail
          rw [← hw0, ← hz]
          clear hw0 hz
          refine hL.mono ?_
          rintro e w2 ⟨A, c, rfl, D2⟩
          clear hL
          have hR := PassMid.next D2.out (fun x hx => by have := (HH.out.2.1.at_ q.f q.t x hx).1; omega)
          obtain ⟨d0, d1, d2, d3, d4⟩ := dobj_cells D2.out.box
          go_wp2_with fail
          refine hR.mono ?_
          rintro e w3 ⟨A', c', rfl, D3⟩
          clear hR d0 d1 d2 d3 d4 D2
          have hsame := D3.out.2
          have HPB : Hid (s = s' → passB s q.f q.t = passB s' q.f q.t) := cover (fun e => by rw [e])
          have HPL : Hid (s = s' → passL s q.f q.t = passL s' q.f q.t) := cover (fun e => by rw [e])
          generalize passB s q.f q.t = pa at *
          generalize passB s' q.f q.t = pb at *
          generalize passL s q.f q.t = la at *
          generalize passL s' q.f q.t = lb at *
          rcases pa with _ | _ <;> rcases pb with _ | _
          · go_wp2_with fail
            refine (hsame c c').mono ?_
            rintro e w4 ⟨rfl, d, rfl⟩
            go_wp2
            go_ret
            exact (D3.out.1.drewN d).done HD (fun e => by have := HPL.out e; simpa using this)
          · go_wp2
            go_ret
            exact D3.out.1.done HD (fun e => by have := HPB.out e; simp at this)
          · go_wp2
            go_ret
            exact D3.out.1.done HD (fun e => by have := HPB.out e; simp at this)
          · go_wp2_with fail
            refine (hsame c c').mono ?_
            rintro e w4 ⟨rfl, d, rfl⟩
            go_wp2
            go_ret
            exact (D3.out.1.drewN d).done HD (fun e => by have := HPL.out e; simpa using this)
      · by_cases c7 : q.what = 7
        · as_aux_lemma =>
            have e7 : (q.what == 7) = true := by simpa using c7
            have HD : Hid (doS s q = dropS s q.f q.t ∧ doS s' q = dropS s' q.f q.t) := cover ⟨by unfold doS; rw [if_neg c2, if_neg c3, if_neg c6, if_pos c7], by unfold doS; rw [if_neg c2, if_neg c3, if_neg c6, if_pos c7]⟩
            have hL := D0.out.onL (s2 := dropS s q.f q.t) HH.out.1 (fun S' h hrow => drop_any h q.f q.t (by have := HH.out.2.1.lost; omega))
            clear c7
            go_enter Try.func21, Try.ntmps21
            go_wp2_with fail
            rw [← hw0, ← hz]
            clear hw0 hz
            refine hL.mono ?_
            rintro e w2 ⟨rfl, D2⟩
            clear hL
            obtain ⟨d0, d1, d2, d3, d4⟩ := D2.out.cells
            have hR := D2.out.onR (s2 := dropS s' q.f q.t) HH.out.1 (fun T' h hrow => rdrop_any h q.f q.t (by have := HH.out.2.2.1.lost; omega))
            go_wp2_with fail
            refine hR.mono ?_
            rintro e w3 ⟨rfl, D3⟩
            clear hR d0 d1 d2 d3 d4
            go_wp2
            go_ret
            exact D3.out.done HD (fun e => by subst e; simp)
        · have e7 : (q.what == 7) = false := by simpa using c7
          by_cases c8 : q.what = 8
          · as_aux_lemma =>
              have e8 : (q.what == 8) = true := by simpa using c8
              have HD : Hid (doS s q = twiceS s q.f q.t ∧ doS s' q = twiceS s' q.f q.t) := cover ⟨by unfold doS; rw [if_neg c2, if_neg c3, if_neg c6, if_neg c7, if_pos c8], by unfold doS; rw [if_neg c2, if_neg c3, if_neg c6, if_neg c7, if_pos c8]⟩
              have hL := D0.out.onL (s2 := twiceS s q.f q.t) HH.out.1 (fun S' h hrow => twice_any h q.f q.t (fun x hx => by have := (HH.out.2.1.at_ q.f q.t x hx).1; omega))
              clear c8
              go_enter Try.func21, Try.ntmps21
              go_wp2_with fail
              rw [← hw0, ← hz]
              clear hw0 hz
              refine hL.mono ?_
              rintro e w2 ⟨rfl, D2⟩
              clear hL
              obtain ⟨d0, d1, d2, d3, d4⟩ := D2.out.cells
              have hR := D2.out.onR (s2 := twiceS s' q.f q.t) HH.out.1 (fun T' h hrow => rtwice_any h q.f q.t (fun x hx => by have := (HH.out.2.2.1.at_ q.f q.t x hx).1; omega))
              go_wp2_with fail
              refine hR.mono ?_
              rintro e w3 ⟨rfl, D3⟩
              clear hR d0 d1 d2 d3 d4
              go_wp2
              go_ret
              exact D3.out.done HD (fun e => by subst e; simp)
          · have e8 : (q.what == 8) = false := by simpa using c8
            by_cases c9 : q.what = 9
            · as_aux_lemma =>
                have e9 : (q.what == 9) = true := by simpa using c9
                have HD : Hid (doS s q = spoilS s q.f q.t q.bit ∧ doS s' q = spoilS s' q.f q.t q.bit) := cover ⟨by unfold doS; rw [if_neg c2, if_neg c3, if_neg c6, if_neg c7, if_neg c8, if_pos c9], by unfold doS; rw [if_neg c2, if_neg c3, if_neg c6, if_neg c7, if_neg c8, if_pos c9]⟩
                have hL := D0.out.onL (s2 := spoilS s q.f q.t q.bit) HH.out.1 (fun S' h hrow => spoil_any h q.f q.t q.bit (fun x hx => by have := HH.out.2.1.at_ q.f q.t x hx; exact ⟨by omega, this.2.1⟩))
                clear c9
                go_enter Try.func21, Try.ntmps21
                go_wp2_with fail
                rw [← hw0, ← hz]
                clear hw0 hz
                refine hL.mono ?_
                rintro e w2 ⟨rfl, D2⟩
                clear hL
                obtain ⟨d0, d1, d2, d3, d4⟩ := D2.out.cells
                have hR := D2.out.onR (s2 := spoilS s' q.f q.t q.bit) HH.out.1 (fun T' h hrow => rspoil_any h q.f q.t q.bit (fun x hx => by have := HH.out.2.2.1.at_ q.f q.t x hx; exact ⟨by omega, this.2.1⟩))
                go_wp2_with fail
                refine hR.mono ?_
                rintro e w3 ⟨rfl, D3⟩
                clear hR d0 d1 d2 d3 d4
                go_wp2
                go_ret
                exact D3.out.done HD (fun e => by subst e; simp)
            · have e9 : (q.what == 9) = false := by simpa using c9
              by_cases c10 : q.what = 10
              · as_aux_lemma =>
                  have e10 : (q.what == 10) = true := by simpa using c10
                  have HD : Hid (doS s q = ageS s ∧ doS s' q = ageS s') := cover ⟨by unfold doS; rw [if_neg c2, if_neg c3, if_neg c6, if_neg c7, if_neg c8, if_neg c9, if_pos c10], by unfold doS; rw [if_neg c2, if_neg c3, if_neg c6, if_neg c7, if_neg c8, if_neg c9, if_pos c10]⟩
                  have hL := D0.out.onL (s2 := ageS s) HH.out.1 (fun S' h hrow => age_any h (by have := HH.out.2.1.now; omega) (by have := HH.out.2.1.lost; omega))
                  clear c10
                  go_enter Try.func21, Try.ntmps21
                  go_wp2_with fail
                  rw [← hw0, ← hz]
                  clear hw0 hz
                  refine hL.mono ?_
                  rintro e w2 ⟨rfl, D2⟩
                  clear hL
                  obtain ⟨d0, d1, d2, d3, d4⟩ := D2.out.cells
                  have hR := D2.out.onR (s2 := ageS s') HH.out.1 (fun T' h hrow => rolder_any h (fun k x hx => by have := (HH.out.2.2.1.small k x hx).2.2; omega) (by have := HH.out.2.2.1.lost; omega))
                  go_wp2_with fail
                  refine hR.mono ?_
                  rintro e w3 ⟨rfl, D3⟩
                  clear hR d0 d1 d2 d3 d4
                  go_wp2
                  go_ret
                  exact D3.out.done HD (fun e => by subst e; simp)
              · as_aux_lemma =>
                  have e10 : (q.what == 10) = false := by simpa using c10
                  have HD : Hid (doS s q = cutS s q.f ∧ doS s' q = cutS s' q.f) := cover ⟨by unfold doS; rw [if_neg c2, if_neg c3, if_neg c6, if_neg c7, if_neg c8, if_neg c9, if_neg c10], by unfold doS; rw [if_neg c2, if_neg c3, if_neg c6, if_neg c7, if_neg c8, if_neg c9, if_neg c10]⟩
                  have hL := D0.out.onL (s2 := cutS s q.f) HH.out.1 (fun S' h hrow => cut_any h q.f (by have := HH.out.2.1.lost; omega))
                  go_enter Try.func21, Try.ntmps21
                  go_wp2_with fail
                  rw [← hw0, ← hz]
                  clear hw0 hz
                  refine hL.mono ?_
                  rintro e w2 ⟨rfl, D2⟩
                  clear hL
                  obtain ⟨d0, d1, d2, d3, d4⟩ := D2.out.cells
                  have hR := D2.out.onR (s2 := cutS s' q.f) HH.out.1 (fun T' h hrow => rcut_any h q.f (by have := HH.out.2.2.1.lost; omega))
                  go_wp2_with fail
                  refine hR.mono ?_
                  rintro e w3 ⟨rfl, D3⟩
                  clear hR d0 d1 d2 d3 d4
                  go_wp2
                  go_ret
                  exact D3.out.done HD (fun e => by subst e; simp)
end Go.Proofs.Ytjidhpmjdhjciaa
