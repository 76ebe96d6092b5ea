/- A range over a function, in own words: one round; the statement at an outermost loop; what an iterator's caller and its rounds owe one another. -/
import Derived.RangeFuncCalls
import Derived.RangeFuncLeaves
import Derived.Shelf.Abstract
import Derived.Test.YtdjfnhplbhhgiaaQMem
namespace Go.Proofs.Ytdjfnhplbhhgiaa
open Go.RowKit Go.Shelf

/-- a loop's record at some stage -/
def lrec (fn : FuncId) (tmps : Array Value) (ps : Array Tmp) (assign body : Code) (D : Nat) (st : LoopState) (pe : Option Code) : Obj :=
  .loop { state := st, pending := pe, fn := fn, tmps := tmps, params := ps, assign := assign, body := body, defers := D }

/-- how a round's body may be left: the record is busy still; what holds behind the round -/
def roundOut (l : Nat) (Rc : LoopState → Option Code → Obj) (R : Bool → Option Code → World → Prop) : Exit → Act → World → Prop
  | .normal, _, W => W.heap[l]? = some (Rc .busy none) ∧ R true none (W.putObj l (Rc .ready none))
  | .ret, _, W => W.heap[l]? = some (Rc .busy none) ∧ R false (some .ret) (W.putObj l (Rc .done (some .ret)))
  | .exit id, _, W => W.heap[l]? = some (Rc .busy none) ∧ R false (some (.exit id)) (W.putObj l (Rc .done (some (.exit id))))
  | .goto t, _, W => W.heap[l]? = some (Rc .busy none) ∧ R false (some (.goto t)) (W.putObj l (Rc .done (some (.goto t))))
  | .panic _, _, _ => False
  | .outgrown, _, _ => False

section
variable {F : Fence} {n m : Nat} {P : Program}
/-- one round, out of its body's walk -/
theorem round_own {l : Nat} {args : Array Value} {W : World} {fn : FuncId} {tmps : Array Value} {ps : Array Tmp} {assign body : Code} {D : Nat} {R : Ending → World → Prop} (Rc : LoopState → Option Code → Obj) (R' : Bool → Option Code → World → Prop)
    (hRc : Rc = lrec fn tmps ps assign body D) (hF : F.fn fn) (hl : W.heap[l]? = some (Rc .ready none)) (hs : args.size = ps.size)
    (h : assign.wpIn (F.inRound l) m P (Exit.then (fun a1 w1 => w1.heap[l]? = some (Rc .ready none) ∧
        body.wpIn (F.inRound l) m P (roundOut l Rc R') a1 (w1.putObj l (Rc .busy none))) (fun _ _ _ => False))
      { tmps := (ps.zip args).foldl (fun t (p, v) => t.setIfInBounds p v) tmps, defers := [] } W)
    (hR : ∀ b c W', R' b c W' → R (.returned (.bool b)) W') : YieldAt F m P l args W R := by
  subst hRc
  refine ⟨fn, _, assign, body, run_yield hl hs, roundIn_of_wpIn hF (wpIn_mono h ?_)⟩
  intro e a w1 hq
  cases e with
  | normal =>
    obtain ⟨h1, h2⟩ := hq
    refine ⟨_, run_beginRound h1 rfl, wpIn_mono h2 ?_⟩
    intro e a w2 hp
    cases e with
    | normal => exact ⟨_, _, run_endRound none hp.1, hR _ _ _ hp.2⟩
    | ret => exact ⟨_, _, run_endRound (some .ret) hp.1, hR _ _ _ hp.2⟩
    | exit id => exact ⟨_, _, run_endRound (some (.exit id)) hp.1, hR _ _ _ hp.2⟩
    | goto t => exact ⟨_, _, run_endRound (some (.goto t)) hp.1, hR _ _ _ hp.2⟩
    | panic c => exact hp.elim
    | outgrown => exact hp.elim
  | ret => exact hq.elim
  | exit id => exact hq.elim
  | goto t => exact hq.elim
  | panic c => exact hq.elim
  | outgrown => exact hq.elim

/-- the statement, at an outermost loop: the function ranged over, called with a yield of the loop just laid -/
theorem range_outer {gv : Operand} {ps : Array Tmp} {assign body : Code} {Q : Exit → Act → World → Prop} {a : Act} {w : World}
    (hro : F.round = none) (h1 : 1 ≤ n) {gf : Nat} {ba lb : Array Value} (hg : a.eval gv = .func (.func gf) ba lb) (hFg : F.fn gf) (eg : ∀ args w, (callFunc gf args).run P w = .ok (.enter gf args) w)
    (J : World → Prop) (Jx : Code → World → Prop)
    (hit : ∀ fn Rc W, F.fn fn → Rc = lrec fn a.tmps ps assign body w.heap.size → W = (w.alloc (.deferred (some []))).alloc (Rc .ready none) →
      CallsIn F (n - 1) P gf (ba ++ #[.func (.yield (w.heap.size + 1)) #[] #[]] ++ lb) W fun e W' => (∃ v, e = .returned v) ∧ W'.heap[w.heap.size]? = some (.deferred (some [])) ∧
        ((W'.heap[w.heap.size + 1]? = some (Rc .ready none) ∧ J W') ∨ ∃ c, W'.heap[w.heap.size + 1]? = some (Rc .done (some c)) ∧ Jx c W'))
    (hdone : ∀ o W, J W → W.heap[w.heap.size]? = some (.deferred (some [])) → Q .normal { a with defers := { target := .collected w.heap.size, args := #[] } :: a.defers } (W.putObj (w.heap.size + 1) o))
    (hstop : ∀ o c W, Jx c W → W.heap[w.heap.size]? = some (.deferred (some [])) → c.wpIn F n P Q { a with defers := { target := .collected w.heap.size, args := #[] } :: a.defers } (W.putObj (w.heap.size + 1) o)) :
    (Code.rangeFunc gv ps assign body).wpIn F n P Q a w := by
  refine wpIn_rangeFunc fun fn hfn => ?_
  rw [hro]
  obtain ⟨W1, hW1⟩ : ∃ W1, W1 = (w.alloc (.deferred (some []))).alloc (lrec fn a.tmps ps assign body w.heap.size .ready none) := ⟨_, rfl⟩
  refine ⟨w.heap.size + 1, _, W1, { target := .fn (.func gf) lb, args := ba ++ #[.func (.yield (w.heap.size + 1)) #[] #[]] }, W1, gf, (ba ++ #[.func (.yield (w.heap.size + 1)) #[] #[]]) ++ lb, W1,
    (by rw [hW1]; exact run_enterLoop_outer _ _ _ _ _), ?_, ?_, ?_, fun _ => h1, ?_⟩
  · simp only [resolve, hg]
    simp [go_sem]
  · intro f' hf'; simp [Target.leads] at hf'; subst hf'; exact hFg
  · simp [invoke, go_sem, eg]
  · refine (hit fn _ _ hfn rfl hW1).mono ?_
    rintro e W2 ⟨⟨v, rfl⟩, hD, ⟨hl, hJ⟩ | ⟨c, hl, hJ⟩⟩
    · exact ⟨none, _, run_endLoop hl (by simp), hdone _ W2 hJ hD⟩
    · exact ⟨some c, _, run_endLoop hl (by simp), hstop _ c W2 hJ hD⟩
end

theorem yield_any {k : Nat} {P : Program} {l : Nat} {args : Array Value} {W : World} {R : Ending → World → Prop} (h : YieldAt Fence.wide k P l args W R) (m : Nat) : YieldAt Fence.wide m P l args W R := by
  obtain ⟨fn, tmps, c1, c2, hy, hF, hr⟩ := h
  exact ⟨fn, tmps, c1, c2, hy, hF, fun c cs _ => hr c cs (room_wide _)⟩
theorem turned_put {L : List Nat} {a b : World} (h : Turned L a b) {l : Nat} (hl : l ∈ L) (o : Obj) : Turned L a (b.putObj l o) :=
  ⟨h.os, h.tape, h.output, by simpa using h.size, fun k hk hn => (World.putObj_heap_other (fun e => hn (by rw [e]; exact hl))).trans (h.block k hk hn)⟩
theorem below_put {B : Nat} {a b : World} (h : Below B a b) {l : Nat} (hl : B ≤ l) (o : Obj) : Below B a (b.putObj l o) :=
  ⟨h.os, h.tape, h.output, by simpa using h.size, fun k hk => (World.putObj_heap_other (by omega)).trans (h.block k hk)⟩
end Go.Proofs.Ytdjfnhplbhhgiaa
