/- A region that draws its order, inside a round of a range over a function: what only reads may be taken first, though calls beside it make memory and one store (operation e, which waits for all of them) turns what they read. -/
import Derived.OrdersIn
import Derived.OrdersHeld
import Derived.RangeFuncCalls
namespace Go.Proofs.Ytefbmhkchlhgnaa

section
variable {F : Fence} {n : Nat} {P : Program} {ops : Array Oper} {Q : Exit → Act → World → Prop} {md : Region.Mode} {S : World → Prop} {e : Nat}

/-- every order that may be drawn; behind each operation but e the world meets S -/
def heldIn (F : Fence) (n : Nat) (P : Program) (md : Region.Mode) (ops : Array Oper) (Q : Exit → Act → World → Prop) (S : World → Prop) (e : Nat) : Nat → Array Bool → Act → World → Prop
  | 0, listed, a, w => Region.ready md ops listed = [] ∧ Q .normal a w
  | fuel + 1, listed, a, w => (Region.ready md ops listed = [] → Q .normal a w) ∧
      ∀ i ∈ Region.ready md ops listed, wpOpIn F n P ops Q i (fun a' w' => (i = e ∨ S w') ∧ heldIn F n P md ops Q S e fuel (listed.setIfInBounds i true) a' w') a w
theorem held_any : ∀ (fuel : Nat) (listed : Array Bool) (a : Act) (w : World), heldIn F n P md ops Q S e fuel listed a w → wpAnyIn F n P md ops Q fuel listed a w
  | 0, _, _, _, h => h
  | fuel + 1, _, _, _, h => ⟨h.1, fun i hi => wpOpIn_mono (fun a' w' h' => held_any fuel _ a' w' h'.2) (h.2 i hi)⟩
/-- it reads v wherever S holds, and calls nobody -/
def Reads (P : Program) (ops : Array Oper) (S : World → Prop) (o : Oper) (v : Value) (a : Act) : Prop := YieldsIf P ops S o v a ∧ ∀ w, o.about P w a.eval = none
theorem Reads.now (hnd : ∀ (j : Nat) (o : Oper) c, ops[j]? = some o → o.op ≠ .defer c) {i : Nat} {o : Oper} {v : Value} {a : Act} (hi : ops[i]? = some o) (hy : Reads P ops S o v a) {K : Act → World → Prop} {w : World} (hS : S w) (h : K (a.put o.dst v) w) :
    wpOpIn F n P ops Q i K a w := by
  have hab : ∀ f, o.about P w a.eval = some f → F.fn f := fun f hf => by rw [hy.2 w] at hf; cases hf
  unfold wpOpIn
  simp only [hi]
  rcases hy.1 with ⟨hw, hv⟩ | ⟨hw, rfl⟩
  · simp only [hw, if_true, Oper.wpIn, Oper.semAt_eq _ _ _ (fun c => hnd i o c hi), hv w hS, Oper.uponIn]
    exact ⟨hab, h⟩
  · simp only [hw, Bool.false_eq_true, if_false]
    exact ⟨hab, h⟩
/-- another operation, ahead of it: the two do not meet -/
theorem Reads.past (hnd : ∀ (j : Nat) (o : Oper) c, ops[j]? = some o → o.op ≠ .defer c) {j : Nat} {oi oj : Oper} {v : Value} (hj : ops[j]? = some oj) (hap : oi.apart ops oj = true) (hsi : ∀ cs b, oi.op ≠ .select cs b) (hsj : ∀ cs b, oj.op ≠ .select cs b)
    (hQ : ∀ c a w, Q (.panic c) (a.put oi.dst v) w → Q (.panic c) a w) {K : Act → World → Prop} {a : Act} {w : World} (hy : Reads P ops S oi v a) (h : wpOpIn F n P ops Q j K (a.put oi.dst v) w) :
    wpOpIn F n P ops Q j (fun a' w' => Reads P ops S oi v a' ∧ K (a'.put oi.dst v) w') a w := by
  obtain ⟨p1, p2, p3⟩ := Oper.apart_spec hap
  have stay : ∀ (b : Act) (u : Value), Reads P ops S oi v b → Reads P ops S oi v (b.put oj.dst u) := fun b u hb =>
    ⟨hb.1.of_same (execOp_put oi hsi b oj.dst u p3) (wanted_put oi b oj.dst u p3), fun w => (about_put oi w b oj.dst u p3).trans (hb.2 w)⟩
  have swap : ∀ (b : Act) (u : Value), (b.put oj.dst u).put oi.dst v = (b.put oi.dst v).put oj.dst u := fun b u => (Act.put_comm b v u p2).symm
  unfold wpOpIn at h ⊢
  simp only [hj] at h ⊢
  rw [wanted_put oj a oi.dst v p1, about_put oj w a oi.dst v p1] at h
  by_cases hw : Region.wanted oj (yielded ops a.tmps) = true
  · rw [if_pos hw] at h ⊢
    unfold Oper.wpIn at h ⊢
    rw [about_put oj w a oi.dst v p1, Oper.semAt_eq _ _ _ (fun c => hnd j oj c hj), execOp_put oj hsj a oi.dst v p1] at h
    rw [Oper.semAt_eq _ _ _ (fun c => hnd j oj c hj)]
    refine ⟨h.1, ?_⟩
    replace h := h.2
    generalize (execOp a.eval oj).run P w = r at h ⊢
    rcases r with ⟨x, w1⟩ | ⟨x, w1⟩
    · cases x with
      | value u => exact ⟨stay a u hy, by rw [swap]; exact h⟩
      | skip => exact ⟨stay a undef hy, by rw [swap]; exact h⟩
      | defer d =>
        have hd : Reads P ops S oi v { a with defers := d :: a.defers } := ⟨hy.1.of_same rfl rfl, hy.2⟩
        exact ⟨stay _ undef hd, by rw [swap, ← Act.put_defers]; exact h⟩
      | enter f args =>
        refine ⟨h.1, h.2.mono fun en w2 he => ?_⟩
        cases en with
        | returned u => exact ⟨stay a u hy, by rw [swap]; exact he⟩
        | panicked c => exact hQ _ _ _ he
        | outgrown => exact he
      | row rw_ args => exact ⟨h.1, RowsIn.mono h.2 fun u w2 he => ⟨stay a u hy, by rw [swap]; exact he⟩⟩
      | round l f tmps as body =>
        refine ⟨h.1, RoundIn.mono h.2 fun en w2 he => ?_⟩
        cases en with
        | returned u => exact ⟨stay a u hy, by rw [swap]; exact he⟩
        | panicked c => exact hQ _ _ _ he
        | outgrown => exact he
      | _ => exact h
    · cases x with
      | panic u => exact hQ _ _ _ h
      | _ => exact h
  · rw [if_neg hw] at h ⊢
    exact ⟨h.1, stay a undef hy, by rw [swap]; exact h.2⟩
/-- operation i may be taken first -/
theorem held_first (hnd : ∀ (j : Nat) (o : Oper) c, ops[j]? = some o → o.op ≠ .defer c) {i : Nat} {oi : Oper} {v : Value} (hi : ops[i]? = some oi) (hsel : ∀ (j : Nat) (o : Oper) cs b, ops[j]? = some o → o.op ≠ .select cs b)
    (hwait : ∀ oe, ops[e]? = some oe → ∃ d ∈ oe.after, Region.binds md d = true ∧ d.on = i) (hQ : ∀ c a w, Q (.panic c) (a.put oi.dst v) w → Q (.panic c) a w) :
    ∀ (fuel : Nat) (listed : Array Bool) (a : Act) (w : World),
      (∀ j oj, ops[j]? = some oj → j ≠ i → listed.getD j true = false → (∀ d ∈ oj.after, Region.binds md d = true → d.on ≠ i) → oi.apart ops oj = true) →
      i ∈ Region.ready md ops listed → Reads P ops S oi v a → S w →
      heldIn F n P md ops Q S e fuel (listed.setIfInBounds i true) (a.put oi.dst v) w → heldIn F n P md ops Q S e (fuel + 1) listed a w
  | fuel, listed, a, w, hfree, hr, hy, hS, H => by
    refine ⟨fun h0 => absurd (h0 ▸ hr) (by simp), fun j hj => ?_⟩
    rcases Decidable.em (j = i) with rfl | hji
    · exact hy.now hnd hi hS ⟨.inr hS, H⟩
    obtain ⟨hjun, oj, hoj, hall⟩ := mem_ready.1 hj
    have hun : ∀ d ∈ oj.after, Region.binds md d = true → d.on ≠ i := fun d hd hb he => by
      have h1 := hall d hd hb
      have h0 := (mem_ready.1 hr).1
      rw [he] at h1
      by_cases hs : i < listed.size
      · simp [hs] at h0 h1; simp [h0] at h1
      · simp [Array.getElem?_eq_none (Nat.le_of_not_lt hs)] at h1
    have hje : j ≠ e := fun he => by
      subst he
      obtain ⟨d, hd, hb, ho⟩ := hwait oj hoj
      exact hun d hd hb ho
    match fuel, H with
    | 0, H =>
      have := ready_mono hj hji
      rw [H.1] at this; cases this
    | fuel + 1, H =>
      refine wpOpIn_mono (fun a' w' h3 => ?_) (Reads.past hnd hoj (hfree j oj hoj hji hjun hun) (fun cs b => hsel i oi cs b hi) (fun cs b => hsel j oj cs b hoj) hQ hy (H.2 j (ready_mono hj hji)))
      have hS' : S w' := h3.2.1.resolve_left hje
      refine ⟨.inr hS', held_first hnd hi hsel hwait hQ fuel _ a' w' (fun k ok hk hki hkun hno => hfree k ok hk hki ?_ hno) (ready_mono hr (Ne.symm hji)) h3.1 hS' ?_⟩
      · rcases Decidable.em (j = k) with rfl | hjk
        · exact hjun
        · rwa [getD_set_ne true hjk] at hkun
      · rw [Array.setIfInBounds_comm _ _ hji]; exact h3.2.2
end

/-- does no operation defer? do all but e itself go ahead of e? -/
def noDefer (ops : Array Oper) : Bool := ops.all fun o => match o.op with | .defer _ => false | _ => true
def waits (md : Region.Mode) (ops : Array Oper) (e i : Nat) : Bool := match ops[e]? with | none => true | some oe => oe.after.any fun d => Region.binds md d && d.on == i
theorem noDefer_spec {ops : Array Oper} (h : noDefer ops = true) : ∀ (j : Nat) (o : Oper) c, ops[j]? = some o → o.op ≠ .defer c := fun j o c hj he => by
  unfold noDefer at h
  rw [Array.all_eq_true] at h
  obtain ⟨hl, rfl⟩ := Array.getElem?_eq_some_iff.1 hj
  have := h j hl
  rw [he] at this; cases this
theorem waits_spec {md : Region.Mode} {ops : Array Oper} {e i : Nat} (h : waits md ops e i = true) : ∀ oe, ops[e]? = some oe → ∃ d ∈ oe.after, Region.binds md d = true ∧ d.on = i := fun oe he => by
  unfold waits at h
  rw [he] at h
  simp only [Array.any_eq_true, Bool.and_eq_true, beq_iff_eq] at h
  obtain ⟨k, hk, h1, h2⟩ := h
  exact ⟨_, Array.getElem_mem hk, h1, h2⟩
section
variable {F : Fence} {n : Nat} {P : Program} {ops : Array Oper} {Q : Exit → Act → World → Prop} {md : Region.Mode} {S : World → Prop} {e : Nat}
/-- the moves of a walk: take one that reads first -/
theorem held_take (i : Nat) {oi : Oper} (v : Value) {fuel : Nat} {listed : Array Bool} {a : Act} {w : World} (hi : ops[i]? = some oi) (hnd : noDefer ops = true) (hs : Region.noSelect ops = true) (hf : Region.free md ops listed i = true)
    (hr : (Region.ready md ops listed).contains i = true) (hw : waits md ops e i = true) (hQ : ∀ c a w, Q (.panic c) (a.put oi.dst v) w → Q (.panic c) a w)
    (hwant : Region.wanted oi (yielded ops a.tmps) = true) (hab : ∀ w, oi.about P w a.eval = none) (hS : S w) (hy : ∀ w, S w → (execOp a.eval oi).run P w = .ok (.value v) w)
    (h : heldIn F n P md ops Q S e fuel (listed.setIfInBounds i true) (a.put oi.dst v) w) : heldIn F n P md ops Q S e (fuel + 1) listed a w :=
  held_first (noDefer_spec hnd) hi (Region.noSelect_spec hs) (waits_spec hw) hQ fuel listed a w (Region.free_spec hi hf) (by simpa using hr) ⟨.inl ⟨hwant, hy⟩, hab⟩ hS h
/-- the one that may come up now -/
theorem held_one (i : Nat) {oi : Oper} {fuel : Nat} {listed : Array Bool} {a : Act} {w : World} (hr : Region.ready md ops listed = [i]) (hi : ops[i]? = some oi) (hwant : Region.wanted oi (yielded ops a.tmps) = true)
    (h : ∀ K : Act → World → Prop, (∀ a' w', (i = e ∨ S w') → heldIn F n P md ops Q S e fuel (listed.setIfInBounds i true) a' w' → K a' w') → oi.wpIn F n P a w K Q) : heldIn F n P md ops Q S e (fuel + 1) listed a w := by
  refine ⟨fun h0 => (by rw [hr] at h0; cases h0), fun j hj => ?_⟩
  rw [hr] at hj
  obtain rfl : j = i := by simpa using hj
  unfold wpOpIn
  simp only [hi, hwant, if_true]
  exact h _ (fun a' w' h1 h2 => ⟨h1, h2⟩)
theorem held_done {listed : Array Bool} {a : Act} {w : World} (hr : Region.ready md ops listed = []) (h : Q .normal a w) : ∀ fuel, heldIn F n P md ops Q S e fuel listed a w
  | 0 => ⟨hr, h⟩
  | _ + 1 => ⟨fun _ => h, by rw [hr]; simp⟩
theorem held_begin (S : World → Prop) (e : Nat) {id : Nat} {a : Act} {w : World} (hm : P.follows .mixedOrders = true) (h : heldIn F n P .any ops Q S e ops.size (Array.replicate ops.size false) a w.drew) : (Code.region id ops true).wpIn F n P Q a w :=
  wpIn_region_any hm (held_any _ _ _ _ h)
/-! the same moves, the operation written out (so that what it yields is laid into the frame at once) -/
theorem of_drop {i : Nat} {oi : Oper} {rest : List Oper} (h : ops.toList.drop i = oi :: rest) : ops[i]? = some oi := by
  have h1 : (ops.toList.drop i)[0]? = some oi := by rw [h]; rfl
  rw [List.getElem?_drop] at h1
  simpa using h1
theorem hold_take (i : Nat) {oi : Oper} (v : Value) {rest : List Oper} {fuel : Nat} {listed : Array Bool} {a : Act} {w : World} (hi : ops.toList.drop i = oi :: rest) (hnd : noDefer ops = true) (hs : Region.noSelect ops = true) (hf : Region.free md ops listed i = true)
    (hr : (Region.ready md ops listed).contains i = true) (hw : waits md ops e i = true) (hQ : ∀ c a w, Q (.panic c) (a.put oi.dst v) w → Q (.panic c) a w)
    (hwant : Region.wanted oi (yielded ops a.tmps) = true) (hab : ∀ w, oi.about P w a.eval = none) (hS : S w) (hy : ∀ w, S w → (execOp a.eval oi).run P w = .ok (.value v) w)
    (h : heldIn F n P md ops Q S e fuel (listed.setIfInBounds i true) (a.put oi.dst v) w) : heldIn F n P md ops Q S e (fuel + 1) listed a w :=
  held_take i v (of_drop hi) hnd hs hf hr hw hQ hwant hab hS hy h
/-- one that is not wanted -/
theorem hold_skip (i : Nat) {oi : Oper} {rest : List Oper} {fuel : Nat} {listed : Array Bool} {a : Act} {w : World} (hi : ops.toList.drop i = oi :: rest) (hnd : noDefer ops = true) (hs : Region.noSelect ops = true) (hf : Region.free md ops listed i = true)
    (hr : (Region.ready md ops listed).contains i = true) (hw : waits md ops e i = true) (hQ : ∀ c a w, Q (.panic c) (a.put oi.dst undef) w → Q (.panic c) a w)
    (hwant : Region.wanted oi (yielded ops a.tmps) = false) (hab : ∀ w, oi.about P w a.eval = none) (hS : S w)
    (h : heldIn F n P md ops Q S e fuel (listed.setIfInBounds i true) (a.put oi.dst undef) w) : heldIn F n P md ops Q S e (fuel + 1) listed a w :=
  held_first (noDefer_spec hnd) (of_drop hi) (Region.noSelect_spec hs) (waits_spec hw) hQ fuel listed a w (Region.free_spec (of_drop hi) hf) (by simpa using hr) ⟨.inr ⟨hwant, rfl⟩, hab⟩ hS h
theorem hold_one (i : Nat) {oi : Oper} {rest : List Oper} {fuel : Nat} {listed : Array Bool} {a : Act} {w : World} (hr : Region.ready md ops listed = [i]) (hi : ops.toList.drop i = oi :: rest) (hwant : Region.wanted oi (yielded ops a.tmps) = true)
    (h : ∀ K : Act → World → Prop, (∀ a' w', (i = e ∨ S w') → heldIn F n P md ops Q S e fuel (listed.setIfInBounds i true) a' w' → K a' w') → oi.wpIn F n P a w K Q) : heldIn F n P md ops Q S e (fuel + 1) listed a w :=
  held_one i hr (of_drop hi) hwant h
/-- the one that may come up now is not wanted -/
theorem hold_pass (i : Nat) {oi : Oper} {rest : List Oper} {fuel : Nat} {listed : Array Bool} {a : Act} {w : World} (hr : Region.ready md ops listed = [i]) (hi : ops.toList.drop i = oi :: rest) (hwant : Region.wanted oi (yielded ops a.tmps) = false)
    (hab : ∀ f, oi.about P w a.eval = some f → F.fn f) (hS : S w) (h : heldIn F n P md ops Q S e fuel (listed.setIfInBounds i true) (a.put oi.dst undef) w) : heldIn F n P md ops Q S e (fuel + 1) listed a w := by
  refine ⟨fun h0 => (by rw [hr] at h0; cases h0), fun j hj => ?_⟩
  rw [hr] at hj
  obtain rfl : j = i := by simpa using hj
  unfold wpOpIn
  simp only [of_drop hi, hwant, Bool.false_eq_true, if_false]
  exact ⟨hab, .inr hS, h⟩
end
end Go.Proofs.Ytefbmhkchlhgnaa
