/- A region that draws its order and some of whose operations make memory or call, in whatever order: each of them is run once, from what it waits for alone, and behind all of them the walk goes on with one frame. -/
import Derived.Test.YtgpmimohoepeiaaFHeld
namespace Go.Proofs.Ytgpmimohoepeiaa
set_option linter.unusedVariables false
set_option linter.unusedSimpArgs false

/-- the frame whose slots of the net hold u -/
def upd (a : Act) (net : List (Nat × Nat)) (u : Nat → Value) : Act := { a with tmps := net.foldl (fun t x => t.setIfInBounds x.2 (u x.2)) a.tmps }
theorem fold_size (u : Nat → Value) : ∀ (net : List (Nat × Nat)) (t : Array Value), (net.foldl (fun t x => t.setIfInBounds x.2 (u x.2)) t).size = t.size
  | [], _ => rfl
  | x :: net, t => by rw [List.foldl_cons, fold_size u net]; simp
theorem fold_get (u : Nat → Value) (j : Nat) : ∀ (net : List (Nat × Nat)) (t : Array Value), (net.foldl (fun t x => t.setIfInBounds x.2 (u x.2)) t)[j]? = if j ∈ net.map (·.2) ∧ j < t.size then some (u j) else t[j]?
  | [], t => by simp
  | x :: net, t => by
    rw [List.foldl_cons, fold_get u j net]
    by_cases h1 : j ∈ net.map (·.2)
    · simp [h1]
      by_cases h2 : j < t.size
      · simp [h2]
      · simp [h2, Array.getElem?_eq_none (Nat.le_of_not_lt h2)]
    · by_cases h2 : x.2 = j
      · subst h2
        by_cases h3 : x.2 < t.size
        · simp [h1, h3]
        · simp [h1, h3]
      · simp [h1, Array.getElem?_setIfInBounds_ne h2, Ne.symm h2]
theorem upd_get (a : Act) (net : List (Nat × Nat)) (u : Nat → Value) (j : Nat) : (upd a net u).tmps[j]? = if j ∈ net.map (·.2) ∧ j < a.tmps.size then some (u j) else a.tmps[j]? := fold_get u j net a.tmps
theorem act_ext {a b : Act} (h : ∀ j : Nat, a.tmps[j]? = b.tmps[j]?) (hd : a.defers = b.defers) : a = b := by
  cases a; cases b
  have := Array.ext_getElem? h
  simp only at this hd
  subst this; subst hd; rfl
theorem upd_self (a : Act) (net : List (Nat × Nat)) : upd a net (fun k => a.tmps.getD k undef) = a := by
  refine act_ext (fun j => ?_) rfl
  rw [upd_get]
  split
  · rename_i h
    simp [h.2]
  · rfl
theorem upd_put (a : Act) (net : List (Nat × Nat)) (u : Nat → Value) {x : Nat × Nat} (hx : x ∈ net) (v : Value) : (upd a net u).put (some x.2) v = upd a net (fun k => if k = x.2 then v else u k) := by
  refine act_ext (fun j => ?_) rfl
  have hs : (upd a net u).tmps.size = a.tmps.size := fold_size u net a.tmps
  show ((upd a net u).tmps.setIfInBounds x.2 v)[j]? = _
  rw [upd_get, Array.getElem?_setIfInBounds, upd_get, hs]
  have hm : x.2 ∈ net.map (·.2) := List.mem_map_of_mem hx
  by_cases h : x.2 = j
  · subst h
    by_cases h3 : x.2 < a.tmps.size
    · simp [hm, h3]
    · simp [h3]
  · rw [if_neg h, if_neg (Ne.symm h)]

/-- which operations of the net does operation i wait for? -/
def depsOn (md : Region.Mode) (ops : Array Oper) (net : List (Nat × Nat)) (i : Nat) : List Nat :=
  match ops[i]? with
  | none => []
  | some o => (net.map (·.1)).filter fun j => o.after.any fun d => Region.binds md d && d.on == j
/-- and what those wait for, and so on -/
def cloN (md : Region.Mode) (ops : Array Oper) (net : List (Nat × Nat)) : Nat → List Nat → List Nat
  | 0, l => l
  | k + 1, l => cloN md ops net k ((l ++ l.flatMap (depsOn md ops net)).eraseDups)
/-- the net's operations wait for one another and for what was listed ahead; all others wait for all of the net -/
def netOk (md : Region.Mode) (ops : Array Oper) (L0 L1 : Array Bool) (net : List (Nat × Nat)) : Bool :=
  (net.all fun x => decide (x.1 < ops.size)) && L0.size == ops.size && L1.size == ops.size && decide (net.map (·.2)).Nodup &&
  (List.range ops.size).all fun i => match ops[i]? with
    | none => false
    | some o =>
      if (net.map (·.1)).contains i then !L0.getD i true && L1.getD i false && o.guard.isNone && (net.all fun x => x.1 != i || o.dst == some x.2) && o.after.all fun d => !Region.binds md d || (decide (d.on < i) && ((net.map (·.1)).contains d.on || L0.getD d.on false))
      else L0.getD i true == L1.getD i true && (L0.getD i true || net.all fun x => (cloN md ops net net.length (depsOn md ops net i)).contains x.1)

section
variable {F : Fence} {n : Nat} {P : Program} {ops : Array Oper} {Q : Exit → Act → World → Prop} {md : Region.Mode} {S : World → Prop} {e : Nat}
theorem mem_depsOn {net : List (Nat × Nat)} {i j : Nat} : j ∈ depsOn md ops net i ↔ ∃ o, ops[i]? = some o ∧ j ∈ net.map (·.1) ∧ ∃ d ∈ o.after, Region.binds md d = true ∧ d.on = j := by
  unfold depsOn
  cases ops[i]? with
  | none => simp
  | some o =>
    simp only [List.mem_filter, Array.any_eq_true, Bool.and_eq_true, beq_iff_eq, Option.some.injEq, exists_eq_left']
    constructor
    · rintro ⟨h1, k, hk, h2, h3⟩
      exact ⟨h1, _, Array.getElem_mem hk, h2, h3⟩
    · rintro ⟨h1, d, hd, h2, h3⟩
      obtain ⟨k, hk, rfl⟩ := Array.getElem_of_mem hd
      exact ⟨h1, k, hk, h2, h3⟩
theorem cloN_listed {net : List (Nat × Nat)} {listed : Array Bool} (hid : ∀ i ∈ net.map (·.1), listed.getD i false = true → ∀ j ∈ depsOn md ops net i, listed.getD j false = true) :
    ∀ (k : Nat) (l : List Nat), (∀ i ∈ l, i ∈ net.map (·.1) ∧ listed.getD i false = true) → ∀ i ∈ cloN md ops net k l, listed.getD i false = true
  | 0, l, h, i, hi => (h i hi).2
  | k + 1, l, h, i, hi => by
    refine cloN_listed hid k _ (fun j hj => ?_) i hi
    rw [List.mem_eraseDups, List.mem_append, List.mem_flatMap] at hj
    rcases hj with hj | ⟨m, hm, hj⟩
    · exact h j hj
    · exact ⟨by obtain ⟨o, _, h2, _⟩ := mem_depsOn.1 hj; exact h2, hid m (h m hm).1 (h m hm).2 j hj⟩
theorem getD_bool {l : Array Bool} {i : Nat} (h : i < l.size) (a b : Bool) : l.getD i a = l.getD i b := by simp [h]
theorem set_getD_same {l : Array Bool} {i : Nat} (h : i < l.size) (d : Bool) : (l.setIfInBounds i true).getD i d = true := by simp [h]

theorem nodup_snd {net : List (Nat × Nat)} (h : (net.map (·.2)).Nodup) {x y : Nat × Nat} (hx : x ∈ net) (hy : y ∈ net) (e : x.2 = y.2) : x = y := by
  induction net with
  | nil => cases hx
  | cons z net ih =>
    rw [List.map_cons, List.nodup_cons] at h
    rcases List.mem_cons.1 hx with rfl | hx'
    · rcases List.mem_cons.1 hy with rfl | hy'
      · rfl
      · exact (h.1 (by rw [e]; exact List.mem_map_of_mem hy')).elim
    · rcases List.mem_cons.1 hy with rfl | hy'
      · exact (h.1 (by rw [← e]; exact List.mem_map_of_mem hx')).elim
      · exact ih h.2 hx' hy'
theorem count_one {net : List (Nat × Nat)} {p q : Nat × Nat → Bool} {x : Nat × Nat} (h : (net.map (·.2)).Nodup) (hx : x ∈ net) (hp : p x = true) (hq : q x = false) (hs : ∀ y ∈ net, y ≠ x → q y = p y) : (net.filter p).length = (net.filter q).length + 1 := by
  induction net with
  | nil => cases hx
  | cons z net ih =>
    rw [List.map_cons, List.nodup_cons] at h
    rcases List.mem_cons.1 hx with rfl | hx'
    · rw [List.filter_cons_of_pos hp, List.filter_cons_of_neg (by rw [hq]; simp), List.length_cons]
      have : net.filter p = net.filter q := List.filter_congr (fun y hy => (hs y (List.mem_cons_of_mem _ hy) (fun e => h.1 (by rw [← e]; exact List.mem_map_of_mem hy))).symm)
      rw [this]
    · have hzx : z ≠ x := fun e => h.1 (by rw [e]; exact List.mem_map_of_mem hx')
      have hz := hs z List.mem_cons_self hzx
      have hi := ih h.2 hx' (fun y hy hne => hs y (List.mem_cons_of_mem _ hy) hne)
      rcases hpz : p z with _ | _
      · rw [List.filter_cons_of_neg (by rw [hpz]; simp), List.filter_cons_of_neg (by rw [hz, hpz]; simp)]; exact hi
      · rw [List.filter_cons_of_pos hpz, List.filter_cons_of_pos (by rw [hz, hpz]), List.length_cons, List.length_cons, hi]

theorem net_law (net : List (Nat × Nat)) (V : Nat → Value → World → Prop) (R : World → World → Prop) (L0 L1 : Array Bool) (k : Nat) (a0 : Act) (w0 : World)
    (hchk : netOk md ops L0 L1 net = true) (hS : S w0) (hst : ∀ i v w w', R w w' → V i v w → V i v w')
    (hrun : ∀ x ∈ net, ∀ o, ops[x.1]? = some o → ∀ u w, S w → (∀ y ∈ net, (depsOn md ops net x.1).contains y.1 = true → V y.1 (u y.2) w) →
      o.wpIn F n P (upd a0 net u) w (fun a' w' => ∃ v, a' = (upd a0 net u).put (some x.2) v ∧ S w' ∧ V x.1 v w' ∧ R w w') Q)
    (hend : ∀ u w, S w → (∀ x ∈ net, V x.1 (u x.2) w) → heldIn F n P md ops Q S e k L1 (upd a0 net u) w) :
    heldIn F n P md ops Q S e (net.length + k) L0 a0 w0 := by
  unfold netOk at hchk
  simp only [Bool.and_eq_true, beq_iff_eq, decide_eq_true_eq, List.all_eq_true, List.mem_range] at hchk
  obtain ⟨⟨⟨⟨hz, hz0⟩, hz1⟩, hnd⟩, hall⟩ := hchk
  have hmem : ∀ x ∈ net, x.1 ∈ net.map (·.1) := fun x hx => List.mem_map_of_mem hx
  -- what the check says of an operation of the net, and of another one
  have hin : ∀ i o, ops[i]? = some o → i ∈ net.map (·.1) → L0.getD i true = false ∧ L1.getD i false = true ∧ o.guard = none ∧ (∀ x ∈ net, x.1 = i → o.dst = some x.2) ∧ ∀ d ∈ o.after, Region.binds md d = true → d.on < i ∧ (d.on ∈ net.map (·.1) ∨ L0.getD d.on false = true) := by
    intro i o ho hi
    have h := hall i (Array.getElem?_eq_some_iff.1 ho).1
    simp only [ho] at h
    rw [if_pos (by simpa using hi)] at h
    simp only [Bool.and_eq_true, Bool.not_eq_true', Option.isNone_iff_eq_none, List.all_eq_true, Bool.or_eq_true, bne_iff_ne, beq_iff_eq, Array.all_eq_true_iff_forall_mem, decide_eq_true_eq, List.contains_iff_mem] at h
    obtain ⟨⟨⟨⟨h1, h2⟩, h3⟩, h4⟩, h5⟩ := h
    exact ⟨h1, h2, h3, fun x hx hxi => (h4 x hx).resolve_left (fun h => h hxi), fun d hd hb => (h5 d hd).resolve_left (by rw [hb]; simp)⟩
  have hout : ∀ i o, ops[i]? = some o → i ∉ net.map (·.1) → L0.getD i true = L1.getD i true ∧ (L0.getD i true = true ∨ ∀ x ∈ net, x.1 ∈ cloN md ops net net.length (depsOn md ops net i)) := by
    intro i o ho hi
    have h := hall i (Array.getElem?_eq_some_iff.1 ho).1
    simp only [ho] at h
    rw [if_neg (by simpa using hi)] at h
    simp only [Bool.and_eq_true, beq_iff_eq, Bool.or_eq_true, List.all_eq_true, List.contains_iff_mem] at h
    exact h
  have hops : ∀ i ∈ net.map (·.1), i < ops.size → ∃ o, ops[i]? = some o := fun i _ h => ⟨_, Array.getElem?_eq_getElem h⟩
  suffices H : ∀ (m : Nat) (listed : Array Bool) (a : Act) (w : World), (net.filter fun x => !listed.getD x.1 true).length = m → listed.size = ops.size → (∀ i, i ∉ net.map (·.1) → listed.getD i true = L0.getD i true) →
      (∀ i ∈ net.map (·.1), listed.getD i false = true → ∀ j ∈ depsOn md ops net i, listed.getD j false = true) →
      (∃ u, a = upd a0 net u ∧ ∀ x ∈ net, listed.getD x.1 false = true → V x.1 (u x.2) w) → S w → heldIn F n P md ops Q S e (m + k) listed a w by
    have hb : ∀ x ∈ net, x.1 < ops.size → L0.getD x.1 true = false := fun x hx h => by
      obtain ⟨o, ho⟩ := hops x.1 (hmem x hx) h
      exact (hin x.1 o ho (hmem x hx)).1
    have hlt : ∀ x ∈ net, L0.getD x.1 false = true → False := fun x hx h => by
      have h1 := hb x hx (hz x hx)
      rw [getD_bool (by have := hz x hx; omega) true false] at h1
      rw [h1] at h; cases h
    have hc : (net.filter fun x => !L0.getD x.1 true).length = net.length := by
      rw [List.filter_eq_self.2 (fun x hx => by rw [hb x hx (hz x hx)]; rfl)]
    exact H net.length L0 a0 w0 hc hz0 (fun _ _ => rfl) (fun i hi h => by obtain ⟨x, hx, rfl⟩ := List.mem_map.1 hi; exact (hlt x hx h).elim) ⟨_, (upd_self a0 net).symm, fun x hx h => (hlt x hx h).elim⟩ hS
  intro m
  induction m with
  | zero =>
    intro listed a w hm hsz hsame hid ⟨u, ha, hV⟩ hS'
    have hl : ∀ x ∈ net, listed.getD x.1 true = true := by
      rw [List.length_eq_zero_iff, List.filter_eq_nil_iff] at hm
      intro x hx
      have := hm x hx
      simpa using this
    have hL : listed = L1 := by
      refine Array.ext (by omega) (fun i h1 h2 => ?_)
      have e1 : listed[i] = listed.getD i true := by simp [h1]
      have e2 : L1[i] = L1.getD i true := by simp [h2]
      rw [e1, e2]
      obtain ⟨o, ho⟩ : ∃ o, ops[i]? = some o := ⟨_, Array.getElem?_eq_getElem (by omega)⟩
      by_cases hi : i ∈ net.map (·.1)
      · obtain ⟨x, hx, rfl⟩ := List.mem_map.1 hi
        rw [hl x hx, getD_bool h2 true false, (hin x.1 o ho hi).2.1]
      · rw [hsame i hi, (hout i o ho hi).1]
    subst hL
    rw [Nat.zero_add, ha]
    exact hend u w hS' (fun x hx => hV x hx (by rw [getD_bool (by have := hz x hx; omega) false true]; exact hl x hx))
  | succ m ih =>
    intro listed a w hm hsz hsame hid ⟨u, ha, hV⟩ hS'
    rw [show m + 1 + k = (m + k) + 1 by omega]
    have hcov : ∀ i o, ops[i]? = some o → i ∉ net.map (·.1) → i ∈ Region.ready md ops listed → False := by
      intro i o ho hi hr
      obtain ⟨hun, o', ho', hall'⟩ := mem_ready.1 hr
      rw [ho] at ho'; injection ho' with ho'; subst ho'
      rw [hsame i hi] at hun
      have hc := (hout i o ho hi).2.resolve_left (by rw [hun]; simp)
      have hcl := cloN_listed (md := md) (ops := ops) hid net.length (depsOn md ops net i) (fun j hj => by
        obtain ⟨o2, ho2, h2, d, hd, hb, rfl⟩ := mem_depsOn.1 hj
        rw [ho] at ho2; injection ho2 with ho2; subst ho2
        exact ⟨h2, hall' d hd hb⟩)
      have : (net.filter fun x => !listed.getD x.1 true) = [] := by
        rw [List.filter_eq_nil_iff]
        intro x hx
        have := hcl x.1 (hc x hx)
        rw [getD_bool (by have := hz x hx; omega) false true] at this
        simpa using this
      rw [this] at hm; cases hm
    refine ⟨fun h0 => ?_, fun i hi => ?_⟩
    · -- the least that is not listed may come up
      exfalso
      have hex : ∀ (N : Nat) (x : Nat × Nat), x.1 ≤ N → x ∈ net → listed.getD x.1 true = false → False := by
        intro N
        induction N with
        | zero =>
          intro x hN hx hu
          obtain ⟨o, ho⟩ := hops x.1 (hmem x hx) (hz x hx)
          have hi := hin x.1 o ho (hmem x hx)
          have : x.1 ∈ Region.ready md ops listed := mem_ready.2 ⟨hu, o, ho, fun d hd hb => by have := (hi.2.2.2.2 d hd hb).1; omega⟩
          rw [h0] at this; cases this
        | succ N ihN =>
          intro x hN hx hu
          obtain ⟨o, ho⟩ := hops x.1 (hmem x hx) (hz x hx)
          have hi := hin x.1 o ho (hmem x hx)
          have : x.1 ∈ Region.ready md ops listed := mem_ready.2 ⟨hu, o, ho, fun d hd hb => by
            obtain ⟨hlt, hor⟩ := hi.2.2.2.2 d hd hb
            by_cases hdn : d.on ∈ net.map (·.1)
            · obtain ⟨y, hy, hye⟩ := List.mem_map.1 hdn
              rcases hl : listed.getD d.on true with _ | _
              · exact (ihN y (by omega) hy (by rw [hye]; exact hl)).elim
              · rw [getD_bool (by have := hz y hy; omega) false true]; exact hl
            · have h1 := hor.resolve_left hdn
              have hzd : d.on < L0.size := by have := hz x hx; omega
              rw [getD_bool (by omega) false true, hsame _ hdn, getD_bool hzd true false]; exact h1⟩
          rw [h0] at this; cases this
      obtain ⟨x, hx⟩ : ∃ x, x ∈ net.filter fun x => !listed.getD x.1 true := by
        cases hf : net.filter fun x => !listed.getD x.1 true with
        | nil => rw [hf] at hm; cases hm
        | cons y l => exact ⟨y, by simp⟩
      rw [List.mem_filter] at hx
      exact hex x.1 x (Nat.le_refl _) hx.1 (by simpa using hx.2)
    · obtain ⟨hun, o, ho, hall'⟩ := mem_ready.1 hi
      by_cases hin' : i ∈ net.map (·.1)
      · obtain ⟨x, hx, rfl⟩ := List.mem_map.1 hin'
        have hi' := hin x.1 o ho hin'
        have hzx := hz x hx
        have hr := hrun x hx o ho u w hS' (fun y hy hd => hV y hy (by
          rw [List.contains_iff_mem] at hd
          obtain ⟨o2, ho2, _, d, hd, hb, hde⟩ := mem_depsOn.1 hd
          rw [ho] at ho2; injection ho2 with ho2; subst ho2
          rw [← hde]; exact hall' d hd hb))
        have hw : Region.wanted o (yielded ops a.tmps) = true := by unfold Region.wanted; rw [hi'.2.2.1]
        unfold wpOpIn
        simp only [ho, hw, if_true]
        rw [ha]
        refine Oper.wpIn_mono (fun a' w' h => ?_) hr
        obtain ⟨v, rfl, hS2, hv, hR⟩ := h
        refine ⟨.inr hS2, ih _ _ _ ?_ (by simpa using hsz) (fun j hj => ?_) (fun j hj hlj d hd => ?_) ⟨_, upd_put a0 net u hx v, fun y hy hly => ?_⟩ hS2⟩
        · -- one fewer is left
          have hne : ∀ y ∈ net, y.1 = x.1 → y.2 = x.2 := fun y hy he => by
            have h1 := hi'.2.2.2.1 y hy he
            have h2 := hi'.2.2.2.1 x hx rfl
            rw [h1] at h2; injection h2
          have hc := count_one (p := fun y => !listed.getD y.1 true) (q := fun y => !(listed.setIfInBounds x.1 true).getD y.1 true) hnd hx (by simp [hun]) (by rw [set_getD_same (by omega)]; rfl) (fun y hy hyx => by
            rw [getD_set_ne true (fun e => hyx (nodup_snd hnd hy hx (hne y hy e.symm)))])
          rw [hm] at hc
          omega
        · rw [getD_set_ne true (fun e => hj (by rw [← e]; exact hin'))]; exact hsame j hj
        · by_cases hjx : x.1 = j
          · subst hjx
            obtain ⟨o2, ho2, h2, d', hd', hb, rfl⟩ := mem_depsOn.1 hd
            rw [ho] at ho2; injection ho2 with ho2; subst ho2
            exact getD_set_true (hall' d' hd' hb)
          · rw [getD_set_ne false hjx] at hlj
            exact getD_set_true (hid j hj hlj d hd)
        · by_cases hyx : y.2 = x.2
          · rw [if_pos hyx]
            have : y.1 = x.1 := by rw [nodup_snd hnd hy hx hyx]
            rw [this]; exact hv
          · rw [if_neg hyx]
            have hne : x.1 ≠ y.1 := fun he => hyx (by
              have h1 := hi'.2.2.2.1 y hy he.symm
              have h2 := hi'.2.2.2.1 x hx rfl
              rw [h1] at h2; injection h2)
            rw [getD_set_ne false hne] at hly
            exact hst _ _ _ _ hR (hV y hy hly)
      · exact (hcov i o ho hin' hi).elim
end
theorem op_of {ops : Array Oper} {i : Nat} {o o' : Oper} {rest : List Oper} (h : ops[i]? = some o) (h2 : ops.toList.drop i = o' :: rest) : o = o' := by
  rw [of_drop h2] at h; injection h with h; exact h.symm
end Go.Proofs.Ytgpmimohoepeiaa
