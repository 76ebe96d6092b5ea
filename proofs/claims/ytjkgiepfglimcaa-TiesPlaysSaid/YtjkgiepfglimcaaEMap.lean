/- A map keyed by keys of eight cells, whatever it holds: what it holds, key by key, is a row that rises. -/
import Derived.Maps.OwnIn
import Derived.Test.YtjkgiepfglimcaaEKey
import Derived.Test.YtjkgiepfglimcaaEList
namespace Go.Proofs.Ytjkgiepfglimcaa
open Go.RowKit
set_option linter.unusedVariables false

/-- how the things that a map holds lie in memory, and as what they read -/
structure EL (β : Type) where
  val : β → Value
  dat : β → DU
  R : RU
  reads : ∀ x, R (val x) = some (dat x, [])
  inv : ∀ {v z}, R v = some z → ∃ x, v = val x ∧ z = (dat x, [])
  inj : ∀ {x y}, dat x = dat y → x = y
/-- block b of the memory is a map that holds l -/
structure HeldIn {β : Type} (E : EL β) (w : World) (b : Nat) (l : List (EK × β)) : Prop where
  ex : ∃ D : DU, w.ownsMap Try.prog 28 E.R b (Maps.size D) D ∧ ∀ k, OkE k → ∀ z, D.atKey (kE k) z = ((getT l k).map E.dat).getD z
  ok : ∀ x ∈ l, OkE x.1
  rise : Rise ltE l
section
variable {β : Type} {E : EL β} {w w' : World} {b : Nat} {l : List (EK × β)}
theorem HeldIn.keep (h : HeldIn E w b l) (hk : w'.heap[b]? = w.heap[b]?) : HeldIn E w' b l := by
  obtain ⟨D, h1, h2⟩ := h.ex
  exact ⟨⟨D, own_kept h1 hk, h2⟩, h.ok, h.rise⟩
theorem HeldIn.lt (h : HeldIn E w b l) : b < w.heap.size := by
  obtain ⟨D, h1, h2⟩ := h.ex; exact h1.lt
theorem HeldIn.below (h : HeldIn E w b l) (hb : Below w.heap.size w w') : HeldIn E w' b l := h.keep (hb.block b h.lt)
theorem HeldIn.drewN (h : HeldIn E w b l) (n : Nat) : HeldIn E (w.drewN n) b l := h.keep rfl
theorem has_gotE {D : DU} {k : EK} {o : Option DU} (h : ∀ z, D.atKey (kE k) z = o.getD z) : Maps.has D (kE k) = o.isSome := by
  cases ho : o with
  | none => exact Maps.has_false_of_atKey (fun z => by rw [h z, ho]; rfl)
  | some y => exact Maps.has_true_of_atKey (y := y) (fun z => by rw [h z, ho]; rfl)
/-- what was met in a walk over the map -/
def GotE (D0 : DU) (left : Lit → Bool) (ss : List EK) : Prop := ss.Nodup ∧ (∀ k ∈ ss, OkE k) ∧ ∀ k, OkE k → (k ∈ ss ↔ (Maps.has D0 (kE k) = true ∧ left (kE k) = false))
theorem GotE.start (D0 : DU) : GotE D0 (Maps.has D0) [] := ⟨List.nodup_nil, fun k hk => (by cases hk), fun k _ => by cases Maps.has D0 (kE k) <;> simp⟩
theorem GotE.step {D0 : DU} {left : Lit → Bool} {ss : List EK} (h : GotE D0 left ss) {k : EK} (hk : OkE k) {y : DU} (hlk : left (kE k) = true) (hat : ∀ zd, D0.atKey (kE k) zd = y) : GotE D0 (fun z => left z && !z.sameKey (kE k)) (ss ++ [k]) := by
  have hhas : Maps.has D0 (kE k) = true := Maps.has_true_of_atKey hat
  have hnew : k ∉ ss := fun hx => by have := ((h.2.2 k hk).1 hx).2; rw [hlk] at this; cases this
  refine ⟨List.nodup_append.2 ⟨h.1, by simp, fun a ha b hb => by simp at hb; subst hb; exact fun e => hnew (e ▸ ha)⟩, fun x hx => ?_, fun y hy => ?_⟩
  · rcases List.mem_append.1 hx with hx | hx
    · exact h.2.1 x hx
    · simp at hx; subst hx; exact hk
  · by_cases e : y = k
    · subst e
      have : (kE y).sameKey (kE y) = true := WideAt.sameKey_self (lawE.key (key_E hy))
      simp [hhas, this]
    · have hs : (kE y).sameKey (kE k) = false := by
        cases hs : (kE y).sameKey (kE k)
        · rfl
        · exact absurd (kE_inj hy hk (WideAt.sameKey_eq hs)) e
      simp only [List.mem_append, h.2.2 y hy, hs]
      simp [e]
/-- at the end of such a walk -/
theorem GotE.perm {D0 : DU} {left : Lit → Bool} {ss : List EK} (h : GotE D0 left ss) (hl : ∀ kl, left kl = false) (hD : ∀ k, OkE k → ∀ z, D0.atKey (kE k) z = ((getT l k).map E.dat).getD z) (hok : ∀ x ∈ l, OkE x.1) (hr : Rise ltE l) : ss.Perm (l.map (·.1)) := by
  refine (List.perm_ext_iff_of_nodup h.1 (hr.nodup ltE_ord)).2 fun k => ?_
  constructor
  · intro hk
    have h1 := h.2.1 k hk
    have h2 := ((h.2.2 k h1).1 hk).1
    rw [has_gotE (hD k h1)] at h2
    rw [keysT_get]
    simpa using h2
  · intro hk
    obtain ⟨x, hx, rfl⟩ := List.mem_map.1 hk
    have h1 := hok x hx
    refine (h.2.2 x.1 h1).2 ⟨?_, hl _⟩
    rw [has_gotE (hD x.1 h1)]
    have := (keysT_get (l := l) x.1).1 hk
    simpa using this
theorem held_size {n : Nat} {D : DU} (h1 : w.ownsMap Try.prog 28 E.R b n D) (hD : ∀ k, OkE k → ∀ z, D.atKey (kE k) z = ((getT l k).map E.dat).getD z) (hok : ∀ x ∈ l, OkE x.1) (hr : Rise ltE l) : Maps.size D = l.length := by
  classical
  obtain ⟨es, rfl, hp, _⟩ := h1.entries lawE
  have hle1 := nodup_le (es.map (·.1)) (l.map (fun x => kE x.1)) (by rw [List.nodup_iff_pairwise_ne, List.pairwise_map]; exact hp) (fun kl hkl => by
    obtain ⟨p, hp', rfl⟩ := List.mem_map.1 hkl
    obtain ⟨es', he', hks⟩ := h1.keysOf
    obtain rfl : es = es' := by simpa using he'
    obtain ⟨v, hv⟩ := hks p hp'
    obtain ⟨k, rfl, hk2, hk3⟩ := key_E_inv hv
    have hh : Maps.has (DataW.map es) (kE k) = true := List.any_eq_true.2 ⟨p, hp', by rw [hk2]; exact WideAt.sameKey_self (lawE.key (key_E hk3))⟩
    rw [has_gotE (hD k hk3)] at hh
    have : k ∈ l.map (·.1) := (keysT_get k).2 (by simpa using hh)
    obtain ⟨x, hx, rfl⟩ := List.mem_map.1 this
    exact List.mem_map.2 ⟨x, hx, hk2.symm⟩)
  have hle2 := nodup_le (l.map (fun x => kE x.1)) (es.map (·.1)) (by
    rw [List.nodup_iff_pairwise_ne, List.pairwise_map]
    exact List.Pairwise.imp_of_mem (fun {x y} hx hy hxy e => ltE_ord.ne hxy (kE_inj (hok x hx) (hok y hy) e)) hr) (fun kl hkl => by
    obtain ⟨x, hx, rfl⟩ := List.mem_map.1 hkl
    have hh : Maps.has (DataW.map es) (kE x.1) = true := by
      rw [has_gotE (hD x.1 (hok x hx))]
      have := (keysT_get (l := l) x.1).1 (List.mem_map.2 ⟨x, hx, rfl⟩)
      simpa using this
    obtain ⟨p, hp', hs⟩ := List.any_eq_true.1 hh
    exact List.mem_map.2 ⟨p, hp', WideAt.sameKey_eq hs⟩)
  rw [List.length_map, List.length_map] at hle1 hle2
  simp only [Maps.size]
  omega
theorem HeldIn.got (h : HeldIn E w b l) {k : EK} (hk : OkE k) {T e : TypeId} (hT : Try.prog.underlying T = some (.map 28 e)) {z : β} (hz : (zeroValue e).run Try.prog w = .ok (E.val z) w) (c : Bool) :
    (Instr.lookup T (.map (some b)) (keyV k) c).run Try.prog w = .ok (if c = true then .tuple #[E.val ((getT l k).getD z), .bool (hasT l k)] else E.val ((getT l k).getD z)) w := by
  obtain ⟨D, h1, h2⟩ := h.ex
  have e1 : D.atKey (kE k) (E.dat z) = E.dat ((getT l k).getD z) := by rw [h2 k hk]; cases getT l k <;> rfl
  have e2 : Maps.has D (kE k) = hasT l k := by rw [has_gotE (h2 k hk), hasT_get]; cases getT l k <;> rfl
  cases c
  · obtain ⟨v, ps, hr, hv⟩ := h1.lookup lawE hT hz (E.reads z) (key_E hk)
    obtain ⟨x, rfl, hx⟩ := E.inv hv
    rw [e1] at hx
    rw [hr, E.inj (Prod.mk.inj hx).1]; rfl
  · obtain ⟨v, ps, hr, hv⟩ := h1.look_ok lawE hT hz (E.reads z) (key_E hk)
    obtain ⟨x, rfl, hx⟩ := E.inv hv
    rw [e1] at hx
    rw [hr, E.inj (Prod.mk.inj hx).1, e2]; rfl
theorem HeldIn.len (h : HeldIn E w b l) {T e : TypeId} (hT : Try.prog.underlying T = some (.map 28 e)) (ty : TypeId) : (Builtin.len_ #[T] ty #[.map (some b)]).run Try.prog w = .ok (.int .i64 l.length) w := by
  obtain ⟨D, h1, h2⟩ := h.ex
  rw [h1.len hT ty, held_size h1 h2 h.ok h.rise]
/-- one more, or another thing for one that is there -/
theorem HeldIn.put (h : HeldIn E w b l) {k : EK} (hk : OkE k) {T e : TypeId} (hT : Try.prog.underlying T = some (.map 28 e)) {most : Nat} (hf : fullT most l k = false) (hbig : l.length < maxLen) (x : β) :
    ∃ w', (Instr.mapUpdate T (.map (some b)) (keyV k) (E.val x)).run Try.prog w = .ok () w' ∧ HeldIn E w' b (putT ltE most l k x) ∧ w.mapTurned w' b := by
  obtain ⟨D, h1, h2⟩ := h.ex
  obtain ⟨w', hr, ho, ht⟩ := h1.store lawE hT (by rw [held_size h1 h2 h.ok h.rise]; exact hbig) (key_E hk) (E.reads x)
  refine ⟨w', hr, ⟨⟨_, own_tight ho, fun k' hk' z => ?_⟩, fun z hz => ?_, h.rise.put ltE_ord most⟩, ht⟩
  · rw [getT_put ltE_ord h.rise hf]
    by_cases e : k' = k
    · subst e
      rw [Maps.atKey_put_same h1.isMap (lawE.key (key_E hk)), if_pos rfl]; rfl
    · rw [Maps.atKey_put_other (fun e2 => e (kE_inj hk' hk e2)), h2 k' hk' z, if_neg e]
  · rcases putT_mem hz with hz | rfl
    · exact h.ok z hz
    · exact hk
/-- it is gone -/
theorem HeldIn.del (h : HeldIn E w b l) {k : EK} (hk : OkE k) {T e : TypeId} (hT : Try.prog.underlying T = some (.map 28 e)) (ty : TypeId) :
    ∃ w', (Builtin.delete_ #[T, 28] ty #[.map (some b), keyV k]).run Try.prog w = .ok (.tuple #[]) w' ∧ HeldIn E w' b (delT l k) ∧ w.mapTurned w' b := by
  obtain ⟨D, h1, h2⟩ := h.ex
  obtain ⟨w', hr, ho, ht⟩ := h1.drop lawE hT (key_E hk) ty
  refine ⟨w', hr, ⟨⟨_, own_tight ho, fun k' hk' z => ?_⟩, fun z hz => h.ok z (delT_mem hz), h.rise.del⟩, ht⟩
  rw [getT_del]
  by_cases e : k' = k
  · subst e
    rw [Maps.atKey_of_not_has Maps.has_del_same, if_pos rfl]; rfl
  · rw [Maps.atKey_del_other (fun e2 => e (kE_inj hk' hk e2)), h2 k' hk' z, if_neg e]
end
/-- the blocks of a table: its struct, its map -/
def tfoot (t b : Nat) : Foot := fun i => i = t ∨ i = b
theorem moves_map {w w' : World} {t b : Nat} (h : w.mapTurned w' b) : Moves (tfoot t b) (tfoot t b) w w' := by
  have hg := h.grown
  exact ⟨hg.os, hg.tape, hg.output, hg.size, fun k hk hn => hg.block k hk (fun e => hn (by cases e; exact .inr rfl)), fun k hk => .inl hk⟩
/-- a block that is neither lies as it lay -/
def TLies (t b : Nat) (w w' : World) : Prop := w.heap.size ≤ w'.heap.size ∧ ∀ i, i < w.heap.size → i ≠ t → i ≠ b → w'.heap[i]? = w.heap[i]?
theorem TLies.trans {t b : Nat} {w w' w'' : World} (h : TLies t b w w') (h' : TLies t b w' w'') : TLies t b w w'' := ⟨Nat.le_trans h.1 h'.1, fun i hi h1 h2 => (h'.2 i (Nat.lt_of_lt_of_le hi h.1) h1 h2).trans (h.2 i hi h1 h2)⟩
theorem TLies.below {t b : Nat} {w w' : World} (h : Below w.heap.size w w') : TLies t b w w' := ⟨h.size, fun i hi _ _ => h.block i hi⟩
/-- numbers -/
def elI : EL Int where
  val := .int .i64
  dat x := .lit (.int .i64 x)
  R v := match v with
    | .int .i64 x => some (.lit (.int .i64 x), [])
    | _ => none
  reads _ := rfl
  inv {v z} h := by
    split at h
    · rename_i x
      exact ⟨x, rfl, (Option.some.inj h).symm⟩
    · cases h
  inj h := by injection h with h; injection h
/-- texts -/
def elS : EL ByteArray where
  val := .string
  dat x := .lit (.string x.data.toList)
  R v := match v with
    | .string x => some (.lit (.string x.data.toList), [])
    | _ => none
  reads _ := rfl
  inv {v z} h := by
    split at h
    · rename_i x
      exact ⟨x, rfl, (Option.some.inj h).symm⟩
    · cases h
  inj {x y} h := by
    injection h with h; injection h with h
    obtain ⟨⟨x⟩⟩ := x
    obtain ⟨⟨y⟩⟩ := y
    simp at h
    rw [h]
end Go.Proofs.Ytjkgiepfglimcaa
