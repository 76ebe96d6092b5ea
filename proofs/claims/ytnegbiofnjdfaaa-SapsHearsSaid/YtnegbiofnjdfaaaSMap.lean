/- Maps as this program uses them: keyed by numbers, keyed by pairs of numbers; what they hold, key by key. -/
import Derived.DeepKeys4
import Derived.Maps.Ext
import Derived.Maps.RangeWalk
import Derived.Lib.SlKeysI
import Derived.Test.YtnegbiofnjdfaaaKWords
import Derived.Test.YtnegbiofnjdfaaaOFrame
import Derived.Test.YtnegbiofnjdfaaaSList
namespace Go.Proofs.Ytnegbiofnjdfaaa
open Go.RowKit
set_option linter.unusedVariables false

abbrev I64 (x : Int) : Prop := (Lit.int .i64 x).wf = true
theorem i64_bd {x : Int} (h : I64 x) : -9223372036854775808 ≤ x ∧ x ≤ 9223372036854775807 := by
  unfold I64 at h
  simp only [Lit.wf, Bool.and_eq_true, decide_eq_true_eq] at h
  exact h
theorem i64_of {x : Int} (h : -9223372036854775808 ≤ x ∧ x ≤ 9223372036854775807) : I64 x := by
  unfold I64
  simp only [Lit.wf, Bool.and_eq_true, decide_eq_true_eq]
  exact h
def kI (x : Int) : Lit := .int .i64 x
def kS (x g : Int) : Lit := .string (keyBytes [.int .i64 x, .int .i64 g])
abbrev seatV (x g : Int) : Value := .agg #[.int .i64 x, .int .i64 g]
theorem lawI : Maps.Keyed Try.prog 3 := Maps.int_keyed Try.underlying3
theorem lawS : Maps.Keyed Try.prog 59 := Maps.Keyed.of_law (deep_law_laid laid_out (m := 2) (by omega) (of_decide_eq_true (by kernel_rfl)) (by kernel_rfl) (by kernel_rfl))
theorem key_I {x : Int} (h : I64 x) : keyOf Try.prog 3 (.int .i64 x) = some (kI x) := Maps.keyOf_int_mk Try.underlying3 h
theorem cells_seat : Try.prog.cellsOf 59 = 2 := by kernel_rfl
theorem cells_int : Try.prog.cellsOf 3 = 1 := by kernel_rfl
theorem keyt_seat : Try.prog.keyType 59 = true := by kernel_rfl
theorem deep_many : ∃ m, Try.prog.types.size = m + 1 := ⟨Try.prog.types.size - 1, by have h : 0 < Try.prog.types.size := of_decide_eq_true (by kernel_rfl); omega⟩
theorem key_S {x g : Int} (h : I64 x) (h' : I64 g) : keyOf Try.prog 59 (seatV x g) = some (kS x g) := by
  obtain ⟨m, hm⟩ := deep_many
  have hf : (seatV x g).formed Try.prog 59 = true := by simp [Value.formed, Try.underlying59, cells_seat]
  unfold keyOf
  rw [Try.underlying59]
  simp only [keyt_seat, hf, Bool.and_self, if_true, hm]
  simp [Program.keyLits, Try.underlying59, Try.underlying3, cells_seat, cells_int, Value.cells, h, h', kS]
theorem key_S_inv {v : Value} {l : Lit} (h : keyOf Try.prog 59 v = some l) : ∃ x g, v = seatV x g ∧ l = kS x g ∧ I64 x ∧ I64 g := by
  obtain ⟨m, hm⟩ := deep_many
  have h0 := h
  unfold keyOf at h
  rw [Try.underlying59] at h
  simp only [hm] at h
  split at h
  · rename_i hc
    simp only [Bool.and_eq_true] at hc
    have hf := hc.2
    cases v <;> simp [Value.formed, Try.underlying59, cells_seat] at hf
    rename_i cs
    obtain ⟨c0, c1, e⟩ : ∃ c0 c1, cs = #[c0, c1] := by
      obtain ⟨l⟩ := cs
      match l, hf with
      | [a, b], _ => exact ⟨a, b, rfl⟩
    subst e
    simp only [Option.map_eq_some_iff] at h
    obtain ⟨ls, hls, rfl⟩ := h
    simp [Program.keyLits, Try.underlying59, Try.underlying3, cells_seat, cells_int, Value.cells] at hls
    have h3 : ∃ x, c0 = .int .i64 x ∧ I64 x := by
      cases c0 with
      | int q x =>
        by_cases hq : q = .i64 ∧ (Lit.int .i64 x).wf = true
        · obtain ⟨rfl, hx⟩ := hq; exact ⟨x, rfl, hx⟩
        · simp [hq] at hls
      | _ => simp at hls
    have h4 : ∃ x, c1 = .int .i64 x ∧ I64 x := by
      obtain ⟨x0, rfl, hx0⟩ := h3
      unfold I64 at hx0
      cases c1 with
      | int q x =>
        by_cases hq : q = .i64 ∧ (Lit.int .i64 x).wf = true
        · obtain ⟨rfl, hx⟩ := hq; exact ⟨x, rfl, hx⟩
        · simp [hq, hx0] at hls
      | _ => simp [hx0] at hls
    obtain ⟨x, rfl, hx⟩ := h3
    obtain ⟨g, rfl, hg⟩ := h4
    have h5 := key_S hx hg
    unfold seatV at h5
    rw [h5] at h0
    exact ⟨x, g, rfl, (Option.some.inj h0).symm, hx, hg⟩
  · cases h
theorem kS_inj {x g x' g' : Int} (hx : I64 x) (hg : I64 g) (hx' : I64 x') (hg' : I64 g') (h : kS x g = kS x' g') : x = x' ∧ g = g' := by
  have := lawS.inj (key_S hx hg) (by rw [h]; exact key_S hx' hg')
  simpa using this
theorem kI_inj {x y : Int} (h : kI x = kI y) : x = y := by unfold kI at h; simpa using h
abbrev DU := DataW Unit
abbrev RU := Value → Option (DU × List MemPlace)
def openElem : RU
  | .agg cs => match cs.toList with
    | [.int .i64 c] => some (.lit (.int .i64 c), [])
    | _ => none
  | _ => none
theorem openElem_mk (c : Int) : openElem (.agg #[.int .i64 c]) = some (.lit (.int .i64 c), []) := rfl
theorem openElem_inv {v : Value} {z : DU × List MemPlace} (h : openElem v = some z) : ∃ c, v = .agg #[.int .i64 c] ∧ z = (.lit (.int .i64 c), []) := by
  unfold openElem at h
  split at h
  · rename_i cs
    split at h
    · rename_i c hc
      obtain ⟨l⟩ := cs
      simp at hc
      subst hc
      cases h
      exact ⟨c, rfl, rfl⟩
    · cases h
  · cases h
section
variable {P : Program} {k : TypeId} {R : RU} {w w' : World} {b n : Nat} {D : DU}
theorem own_tight (h : w.ownsMap P k R b n D) : w.ownsMap P k R b (Maps.size D) D := by
  obtain ⟨es, clock, hb, F, hs, rfl⟩ := h
  exact ⟨es, clock, hb, F, by simp [Maps.size, length_sorted], rfl⟩
theorem own_kept (h : w.ownsMap P k R b n D) (hk : w'.heap[b]? = w.heap[b]?) : w'.ownsMap P k R b n D := by
  obtain ⟨es, clock, hb, r⟩ := h
  exact ⟨es, clock, hk.trans hb, r⟩
theorem own_obj (h : w.ownsMap P k R b n D) : ∃ es c, w.heap[b]? = some (.map es c) := by
  obtain ⟨es, clock, hb, _⟩ := h
  exact ⟨es, clock, hb⟩
theorem has_key (h : w.ownsMap P k R b n D) {kl : Lit} (hh : Maps.has D kl = true) : ∃ v, keyOf P k v = some kl := by
  obtain ⟨es, rfl, hk⟩ := h.keysOf
  obtain ⟨p, hp, hs⟩ := List.any_eq_true.1 hh
  rw [← WideAt.sameKey_eq hs]
  exact hk p hp
theorem size_le (h : w.ownsMap P k R b n D) (K : Maps.Keyed P k) (L : List Lit) (hL : ∀ kl, Maps.has D kl = true → kl ∈ L) : Maps.size D ≤ L.length := by
  classical
  obtain ⟨es, rfl, hp, hk⟩ := h.entries K
  have h1 := nodup_le (es.map (·.1)) L (by rw [List.nodup_iff_pairwise_ne, List.pairwise_map]; exact hp) (fun x hx => by
    obtain ⟨p, hp', rfl⟩ := List.mem_map.1 hx
    exact hL p.1 (List.any_eq_true.2 ⟨p, hp', WideAt.sameKey_self (hk p hp')⟩))
  rw [List.length_map] at h1
  exact h1
end
/-- the keys of a map of numbers, in order -/
theorem keys_sorted {R : RU} {w : World} {b n : Nat} {D : DU} (h : w.ownsMap Try.prog 3 R b n D) {T : List Int} (hr : T.Pairwise (· < ·)) (hm : ∀ x, x ∈ T ↔ (I64 x ∧ Maps.has D (kI x) = true)) :
    (∀ ss : List Int, ss.Perm (intKeys D) → ss.mergeSort leI = T ∧ ss.length = T.length) ∧ Maps.size D = T.length := by
  have hnd : T.Nodup := by
    rw [List.nodup_iff_pairwise_ne]
    exact hr.imp (fun h => by omega)
  obtain ⟨es, rfl, hpw, _⟩ := h.entries lawI
  obtain ⟨es', hD', hko⟩ := h.keysOf
  obtain rfl : es = es' := by simpa using hD'
  have hkk : ∀ p ∈ es, ∃ x, p.1 = .int .i64 x ∧ I64 x := fun p hp => by
    obtain ⟨v, hv⟩ := hko p hp
    obtain ⟨x, _, hx, hw⟩ := Maps.keyOf_i64 Try.underlying3 hv
    exact ⟨x, hx, hw⟩
  have hP : T.Perm (intKeys (.map es)) := perm_intKeys hpw (fun p hp => by obtain ⟨x, hx, _⟩ := hkk p hp; exact ⟨x, hx⟩) hnd (fun x => by
    rw [hm x]
    refine ⟨fun h => h.2, fun h2 => ⟨?_, h2⟩⟩
    obtain ⟨p, hp, hs⟩ := List.any_eq_true.1 h2
    obtain ⟨y, hy, hw⟩ := hkk p hp
    have e := WideAt.sameKey_eq hs
    rw [hy] at e
    obtain rfl : y = x := by simpa using e
    exact hw)
  refine ⟨fun ss hs => ?_, ?_⟩
  · have e1 := mergeSort_of_perm_i (hs.trans hP.symm)
    refine ⟨?_, (hs.trans hP.symm).length_eq⟩
    rw [e1]
    refine List.mergeSort_of_pairwise (hr.imp (fun h => ?_))
    simp only [leI, decide_eq_true_eq]
    omega
  · have e2 := hP.length_eq
    rw [e2]
    simp [Maps.size, intKeys]

/-- block a of the memory holds who is active -/
structure ActIn (w : World) (a : Nat) (l : List SV) : Prop where
  ex : ∃ D : DU, w.ownsMap Try.prog 3 openElem a (Maps.size D) D ∧ ∀ x, I64 x → ∀ z, D.atKey (kI x) z = if hasS l x = true then .lit (.int .i64 (clsS l x)) else z
/-- block b of the memory holds who is in which group -/
structure SeatIn (w : World) (b : Nat) (l : List SV) : Prop where
  ex : ∃ D : DU, w.ownsMap Try.prog 59 unitElem b (Maps.size D) D ∧ ∀ x g, I64 x → I64 g → Maps.has D (kS x g) = memS l x g
theorem has_at {D : DU} {x : Int} {l : List SV} (h : ∀ z, D.atKey (kI x) z = if hasS l x = true then .lit (.int .i64 (clsS l x)) else z) : Maps.has D (kI x) = hasS l x := by
  cases hh : hasS l x
  · exact Maps.has_false_of_atKey (fun z => by rw [h z, hh]; rfl)
  · exact Maps.has_true_of_atKey (fun z => by rw [h z, hh]; rfl)
theorem sap_64 {x : Int} (h : OkSap x) : I64 x := i64_of (by unfold OkSap at h; omega)
theorem grp_64 {x : Int} (h : OkGrp x) : I64 x := i64_of (by unfold OkGrp at h; omega)
theorem act_keys {w : World} {a n : Nat} {l : List SV} {D : DU} (hok : InS l) (h : w.ownsMap Try.prog 3 openElem a n D) (hD : ∀ x, I64 x → ∀ z, D.atKey (kI x) z = if hasS l x = true then .lit (.int .i64 (clsS l x)) else z) :
    (∀ ss : List Int, ss.Perm (intKeys D) → ss.mergeSort leI = listS l ∧ ss.length = (listS l).length) ∧ Maps.size D = l.length := by
  have := keys_sorted h (list_rise hok) (fun x => by
    rw [list_mem]
    constructor
    · intro hx; have h6 := sap_64 (ok_has hok hx); exact ⟨h6, by rw [has_at (hD x h6)]; exact hx⟩
    · rintro ⟨h6, hx⟩; rw [has_at (hD x h6)] at hx; exact hx)
  rw [list_len] at this
  rw [list_len]
  exact this
theorem seat_size {w : World} {b n : Nat} {l : List SV} {D : DU} (hok : InS l) (h : w.ownsMap Try.prog 59 unitElem b n D) (hD : ∀ x g, I64 x → I64 g → Maps.has D (kS x g) = memS l x g) : Maps.size D ≤ 1000000 := by
  have h1 := size_le h lawS ((List.range 256).flatMap fun (i : Nat) => (List.range 256).map fun (j : Nat) => kS i j) (fun kl hk => by
    obtain ⟨v, hv⟩ := has_key h hk
    obtain ⟨x, g, rfl, rfl, hx, hg⟩ := key_S_inv hv
    rw [hD x g hx hg] at hk
    obtain ⟨o1, o2⟩ := ok_mem hok hk
    unfold OkSap at o1
    unfold OkGrp at o2
    refine List.mem_flatMap.2 ⟨x.toNat, List.mem_range.2 (by omega), List.mem_map.2 ⟨g.toNat, List.mem_range.2 (by omega), ?_⟩⟩
    rw [show ((x.toNat : Nat) : Int) = x by omega, show ((g.toNat : Nat) : Int) = g by omega])
  refine Nat.le_trans h1 ?_
  have e : ∀ (m : Nat) (L : List Nat), (L.flatMap fun (i : Nat) => (List.range m).map fun (j : Nat) => kS i j).length = L.length * m := by
    intro m L
    induction L with
    | nil => simp
    | cons y L ih => rw [List.flatMap_cons, List.length_append, ih, List.length_map, List.length_range, List.length_cons, Nat.add_mul]; omega
  rw [e, List.length_range]
  decide
end Go.Proofs.Ytnegbiofnjdfaaa
