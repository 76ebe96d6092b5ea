/- Maps as this program uses them: keyed by numbers, keyed by pairs of numbers; what they hold, key by key. The keys of a map, in order: what 'rising' hands out, of either map. A Saps in memory: its three cells, its two maps. What may be a SAP, a class, a group; who is active, and of what class; who is in a group. maps.DeleteFunc, as Close asks it: who is closed is in no group any more. What Open, Join and Leave do. What Close does. Who hears: a SAP by itself, those of a group, all. One Saps of the law's own; what the law's own Ints answers; the law's own first question: a SAP is heard. -/
import Derived.Lib.SlKeysI
import Derived.Test.YtgpmimohoepeiaaEWords
import Derived.Test.YtgpmimohoepeiaaOFrame
import Derived.Test.YtgpmimohoepeiaaSMath
import Derived.Shelf.SlIterI.Nil
import Derived.RangeFuncCalls
import Derived.Shelf.AbstractIn
import Derived.Test.YtgpmimohoepeiaaSLay
import Derived.BigQuiet
import Derived.Deep.QuietTactic
import Derived.Maps.OwnIn
import Derived.Deep.LoopGhost
import Derived.Laws.IdiomRangeMap
import Derived.Deep.RegionHeld3
import Derived.Deep.CutBlock
import Derived.Deep.DeepCutAuto
namespace Go.Proofs.Ytgpmimohoepeiaa
open Go.RowKit
set_option linter.unusedVariables false
set_option maxRecDepth 100000

def kI (x : Int) : Lit := .int .i64 x
def kS (x g : Int) : Lit := .string (keyBytes [.int .i64 x, .int .i64 g])
abbrev seatV (x g : Int) : Value := .agg #[.int .i64 x, .int .i64 g]
theorem lawI : Maps.Keyed Try.prog 3 := Maps.int_keyed Try.underlying3
theorem lawS : Maps.Keyed Try.prog 116 := Maps.Keyed.of_law (deep_law_laid laid_out (m := 2) (by omega) (of_decide_eq_true (by kernel_rfl)) (by kernel_rfl) (by kernel_rfl))
theorem key_I {x : Int} (h : I64 x) : keyOf Try.prog 3 (.int .i64 x) = some (kI x) := Maps.keyOf_int_mk Try.underlying3 h
theorem cells_seat : Try.prog.cellsOf 116 = 2 := by kernel_rfl
theorem cells_int : Try.prog.cellsOf 3 = 1 := by kernel_rfl
theorem keyt_seat : Try.prog.keyType 116 = true := by kernel_rfl
theorem deep_many : ∃ m, Try.prog.types.size = m + 1 := ⟨Try.prog.types.size - 1, by have h : 0 < Try.prog.types.size := of_decide_eq_true (by kernel_rfl); omega⟩
theorem key_S {x g : Int} (h : I64 x) (h' : I64 g) : keyOf Try.prog 116 (seatV x g) = some (kS x g) := by
  obtain ⟨m, hm⟩ := deep_many
  have hf : (seatV x g).formed Try.prog 116 = true := by simp [Value.formed, Try.underlying116, cells_seat]
  unfold keyOf
  rw [Try.underlying116]
  simp only [keyt_seat, hf, Bool.and_self, if_true, hm]
  simp [Program.keyLits, Try.underlying116, Try.underlying3, cells_seat, cells_int, Value.cells, h, h', kS]
theorem key_S_inv {v : Value} {l : Lit} (h : keyOf Try.prog 116 v = some l) : ∃ x g, v = seatV x g ∧ l = kS x g ∧ I64 x ∧ I64 g := by
  obtain ⟨m, hm⟩ := deep_many
  have h0 := h
  unfold keyOf at h
  rw [Try.underlying116] at h
  simp only [hm] at h
  split at h
  · rename_i hc
    simp only [Bool.and_eq_true] at hc
    have hf := hc.2
    cases v <;> simp [Value.formed, Try.underlying116, cells_seat] at hf
    rename_i cs
    obtain ⟨c0, c1, e⟩ : ∃ c0 c1, cs = #[c0, c1] := by
      obtain ⟨l⟩ := cs
      match l, hf with
      | [a, b], _ => exact ⟨a, b, rfl⟩
    subst e
    simp only [Option.map_eq_some_iff] at h
    obtain ⟨ls, hls, rfl⟩ := h
    simp [Program.keyLits, Try.underlying116, Try.underlying3, cells_seat, cells_int, Value.cells] at hls
    have h3 : ∃ x, c0 = .int .i64 x ∧ I64 x := by
      cases c0 with
      | int q x =>
        by_cases hq : q = .i64 ∧ (Lit.int .i64 x).wf = true
        · obtain ⟨rfl, hx⟩ := hq; exact ⟨x, rfl, hx⟩
        · simp [hq] at hls
      | _ => simp at hls
    have h4 : ∃ x, c1 = .int .i64 x ∧ I64 x := by
      obtain ⟨x0, rfl, hx0⟩ := h3
      unfold I64 at hx0
      cases c1 with
      | int q x =>
        by_cases hq : q = .i64 ∧ (Lit.int .i64 x).wf = true
        · obtain ⟨rfl, hx⟩ := hq; exact ⟨x, rfl, hx⟩
        · simp [hq, hx0] at hls
      | _ => simp [hx0] at hls
    obtain ⟨x, rfl, hx⟩ := h3
    obtain ⟨g, rfl, hg⟩ := h4
    have h5 := key_S hx hg
    unfold seatV at h5
    rw [h5] at h0
    exact ⟨x, g, rfl, (Option.some.inj h0).symm, hx, hg⟩
  · cases h
theorem kS_inj {x g x' g' : Int} (hx : I64 x) (hg : I64 g) (hx' : I64 x') (hg' : I64 g') (h : kS x g = kS x' g') : x = x' ∧ g = g' := by
  have := lawS.inj (key_S hx hg) (by rw [h]; exact key_S hx' hg')
  simpa using this
theorem kI_inj {x y : Int} (h : kI x = kI y) : x = y := by unfold kI at h; simpa using h
def openElem : RU
  | .agg cs => match cs.toList with
    | [.int .i64 c] => some (.lit (.int .i64 c), [])
    | _ => none
  | _ => none
theorem openElem_mk (c : Int) : openElem (.agg #[.int .i64 c]) = some (.lit (.int .i64 c), []) := rfl
theorem openElem_inv {v : Value} {z : DU × List MemPlace} (h : openElem v = some z) : ∃ c, v = .agg #[.int .i64 c] ∧ z = (.lit (.int .i64 c), []) := by
  unfold openElem at h
  split at h
  · rename_i cs
    split at h
    · rename_i c hc
      obtain ⟨l⟩ := cs
      simp at hc
      subst hc
      cases h
      exact ⟨c, rfl, rfl⟩
    · cases h
  · cases h
section
variable {P : Program} {k : TypeId} {R : RU} {w w' : World} {b n : Nat} {D : DU}
theorem size_le (h : w.ownsMap P k R b n D) (K : Maps.Keyed P k) (L : List Lit) (hL : ∀ kl, Maps.has D kl = true → kl ∈ L) : Maps.size D ≤ L.length := by
  classical
  obtain ⟨es, rfl, hp, hk⟩ := h.entries K
  have h1 := nodup_le (es.map (·.1)) L (by rw [List.nodup_iff_pairwise_ne, List.pairwise_map]; exact hp) (fun x hx => by
    obtain ⟨p, hp', rfl⟩ := List.mem_map.1 hx
    exact hL p.1 (List.any_eq_true.2 ⟨p, hp', WideAt.sameKey_self (hk p hp')⟩))
  rw [List.length_map] at h1
  exact h1
end
/-- the keys of a map of numbers, in order -/
theorem keys_sorted {R : RU} {w : World} {b n : Nat} {D : DU} (h : w.ownsMap Try.prog 3 R b n D) {T : List Int} (hr : T.Pairwise (· < ·)) (hm : ∀ x, x ∈ T ↔ (I64 x ∧ Maps.has D (kI x) = true)) :
    (∀ ss : List Int, ss.Perm (intKeys D) → ss.mergeSort leI = T ∧ ss.length = T.length) ∧ Maps.size D = T.length := by
  have hnd : T.Nodup := by
    rw [List.nodup_iff_pairwise_ne]
    exact hr.imp (fun h => by omega)
  obtain ⟨es, rfl, hpw, _⟩ := h.entries lawI
  obtain ⟨es', hD', hko⟩ := h.keysOf
  obtain rfl : es = es' := by simpa using hD'
  have hkk : ∀ p ∈ es, ∃ x, p.1 = .int .i64 x ∧ I64 x := fun p hp => by
    obtain ⟨v, hv⟩ := hko p hp
    obtain ⟨x, _, hx, hw⟩ := Maps.keyOf_i64 Try.underlying3 hv
    exact ⟨x, hx, hw⟩
  have hP : T.Perm (intKeys (.map es)) := perm_intKeys hpw (fun p hp => by obtain ⟨x, hx, _⟩ := hkk p hp; exact ⟨x, hx⟩) hnd (fun x => by
    rw [hm x]
    refine ⟨fun h => h.2, fun h2 => ⟨?_, h2⟩⟩
    obtain ⟨p, hp, hs⟩ := List.any_eq_true.1 h2
    obtain ⟨y, hy, hw⟩ := hkk p hp
    have e := WideAt.sameKey_eq hs
    rw [hy] at e
    obtain rfl : y = x := by simpa using e
    exact hw)
  refine ⟨fun ss hs => ?_, ?_⟩
  · have e1 := mergeSort_of_perm_i (hs.trans hP.symm)
    refine ⟨?_, (hs.trans hP.symm).length_eq⟩
    rw [e1]
    refine List.mergeSort_of_pairwise (hr.imp (fun h => ?_))
    simp only [leI, decide_eq_true_eq]
    omega
  · have e2 := hP.length_eq
    rw [e2]
    simp [Maps.size, intKeys]

/-- block a of the memory holds who is active -/
structure ActIn (w : World) (a : Nat) (l : List SV) : Prop where
  ex : ∃ D : DU, w.ownsMap Try.prog 3 openElem a (Maps.size D) D ∧ ∀ x, I64 x → ∀ z, D.atKey (kI x) z = if hasS l x = true then .lit (.int .i64 (clsS l x)) else z
/-- block b of the memory holds who is in which group -/
structure SeatIn (w : World) (b : Nat) (l : List SV) : Prop where
  ex : ∃ D : DU, w.ownsMap Try.prog 116 unitElem b (Maps.size D) D ∧ ∀ x g, I64 x → I64 g → Maps.has D (kS x g) = memS l x g
theorem has_at {D : DU} {x : Int} {l : List SV} (h : ∀ z, D.atKey (kI x) z = if hasS l x = true then .lit (.int .i64 (clsS l x)) else z) : Maps.has D (kI x) = hasS l x := by
  cases hh : hasS l x
  · exact Maps.has_false_of_atKey (fun z => by rw [h z, hh]; rfl)
  · exact Maps.has_true_of_atKey (fun z => by rw [h z, hh]; rfl)
theorem sap_64 {x : Int} (h : OkSap x) : I64 x := i64_of (by unfold OkSap at h; omega)
theorem grp_64 {x : Int} (h : OkGrp x) : I64 x := i64_of (by unfold OkGrp at h; omega)
theorem act_keys {w : World} {a n : Nat} {l : List SV} {D : DU} (hok : InS l) (h : w.ownsMap Try.prog 3 openElem a n D) (hD : ∀ x, I64 x → ∀ z, D.atKey (kI x) z = if hasS l x = true then .lit (.int .i64 (clsS l x)) else z) :
    (∀ ss : List Int, ss.Perm (intKeys D) → ss.mergeSort leI = listS l ∧ ss.length = (listS l).length) ∧ Maps.size D = l.length := by
  have := keys_sorted h (list_rise hok) (fun x => by
    rw [list_mem]
    constructor
    · intro hx; have h6 := sap_64 (ok_has hok hx); exact ⟨h6, by rw [has_at (hD x h6)]; exact hx⟩
    · rintro ⟨h6, hx⟩; rw [has_at (hD x h6)] at hx; exact hx)
  rw [list_len] at this
  rw [list_len]
  exact this
theorem seat_size {w : World} {b n : Nat} {l : List SV} {D : DU} (hok : InS l) (h : w.ownsMap Try.prog 116 unitElem b n D) (hD : ∀ x g, I64 x → I64 g → Maps.has D (kS x g) = memS l x g) : Maps.size D ≤ 1000000 := by
  have h1 := size_le h lawS ((List.range 256).flatMap fun (i : Nat) => (List.range 256).map fun (j : Nat) => kS i j) (fun kl hk => by
    obtain ⟨v, hv⟩ := has_key h hk
    obtain ⟨x, g, rfl, rfl, hx, hg⟩ := key_S_inv hv
    rw [hD x g hx hg] at hk
    obtain ⟨o1, o2⟩ := ok_mem hok hk
    unfold OkSap at o1
    unfold OkGrp at o2
    refine List.mem_flatMap.2 ⟨x.toNat, List.mem_range.2 (by omega), List.mem_map.2 ⟨g.toNat, List.mem_range.2 (by omega), ?_⟩⟩
    rw [show ((x.toNat : Nat) : Int) = x by omega, show ((g.toNat : Nat) : Int) = g by omega])
  refine Nat.le_trans h1 ?_
  have e : ∀ (m : Nat) (L : List Nat), (L.flatMap fun (i : Nat) => (List.range m).map fun (j : Nat) => kS i j).length = L.length * m := by
    intro m L
    induction L with
    | nil => simp
    | cons y L ih => rw [List.flatMap_cons, List.length_append, ih, List.length_map, List.length_range, List.length_cons, Nat.add_mul]; omega
  rw [e, List.length_range]
  decide
end Go.Proofs.Ytgpmimohoepeiaa

namespace Go.Proofs.Ytgpmimohoepeiaa
open Go.RowKit
set_option linter.unusedVariables false

theorem sortsA (m : Nat) : AnyZI.SortsIn Try.prog sortedA_ren Fence.wide m :=
  ⟨fun blk off cap ss W hH hblk hsz => callsIn_wide.2 (AnyM.slices_Sort_int sortA blk off cap ss W hH hblk hsz),
   fun p cap W => callsIn_wide.2 (AnyM.slices_Sort_int_none sortA p cap W)⟩
/-- rows of numbers that are handed out: new, and apart from what there was -/
def Out (l : List Int) (w : World) (e : Ending) (w' : World) : Prop := ∃ A cp, e = .returned (.slice A l.length cp) ∧ Hid (w'.ownsRow w.heap.size 3 1 (.slice A l.length cp) l.length (l.map (Value.int .i64)) ∧ Below w.heap.size w w')
theorem out_of {w w' : World} {v : Value} {n : Nat} {T : List Int} (hrow : w'.ownsRow w.heap.size 3 1 v n (T.map (Value.int .i64))) (hb : Below w.heap.size w w') : Out T w (.returned v) w' := by
  have hn : n = T.length := by
    have := hrow.1
    simp at this
    omega
  subst hn
  have h2 := hrow.2
  rcases h2 with ⟨rfl, h0⟩ | ⟨g, cap, cur, rfl, hg, hh, hr⟩
  · refine ⟨none, 0, by rw [h0], cover ⟨?_, hb⟩⟩
    rw [← h0] at hrow
    rw [← h0]
    exact hrow
  · exact ⟨some ⟨g, 0, none⟩, cap, rfl, cover ⟨hrow, hb⟩⟩
set_option maxHeartbeats 1000000 in
theorem riseA_any {w : World} {b n : Nat} {D : DU} {R : RU} (hown : w.ownsMap Try.prog 3 R b n D) {T : List Int} (hT : (∀ ss : List Int, ss.Perm (intKeys D) → ss.mergeSort leI = T ∧ ss.length = T.length) ∧ Maps.size D = T.length) (hbig : T.length ≤ 1000000) :
    Calls Try.prog 83 #[.map (some b)] w (Out T w) := by
  refine (callsIn_wide (n := 6)).1 ?_
  have hbl := hown.lt
  have hmax : Maps.size D ≤ maxLen := by rw [hT.2]; unfold maxLen; omega
  have hbytes : Maps.size D * 8 ≤ 140737488355328 := by rw [hT.2]; omega
  have hseq : SeqGives Fence.wide 2 Try.prog 90 #[.pointer (some ⟨w.heap.size, 0, none⟩)] encZ (fun ss => ss.Perm (intKeys D)) (Maps.size D) (w.alloc (.cells #[.map (some b)] 64)) :=
    AnyZI.keys_gives (ρ := keysA_ren) { keysA with } Fence.wide _ trivial rfl (by omega) w.heap.size b n D _ (by simp) (by simp) (own_kept hown (Below.heap_alloc _ _ b hbl))
  have cK : ∀ mb W, CallsIn Fence.wide 5 Try.prog 86 #[.map mb] W fun e w' => e = .returned (.func (.func 90) #[] #[.pointer (some ⟨W.heap.size, 0, none⟩)]) ∧ w' = W.alloc (.cells #[.map mb] 64) := fun mb W => AnyZI.keys_in keysA Fence.wide 5 trivial rfl mb W
  have cS := AnyZI.sorted_in sortedA Fence.wide 5 trivial trivial trivial trivial rfl (by omega) (sortsA _) (enters_of Try.func89 (by kernel_rfl) rfl) 90 #[.pointer (some ⟨w.heap.size, 0, none⟩)] trivial (enters_of Try.func90 (by kernel_rfl) rfl) _ _ hmax hbytes _ hseq
  change CallsIn _ _ Try.prog 85 _ _ _ at cS
  have hfK : Fence.wide.fn 86 := trivial
  have hfS : Fence.wide.fn 85 := trivial
  refine callsIn_of_wp Try.func83 rfl trivial ?_ rfl
  simp only [Try.ntmps83, List.size_toArray, List.length_cons, List.length_nil, Nat.reduceAdd, Nat.reduceSub, Array.replicate_succ, Array.replicate_zero, List.push_toArray, List.append_toArray, List.nil_append, List.cons_append]
  gi_wp2_with (first
    | (gi_at_call 86; refine (cK _ _).mono ?_; rintro e w' ⟨rfl, rfl⟩)
    | (gi_at_call 85; refine cS.mono ?_; rintro e w' ⟨v, ss, rfl, hS, hrow, hnil, hb⟩))
  go_ret
  obtain ⟨e1, e2⟩ := hT.1 ss hS
  rw [e1] at hrow
  exact out_of (ownsRow_base_a hrow (by simp)) (((Below.refl _ w).alloc (Nat.le_refl _) _).trans (hb.mono (by simp)))
set_option maxHeartbeats 1000000 in
theorem riseB_any {w : World} {b n : Nat} {D : DU} {R : RU} (hown : w.ownsMap Try.prog 3 R b n D) {T : List Int} (hT : (∀ ss : List Int, ss.Perm (intKeys D) → ss.mergeSort leI = T ∧ ss.length = T.length) ∧ Maps.size D = T.length) (hbig : T.length ≤ 1000000) :
    Calls Try.prog 84 #[.map (some b)] w (Out T w) := by
  refine (callsIn_wide (n := 6)).1 ?_
  have hbl := hown.lt
  have hmax : Maps.size D ≤ maxLen := by rw [hT.2]; unfold maxLen; omega
  have hbytes : Maps.size D * 8 ≤ 140737488355328 := by rw [hT.2]; omega
  have hseq : SeqGives Fence.wide 2 Try.prog 91 #[.pointer (some ⟨w.heap.size, 0, none⟩)] encZ (fun ss => ss.Perm (intKeys D)) (Maps.size D) (w.alloc (.cells #[.map (some b)] 125)) :=
    AnyZI.keys_gives (ρ := keysB_ren) { keysB with } Fence.wide _ trivial rfl (by omega) w.heap.size b n D _ (by simp) (by simp) (own_kept hown (Below.heap_alloc _ _ b hbl))
  have cK : ∀ mb W, CallsIn Fence.wide 5 Try.prog 87 #[.map mb] W fun e w' => e = .returned (.func (.func 91) #[] #[.pointer (some ⟨W.heap.size, 0, none⟩)]) ∧ w' = W.alloc (.cells #[.map mb] 125) := fun mb W => AnyZI.keys_in keysB Fence.wide 5 trivial rfl mb W
  have cS := AnyZI.sorted_in sortedA Fence.wide 5 trivial trivial trivial trivial rfl (by omega) (sortsA _) (enters_of Try.func89 (by kernel_rfl) rfl) 91 #[.pointer (some ⟨w.heap.size, 0, none⟩)] trivial (enters_of Try.func91 (by kernel_rfl) rfl) _ _ hmax hbytes _ hseq
  change CallsIn _ _ Try.prog 85 _ _ _ at cS
  have hfK : Fence.wide.fn 87 := trivial
  have hfS : Fence.wide.fn 85 := trivial
  refine callsIn_of_wp Try.func84 rfl trivial ?_ rfl
  simp only [Try.ntmps84, List.size_toArray, List.length_cons, List.length_nil, Nat.reduceAdd, Nat.reduceSub, Array.replicate_succ, Array.replicate_zero, List.push_toArray, List.append_toArray, List.nil_append, List.cons_append]
  gi_wp2_with (first
    | (gi_at_call 87; refine (cK _ _).mono ?_; rintro e w' ⟨rfl, rfl⟩)
    | (gi_at_call 85; refine cS.mono ?_; rintro e w' ⟨v, ss, rfl, hS, hrow, hnil, hb⟩))
  go_ret
  obtain ⟨e1, e2⟩ := hT.1 ss hS
  rw [e1] at hrow
  exact out_of (ownsRow_base_a hrow (by simp)) (((Below.refl _ w).alloc (Nat.le_refl _) _).trans (hb.mono (by simp)))
end Go.Proofs.Ytgpmimohoepeiaa

namespace Go.Proofs.Ytgpmimohoepeiaa
open Go.RowKit
set_option linter.unusedVariables false

theorem isSap_any (n : Int) (w : World) : Calls Try.prog 30 #[.int .i64 n] w fun e w' => e = .returned (.bool (decide (OkSap n))) ∧ w = w' := by
  by_cases h1 : 2 ≤ n
  · by_cases h2 : n ≤ 254
    · have h3 : n.tmod 2 = n % 2 := Int.tmod_eq_emod_of_nonneg (by omega)
      have e : decide (OkSap n) = (n % 2 == 0) := by
        rw [Bool.eq_iff_iff]; simp only [decide_eq_true_eq, beq_iff_eq]; unfold OkSap; omega
      rw [e]
      go_enter Try.func30, Try.ntmps30
      go_wp2
      go_ret
      exact ⟨rfl, rfl⟩
    · have e : decide (OkSap n) = false := by
        rw [decide_eq_false_iff_not]; unfold OkSap; omega
      rw [e]
      clear e
      go_enter Try.func30, Try.ntmps30
      go_wp2
      go_ret
      exact ⟨rfl, rfl⟩
  · have e : decide (OkSap n) = false := by
      rw [decide_eq_false_iff_not]; unfold OkSap; omega
    rw [e]
    clear e
    go_enter Try.func30, Try.ntmps30
    go_wp2
    go_ret
    exact ⟨rfl, rfl⟩
theorem isGroup_any (n : Int) (w : World) : Calls Try.prog 74 #[.int .i64 n] w fun e w' => e = .returned (.bool (decide (OkGrp n))) ∧ w = w' := by
  by_cases h1 : 1 ≤ n
  · by_cases h2 : n ≤ 253
    · have h3 : n.tmod 2 = n % 2 := Int.tmod_eq_emod_of_nonneg (by omega)
      have e : decide (OkGrp n) = (n % 2 == 1) := by
        rw [Bool.eq_iff_iff]; simp only [decide_eq_true_eq, beq_iff_eq]; unfold OkGrp; omega
      rw [e]
      go_enter Try.func74, Try.ntmps74
      go_wp2
      go_ret
      exact ⟨rfl, rfl⟩
    · have e : decide (OkGrp n) = false := by
        rw [decide_eq_false_iff_not]; unfold OkGrp; omega
      rw [e]
      clear e
      go_enter Try.func74, Try.ntmps74
      go_wp2
      go_ret
      exact ⟨rfl, rfl⟩
  · have e : decide (OkGrp n) = false := by
      rw [decide_eq_false_iff_not]; unfold OkGrp; omega
    rw [e]
    clear e
    go_enter Try.func74, Try.ntmps74
    go_wp2
    go_ret
    exact ⟨rfl, rfl⟩
theorem isClass_any (n : Int) (w : World) : Calls Try.prog 31 #[.int .i64 n] w fun e w' => e = .returned (.bool (decide (OkCls n))) ∧ w = w' := by
  by_cases h1 : 1 ≤ n
  · by_cases h2 : n ≤ 4
    · have e : decide (OkCls n) = true := by
        rw [decide_eq_true_iff]; unfold OkCls; omega
      rw [e]
      go_enter Try.func31, Try.ntmps31
      go_wp2
      go_ret
      exact ⟨rfl, rfl⟩
    · have e : decide (OkCls n) = false := by
        rw [decide_eq_false_iff_not]; unfold OkCls; omega
      rw [e]
      clear e
      go_enter Try.func31, Try.ntmps31
      go_wp2
      go_ret
      exact ⟨rfl, rfl⟩
  · have e : decide (OkCls n) = false := by
      rw [decide_eq_false_iff_not]; unfold OkCls; omega
    rw [e]
    clear e
    go_enter Try.func31, Try.ntmps31
    go_wp2
    go_ret
    exact ⟨rfl, rfl⟩

/-- a Saps at block s: its maps lie at a and b -/
structure SapsIn (w : World) (s a b : Nat) (l : List SV) : Prop where
  hd : w.heap[s]? = some (.cells #[.int .i64 16, .map (some a), .map (some b)] 67 (0, 0))
  act : ActIn w a l
  seat : SeatIn w b l
  ab : a ≠ b
  ok : InS l
def sfoot (s a b : Nat) : Foot := fun i => i = s ∨ i = a ∨ i = b
theorem ActIn.keep {w w' : World} {a : Nat} {l : List SV} (h : ActIn w a l) (hk : w'.heap[a]? = w.heap[a]?) : ActIn w' a l := by
  obtain ⟨D, h1, h2⟩ := h.ex; exact ⟨D, own_kept h1 hk, h2⟩
theorem SeatIn.keep {w w' : World} {b : Nat} {l : List SV} (h : SeatIn w b l) (hk : w'.heap[b]? = w.heap[b]?) : SeatIn w' b l := by
  obtain ⟨D, h1, h2⟩ := h.ex; exact ⟨D, own_kept h1 hk, h2⟩
section
variable {w w' : World} {s a b : Nat} {l : List SV}
theorem SapsIn.keep (h : SapsIn w s a b l) (hk : ∀ i, sfoot s a b i → w'.heap[i]? = w.heap[i]?) : SapsIn w' s a b l :=
  ⟨(hk s (.inl rfl)).trans h.hd, h.act.keep (hk a (.inr (.inl rfl))), h.seat.keep (hk b (.inr (.inr rfl))), h.ab, h.ok⟩
theorem SapsIn.lt (h : SapsIn w s a b l) {i : Nat} (hi : sfoot s a b i) : i < w.heap.size := by
  rcases hi with rfl | rfl | rfl
  · exact block_lt h.hd
  · obtain ⟨D, h1, _⟩ := h.act.ex; exact h1.lt
  · obtain ⟨D, h1, _⟩ := h.seat.ex; exact h1.lt
theorem SapsIn.below (h : SapsIn w s a b l) (hb : Below w.heap.size w w') : SapsIn w' s a b l := h.keep fun i hi => hb.block i (h.lt hi)
theorem SapsIn.drewN (h : SapsIn w s a b l) (n : Nat) : SapsIn (w.drewN n) s a b l := h.keep fun _ _ => rfl
theorem SapsIn.cells (h : SapsIn w s a b l) : w.cell? ⟨s, 0, none⟩ = some (.int .i64 16) ∧ w.cell? ⟨s, 1, none⟩ = some (.map (some a)) ∧ w.cell? ⟨s, 2, none⟩ = some (.map (some b)) :=
  ⟨by rw [cell_of_row _ _ _ _ _ _ h.hd]; rfl, by rw [cell_of_row _ _ _ _ _ _ h.hd]; rfl, by rw [cell_of_row _ _ _ _ _ _ h.hd]; rfl⟩
theorem SapsIn.sa (h : SapsIn w s a b l) : s ≠ a ∧ s ≠ b := by
  constructor
  · rintro rfl
    obtain ⟨D, h1, _⟩ := h.act.ex
    obtain ⟨es, c, h2⟩ := own_obj h1
    rw [h.hd] at h2; cases h2
  · rintro rfl
    obtain ⟨D, h1, _⟩ := h.seat.ex
    obtain ⟨es, c, h2⟩ := own_obj h1
    rw [h.hd] at h2; cases h2
end
/-- who is active -/
theorem look_act {w : World} {a : Nat} {l : List SV} (h : ActIn w a l) {n : Int} (hn : I64 n) (c : Bool) : (Instr.lookup 64 (.map (some a)) (.int .i64 n) c).run Try.prog w = .ok (if c = true then .tuple #[.agg #[.int .i64 (clsS l n)], .bool (hasS l n)] else .agg #[.int .i64 (clsS l n)]) w := by
  obtain ⟨D, h1, h2⟩ := h.ex
  have hz : ∀ w, (zeroValue 70).run Try.prog w = .ok (.agg #[.int .i64 0]) w := Try.zeroValue70
  have e1 : D.atKey (kI n) (.lit (.int .i64 0)) = .lit (.int .i64 (clsS l n)) := by
    rw [h2 n hn]
    split
    · rfl
    · rename_i h3; rw [clsS_no (by simpa using h3)]
  cases c
  · obtain ⟨v, ps, hr, hv⟩ := h1.lookup lawI Try.underlying64 (hz w) (zd := .lit (.int .i64 0)) (zp := []) rfl (key_I hn)
    obtain ⟨c, rfl, hz⟩ := openElem_inv hv
    rw [e1] at hz
    simp at hz
    rw [hr, hz.1]; rfl
  · obtain ⟨v, ps, hr, hv⟩ := h1.look_ok lawI Try.underlying64 (hz w) (zd := .lit (.int .i64 0)) (zp := []) rfl (key_I hn)
    obtain ⟨c, rfl, hz⟩ := openElem_inv hv
    rw [e1] at hz
    simp at hz
    rw [hr, hz.1, has_at (h2 n hn)]; rfl
/-- who is in a group -/
theorem look_seat {w : World} {b : Nat} {l : List SV} (h : SeatIn w b l) {n g : Int} (hn : I64 n) (hg : I64 g) : (Instr.lookup 65 (.map (some b)) (seatV n g) true).run Try.prog w = .ok (.tuple #[.agg #[], .bool (memS l n g)]) w := by
  obtain ⟨D, h1, h2⟩ := h.ex
  obtain ⟨v, ps, hr, hv⟩ := h1.look_ok lawS Try.underlying65 (Try.zeroValue117 w) (zd := .agg []) (zp := []) unitElem_mk (key_S hn hg)
  obtain ⟨rfl, hz⟩ := unitElem_inv hv
  rw [hr, h2 n g hn hg]
set_option maxHeartbeats 800000 in
theorem isActive_any {w : World} {s a b : Nat} {l : List SV} (h : SapsIn w s a b l) {n : Int} (hn : I64 n) :
    Calls Try.prog 32 #[ptr s, .int .i64 n] w fun e w' => e = .returned (.bool (hasS l n)) ∧ Below w.heap.size w w' := by
  have hlk := look_act h.act hn true
  rw [if_pos rfl] at hlk
  obtain ⟨_, h1, _⟩ := h.cells
  clear h hn
  go_enter Try.func32, Try.ntmps32
  go_wp2
  go_ret
  exact ⟨rfl, (Below.refl _ _).alloc (Nat.le_refl _) _⟩
set_option maxHeartbeats 800000 in
theorem isIn_any {w : World} {s a b : Nat} {l : List SV} (h : SapsIn w s a b l) {n g : Int} (hn : I64 n) (hg : I64 g) :
    Calls Try.prog 75 #[ptr s, .int .i64 n, .int .i64 g] w fun e w' => e = .returned (.bool (memS l n g)) ∧ Below w.heap.size w w' := by
  have hlk := look_seat h.seat hn hg
  obtain ⟨_, _, h2⟩ := h.cells
  clear h hn hg
  go_enter Try.func75, Try.ntmps75
  go_wp2
  go_ret
  exact ⟨rfl, (Below.refl _ _).alloc (Nat.le_refl _) _⟩
set_option maxHeartbeats 800000 in
theorem class_any {w : World} {s a b : Nat} {l : List SV} (h : SapsIn w s a b l) {n : Int} (hn : I64 n) :
    Calls Try.prog 25 #[ptr s, .int .i64 n] w fun e w' => e = .returned (.int .i64 (clsS l n)) ∧ w = w' := by
  have hlk := look_act h.act hn false
  rw [if_neg (by decide)] at hlk
  obtain ⟨_, h1, _⟩ := h.cells
  have hfd : ∀ w, (Instr.field 70 (.agg #[.int .i64 (clsS l n)]) 0).run Try.prog w = .ok (.int .i64 (clsS l n)) w := fun _ => by kernel_rfl
  clear h hn
  go_enter Try.func25, Try.ntmps25
  go_wp2
  go_ret
  exact ⟨rfl, rfl⟩
set_option maxHeartbeats 800000 in
theorem list_any {w : World} {s a b : Nat} {l : List SV} (h : SapsIn w s a b l) : Calls Try.prog 81 #[ptr s] w (Out (listS l) w) := by
  obtain ⟨D, k1, k2⟩ := h.act.ex
  have HR := riseA_any k1 (T := listS l) ⟨(act_keys h.ok k1 k2).1, by rw [list_len]; exact (act_keys h.ok k1 k2).2⟩ (by have := h.ok.room; rw [list_len]; omega)
  obtain ⟨_, h1, _⟩ := h.cells
  clear h k1 k2
  go_enter Try.func81, Try.ntmps81
  go_wp2_with fail
  refine HR.mono ?_
  rintro e w' ⟨A, cp, rfl, hh⟩
  go_wp2
  go_ret
  exact ⟨A, cp, rfl, hh⟩
set_option maxHeartbeats 800000 in
theorem new_any (w : World) : Calls Try.prog 10 #[] w fun e w' => ∃ s a b, e = .returned (ptr s) ∧ Hid (SapsIn w' s a b [] ∧ Below w.heap.size w w' ∧ ∀ i, sfoot s a b i → w.heap.size ≤ i) := by
  obtain ⟨w1, hw1⟩ : ∃ w1, w1 = ((w.alloc (.map #[] 0)).alloc (.map #[] 0)).alloc (.cells #[.int .i64 16, .map (some w.heap.size), .map (some (w.heap.size + 1))] 67) := ⟨_, rfl⟩
  have HF : Hid (SapsIn w1 (w.heap.size + 2) w.heap.size (w.heap.size + 1) [] ∧ Below w.heap.size w w1 ∧ ∀ i, sfoot (w.heap.size + 2) w.heap.size (w.heap.size + 1) i → w.heap.size ≤ i) := by
    have hm0 := World.ownsMap_made w Try.prog 3 openElem
    have hm1 := World.ownsMap_made (H := Unit) (w.alloc (.map #[] 0)) Try.prog 116 unitElem
    rw [World.size_alloc] at hm1
    have e0 : w1.heap[w.heap.size]? = (w.alloc (.map #[] 0)).heap[w.heap.size]? := by
      rw [hw1, Below.heap_alloc _ _ _ (by simp; omega), Below.heap_alloc _ _ _ (by simp)]
    have e1 : w1.heap[w.heap.size + 1]? = ((w.alloc (.map #[] 0)).alloc (.map #[] 0)).heap[w.heap.size + 1]? := by
      rw [hw1, Below.heap_alloc _ _ _ (by simp)]
    refine cover ⟨⟨?_, ⟨.map [], own_tight (own_kept hm0 e0), fun x _ z => rfl⟩, ⟨.map [], own_tight (own_kept hm1 e1), fun x g _ _ => rfl⟩, by omega, InS.nil⟩, ?_, ?_⟩
    · rw [hw1]
      have := World.alloc_heap_new ((w.alloc (.map #[] 0)).alloc (.map #[] 0)) (.cells #[.int .i64 16, .map (some w.heap.size), .map (some (w.heap.size + 1))] 67)
      simpa using this
    · rw [hw1]
      exact (((Below.refl _ w).alloc (Nat.le_refl _) _).alloc (by simp) _).alloc (by simp; omega) _
    · rintro i (rfl | rfl | rfl) <;> omega
  have hw2 : World.alloc (World.alloc (World.alloc w (.map #[] 0)) (.map #[] 0)) (.cells #[.int .i64 16, .map (some w.heap.size), .map (some (w.heap.size + 1))] 67) = w1 := hw1.symm
  clear hw1
  have hm1 : ∀ w, (Instr.makeMap 64 none).run Try.prog w = .ok (.map (some w.heap.size)) (w.alloc (.map #[] 0)) := fun w => run_makeMap _ w
  have hm2 : ∀ w, (Instr.makeMap 65 none).run Try.prog w = .ok (.map (some w.heap.size)) (w.alloc (.map #[] 0)) := fun w => run_makeMap _ w
  go_enter Try.func10, Try.ntmps10
  go_wp2
  go_ret
  exact ⟨_, _, _, rfl, HF⟩
end Go.Proofs.Ytgpmimohoepeiaa

namespace Go.Proofs.Ytgpmimohoepeiaa
open Go.RowKit
set_option linter.unusedVariables false

theorem grown_of_below {w w' : World} (h : Below w.heap.size w w') (row : Option Nat) : w.grownBy w' row := ⟨h.os, h.tape, h.output, h.size, fun i hi _ => h.block i hi⟩
set_option maxHeartbeats 800000 in
theorem over_any (n x g : Int) (box : Nat) (W : World) (hc : W.cell? ⟨box, 0, none⟩ = some (.int .i64 n)) :
    Calls Try.prog 73 (#[seatV x g, .agg #[]] ++ #[ptr box]) W fun e w' => e = .returned (.bool (x == n)) ∧ W.grownBy w' none := by
  have hlt : box < W.heap.size := cell_in hc
  have hcc : ((W.alloc (.cells #[.int .i64 x, .int .i64 g] 116)).alloc (.cells #[] 117)).cell? ⟨box, 0, none⟩ = some (.int .i64 n) := cell_alloc_lt _ (cell_alloc_lt _ hc)
  have hc2 : ((W.alloc (.cells #[.int .i64 x, .int .i64 g] 116)).alloc (.cells #[] 117)).cell? ⟨W.heap.size, 0, none⟩ = some (.int .i64 x) := cell_alloc_lt _ (by rw [cell_of_row _ _ _ _ _ _ (heap_alloc_new _ _)]; rfl)
  clear hc
  go_enter Try.func73, Try.ntmps73
  go_wp2
  go_ret
  exact ⟨rfl, grown_of_below (((Below.refl _ _).alloc (Nat.le_refl _) _).alloc (by simp) _) _⟩
/-- at the head of a round: who was not asked about yet is there still; of those that were, none of him that goes -/
structure DelAt (w : World) (b n : Nat) (l : List SV) (k : Int) (left : Lit → Bool) (cnt : Nat) (wr : World) : Prop where
  ex : ∃ D : DU, wr.ranges Try.prog 116 unitElem b w.heap.size n D left cnt ∧ ∀ x g, I64 x → I64 g → Maps.has D (kS x g) = (memS l x g && (decide (x ≠ k) || left (kS x g)))
  grown : w.grownBy wr (some b)
set_option maxRecDepth 100000 in
set_option maxHeartbeats 4000000 in
theorem del_any {w : World} {b box : Nat} {l : List SV} (h : SeatIn w b l) (k : Int) (hk : I64 k) (hbox : w.cell? ⟨box, 0, none⟩ = some (.int .i64 k)) (hne : box ≠ b) :
    Calls Try.prog 72 #[.map (some b), .func (.func 73) #[] #[ptr box]] w fun e w' => e = .returned (.tuple #[]) ∧ Hid (SeatIn w' b (closeS l k) ∧ w.grownBy w' (some b)) := by
  obtain ⟨D0, hown, hD0⟩ := h.ex
  obtain ⟨n, hn⟩ : ∃ n, n = Maps.size D0 := ⟨_, rfl⟩
  rw [← hn] at hown
  clear hn h
  have eg : ∀ args w, (callFunc 73 args).run Try.prog w = .ok (.enter 73 args) w := enters_of Try.func73 (by kernel_rfl) rfl
  have HD := cover hD0
  have HB := cover hbox
  have hbl : box < w.heap.size := cell_in hbox
  clear hD0 hbox
  go_enter Try.func72, Try.ntmps72
  go_wp2_with (first
    | (at_range; refine wpList_range_own _ rfl _ 65 rfl 116 117 lawS Try.underlying65 unitElem b n _ rfl hown ?_; intro w0 hrg0 hg0 hs0)
    | go_in)
  go_frame
  go_loopw [8] (fun _ wr => ∃ (left : Lit → Bool) (cnt : Nat), Hid (DelAt w b n l k left cnt wr)) (fun _ wr => wr.rangeLeft b w.heap.size)
  case atStart => exact ⟨_, _, cover ⟨⟨D0, hrg0, fun x g hx hg => by
    rw [HD.out x g hx hg]
    cases memS l x g <;> simp⟩, hg0.but _⟩⟩
  case round =>
    obtain ⟨left, cnt, hrel⟩ := hrel
    obtain ⟨⟨D, hrg, hD⟩, hgw⟩ := hrel.out
    clear hrel
    go_wp2_with (first
      | (at_next; refine wpList_next_ranges _ rfl _ rfl 116 lawS unitElem (fun (p : Int × Int) => seatV p.1 p.2) (fun (_ : Unit) => Value.agg #[]) (fun key kl hkey => by obtain ⟨x, g, rfl, _⟩ := key_S_inv hkey; exact ⟨(x, g), rfl⟩) (fun v _ hv => by obtain ⟨rfl, _⟩ := unitElem_inv hv; exact ⟨(), rfl⟩) b w.heap.size n _ _ _ rfl hrg ?_ ?_)
      | go_in)
    · intro _ hl0
      have HF : Hid (SeatIn wr b (closeS l k) ∧ w.grownBy wr (some b)) := cover ⟨⟨D, own_tight hrg.owns, fun x g hx hg => by
        rw [hD x g hx hg, hl0, mem_close]
        by_cases e : x = k
        · rw [if_pos e]; simp [e]
        · rw [if_neg e]; simp [e]⟩, hgw⟩
      clear hD hgw hrg hl0
      go_wp2
      go_end0
      exact ⟨rfl, HF⟩
    · intro x g kl yd yp w1 cnt1 hkey hlx hv hat hrg1 hlt hg1 hs1 hen
      obtain ⟨x', g', e1, rfl, hx, hg⟩ := key_S_inv hkey
      obtain ⟨rfl, rfl⟩ : x = x' ∧ g = g' := by simpa using e1
      have hgw1 := hgw.andThen hg1 (fun j hj => by cases hj; exact Or.inl (Nat.le_refl _))
      have hbw := hrg1.owns.lt
      have hrl := hrg1.lt
      have hc1 : w1.cell? ⟨box, 0, none⟩ = some (.int .i64 k) := hgw1.cell HB.out (by simpa using hne)
      clear hv hat hkey e1
      go_wp2_with fail
      obtain ⟨w2, hw2⟩ : ∃ w2, w2 = (w1.alloc (.cells #[.int .i64 x, .int .i64 g] 116)).alloc (.cells #[] 117) := ⟨_, rfl⟩
      rw [← hw2]
      have hb2 : Below w1.heap.size w1 w2 := by rw [hw2]; exact ((Below.refl _ _).alloc (Nat.le_refl _) _).alloc (by simp) _
      have hblk2 : w2.heap[w1.heap.size]? = some (.cells #[.int .i64 x, .int .i64 g] 116 (0, 0)) := by
        rw [hw2, Below.heap_alloc _ _ _ (by simp)]; exact heap_alloc_new _ _
      rw [hs1] at hblk2
      clear hw2
      have hrg2 := hrg1.kept (grown_of_below hb2 none) (by simp) (by simp)
      have hgw2 := hgw1.andThen (grown_of_below hb2 none) (fun j hj => by cases hj)
      have hc2 := (hb2.cell (p := ⟨box, 0, none⟩) (cell_in hc1)).trans hc1
      clear hrg1 hgw1 hc1 hg1 hb2
      refine (over_any k x g box w2 hc2).mono ?_
      rintro e w3 ⟨rfl, hg3⟩
      have hrg3 := hrg2.kept hg3 (by simp) (by simp)
      have hgw3 := hgw2.andThen hg3 (fun j hj => by cases hj)
      have hblk3 := (hg3.block _ (block_lt hblk2) (by simp)).trans hblk2
      clear hrg2 hgw2 hblk2 hg3 hc2
      by_cases hxk : x = k
      · have hxx : (x == k) = true := by simpa using hxk
        have hcs0 : w3.cell? ⟨wr.heap.size, 0, none⟩ = some (.int .i64 x) := by rw [cell_of_row _ _ _ _ _ _ hblk3]; rfl
        have hcs1 : w3.cell? ⟨wr.heap.size, 1, none⟩ = some (.int .i64 g) := by rw [cell_of_row _ _ _ _ _ _ hblk3]; rfl
        have HD2 := cover hD
        have HG3 := cover hgw3
        have HXK := cover hxk
        clear hD hgw hgw3 hblk3 hxk
        go_wp2_with (first
          | (at_delete; refine wpList_delete_ranges _ rfl _ _ 65 116 rfl 117 lawS Try.underlying65 unitElem b w.heap.size n _ _ _ rfl hrg3 (seatV x g) _ rfl (key_S hx hg) ?_; intro w4 cnt4 hrg4 hle4 hturn4; go_frame)
          | go_in)
        rw [Maps.strike_twice] at hrg4
        go_roundw
        case rel =>
          refine ⟨_, cnt4, cover ⟨⟨_, hrg4, fun x2 g2 hx2 hg2 => ?_⟩, HG3.out.andThen hturn4.grown (fun j hj => by cases hj; exact Or.inr rfl)⟩⟩
          by_cases he : x2 = x ∧ g2 = g
          · obtain ⟨rfl, rfl⟩ := he
            rw [Maps.has_del_same, WideAt.sameKey_self (lawS.key (key_S hx hg))]
            simp [HXK.out]
          · have hk2 : kS x2 g2 ≠ kS x g := fun e => he (kS_inj hx2 hg2 hx hg e)
            rw [Maps.has_del_other hk2, HD2.out x2 g2 hx2 hg2, Maps.sameKey_ne hk2]
            simp
        case measure => rw [hrg4.left_eq, hrg.left_eq]; omega
      · have hxx : (x == k) = false := by simpa using hxk
        have HN : Hid (DelAt w b n l k (fun z => left z && !z.sameKey (kS x g)) cnt1 w3) := cover ⟨⟨D, hrg3, fun x2 g2 hx2 hg2 => by
          rw [hD x2 g2 hx2 hg2]
          by_cases he : x2 = x ∧ g2 = g
          · obtain ⟨rfl, rfl⟩ := he
            simp [hxk]
          · rw [Maps.sameKey_ne (fun e => he (kS_inj hx2 hg2 hx hg e))]
            simp⟩, hgw3⟩
        have e1 := hrg3.left_eq
        have e2 := hrg.left_eq
        clear hD hgw hgw3 hblk3 hrg3 hrg
        go_wp2
        go_roundw
        case rel => exact ⟨_, _, HN⟩
        case measure => rw [e1, e2]; exact hlt
end Go.Proofs.Ytgpmimohoepeiaa

namespace Go.Proofs.Ytgpmimohoepeiaa
open Go.RowKit
set_option linter.unusedVariables false

/-- the Saps is such now; of what there was its own blocks alone have turned -/
def SNow (s a b : Nat) (l : List SV) (w w' : World) : Prop := SapsIn w' s a b l ∧ Moves (sfoot s a b) (sfoot s a b) w w'
theorem SNow.below {w w' : World} {s a b : Nat} {l : List SV} (h : SapsIn w s a b l) (hb : Below w.heap.size w w') : SNow s a b l w w' := ⟨h.below hb, Moves.of_below _ hb⟩
theorem SNow.same {w : World} {s a b : Nat} {l : List SV} (h : SapsIn w s a b l) : SNow s a b l w w := ⟨h, Moves.refl _ _⟩
theorem moves_turned {w w' : World} {s a b i : Nat} (h : w.mapTurned w' i) (hi : sfoot s a b i) : Moves (sfoot s a b) (sfoot s a b) w w' := by
  have hg := h.grown
  exact ⟨hg.os, hg.tape, hg.output, hg.size, fun k hk hn => hg.block k hk (fun e => hn (by cases e; exact hi)), fun k hk => .inl hk⟩
theorem turned_size {w w' : World} {i : Nat} (h : w.mapTurned w' i) : w'.heap.size = w.heap.size := by
  obtain ⟨es, c, es', c', _, rfl⟩ := h
  simp [ChangeMaps.setBlock]
/-- one SAP more that is active -/
theorem put_act {w : World} {s a b : Nat} {l : List SV} (h : SapsIn w s a b l) {n c : Int} (he : openE l n c = 0) :
    ∃ w', (Instr.mapUpdate 64 (.map (some a)) (.int .i64 n) (.agg #[.int .i64 c])).run Try.prog w = .ok () w' ∧ SNow s a b (openS l n c) w w' := by
  obtain ⟨h1, h2, h3, h4⟩ := openE_0 he
  obtain ⟨D, k1, k2⟩ := h.act.ex
  have hsz := (act_keys h.ok k1 k2).2
  obtain ⟨w', hr, ho, ht⟩ := k1.store lawI Try.underlying64 (by unfold maxLen; omega) (key_I (sap_64 h1)) (openElem_mk c)
  have hos : openS l n c = insS ⟨n, c, []⟩ l := by unfold openS; rw [if_pos he]
  have hg := ht.grown
  have hkeep : ∀ i, i < w.heap.size → i ≠ a → w'.heap[i]? = w.heap[i]? := fun i hi hne => hg.block i hi (by simpa using hne)
  refine ⟨w', hr, ⟨(hkeep s (h.lt (.inl rfl)) h.sa.1).trans h.hd, ⟨_, own_tight ho, fun x hx z => ?_⟩, ?_, h.ab, h.ok.open n c⟩, moves_turned ht (.inr (.inl rfl))⟩
  · rw [hos, has_ins, cls_ins h3]
    by_cases e : x = n
    · subst e
      rw [Maps.atKey_put_same k1.isMap (lawI.key (key_I hx))]
      simp
    · rw [Maps.atKey_put_other (fun e2 => e (kI_inj e2)), k2 x hx z, if_neg (show ¬ n = x by omega), show ((n == x) = false) by simp; omega]
      rfl
  · obtain ⟨D2, j1, j2⟩ := h.seat.ex
    refine ⟨D2, own_kept j1 (hkeep b (h.lt (.inr (.inr rfl))) (fun e => h.ab e.symm)), fun x g hx hg' => ?_⟩
    rw [j2 x g hx hg', hos, mem_ins h3]
    split
    · rename_i e
      rw [mem_no (by rw [← e]; exact h3)]; rfl
    · rfl
set_option maxRecDepth 100000 in
set_option maxHeartbeats 1600000 in
theorem open_any {w : World} {s a b : Nat} {l : List SV} (h : SapsIn w s a b l) {n c : Int} (hn : I64 n) :
    Calls Try.prog 11 #[ptr s, .int .i64 n, .int .i64 c] w fun e w' => e = .returned (.int .i64 (openE l n c)) ∧ Hid (SNow s a b (openS l n c) w w') := by
  have c1 := isSap_any n
  have c2 := isClass_any c
  by_cases hs : OkSap n
  · by_cases hc : OkCls c
    · rw [decide_eq_true hs] at c1
      rw [decide_eq_true hc] at c2
      have c3 := isActive_any h hn
      cases hh : hasS l n
      · rw [hh] at c3
        have H := cover h
        have HE : Hid (openE l n c = if 16 ≤ l.length then 6 else 0) := cover (by unfold openE; rw [if_pos ⟨hs, hc⟩, hh]; rfl)
        clear h hs hc hh
        go_enter Try.func11, Try.ntmps11
        go_wp2_with (first
          | (go_at_call 30; refine (c1 _).mono ?_; rintro e w' ⟨rfl, rfl⟩)
          | (go_at_call 31; refine (c2 _).mono ?_; rintro e w' ⟨rfl, rfl⟩)
          | (go_at_call 32; refine c3.mono ?_; rintro e w1 ⟨rfl, hb⟩))
        have h1 := H.out.below hb
        obtain ⟨d0, d1, d2⟩ := h1.cells
        obtain ⟨D, k1, k2⟩ := h1.act.ex
        have hsz := (act_keys h1.ok k1 k2).2
        have hln : ∀ (d : Nat) ty, (Builtin.len_ #[64] ty #[.map (some a)]).run Try.prog (w1.drewN d) = .ok (.int .i64 l.length) (w1.drewN d) := fun d ty => by
          have hk : (w1.drewN d).ownsMap Try.prog 3 openElem a (Maps.size D) D := own_kept k1 rfl
          rw [hk.len Try.underlying64 ty, hsz]
        have HB := cover hb
        clear h1 k1 k2 hsz hb
        go_quiet (fail)
        obtain ⟨w2, hw2⟩ : ∃ w2, w2 = w1.drewN nq := ⟨_, rfl⟩
        rw [← hw2]
        have HB2 : Hid (Below w.heap.size w w2) := cover (by rw [hw2]; exact below_drewN HB.out _)
        clear hw2 hln d0 d1 d2 HB c1 c2 c3 w1
        by_cases hfull : (16 : Int) ≤ (l.length : Int)
        · have e1 : openE l n c = 6 := by rw [HE.out, if_pos (by omega)]
          have e2 : openS l n c = l := by unfold openS; rw [if_neg (by rw [e1]; decide)]
          have E := cover (And.intro e1 e2)
          clear e1 e2 HE
          go_wp2
          go_ret
          rw [E.out.1, E.out.2]
          exact ⟨rfl, cover (SNow.below H.out HB2.out)⟩
        · have e1 : openE l n c = 0 := by rw [HE.out, if_neg (by omega)]
          obtain ⟨w3, hr, hN⟩ := put_act (H.out.below HB2.out) e1
          have E := cover e1
          have HN : Hid (SNow s a b (openS l n c) w w3) := cover ⟨hN.1, Moves.after HB2.out hN.2⟩
          obtain ⟨_, d1, _⟩ := (H.out.below HB2.out).cells
          clear hN e1 HE HB2
          go_wp2
          go_ret
          rw [E.out]
          exact ⟨rfl, HN⟩
      · rw [hh] at c3
        have e1 : openE l n c = 8 := by unfold openE; rw [if_pos ⟨hs, hc⟩, hh]; rfl
        have e2 : openS l n c = l := by unfold openS; rw [if_neg (by rw [e1]; decide)]
        rw [e1, e2]
        have H := cover h
        clear h hs hc hh e1 e2
        go_enter Try.func11, Try.ntmps11
        go_wp2_with (first
          | (go_at_call 30; refine (c1 _).mono ?_; rintro e w' ⟨rfl, rfl⟩)
          | (go_at_call 31; refine (c2 _).mono ?_; rintro e w' ⟨rfl, rfl⟩)
          | (go_at_call 32; refine c3.mono ?_; rintro e w' ⟨rfl, hb⟩))
        go_ret
        exact ⟨rfl, cover (SNow.below H.out hb)⟩
    · rw [decide_eq_true hs] at c1
      rw [decide_eq_false hc] at c2
      have e1 : openE l n c = 1 := by unfold openE; rw [if_neg (fun h => hc h.2)]
      have e2 : openS l n c = l := by unfold openS; rw [if_neg (by rw [e1]; decide)]
      rw [e1, e2]
      have H := cover h
      clear h hs hc e1 e2
      go_enter Try.func11, Try.ntmps11
      go_wp2_with (first
        | (go_at_call 30; refine (c1 _).mono ?_; rintro e w' ⟨rfl, rfl⟩)
        | (go_at_call 31; refine (c2 _).mono ?_; rintro e w' ⟨rfl, rfl⟩))
      go_ret
      exact ⟨rfl, cover (SNow.same H.out)⟩
  · rw [decide_eq_false hs] at c1
    have e1 : openE l n c = 1 := by unfold openE; rw [if_neg (fun h => hs h.1)]
    have e2 : openS l n c = l := by unfold openS; rw [if_neg (by rw [e1]; decide)]
    rw [e1, e2]
    have H := cover h
    clear h hs e1 e2 c2
    go_enter Try.func11, Try.ntmps11
    go_wp2_with (go_at_call 30; refine (c1 _).mono ?_; rintro e w' ⟨rfl, rfl⟩)
    go_ret
    exact ⟨rfl, cover (SNow.same H.out)⟩
/-- the map of seats is another one now -/
theorem seat_now {w w' : World} {s a b : Nat} {l l' : List SV} (h : SapsIn w s a b l) (ht : w.mapTurned w' b) (hs : SeatIn w' b l') (hok : InS l') (hh : ∀ x, hasS l' x = hasS l x) (hc : ∀ x, clsS l' x = clsS l x) : SNow s a b l' w w' := by
  have hg := ht.grown
  have hkeep : ∀ i, i < w.heap.size → i ≠ b → w'.heap[i]? = w.heap[i]? := fun i hi hne => hg.block i hi (by simpa using hne)
  obtain ⟨D, k1, k2⟩ := h.act.ex
  exact ⟨⟨(hkeep s (h.lt (.inl rfl)) h.sa.2).trans h.hd, ⟨D, own_kept k1 (hkeep a (h.lt (.inr (.inl rfl))) h.ab), fun x hx z => by rw [k2 x hx z, hh, hc]⟩, hs, h.ab, hok⟩, moves_turned ht (.inr (.inr rfl))⟩
theorem put_seat {w : World} {s a b : Nat} {l : List SV} (h : SapsIn w s a b l) {n g : Int} (he : joinE l n g = 0) :
    ∃ w', (Instr.mapUpdate 65 (.map (some b)) (seatV n g) (.agg #[])).run Try.prog w = .ok () w' ∧ SNow s a b (joinS l n g) w w' := by
  obtain ⟨h1, h2, h3⟩ := joinE_0 he
  obtain ⟨D, k1, k2⟩ := h.seat.ex
  have hsz := seat_size h.ok k1 k2
  have hn := sap_64 (ok_has h.ok h2)
  obtain ⟨w', hr, ho, ht⟩ := k1.store lawS Try.underlying65 (by unfold maxLen; omega) (key_S hn (grp_64 h1)) unitElem_mk
  refine ⟨w', hr, ?_⟩
  have hok := h.ok.join n g
  rw [joinS_yes he] at hok ⊢
  refine seat_now h ht ⟨_, own_tight ho, fun x g' hx hg' => ?_⟩ hok (has_map (joinF_sap n g) l) (cls_map (joinF_sap n g) (joinF_cls n g) l)
  rw [mem_join, h2]
  by_cases e : x = n ∧ g' = g
  · obtain ⟨rfl, rfl⟩ := e
    rw [Maps.has_put_same k1.isMap (lawS.key (key_S hx hg'))]
    simp
  · rw [Maps.has_put_other (fun e2 => e (kS_inj hx hg' hn (grp_64 h1) e2)), k2 x g' hx hg']
    have : (decide (x = n) && decide (g' = g) && true) = false := by
      rw [Bool.and_true, Bool.and_eq_false_iff]
      by_cases e3 : x = n
      · right; rw [decide_eq_false_iff_not]; exact fun e4 => e ⟨e3, e4⟩
      · left; simpa using e3
    rw [this, Bool.or_false]
theorem del_seat {w : World} {s a b : Nat} {l : List SV} (h : SapsIn w s a b l) {n g : Int} (he : leaveE l n g = 0) (ty : TypeId) :
    ∃ w', (Builtin.delete_ #[65, 116] ty #[.map (some b), seatV n g]).run Try.prog w = .ok (.tuple #[]) w' ∧ SNow s a b (leaveS l n g) w w' := by
  obtain ⟨h1, h3⟩ := leaveE_0 he
  have h2 := mem_has h3
  obtain ⟨D, k1, k2⟩ := h.seat.ex
  have hn := sap_64 (ok_has h.ok h2)
  obtain ⟨w', hr, ho, ht⟩ := k1.drop lawS Try.underlying65 (key_S hn (grp_64 h1)) ty
  refine ⟨w', hr, ?_⟩
  have hok := h.ok.leave n g
  rw [leaveS_yes he] at hok ⊢
  refine seat_now h ht ⟨_, own_tight ho, fun x g' hx hg' => ?_⟩ hok (has_map (leaveF_sap n g) l) (cls_map (leaveF_sap n g) (leaveF_cls n g) l)
  rw [mem_leave]
  by_cases e : x = n ∧ g' = g
  · obtain ⟨rfl, rfl⟩ := e
    rw [Maps.has_del_same]
    simp
  · rw [Maps.has_del_other (fun e2 => e (kS_inj hx hg' hn (grp_64 h1) e2)), k2 x g' hx hg']
    have : (decide (x = n) && decide (g' = g)) = false := by
      rw [Bool.and_eq_false_iff]
      by_cases e3 : x = n
      · right; rw [decide_eq_false_iff_not]; exact fun e4 => e ⟨e3, e4⟩
      · left; simpa using e3
    rw [this]
    simp
theorem join_1 {l : List SV} {n g : Int} (h : ¬ OkGrp g) : joinE l n g = 1 ∧ joinS l n g = l := by
  have e : joinE l n g = 1 := by unfold joinE; rw [if_neg h]
  exact ⟨e, joinS_no (by rw [e]; decide)⟩
theorem join_7 {l : List SV} {n g : Int} (h : OkGrp g) (hh : hasS l n = false) : joinE l n g = 7 ∧ joinS l n g = l := by
  have e : joinE l n g = 7 := by unfold joinE; rw [if_pos h, hh]; rfl
  exact ⟨e, joinS_no (by rw [e]; decide)⟩
theorem join_8 {l : List SV} {n g : Int} (h : OkGrp g) (hh : hasS l n = true) (hm : memS l n g = true) : joinE l n g = 8 ∧ joinS l n g = l := by
  have e : joinE l n g = 8 := by unfold joinE; rw [if_pos h, hh, hm]; rfl
  exact ⟨e, joinS_no (by rw [e]; decide)⟩
theorem join_yes {l : List SV} {n g : Int} (h : OkGrp g) (hh : hasS l n = true) (hm : memS l n g = false) : joinE l n g = 0 := by unfold joinE; rw [if_pos h, hh, hm]; rfl
set_option maxRecDepth 100000 in
set_option maxHeartbeats 1600000 in
theorem join_any {w : World} {s a b : Nat} {l : List SV} (h : SapsIn w s a b l) {n g : Int} (hn : I64 n) :
    Calls Try.prog 58 #[ptr s, .int .i64 n, .int .i64 g] w fun e w' => e = .returned (.int .i64 (joinE l n g)) ∧ Hid (SNow s a b (joinS l n g) w w') := by
  have c1 := isGroup_any g
  have H := cover h
  by_cases ho : OkGrp g
  · have hg := grp_64 ho
    rw [decide_eq_true ho] at c1
    have c2 := isActive_any h hn
    cases hh : hasS l n
    · rw [hh] at c2
      obtain ⟨e1, e2⟩ := join_7 ho hh
      rw [e1, e2]
      clear h e1 e2 ho hh
      go_enter Try.func58, Try.ntmps58
      go_wp2_with (first
        | (go_at_call 74; refine (c1 _).mono ?_; rintro e w' ⟨rfl, rfl⟩)
        | (go_at_call 32; refine c2.mono ?_; rintro e w1 ⟨rfl, hb1⟩))
      go_ret
      exact ⟨rfl, cover (SNow.below H.out hb1)⟩
    · rw [hh] at c2
      cases hm : memS l n g
      · have he := join_yes ho hh hm
        rw [he]
        have HE := cover he
        have HM := cover hm
        clear h he ho hh hm
        go_enter Try.func58, Try.ntmps58
        go_wp2_with (first
          | (go_at_call 74; refine (c1 _).mono ?_; rintro e w' ⟨rfl, rfl⟩)
          | (go_at_call 32; refine c2.mono ?_; rintro e w1 ⟨rfl, hb1⟩))
        have h1 := H.out.below hb1
        have c3 := isIn_any h1 hn hg
        rw [HM.out] at c3
        refine c3.mono ?_
        rintro e w2 ⟨rfl, hb2⟩
        have HB : Hid (Below w.heap.size w w2) := cover (hb1.trans (hb2.mono hb1.size))
        obtain ⟨w3, hr, hN⟩ := put_seat (h1.below hb2) HE.out
        obtain ⟨_, _, d2⟩ := (h1.below hb2).cells
        have HN : Hid (SNow s a b (joinS l n g) w w3) := cover ⟨hN.1, Moves.after HB.out hN.2⟩
        clear h1 c3 c2 c1 hb1 hb2 hN
        go_wp2
        go_ret
        exact ⟨rfl, HN⟩
      · obtain ⟨e1, e2⟩ := join_8 ho hh hm
        rw [e1, e2]
        have HM := cover hm
        clear h e1 e2 ho hh hm
        go_enter Try.func58, Try.ntmps58
        go_wp2_with (first
          | (go_at_call 74; refine (c1 _).mono ?_; rintro e w' ⟨rfl, rfl⟩)
          | (go_at_call 32; refine c2.mono ?_; rintro e w1 ⟨rfl, hb1⟩))
        have c3 := isIn_any (H.out.below hb1) hn hg
        rw [HM.out] at c3
        refine c3.mono ?_
        rintro e w2 ⟨rfl, hb2⟩
        have HB : Hid (Below w.heap.size w w2) := cover (hb1.trans (hb2.mono hb1.size))
        clear c3 c2 c1 hb1 hb2
        go_wp2
        go_ret
        exact ⟨rfl, cover (SNow.below H.out HB.out)⟩
  · rw [decide_eq_false ho] at c1
    obtain ⟨e1, e2⟩ := join_1 (l := l) (n := n) ho
    rw [e1, e2]
    clear h e1 e2 ho
    go_enter Try.func58, Try.ntmps58
    go_wp2_with (go_at_call 74; refine (c1 _).mono ?_; rintro e w' ⟨rfl, rfl⟩)
    go_ret
    exact ⟨rfl, cover (SNow.same H.out)⟩
set_option maxRecDepth 100000 in
set_option maxHeartbeats 1600000 in
theorem leave_any {w : World} {s a b : Nat} {l : List SV} (h : SapsIn w s a b l) {n g : Int} (hn : I64 n) :
    Calls Try.prog 60 #[ptr s, .int .i64 n, .int .i64 g] w fun e w' => e = .returned (.int .i64 (leaveE l n g)) ∧ Hid (SNow s a b (leaveS l n g) w w') := by
  have c1 := isGroup_any g
  have H := cover h
  by_cases ho : OkGrp g
  · have hg := grp_64 ho
    rw [decide_eq_true ho] at c1
    have c2 := isIn_any h hn hg
    cases hm : memS l n g
    · rw [hm] at c2
      have e1 : leaveE l n g = 7 := by unfold leaveE; rw [if_pos ho, hm]; rfl
      have e2 : leaveS l n g = l := leaveS_no (by rw [e1]; decide)
      rw [e1, e2]
      clear h e1 e2 ho hm
      go_enter Try.func60, Try.ntmps60
      go_wp2_with (first
        | (go_at_call 74; refine (c1 _).mono ?_; rintro e w' ⟨rfl, rfl⟩)
        | (go_at_call 75; refine c2.mono ?_; rintro e w1 ⟨rfl, hb1⟩))
      go_ret
      exact ⟨rfl, cover (SNow.below H.out hb1)⟩
    · rw [hm] at c2
      have he : leaveE l n g = 0 := by unfold leaveE; rw [if_pos ho, hm]; rfl
      rw [he]
      have HE := cover he
      clear h he ho hm
      go_enter Try.func60, Try.ntmps60
      go_wp2_with (first
        | (go_at_call 74; refine (c1 _).mono ?_; rintro e w' ⟨rfl, rfl⟩)
        | fail)
      refine c2.mono ?_
      rintro e w1 ⟨rfl, hb1⟩
      have h1 := H.out.below hb1
      have hd := del_seat h1 HE.out
      obtain ⟨_, _, d2⟩ := h1.cells
      obtain ⟨w3, hr, hN⟩ := hd 0
      have HN : Hid (SNow s a b (leaveS l n g) w w3) := cover ⟨hN.1, Moves.after hb1 hN.2⟩
      clear hd h1 c2 c1 hb1 hN
      go_wp2
      go_ret
      exact ⟨rfl, HN⟩
  · rw [decide_eq_false ho] at c1
    have e1 : leaveE l n g = 1 := by unfold leaveE; rw [if_neg ho]
    have e2 : leaveS l n g = l := leaveS_no (by rw [e1]; decide)
    rw [e1, e2]
    clear h e1 e2 ho
    go_enter Try.func60, Try.ntmps60
    go_wp2_with (go_at_call 74; refine (c1 _).mono ?_; rintro e w' ⟨rfl, rfl⟩)
    go_ret
    exact ⟨rfl, cover (SNow.same H.out)⟩
end Go.Proofs.Ytgpmimohoepeiaa

namespace Go.Proofs.Ytgpmimohoepeiaa
open Go.RowKit
set_option linter.unusedVariables false

theorem del_act {w : World} {a : Nat} {l : List SV} (h : ActIn w a l) {n : Int} (hn : I64 n) (ty : TypeId) :
    ∃ w', (Builtin.delete_ #[64, 3] ty #[.map (some a), .int .i64 n]).run Try.prog w = .ok (.tuple #[]) w' ∧ ActIn w' a (closeS l n) ∧ w.mapTurned w' a := by
  obtain ⟨D, k1, k2⟩ := h.ex
  obtain ⟨w', hr, ho, ht⟩ := k1.drop lawI Try.underlying64 (key_I hn) ty
  refine ⟨w', hr, ⟨_, own_tight ho, fun x hx z => ?_⟩, ht⟩
  rw [has_close, cls_close]
  by_cases e : x = n
  · subst e
    rw [if_pos rfl, Maps.atKey_of_not_has Maps.has_del_same]
    simp
  · rw [if_neg e, if_neg e, Maps.atKey_del_other (fun e2 => e (kI_inj e2)), k2 x hx z]
set_option maxRecDepth 100000 in
set_option maxHeartbeats 1600000 in
theorem close_any {w : World} {s a b : Nat} {l : List SV} (h : SapsIn w s a b l) {n : Int} (hn : I64 n) :
    Calls Try.prog 56 #[ptr s, .int .i64 n] w fun e w' => e = .returned (.int .i64 (closeE l n)) ∧ Hid (SNow s a b (closeS l n) w w') := by
  have H := cover h
  obtain ⟨w1, hw1⟩ : ∃ w1, w1 = w.alloc (.cells #[.int .i64 n] 3) := ⟨_, rfl⟩
  have hb1 : Below w.heap.size w w1 := by rw [hw1]; exact (Below.refl _ _).alloc (Nat.le_refl _) _
  have hx1 : w1.heap[w.heap.size]? = some (.cells #[.int .i64 n] 3 (0, 0)) := by rw [hw1]; exact heap_alloc_new _ _
  have hc1 : w1.cell? ⟨w.heap.size, 0, none⟩ = some (.int .i64 n) := by rw [cell_of_row _ _ _ _ _ _ hx1]; rfl
  have c1 := isActive_any (h.below hb1) hn
  cases hh : hasS l n
  · rw [hh] at c1
    have e1 : closeE l n = 7 := by unfold closeE; rw [hh]; rfl
    rw [e1, close_no hh]
    clear h hh e1 hx1
    go_enter Try.func56, Try.ntmps56
    go_wp2_with fail
    rw [← hw1]
    clear hw1
    refine c1.mono ?_
    rintro e w2 ⟨rfl, hb2⟩
    have HB : Hid (Below w.heap.size w w2) := cover (hb1.trans (hb2.mono hb1.size))
    clear c1 hb1 hb2 hc1
    go_wp2
    go_ret
    exact ⟨rfl, cover (SNow.below H.out HB.out)⟩
  · rw [hh] at c1
    have e1 : closeE l n = 0 := by unfold closeE; rw [hh]; rfl
    rw [e1]
    clear h hh e1
    go_enter Try.func56, Try.ntmps56
    go_wp2_with fail
    rw [← hw1]
    clear hw1
    refine c1.mono ?_
    rintro e w2 ⟨rfl, hb2⟩
    obtain ⟨w2', hw2⟩ : ∃ w2', w2' = w2.drew := ⟨_, rfl⟩
    have hb2' : Below w1.heap.size w1 w2' := by rw [hw2]; exact below_drewN hb2 1
    have hx2 := (hb2'.block _ (block_lt hx1)).trans hx1
    have HB := cover (hb1.trans (hb2'.mono hb1.size))
    have h2 := H.out.below HB.out
    obtain ⟨w3, hr3, hA3, ht3⟩ := del_act h2.act hn 0
    obtain ⟨_, d1, d2⟩ := h2.cells
    have hc2 : w2'.cell? ⟨w.heap.size, 0, none⟩ = some (.int .i64 n) := by rw [cell_of_row _ _ _ _ _ _ hx2]; rfl
    rw [hw2] at d1 hc2 hr3
    clear c1 hc1 hb2 hb2' hx1
    have HH := cover (And.intro h2 (And.intro hx2 (And.intro hA3 (And.intro ht3 (And.intro hw2 hb1)))))
    clear h2 hx2 hA3 ht3 d2 hw2 hb1
    go_wp2_with fail
    go_region
    obtain ⟨h2, hx2, hA3, ht3, hw2, hb1⟩ := HH.out
    have hg3 := ht3.grown
    have hkeep : ∀ i, i < w2'.heap.size → i ≠ a → w3.heap[i]? = w2'.heap[i]? := fun i hi hne => hg3.block i hi (by simpa using hne)
    have hxa : w.heap.size ≠ a := by have := H.out.lt (.inr (.inl rfl)); omega
    have hxb : w.heap.size ≠ b := by have := H.out.lt (.inr (.inr rfl)); omega
    have hx3 := (hkeep _ (block_lt hx2) hxa).trans hx2
    have hc3 : w3.cell? ⟨w.heap.size, 0, none⟩ = some (.int .i64 n) := by rw [cell_of_row _ _ _ _ _ _ hx3]; rfl
    have hd3 : w3.heap[s]? = some (.cells #[.int .i64 16, .map (some a), .map (some b)] 67 (0, 0)) := (hkeep s (h2.lt (.inl rfl)) h2.sa.1).trans h2.hd
    have hS3 : SeatIn w3 b l := h2.seat.keep (hkeep b (h2.lt (.inr (.inr rfl))) (fun e => h2.ab e.symm))
    have c2 := del_any hS3 n hn hc3 hxb
    have d3 : w3.cell? ⟨s, 2, none⟩ = some (.map (some b)) := by rw [cell_of_row _ _ _ _ _ _ hd3]; rfl
    have hmf : ∀ (fn : Fn) (first cap : Array Value) (w : World), (Instr.makeFunc fn first cap).run Try.prog w = .ok (.func fn first cap) w := fun _ _ _ _ => rfl
    have HF : Hid (∀ w4, SeatIn w4 b (closeS l n) → w3.grownBy w4 (some b) → SNow s a b (closeS l n) w w4) := cover (fun w4 k1 k2 => by
      have ha3 : a < w3.heap.size := by obtain ⟨D, j1, _⟩ := hA3.ex; exact j1.lt
      have hs3 := block_lt hd3
      refine ⟨⟨(k2.block s hs3 (by simpa using h2.sa.2)).trans hd3, hA3.keep (k2.block a ha3 (by simpa using h2.ab)), k1, h2.ab, h2.ok.close n⟩, ?_⟩
      refine Moves.after HB.out ((moves_turned ht3 (.inr (.inl rfl))).trans ⟨k2.os, k2.tape, k2.output, k2.size, fun k hk hn => k2.block k hk (fun e => hn (by cases e; exact .inr (.inr rfl))), fun k hk => .inl hk⟩))
    clear HH h2 hx2 hA3 ht3 hg3 hkeep hx3 hd3 hS3 hr3 d1 hc2 hxa hxb hc3 hw2 hb1
    go_wp2_with fail
    refine c2.mono ?_
    rintro e w4 ⟨rfl, hh4⟩
    have HN : Hid (SNow s a b (closeS l n) w w4) := cover (HF.out w4 hh4.out.1 hh4.out.2)
    clear HF hh4 c2 d3
    go_wp2
    go_ret
    exact ⟨rfl, HN⟩
end Go.Proofs.Ytgpmimohoepeiaa

namespace Go.Proofs.Ytgpmimohoepeiaa
open Go.RowKit
set_option linter.unusedVariables false

/-- at the head of a round: of those that were asked about, they who are in the group are in the set -/
structure MemAt (w : World) (b n : Nat) (D : DU) (l : List SV) (g : Int) (left : Lit → Bool) (cnt : Nat) (wr : World) : Prop where
  rng : wr.ranges Try.prog 116 unitElem b (w.heap.size + 1) n D left cnt
  ex : ∃ E : DU, wr.ownsMap Try.prog 3 unitElem w.heap.size (Maps.size E) E ∧ ∀ x, I64 x → Maps.has E (kI x) = (memS l x g && !left (kS x g))
  bel : Below w.heap.size w wr
theorem mem_size {w : World} {e n : Nat} {E : DU} {l : List SV} (hok : InS l) (h : w.ownsMap Try.prog 3 unitElem e n E) (hE : ∀ x, I64 x → Maps.has E (kI x) = true → hasS l x = true) : Maps.size E ≤ 16 := by
  have h1 := size_le h lawI (l.map fun s => kI s.sap) (fun kl hk => by
    obtain ⟨v, hv⟩ := has_key h hk
    obtain ⟨x, _, rfl, hx⟩ := Maps.keyOf_i64 Try.underlying3 hv
    obtain ⟨s, hs, rfl⟩ := hasS_iff.1 (hE x hx hk)
    exact List.mem_map.2 ⟨s, hs, rfl⟩)
  rw [List.length_map] at h1
  exact Nat.le_trans h1 hok.room
theorem Out.from {w w1 w' : World} {T : List Int} {e : Ending} (hb : Below w.heap.size w w1) (h : Out T w1 e w') : Out T w e w' := by
  obtain ⟨A, cp, rfl, hh⟩ := h
  exact ⟨A, cp, rfl, cover ⟨ownsRow_base_a hh.out.1 hb.size, hb.trans (hh.out.2.mono hb.size)⟩⟩
set_option maxRecDepth 100000 in
set_option maxHeartbeats 4000000 in
theorem members_any {w : World} {s a b : Nat} {l : List SV} (h : SapsIn w s a b l) {g : Int} (hg : I64 g) (h1 : hasS l g = false) (h2 : g ≠ 255) :
    Calls Try.prog 82 #[ptr s, .int .i64 g] w (Out (hearS l g) w) := by
  obtain ⟨D, hown, hD⟩ := h.seat.ex
  obtain ⟨n, hn⟩ : ∃ n, n = Maps.size D := ⟨_, rfl⟩
  rw [← hn] at hown
  clear hn
  have hbl := hown.lt
  obtain ⟨W, hW⟩ : ∃ W, W = w.alloc (.map #[] 0) := ⟨_, rfl⟩
  have hsW : W.heap.size = w.heap.size + 1 := by rw [hW]; simp
  have hE0 : W.ownsMap Try.prog 3 (unitElem (H := Unit)) w.heap.size 0 (.map []) := by rw [hW]; exact World.ownsMap_made w _ _ _
  have hbW : Below w.heap.size w W := by rw [hW]; exact (Below.refl _ _).alloc (Nat.le_refl _) _
  have hownW : W.ownsMap Try.prog 116 unitElem b n D := own_kept hown (hbW.block b hbl)
  obtain ⟨_, _, d2⟩ := (h.below hbW).cells
  have hok := h.ok
  have hm1 : ∀ w, (Instr.makeMap 125 none).run Try.prog w = .ok (.map (some w.heap.size)) (w.alloc (.map #[] 0)) := fun w => run_makeMap _ w
  have HD := cover hD
  have HE0 := cover (And.intro hE0 hbW)
  have H12 := cover (And.intro h1 h2)
  clear hD hE0 hbW h hown h1 h2
  obtain ⟨B, hB⟩ : ∃ B, B = w.heap.size := ⟨_, rfl⟩
  have HBB := cover hB
  go_enter Try.func82, Try.ntmps82
  go_upto_region 2 with fail
  rw [← hW, ← hB]
  rw [← hB] at hsW
  have HW := cover hW
  clear hW hB
  go_wp2_with (first
    | (at_range; refine wpList_range_own _ rfl _ 65 rfl 116 117 lawS Try.underlying65 unitElem b n _ rfl hownW ?_; intro w0 hrg0 hg0 hs0)
    | fail)
  go_frame
  rw [hsW] at hrg0 ⊢
  go_loopw [13] (fun _ wr => ∃ (left : Lit → Bool) (cnt : Nat), Hid (MemAt w b n D l g left cnt wr)) (fun _ wr => wr.rangeLeft b (B + 1))
  case atStart =>
    have hB := HBB.out
    refine ⟨_, _, cover ⟨by rw [← hB]; exact hrg0, ⟨.map [], own_tight (own_kept HE0.out.1 (hg0.block _ (by omega) (by simp))), fun x hx => ?_⟩, ?_⟩⟩
    · rw [HD.out x g hx hg]
      show Maps.has (DataW.map []) (kI x) = _
      cases memS l x g <;> rfl
    · exact HE0.out.2.grown hg0 (by omega) (fun j hj => by cases hj)
  case round =>
    obtain ⟨left, cnt, hrel⟩ := hrel
    obtain ⟨hrg, ⟨E, hE, hEm⟩, hbel⟩ := hrel.out
    rw [← HBB.out] at hrg hE
    clear hrel
    go_wp2_with (first
      | (at_next; refine wpList_next_ranges _ rfl _ rfl 116 lawS unitElem (fun (p : Int × Int) => seatV p.1 p.2) (fun (_ : Unit) => Value.agg #[]) (fun key kl hkey => by obtain ⟨x, g, rfl, _⟩ := key_S_inv hkey; exact ⟨(x, g), rfl⟩) (fun v _ hv => by obtain ⟨rfl, _⟩ := unitElem_inv hv; exact ⟨(), rfl⟩) b (B + 1) n _ _ _ rfl hrg ?_ ?_)
      | fail)
    · intro _ hl0
      have hT := keys_sorted hE (hear_rise hok.rise g) (fun x => by
        rw [hear_mem hok H12.out.1 H12.out.2]
        constructor
        · intro hx
          have h6 := sap_64 (ok_mem hok hx).1
          exact ⟨h6, by rw [hEm x h6, hl0, hx]; rfl⟩
        · rintro ⟨h6, hx⟩
          rw [hEm x h6, hl0] at hx
          simpa using hx)
      have HR := riseB_any hE hT (by have := hear_len l g; have := hok.room; omega)
      have HBel := cover hbel
      clear hT hEm hE hrg hl0 hbel
      go_wp2_with fail
      refine HR.mono ?_
      intro e w' hO
      have HO := cover (Out.from HBel.out hO)
      obtain ⟨A, cp, rfl, _⟩ := hO
      clear HR
      go_wp2
      go_ret
      exact HO.out
    · intro x y kl yd yp w1 cnt1 hkey hlx hv hat hrg1 hlt hg1 hs1 hen
      obtain ⟨x', y', e1, rfl, hx, hy⟩ := key_S_inv hkey
      obtain ⟨rfl, rfl⟩ : x = x' ∧ y = y' := by simpa using e1
      have hhas : memS l x y = true := by rw [← HD.out x y hx hy]; exact Maps.has_true_of_atKey hat
      have hbw := hrg1.owns.lt
      have hrl := hrg1.lt
      have hne := hrg1.ne
      have hE1 := hE.kept hg1 (by simp)
      have hb1 : Below B w w1 := Below.grown (by rw [HBB.out]; exact hbel) hg1 (by rw [HBB.out]; exact hbel.size) (fun j hj => by cases hj; omega)
      obtain ⟨w2, hw2⟩ : ∃ w2, w2 = w1.alloc (.cells #[.int .i64 x, .int .i64 y] 116) := ⟨_, rfl⟩
      have hb2 : Below w1.heap.size w1 w2 := by rw [hw2]; exact (Below.refl _ _).alloc (Nat.le_refl _) _
      have hblk2 : w2.heap[w1.heap.size]? = some (.cells #[.int .i64 x, .int .i64 y] 116 (0, 0)) := by rw [hw2]; exact heap_alloc_new _ _
      rw [hs1] at hblk2
      have hrg2 := hrg1.kept (grown_of_below hb2 none) (by simp) (by simp)
      have hE2 := hE1.kept (grown_of_below hb2 none) (by simp)
      have hB2 : Below B w w2 := hb1.trans (hb2.mono (by omega))
      by_cases hyg : y = g
      · have hgg : (y == g) = true := by simpa using hyg
        have hsz := mem_size hok hE2 (fun x2 hx2 hh => by
          rw [hEm x2 hx2] at hh
          have := mem_has (l := l) (n := x2) (g := g) (by cases hm : memS l x2 g <;> rw [hm] at hh <;> simp at hh ⊢)
          exact this)
        obtain ⟨w3, hr, hE3, ht3⟩ := hE2.store lawI Try.underlying125 (by unfold maxLen; omega) (key_I hx) unitElem_mk
        have hg3 := ht3.grown
        have hrg3 := hrg2.kept hg3 (by have := HBB.out; simp; omega) (by simp)
        have HN : Hid (MemAt w b n D l g (fun z => left z && !z.sameKey (kS x y)) cnt1 w3) := cover ⟨by rw [← HBB.out]; exact hrg3, ⟨_, by rw [← HBB.out]; exact own_tight hE3, fun x2 hx2 => by
          by_cases he : x2 = x
          · subst he
            rw [Maps.has_put_same hE2.isMap (lawI.key (key_I hx)), hyg, WideAt.sameKey_self (lawS.key (key_S hx hg)), ← hyg, hhas]
            simp
          · rw [Maps.has_put_other (fun e => he (kI_inj e)), hEm x2 hx2, Maps.sameKey_ne (fun e => he (kS_inj hx2 hg hx hy e).1)]
            simp⟩, by rw [← HBB.out]; exact hB2.grown hg3 (by have := hE2.lt; omega) (fun j hj => by cases hj; exact Nat.le_refl _)⟩
        have e1 := hrg3.left_eq
        have e2 := hrg.left_eq
        rw [hw2] at hr
        clear hrg hrg1 hrg2 hrg3 hE hE1 hE2 hE3 hEm hbel hb1 hb2 hB2 hblk2 hkey hlx hv hat hhas hyg hg1 hw2 ht3 hg3 hsz
        go_wp2
        go_roundw
        case rel => exact ⟨_, _, HN⟩
        case measure => rw [e1, e2]; exact hlt
      · have hgg : (y == g) = false := by simpa using hyg
        have HN : Hid (MemAt w b n D l g (fun z => left z && !z.sameKey (kS x y)) cnt1 w2) := cover ⟨by rw [← HBB.out]; exact hrg2, ⟨E, by rw [← HBB.out]; exact hE2, fun x2 hx2 => by
          rw [hEm x2 hx2, Maps.sameKey_ne (fun e => hyg (kS_inj hx2 hg hx hy e).2.symm)]
          simp⟩, by rw [← HBB.out]; exact hB2⟩
        have e1 := hrg2.left_eq
        have e2 := hrg.left_eq
        rw [hw2] at HN e1
        clear hrg hrg1 hrg2 hE hE1 hE2 hEm hbel hb1 hb2 hB2 hblk2 hkey hlx hv hat hhas hyg hg1 hw2
        go_wp2
        go_roundw
        case rel => exact ⟨_, _, HN⟩
        case measure => rw [e1, e2]; exact hlt
set_option maxRecDepth 100000 in
set_option maxHeartbeats 1600000 in
theorem hears_any {w : World} {s a b : Nat} {l : List SV} (h : SapsIn w s a b l) {n : Int} (hn : I64 n) :
    Calls Try.prog 66 #[ptr s, .int .i64 n] w (Out (hearS l n) w) := by
  by_cases h255 : n = 255
  · subst h255
    have HL := list_any h
    rw [← hear_all] at HL
    clear h
    go_enter Try.func66, Try.ntmps66
    go_wp2_with fail
    refine HL.mono ?_
    rintro e w' ⟨A, cp, rfl, hh⟩
    clear HL
    go_wp2
    go_ret
    exact ⟨A, cp, rfl, hh⟩
  · have hne : (n == 255) = false := by simpa using h255
    have c1 := isActive_any h hn
    have H := cover h
    cases hh : hasS l n
    · rw [hh] at c1
      have HH := cover (And.intro hh h255)
      clear h hh h255
      go_enter Try.func66, Try.ntmps66
      go_wp2_with fail
      refine c1.mono ?_
      rintro e w1 ⟨rfl, hb1⟩
      have HM := members_any (H.out.below hb1) hn HH.out.1 HH.out.2
      have HB := cover hb1
      clear c1 hb1
      go_wp2_with fail
      refine HM.mono ?_
      intro e w' hO
      have HO := cover (Out.from HB.out hO)
      obtain ⟨A, cp, rfl, _⟩ := hO
      clear HM
      go_wp2
      go_ret
      exact HO.out
    · rw [hh] at c1
      have ho := ok_has h.ok hh
      have e1 : hearS l n = [n] := by rw [hear_one h.ok ho.2.2, hh]; rfl
      rw [e1]
      clear h hh h255 ho e1
      go_enter Try.func66, Try.ntmps66
      go_wp2_with fail
      refine c1.mono ?_
      rintro e w1 ⟨rfl, hb1⟩
      have HO : Hid (Out [n] w (.returned (.slice (some ⟨w1.heap.size, 0, none⟩) 1 1)) (w1.alloc (.cells #[.int .i64 n] 3))) := cover ⟨some ⟨w1.heap.size, 0, none⟩, 1, rfl, cover ⟨⟨rfl, .inr ⟨w1.heap.size, 1, #[.int .i64 n], rfl, hb1.size, heap_alloc_new _ _, Nat.le_refl _, by unfold maxLen; omega, by simp, rfl⟩⟩, hb1.alloc hb1.size _⟩⟩
      clear c1 hb1
      go_wp2
      go_ret
      exact HO.out
end Go.Proofs.Ytgpmimohoepeiaa

namespace Go.Proofs.Ytgpmimohoepeiaa
open Go.RowKit
set_option linter.unusedVariables false

/-- a Saps all of which lies from block B on -/
def SHas (B : Nat) (w : World) (s : Nat) (l : List SV) : Prop := ∃ a b, SapsIn w s a b l ∧ ∀ i, sfoot s a b i → B ≤ i
section
variable {B : Nat} {w w' : World} {s : Nat} {l : List SV}
theorem SHas.size (h : SHas B w s l) : B ≤ w.heap.size := by
  obtain ⟨a, b, h1, h2⟩ := h
  have := h2 s (.inl rfl)
  have := block_lt h1.hd
  omega
theorem SHas.below (h : SHas B w s l) (hb : Below w.heap.size w w') : SHas B w' s l := by
  obtain ⟨a, b, h1, h2⟩ := h; exact ⟨a, b, h1.below hb, h2⟩
theorem SHas.drewN (h : SHas B w s l) (n : Nat) : SHas B (w.drewN n) s l := by
  obtain ⟨a, b, h1, h2⟩ := h; exact ⟨a, b, h1.drewN n, h2⟩
theorem SHas.ok (h : SHas B w s l) : InS l := by obtain ⟨a, b, h1, _⟩ := h; exact h1.ok
theorem SHas.ptr (h : SHas B w s l) : s < w.heap.size := by obtain ⟨a, b, h1, _⟩ := h; exact block_lt h1.hd
theorem SNow.has {a b : Nat} {l' : List SV} (h : SNow s a b l' w w') (hV : ∀ i, sfoot s a b i → B ≤ i) (hB : B ≤ w.heap.size) : SHas B w' s l' ∧ Below B w w' :=
  ⟨⟨a, b, h.1, hV⟩, Moves.below (Below.refl B w) h.2 hV hB⟩
theorem new_has (hB : B ≤ w.heap.size) : Calls Try.prog 10 #[] w fun e w' => ∃ s, e = .returned (ptr s) ∧ Hid (SHas B w' s [] ∧ Below B w w') := by
  refine (new_any w).mono ?_
  rintro e w' ⟨s, a, b, rfl, h⟩
  obtain ⟨h1, h2, h3⟩ := h.out
  exact ⟨s, rfl, cover ⟨⟨a, b, h1, fun i hi => Nat.le_trans hB (h3 i hi)⟩, h2.mono hB⟩⟩
theorem open_has (h : SHas B w s l) {n : Int} (hn : I64 n) (c : Int) : Calls Try.prog 11 #[ptr s, .int .i64 n, .int .i64 c] w fun e w' => e = .returned (.int .i64 (openE l n c)) ∧ Hid (SHas B w' s (openS l n c) ∧ Below B w w') := by
  have hB := h.size
  obtain ⟨a, b, h1, h2⟩ := h
  refine (open_any h1 hn).mono ?_
  rintro e w' ⟨rfl, hh⟩
  exact ⟨rfl, cover (hh.out.has h2 hB)⟩
theorem close_has (h : SHas B w s l) {n : Int} (hn : I64 n) : Calls Try.prog 56 #[ptr s, .int .i64 n] w fun e w' => e = .returned (.int .i64 (closeE l n)) ∧ Hid (SHas B w' s (closeS l n) ∧ Below B w w') := by
  have hB := h.size
  obtain ⟨a, b, h1, h2⟩ := h
  refine (close_any h1 hn).mono ?_
  rintro e w' ⟨rfl, hh⟩
  exact ⟨rfl, cover (hh.out.has h2 hB)⟩
theorem join_has (h : SHas B w s l) {n : Int} (hn : I64 n) (g : Int) : Calls Try.prog 58 #[ptr s, .int .i64 n, .int .i64 g] w fun e w' => e = .returned (.int .i64 (joinE l n g)) ∧ Hid (SHas B w' s (joinS l n g) ∧ Below B w w') := by
  have hB := h.size
  obtain ⟨a, b, h1, h2⟩ := h
  refine (join_any h1 hn).mono ?_
  rintro e w' ⟨rfl, hh⟩
  exact ⟨rfl, cover (hh.out.has h2 hB)⟩
theorem leave_has (h : SHas B w s l) {n : Int} (hn : I64 n) (g : Int) : Calls Try.prog 60 #[ptr s, .int .i64 n, .int .i64 g] w fun e w' => e = .returned (.int .i64 (leaveE l n g)) ∧ Hid (SHas B w' s (leaveS l n g) ∧ Below B w w') := by
  have hB := h.size
  obtain ⟨a, b, h1, h2⟩ := h
  refine (leave_any h1 hn).mono ?_
  rintro e w' ⟨rfl, hh⟩
  exact ⟨rfl, cover (hh.out.has h2 hB)⟩
theorem class_has (h : SHas B w s l) {n : Int} (hn : I64 n) : Calls Try.prog 25 #[ptr s, .int .i64 n] w fun e w' => e = .returned (.int .i64 (clsS l n)) ∧ w = w' := by
  obtain ⟨a, b, h1, h2⟩ := h; exact class_any h1 hn
theorem hears_has (h : SHas B w s l) {n : Int} (hn : I64 n) : Calls Try.prog 66 #[ptr s, .int .i64 n] w (Out (hearS l n) w) := by
  obtain ⟨a, b, h1, h2⟩ := h; exact hears_any h1 hn
theorem list_has (h : SHas B w s l) : Calls Try.prog 81 #[ptr s] w (Out (listS l) w) := by
  obtain ⟨a, b, h1, h2⟩ := h; exact list_any h1
end
theorem k64 {x : Int} (h : 0 ≤ x ∧ x ≤ 1000 := by decide) : I64 x := i64_of (by omega)
end Go.Proofs.Ytgpmimohoepeiaa
