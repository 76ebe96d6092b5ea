/- The keys of a map, in order: what 'rising' hands out, of either map. -/
import Derived.Shelf.SlIterI.Nil
import Derived.RangeFuncCalls
import Derived.Shelf.AbstractIn
import Derived.Test.YtnegbiofnjdfaaaSLay
import Derived.Test.YtnegbiofnjdfaaaSMap
namespace Go.Proofs.Ytnegbiofnjdfaaa
open Go.RowKit
set_option linter.unusedVariables false

theorem sortsA (m : Nat) : AnyZI.SortsIn Try.prog sortedA_ren Fence.wide m :=
  ⟨fun blk off cap ss W hH hblk hsz => callsIn_wide.2 (AnyM.slices_Sort_int sortA blk off cap ss W hH hblk hsz),
   fun p cap W => callsIn_wide.2 (AnyM.slices_Sort_int_none sortA p cap W)⟩
/-- rows of numbers that are handed out: new, and apart from what there was -/
def Out (l : List Int) (w : World) (e : Ending) (w' : World) : Prop := ∃ A cp, e = .returned (.slice A l.length cp) ∧ Hid (w'.ownsRow w.heap.size 3 1 (.slice A l.length cp) l.length (l.map (Value.int .i64)) ∧ Below w.heap.size w w')
theorem out_of {w w' : World} {v : Value} {n : Nat} {T : List Int} (hrow : w'.ownsRow w.heap.size 3 1 v n (T.map (Value.int .i64))) (hb : Below w.heap.size w w') : Out T w (.returned v) w' := by
  have hn : n = T.length := by
    have := hrow.1
    simp at this
    omega
  subst hn
  have h2 := hrow.2
  rcases h2 with ⟨rfl, h0⟩ | ⟨g, cap, cur, rfl, hg, hh, hr⟩
  · refine ⟨none, 0, by rw [h0], cover ⟨?_, hb⟩⟩
    rw [← h0] at hrow
    rw [← h0]
    exact hrow
  · exact ⟨some ⟨g, 0, none⟩, cap, rfl, cover ⟨hrow, hb⟩⟩
set_option maxHeartbeats 1000000 in
theorem riseA_any {w : World} {b n : Nat} {D : DU} {R : RU} (hown : w.ownsMap Try.prog 3 R b n D) {T : List Int} (hT : (∀ ss : List Int, ss.Perm (intKeys D) → ss.mergeSort leI = T ∧ ss.length = T.length) ∧ Maps.size D = T.length) (hbig : T.length ≤ 1000000) :
    Calls Try.prog 35 #[.map (some b)] w (Out T w) := by
  refine (callsIn_wide (n := 6)).1 ?_
  have hbl := hown.lt
  have hmax : Maps.size D ≤ maxLen := by rw [hT.2]; unfold maxLen; omega
  have hbytes : Maps.size D * 8 ≤ 140737488355328 := by rw [hT.2]; omega
  have hseq : SeqGives Fence.wide 2 Try.prog 46 #[.pointer (some ⟨w.heap.size, 0, none⟩)] encZ (fun ss => ss.Perm (intKeys D)) (Maps.size D) (w.alloc (.cells #[.map (some b)] 49)) :=
    AnyZI.keys_gives (ρ := keysA_ren) { keysA with } Fence.wide _ trivial rfl (by omega) w.heap.size b n D _ (by simp) (by simp) (own_kept hown (Below.heap_alloc _ _ b hbl))
  have cK : ∀ mb W, CallsIn Fence.wide 5 Try.prog 42 #[.map mb] W fun e w' => e = .returned (.func (.func 46) #[] #[.pointer (some ⟨W.heap.size, 0, none⟩)]) ∧ w' = W.alloc (.cells #[.map mb] 49) := fun mb W => AnyZI.keys_in keysA Fence.wide 5 trivial rfl mb W
  have cS := AnyZI.sorted_in sortedA Fence.wide 5 trivial trivial trivial trivial rfl (by omega) (sortsA _) (enters_of Try.func45 (by kernel_rfl) rfl) 46 #[.pointer (some ⟨w.heap.size, 0, none⟩)] trivial (enters_of Try.func46 (by kernel_rfl) rfl) _ _ hmax hbytes _ hseq
  change CallsIn _ _ Try.prog 41 _ _ _ at cS
  have hfK : Fence.wide.fn 42 := trivial
  have hfS : Fence.wide.fn 41 := trivial
  refine callsIn_of_wp Try.func35 rfl trivial ?_ rfl
  simp only [Try.ntmps35, List.size_toArray, List.length_cons, List.length_nil, Nat.reduceAdd, Nat.reduceSub, Array.replicate_succ, Array.replicate_zero, List.push_toArray, List.append_toArray, List.nil_append, List.cons_append]
  gi_wp2_with (first
    | (gi_at_call 42; refine (cK _ _).mono ?_; rintro e w' ⟨rfl, rfl⟩)
    | (gi_at_call 41; refine cS.mono ?_; rintro e w' ⟨v, ss, rfl, hS, hrow, hnil, hb⟩))
  go_ret
  obtain ⟨e1, e2⟩ := hT.1 ss hS
  rw [e1] at hrow
  exact out_of (ownsRow_base_a hrow (by simp)) (((Below.refl _ w).alloc (Nat.le_refl _) _).trans (hb.mono (by simp)))
set_option maxHeartbeats 1000000 in
theorem riseB_any {w : World} {b n : Nat} {D : DU} {R : RU} (hown : w.ownsMap Try.prog 3 R b n D) {T : List Int} (hT : (∀ ss : List Int, ss.Perm (intKeys D) → ss.mergeSort leI = T ∧ ss.length = T.length) ∧ Maps.size D = T.length) (hbig : T.length ≤ 1000000) :
    Calls Try.prog 38 #[.map (some b)] w (Out T w) := by
  refine (callsIn_wide (n := 6)).1 ?_
  have hbl := hown.lt
  have hmax : Maps.size D ≤ maxLen := by rw [hT.2]; unfold maxLen; omega
  have hbytes : Maps.size D * 8 ≤ 140737488355328 := by rw [hT.2]; omega
  have hseq : SeqGives Fence.wide 2 Try.prog 47 #[.pointer (some ⟨w.heap.size, 0, none⟩)] encZ (fun ss => ss.Perm (intKeys D)) (Maps.size D) (w.alloc (.cells #[.map (some b)] 69)) :=
    AnyZI.keys_gives (ρ := keysB_ren) { keysB with } Fence.wide _ trivial rfl (by omega) w.heap.size b n D _ (by simp) (by simp) (own_kept hown (Below.heap_alloc _ _ b hbl))
  have cK : ∀ mb W, CallsIn Fence.wide 5 Try.prog 43 #[.map mb] W fun e w' => e = .returned (.func (.func 47) #[] #[.pointer (some ⟨W.heap.size, 0, none⟩)]) ∧ w' = W.alloc (.cells #[.map mb] 69) := fun mb W => AnyZI.keys_in keysB Fence.wide 5 trivial rfl mb W
  have cS := AnyZI.sorted_in sortedA Fence.wide 5 trivial trivial trivial trivial rfl (by omega) (sortsA _) (enters_of Try.func45 (by kernel_rfl) rfl) 47 #[.pointer (some ⟨w.heap.size, 0, none⟩)] trivial (enters_of Try.func47 (by kernel_rfl) rfl) _ _ hmax hbytes _ hseq
  change CallsIn _ _ Try.prog 41 _ _ _ at cS
  have hfK : Fence.wide.fn 43 := trivial
  have hfS : Fence.wide.fn 41 := trivial
  refine callsIn_of_wp Try.func38 rfl trivial ?_ rfl
  simp only [Try.ntmps38, List.size_toArray, List.length_cons, List.length_nil, Nat.reduceAdd, Nat.reduceSub, Array.replicate_succ, Array.replicate_zero, List.push_toArray, List.append_toArray, List.nil_append, List.cons_append]
  gi_wp2_with (first
    | (gi_at_call 43; refine (cK _ _).mono ?_; rintro e w' ⟨rfl, rfl⟩)
    | (gi_at_call 41; refine cS.mono ?_; rintro e w' ⟨v, ss, rfl, hS, hrow, hnil, hb⟩))
  go_ret
  obtain ⟨e1, e2⟩ := hT.1 ss hS
  rw [e1] at hrow
  exact out_of (ownsRow_base_a hrow (by simp)) (((Below.refl _ w).alloc (Nat.le_refl _) _).trans (hb.mono (by simp)))
end Go.Proofs.Ytnegbiofnjdfaaa
