/- What Open hands back. -/
import Derived.Test.YtbpmhfekjihhhaaCSeal
import Derived.Test.YtbpmhfekjihhhaaOClone
import Derived.Deep.QuietTactic
import Derived.BigQuiet
import Derived.Deep.RegionHeld3
import Derived.Deep.MidRow
namespace Go.Proofs.Ytbpmhfekjihhhaa
open Go.RowKit
set_option linter.unusedVariables false

/-- is it what a table seals? -/
def okT (f : Nat → W32) (l : List Int) : Bool := decide (4 ≤ l.length) && decide (l.drop (l.length - 4) = le4 (moreT f 0 (l.take (l.length - 4))))
def openT (f : Nat → W32) (l : List Int) : List Int := if okT f l = true then l.take (l.length - 4) else []
/-- Open has answered -/
def OpenB (f : Nat → W32) (l : List Int) (w : World) (e : Ending) (w' : World) : Prop :=
  ∃ A c, e = .returned (.tuple #[.slice A (openT f l).length c, .bool (okT f l)]) ∧ OwnB w' w.heap.size (.slice A (openT f l).length c) (openT f l) ∧ Below w.heap.size w w'

set_option maxHeartbeats 800000 in
theorem open_short (T : Array Value) (f : Nat → W32) (A : Option Addr) (n c : Nat) (l : List Int) (w : World) (hlen : l.length = n) (hn : n < 4) :
    Calls Try.prog 38 #[.agg T, .slice A n c] w (OpenB f l w) := by
  have hno : okT f l = false := by unfold okT; rw [decide_eq_false (by omega)]; rfl
  have HO : Hid (okT f l = false ∧ openT f l = []) := cover ⟨hno, by unfold openT; rw [hno]; rfl⟩
  have h0 : ((n : Int) - 4 < 0) := by omega
  clear hno hlen
  go_enter Try.func38, Try.ntmps38
  go_wp2
  go_quiet (fail)
  go_wp2
  go_ret2
  refine ⟨none, 0, ?_, ?_, below_drewN ((Below.refl _ _).alloc (Nat.le_refl _) _) _⟩
  · rw [HO.out.1, HO.out.2]; rfl
  · rw [HO.out.2]; exact OwnB.nil _ _

set_option maxRecDepth 100000 in
set_option maxHeartbeats 800000 in
theorem open_long (T : Array Value) (f : Nat → W32) (A : Option Addr) (n c B k : Nat) (l : List Int) (w : World) (ht : IsTab T f) (hr : Row w B A n l) (hB : B ≤ w.heap.size) (hb : Bts l) (hc : n ≤ c) (hk : n = k + 4) (hnm : n ≤ 140737488355328) (hmax : c ≤ 9223372036854775807) :
    Calls Try.prog 38 #[.agg T, .slice A n c] w (OpenB f l w) := by
  have hr' := hr.alloc hB (.cells T 26)
  have e4 : (n : Int) - 4 = (k : Int) := by omega
  have hkc : ¬ c = k := by omega
  have hkn : k ≤ n := by omega
  have hkc2 : k ≤ c := by omega
  have HL := cover hr.len
  have HB := cover hb
  have HR : Hid (Row (w.alloc (.cells T 26)) B A k (l.take k) ∧ Row (w.alloc (.cells T 26)) B (A.map (·.add k)) (n - k) (l.drop k)) := cover ⟨hr'.take hkn, by
    have := hr'.cut hkn hc; rwa [if_neg hkc] at this⟩
  have HK := cover hk
  clear hk hr hb
  go_enter Try.func38, Try.ntmps38
  have hrg : (w.alloc (.cells T 26)).rangeAt w.heap.size 0 T.toList := fun j v hv => by
    rw [Nat.zero_add, cell_of_row _ _ j _ _ _ (heap_alloc_new w _)]
    simpa using hv
  have hu := Try.underlying26
  have hi : (Try.prog.info? 26).map (·.size) = some T.toList.length := by rw [Array.length_toList, ht.size]; kernel_rfl
  have hd0 : decide ((k : Int) < 0) = false := by simp
  have i1 : (0 : Int) ≤ (k : Int) := by omega
  have i2 : (k : Int) ≤ (n : Int) := by omega
  have i3 : (n : Int) ≤ (c : Int) := by omega
  go_wp2
  refine wp_region_noPanic ?_
  refine wp_region_held_drew (S := fun w' => w'.rangeAt w.heap.size 0 T.toList) (by kernel_rfl) (by simpa using hrg) (fun hHeld => ?_)
  refine wpAnyH_take (i := 0) (oi := ⟨some 10, _, _, _, _, _⟩) (v := ?v0) rfl (by kernel_rfl) (by kernel_rfl) (by kernel_rfl) (fun _ _ _ h => h) (Or.inl ⟨by rfl, ?hy0⟩) (by assumption) ?rest0
  case hy0 => (intro w hSw; go_simp; try with_reducible rfl)
  try simp only [Act.put, List.setIfInBounds_toArray, List.set_cons_zero, List.set_cons_succ]
  refine wpAnyH_take (i := 1) (oi := ⟨some 11, _, _, _, _, _⟩) (v := ?v1) rfl (by kernel_rfl) (by kernel_rfl) (by kernel_rfl) (fun _ _ _ h => h) (Or.inl ⟨by rfl, ?hy1⟩) (by assumption) ?rest1
  case hy1 => (intro w hSw; go_simp; try with_reducible rfl)
  try simp only [Act.put, List.setIfInBounds_toArray, List.set_cons_zero, List.set_cons_succ]
  refine wpAnyH_take (i := 2) (oi := ⟨some 12, _, _, _, _, _⟩) (v := ?v2) rfl (by kernel_rfl) (by kernel_rfl) (by kernel_rfl) (fun _ _ _ h => h) (Or.inl ⟨by rfl, ?hy2⟩) (by assumption) ?rest2
  case hy2 => (intro w hSw; go_simp; try with_reducible rfl)
  try simp only [Act.put, List.setIfInBounds_toArray, List.set_cons_zero, List.set_cons_succ]
  refine wpAnyH_take (i := 3) (oi := ⟨some 13, _, _, _, _, _⟩) (v := ?v3) rfl (by kernel_rfl) (by kernel_rfl) (by kernel_rfl) (fun _ _ _ h => h) (Or.inl ⟨by rfl, ?hy3⟩) (by assumption) ?rest3
  case hy3 => (intro w hSw; go_simp; try with_reducible rfl)
  try simp only [Act.put, List.setIfInBounds_toArray, List.set_cons_zero, List.set_cons_succ]
  refine wpAnyH_take (i := 4) (oi := ⟨some 14, _, _, _, _, _⟩) (v := ?v4) rfl (by kernel_rfl) (by kernel_rfl) (by kernel_rfl) (fun _ _ _ h => h) (Or.inl ⟨by rfl, ?hy4⟩) (by assumption) ?rest4
  case hy4 => (intro w hSw; go_simp; try with_reducible rfl)
  try simp only [Act.put, List.setIfInBounds_toArray, List.set_cons_zero, List.set_cons_succ]
  refine wpAnyH_take (i := 5) (oi := ⟨some 15, _, _, _, _, _⟩) (v := ?v5) rfl (by kernel_rfl) (by kernel_rfl) (by kernel_rfl) (fun _ _ _ h => h) (Or.inl ⟨by rfl, ?hy5⟩) (by assumption) ?rest5
  case hy5 => (intro w hSw; go_simp; try with_reducible rfl)
  try simp only [Act.put, List.setIfInBounds_toArray, List.set_cons_zero, List.set_cons_succ]
  refine wpAnyH_take (i := 7) (oi := ⟨some 17, _, _, _, _, _⟩) (v := ?v7) rfl (by kernel_rfl) (by kernel_rfl) (by kernel_rfl) (fun _ _ _ h => h) (Or.inl ⟨by rfl, ?hy7⟩) (by assumption) ?rest7
  case hy7 => (intro w hSw; go_simp; try with_reducible rfl)
  try simp only [Act.put, List.setIfInBounds_toArray, List.set_cons_zero, List.set_cons_succ]
  refine wpAnyH_take (i := 8) (oi := ⟨some 18, _, _, _, _, _⟩) (v := ?v8) rfl (by kernel_rfl) (by kernel_rfl) (by kernel_rfl) (fun _ _ _ h => h) (Or.inl ⟨by rfl, ?hy8⟩) (by assumption) ?rest8
  case hy8 => (intro w hSw; go_simp; try with_reducible rfl)
  try simp only [Act.put, List.setIfInBounds_toArray, List.set_cons_zero, List.set_cons_succ]
  refine wpAnyH_take (i := 9) (oi := ⟨some 19, _, _, _, _, _⟩) (v := ?v9) rfl (by kernel_rfl) (by kernel_rfl) (by kernel_rfl) (fun _ _ _ h => h) (Or.inl ⟨by rfl, ?hy9⟩) (by assumption) ?rest9
  case hy9 => (intro w hSw; go_simp; try with_reducible rfl)
  try simp only [Act.put, List.setIfInBounds_toArray, List.set_cons_zero, List.set_cons_succ]
  refine wpAnyH_take (i := 6) (oi := ⟨some 16, _, _, _, _, _⟩) (v := ?v6) rfl (by kernel_rfl) (by kernel_rfl) (by kernel_rfl) (fun _ _ _ h => h) ?hy6 (by assumption) ?rest6
  case hy6 =>
    refine Or.inl ⟨by rfl, fun w' hw' => ?_⟩
    have h1 := run_loadAt_mid (P := Try.prog) w' w.heap.size 0 26 T.toList _ hw' hu rfl hi
    show ((do pure (Next.value (← Instr.loadAt 26 (.pointer (some ⟨w.heap.size, 0, none⟩))))) : Sem Next).run Try.prog w' = _
    rw [Sem.run_bind, h1]
    rfl
  try simp only [Act.put, List.setIfInBounds_toArray, List.set_cons_zero, List.set_cons_succ]
  refine wpAnyH_ready (rs := [10]) (by kernel_rfl) (by simp) ?_
  refine AllReadyH.cons (o := ⟨some 20, _, _, _, _, _⟩) rfl (fun K hK => ?_) AllReadyH.nil
  go_simp
  refine (tail_any T f A k c B (l.take k) (w.alloc (.cells T 26)).drew ht (HR.out.1.keep fun _ _ => rfl) (by simp; omega) (HB.out.take k) (by omega)).mono ?_
  rintro e w1 ⟨A1, c1, rfl, ho1, hb1⟩
  have hb1' : Below (w.heap.size + 1) (w.alloc (.cells T 26)) w1 := ((Below.refl _ _).drew).trans (hb1.mono (by simp [World.drew]))
  have H1 := cover (And.intro hb1' (And.intro ho1.row HR.out.2))
  clear ho1 hb1 hb1'
  go_wp2_with fail
  refine hK.out _ _ ?_ (fun hHeld2 => ?_)
  · intro j v hj
    exact (H1.out.1.cell (p := ⟨w.heap.size, 0 + j, none⟩) (by simp)).trans (hrg j v hj)
  clear hK K
  try simp only [Act.put, List.setIfInBounds_toArray, List.set_cons_zero, List.set_cons_succ]
  refine wpAnyH_ready (rs := [11]) (by kernel_rfl) (by simp) ?_
  refine AllReadyH.cons (o := ⟨some 21, _, _, _, _, _⟩) rfl (fun K hK => ?_) AllReadyH.nil
  go_simp
  refine (equal_any _ A1 (n - k) _ (c - k) c1 B _ (l.drop k) (le4 (moreT f 0 (l.take k))) w1 (H1.out.2.2.below (H1.out.1.mono (by omega))) H1.out.2.1 (HB.out.drop k) (le4_bts _)).mono ?_
  rintro e w2 ⟨he, rfl⟩
  obtain ⟨q, hq⟩ : ∃ q : Bool, Hid (decide (l.drop k = le4 (moreT f 0 (l.take k))) = q) := ⟨_, cover rfl⟩
  rw [hq.out] at he
  subst he
  go_wp2_with fail
  refine hK.out _ _ hHeld2 (fun hHeld3 => ?_)
  clear hK K
  try simp only [Act.put, List.setIfInBounds_toArray, List.set_cons_zero, List.set_cons_succ]
  refine wpAnyH_take (i := 12) (oi := ⟨some 22, _, _, _, _, _⟩) (v := ?v12) rfl (by kernel_rfl) (by kernel_rfl) (by kernel_rfl) (fun _ _ _ h => h) (Or.inl ⟨by rfl, ?hy12⟩) (by assumption) ?rest12
  case hy12 => (intro w hSw; go_simp; try with_reducible rfl)
  try simp only [Act.put, List.setIfInBounds_toArray, List.set_cons_zero, List.set_cons_succ]
  refine wpAnyH_take (i := 13) (oi := ⟨some 23, _, _, _, _, _⟩) (v := ?v13) rfl (by kernel_rfl) (by kernel_rfl) (by kernel_rfl) (fun _ _ _ h => h) (Or.inl ⟨by rfl, ?hy13⟩) (by assumption) ?rest13
  case hy13 => (intro w hSw; go_simp; try with_reducible rfl)
  try simp only [Act.put, List.setIfInBounds_toArray, List.set_cons_zero, List.set_cons_succ]
  refine wpAnyH_done (by kernel_rfl) ?_ _
  refine NoPanic.normal ?_
  have hb0 : Below w.heap.size w w1 := ((Below.refl _ _).alloc (Nat.le_refl _) _).trans (H1.out.1.mono (by omega))
  have hln : Hid (l.length = n) := cover HL.out
  have hkl : Hid (l.length - 4 = k) := cover (by rw [HL.out, HK.out]; omega)
  have hok : Hid (okT f l = q) := cover (by
    unfold okT; rw [hkl.out, hq.out, decide_eq_true (by rw [HL.out, HK.out]; omega)]; rfl)
  clear hHeld hHeld2 hHeld3 hrg hu hi
  rcases q with _ | _
  · have HO : Hid (okT f l = false ∧ openT f l = []) := cover ⟨hok.out, by unfold openT; rw [hok.out]; rfl⟩
    go_wp2
    go_ret2
    refine ⟨none, 0, ?_, ?_, hb0⟩
    · rw [HO.out.1, HO.out.2]; rfl
    · rw [HO.out.2]; exact OwnB.nil _ _
  · have HO : Hid (okT f l = true ∧ openT f l = l.take k) := cover ⟨hok.out, by unfold openT; rw [hok.out, hkl.out]; rfl⟩
    go_wp2_with fail
    refine (clone_any A k c B (l.take k) w1 ((HR.out.1.below (H1.out.1.mono (by omega)))) (by have := H1.out.1.size; simp at this; omega) (by omega)).mono ?_
    rintro e w3 ⟨A3, c3, rfl, ho3, hb3⟩
    have hs1 := hb0.size
    have HF : Hid (OwnB w3 w.heap.size (.slice A3 (l.take k).length c3) (l.take k) ∧ Below w.heap.size w w3) := cover ⟨ho3.mono hs1, hb0.trans (hb3.mono hs1)⟩
    have hlk : Hid ((l.take k).length = k) := cover (by rw [List.length_take, HL.out]; omega)
    clear ho3 hb3
    go_wp2
    go_ret2
    refine ⟨A3, c3, ?_, ?_, HF.out.2⟩
    · rw [HO.out.1, HO.out.2]; first | rfl | simp
    · rw [HO.out.2]; exact HF.out.1
theorem open_any (T : Array Value) (f : Nat → W32) (A : Option Addr) (n c B : Nat) (l : List Int) (w : World) (ht : IsTab T f) (hr : Row w B A n l) (hB : B ≤ w.heap.size) (hb : Bts l) (hc : n ≤ c) (hmax : n ≤ 140737488355328) (hcm : c ≤ 9223372036854775807) :
    Calls Try.prog 38 #[.agg T, .slice A n c] w (OpenB f l w) := by
  by_cases h : n < 4
  · exact open_short T f A n c l w hr.len h
  · exact open_long T f A n c B (n - 4) l w ht hr hB hb hc (by omega) hmax hcm
end Go.Proofs.Ytbpmhfekjihhhaa
