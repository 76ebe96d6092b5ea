/- The document's lan is made; both lans of a law, side by side. -/
import Derived.Laws.MakeOwn
import Derived.Test.YtjidhpmjdhjciaaFDoS
namespace Go.Proofs.Ytjidhpmjdhjciaa
open Go.RowKit
set_option linter.unusedVariables false

theorem rnew_no (a b c : Int) (w : World) (h : ¬ newOk a b c) : Calls Try.prog 20 #[.int .i64 a, .int .i64 b, .int .i64 c] w fun e w' => e = .returned (.tuple #[.pointer none, .int .i64 1]) ∧ w = w' := by
  unfold newOk at h
  by_cases h1 : a < 1
  · go_enter Try.func20, Try.ntmps20
    go_wp2
    go_ret2
    exact ⟨rfl, rfl⟩
  by_cases h2 : 16 < a
  · go_enter Try.func20, Try.ntmps20
    go_wp2
    go_ret2
    exact ⟨rfl, rfl⟩
  by_cases h3 : b < 1
  · go_enter Try.func20, Try.ntmps20
    go_wp2
    go_ret2
    exact ⟨rfl, rfl⟩
  by_cases h4 : 64 < b
  · go_enter Try.func20, Try.ntmps20
    go_wp2
    go_ret2
    exact ⟨rfl, rfl⟩
  by_cases h5 : c < 1
  · go_enter Try.func20, Try.ntmps20
    go_wp2
    go_ret2
    exact ⟨rfl, rfl⟩
  have h6 : 10000 < c := by omega
  go_enter Try.func20, Try.ntmps20
  go_wp2
  go_ret2
  exact ⟨rfl, rfl⟩
theorem rfl_info : (Try.prog.info? 46).map (fun i => (i.zero, i.size, i.bytes)) = some (some (.slice none 0 0), 1, 24) := by kernel_rfl
/-- so many rows of which none is there yet -/
def nilRows (n : Nat) : Array Value := madeCells #[.slice none 0 0] n
theorem nilRows_size (n : Nat) : (nilRows n).size = n := size_madeCells _ _
theorem nilRows_at (n k : Nat) (h : k < n) : (nilRows n)[k]? = some (.slice none 0 0) := by unfold nilRows; simp [madeCells, h, Nat.mod_one]
theorem mk_rows (w : World) (n : Nat) (hn : n ≤ 1000) : (Instr.makeSlice 48 (.int .i64 (n : Int)) (.int .i64 (n : Int))).run Try.prog w = .ok (.slice (some ⟨w.heap.size, 0, none⟩) n n) (w.alloc (.cells (nilRows n) 46)) := by
  obtain ⟨i0, hi, hz0, hz1, hz2⟩ := info_parts rfl_info
  have h := run_makeSlice (P := Try.prog) (w := w) 48 46 i0 (.slice none 0 0) Try.underlying48 hi hz0 .i64 .i64 (n : Int) (n : Int) (by omega) (Int.le_refl _) (by rw [hz1]; omega) (by rw [hz2]; omega) (by omega)
  rw [hz1, Int.toNat_natCast, Nat.mul_one] at h
  exact h
theorem rnew_yes (n m life : Nat) (w : World) (hn : 1 ≤ n ∧ n ≤ 16) (hm : 1 ≤ m ∧ m ≤ 64) (hf : 1 ≤ life ∧ life ≤ 10000) :
    Calls Try.prog 20 #[.int .i64 n, .int .i64 m, .int .i64 life] w fun e w' => ∃ r, e = .returned (.tuple #[ptr r, .int .i64 0]) ∧ ∃ T, Hid (RIn T w' r (LS.fresh n m life) ∧ (∀ i, T i → w.heap.size ≤ i) ∧ Below w.heap.size w w') := by
  have h1 : ¬ (n : Int) < 1 := by omega
  have h2 : ¬ (16 : Int) < (n : Int) := by omega
  have h3 : ¬ (m : Int) < 1 := by omega
  have h4 : ¬ (64 : Int) < (m : Int) := by omega
  have h5 : ¬ (life : Int) < 1 := by omega
  have h6 : ¬ (10000 : Int) < (life : Int) := by omega
  have hnn : n * n ≤ 16 * 16 := Nat.mul_le_mul hn.2 hn.2
  have hw : IntKind.i64.wrap ((n : Int) * (n : Int)) = ((n * n : Nat) : Int) := by
    rw [IntKind.wrap_i64]
    have : ((n * n : Nat) : Int) = (n : Int) * (n : Int) := by simp
    rw [← this]; omega
  obtain ⟨nn, hnn2⟩ : ∃ nn, nn = n * n := ⟨_, rfl⟩
  rw [← hnn2] at hw hnn
  have hmk : ∀ w, (Instr.makeSlice 48 (.int .i64 (nn : Int)) (.int .i64 (nn : Int))).run Try.prog w = .ok (.slice (some ⟨w.heap.size, 0, none⟩) nn nn) (w.alloc (.cells (nilRows nn) 46)) := fun w => mk_rows w nn (by omega)
  have HF : Hid (∀ w1 w2 r, r = w1.heap.size → w1 = w.alloc (.cells (nilRows nn) 46) → w2 = w1.alloc (.cells #[.int .i64 n, .int .i64 m, .int .i64 life, .int .i64 0, .slice (some ⟨w.heap.size, 0, none⟩) nn nn] 50) →
      RIn (fun i => i = r ∨ i = w.heap.size) w2 r (LS.fresh n m life) ∧ (∀ i, (i = r ∨ i = w.heap.size) → w.heap.size ≤ i) ∧ Below w.heap.size w w2) := cover fun w1 w2 r er e1 e2 => by
    subst er
    have b1 : Below w.heap.size w w1 := by rw [e1]; exact (Below.refl _ _).alloc (Nat.le_refl _) _
    have b2 : Below w1.heap.size w1 w2 := by rw [e2]; exact (Below.refl _ _).alloc (Nat.le_refl _) _
    have hs : w1.heap.size = w.heap.size + 1 := by rw [e1]; simp
    have hg : w1.heap[w.heap.size]? = some (.cells (nilRows nn) 46 (0, 0)) := by rw [e1]; exact heap_alloc_new w _
    have hr : w2.heap[w1.heap.size]? = some (.cells #[.int .i64 n, .int .i64 m, .int .i64 life, .int .i64 0, .slice (some ⟨w.heap.size, 0, none⟩) nn nn] 50 (0, 0)) := by rw [e2]; exact heap_alloc_new w1 _
    refine ⟨RIn.fresh hn hm.2 (by rw [← hnn2]; exact hr) ((b2.block _ (by omega)).trans hg) (by rw [nilRows_size, ← hnn2]; exact Nat.le_refl _) (fun k hk => nilRows_at nn k (by rw [hnn2]; exact hk)), fun i hi => by omega, b1.trans (b2.mono (by omega))⟩
  clear hnn2
  go_enter Try.func20, Try.ntmps20
  go_wp2_with fail
  go_ret2
  exact ⟨w.heap.size + 1, rfl, _, cover (HF.out _ _ _ (by simp) rfl rfl)⟩
/-- a deed's bytes that were there at W are aside of what the law made since -/
theorem aside_of {S T : Foot} {W w : World} {q : DV} {B : Nat} (hb : Below W.heap.size W w) (hr : Row W B q.A q.b.length q.b) (hB : B ≤ W.heap.size) (hS : ∀ i, S i → W.heap.size ≤ i) (hT : ∀ i, T i → W.heap.size ≤ i) : Aside S T w q := fun w' S' hm => by
  have h1 := Moves.below hb hm (fun i hi => hi.elim (hS i) (hT i)) hb.size
  exact ((hr.more hB).below h1).more h1.size
/-- both lans of a law's own, in one state; beside them the blocks xs lie as they are -/
def Pair (W : World) (xs : List (Nat × Obj)) (l r : Nat) (s : LS) (w : World) : Prop :=
  ∃ S T, LIn S w l s ∧ RIn T w r s ∧ (∀ i, S i → ¬ T i) ∧ (∀ i, S i → W.heap.size ≤ i) ∧ (∀ i, T i → W.heap.size ≤ i) ∧ Below W.heap.size W w ∧ ∀ p ∈ xs, w.heap[p.1]? = some p.2 ∧ ¬ S p.1 ∧ ¬ T p.1
section
variable {W w w' : World} {xs : List (Nat × Obj)} {l r : Nat} {s : LS}
theorem Pair.bel (h : Pair W xs l r s w) : Below W.heap.size W w := by obtain ⟨S, T, _, _, _, _, _, h, _⟩ := h; exact h
theorem Pair.below (h : Pair W xs l r s w) (hb : Below w.heap.size w w') : Pair W xs l r s w' := by
  obtain ⟨S, T, h1, h2, h3, h4, h5, h6, h7⟩ := h
  exact ⟨S, T, h1.below hb, h2.below hb, h3, h4, h5, h6.trans (hb.mono h6.size), fun p hp => ⟨(hb.block _ (block_lt (h7 p hp).1)).trans (h7 p hp).1, (h7 p hp).2⟩⟩
theorem Pair.facts (h : Pair W xs l r s w) : (∀ k, (s.rows k).length ≤ 64) ∧ s.n ≤ 16 ∧ 1 ≤ s.n ∧ (∀ k, ∀ x ∈ s.rows k, x.2 ≤ s.now) ∧ w.cell? ⟨r, 3, none⟩ = some (.int .i64 s.lost) ∧ r < w.heap.size := by
  obtain ⟨S, T, h1, h2, _⟩ := h
  exact ⟨fun k => Nat.le_trans (h1.len k) h1.m64, h1.n16, h1.n1, h1.age, h2.cells.2.2.2, h2.lt r h2.r_in⟩
theorem Pair.block (h : Pair W xs l r s w) : ∀ p ∈ xs, w.heap[p.1]? = some p.2 := by
  obtain ⟨S, T, _, _, _, _, _, _, h7⟩ := h
  exact fun p hp => (h7 p hp).1
theorem pair_do (h : Pair W xs l r s w) (q : DV) {B : Nat} (hr : Row W B q.A q.b.length q.b) (hB : B ≤ W.heap.size) (hs : Fit s) (hq : DOk q) (hq2 : q.b.length ≤ 200) (hqc : q.b.length ≤ q.c) :
    Calls Try.prog 21 #[ptr l, ptr r, .agg #[.int .i64 q.what, .int .i64 q.f, .int .i64 q.t, .int .i64 q.bit, .slice q.A q.b.length q.c]] w fun e w' => e = .returned (.bool true) ∧ Hid (Pair W xs l r (doS s q) w') := by
  obtain ⟨S, T, h1, h2, h3, h4, h5, h6, h7⟩ := h
  refine (do_any q h1 h2 h3 (aside_of h6 hr hB h4 h5) hs hs hq hq2 hqc).mono fun e w' ⟨bb, he, hbb, hD⟩ => ?_
  rw [hbb.out rfl] at he
  obtain ⟨S', T', k1, k2, k3, k4⟩ := hD.out
  have hown : ∀ i, S' i ∨ T' i → W.heap.size ≤ i := fun i hi => by
    rcases k4.own i hi with (h8 | h8) | h8
    · exact h4 i h8
    · exact h5 i h8
    · exact Nat.le_trans h6.size h8
  refine ⟨he, cover ⟨S', T', k1, k2, k3, fun i hi => hown i (.inl hi), fun i hi => hown i (.inr hi), Moves.below h6 k4 (fun i hi => hi.elim (h4 i) (h5 i)) h6.size, fun p hp => ?_⟩⟩
  have hlt := block_lt (h7 p hp).1
  have hn : ¬ (S p.1 ∨ T p.1) := fun h => h.elim (h7 p hp).2.1 (h7 p hp).2.2
  have hn' : ¬ (S' p.1 ∨ T' p.1) := fun h => (k4.own _ h).elim hn (fun h => by omega)
  exact ⟨k4.at_ (h7 p hp).1 hn, fun h => hn' (.inl h), fun h => hn' (.inr h)⟩
theorem pair_row (h : Pair W xs l r s w) (f t : Int) (hnow : s.now ≤ 1000000) (hmax : ∀ x ∈ theRow s f t, x.1.length ≤ 1000000) :
    Calls Try.prog 23 #[ptr l, .int .i64 f, .int .i64 t] w fun e w' => ∃ A c, e = .returned (.slice A (theRow s f t).length c) ∧ Hid (Flies w' A (theRow s f t).length (told (theRow s f t)) ∧ Below w.heap.size w w') := by
  obtain ⟨S, T, h1, _⟩ := h
  exact (row_any h1 f t hnow hmax).mono fun e w' ⟨A, c, k1, k2, k3⟩ => ⟨A, c, k1, cover ⟨k2, k3⟩⟩
theorem pair_line (h : Pair W xs l r s w) (f t : Int) :
    Calls Try.prog 24 #[ptr r, .int .i64 f, .int .i64 t] w fun e w' => ∃ A c, e = .returned (.slice A (theRow s f t).length c) ∧ w = w' ∧ Hid (Flies w' A (theRow s f t).length (told (theRow s f t))) := by
  obtain ⟨S, T, _, h2, _⟩ := h
  refine (line_any h2 f t).mono fun e w' ⟨A, c, us, he, hR, ht, hw⟩ => ?_
  have hul := tell2_len ht
  have hF := hR.flies
  rw [ht, hul] at hF
  rw [hul] at he
  exact ⟨A, c, he, hw, cover (by rw [← hw]; exact hF)⟩
theorem pair_lost (h : Pair W xs l r s w) : Calls Try.prog 18 #[ptr l] w fun e w' => e = .returned (.int .i64 s.lost) ∧ w = w' := by
  obtain ⟨S, T, h1, _⟩ := h
  exact lost_any h1
end
end Go.Proofs.Ytjidhpmjdhjciaa
