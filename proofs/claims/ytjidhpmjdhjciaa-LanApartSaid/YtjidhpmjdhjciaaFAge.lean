/- What Age does. -/
import Derived.Test.YtjidhpmjdhjciaaFFil
import Derived.Test.YtjidhpmjdhjciaaFAwake
namespace Go.Proofs.Ytjidhpmjdhjciaa
open Go.RowKit
set_option linter.unusedVariables false

set_option maxRecDepth 100000 in
theorem lives_any {w : World} {l : Nat} (now life : Nat) (h1 : w.cell? ⟨l, 1, none⟩ = some (.int .i64 life)) (h2 : w.cell? ⟨l, 2, none⟩ = some (.int .i64 now)) (A : Option Addr) (k c : Nat) (born : Int) (hb : 0 ≤ born ∧ born ≤ now) (hn : now ≤ 1000001) :
    Calls Try.prog 51 #[ptr l, .agg #[.slice A k c, .int .i64 born]] w fun e w' => e = .returned (.bool (decide ((now : Int) - born ≤ (life : Int)))) ∧ Below w.heap.size w w' := by
  obtain ⟨w0, hw0⟩ : ∃ w0, w0 = w.alloc (.cells #[.slice A k c, .int .i64 born] 73) := ⟨_, rfl⟩
  have hb0 : Below w.heap.size w w0 := by rw [hw0]; exact (Below.refl _ _).alloc (Nat.le_refl _) _
  obtain ⟨z, hz⟩ : ∃ z, z = w.heap.size := ⟨_, rfl⟩
  have hx : w0.heap[z]? = some (.cells #[.slice A k c, .int .i64 born] 73 (0, 0)) := by rw [hw0, hz]; exact heap_alloc_new _ _
  have c1 := cell_of_row w0 z 1 _ _ _ hx
  have hl := cell_in h1
  have d1 := (hb0.cell (p := ⟨l, 1, none⟩) hl).trans h1
  have d2 := (hb0.cell (p := ⟨l, 2, none⟩) hl).trans h2
  simp at c1
  have HB := cover hb0
  have hb1 := hb.1
  have hb2 := hb.2
  clear hb hb0 hx h1 h2 hl
  go_enter Try.func51, Try.ntmps51
  go_wp2_with fail
  rw [← hw0, ← hz]
  clear hw0 hz
  have hs : IntKind.i64.wrap ((now : Int) - born) = (now : Int) - born := by rw [IntKind.wrap_i64]; omega
  go_quiet (fail)
  go_wp2
  go_ret
  exact ⟨rfl, below_drewN HB.out _⟩

/-- those that stay -/
def stayQ (P : Int → Bool) (fs : List (List Int × Int)) : List (List Int × Int) := fs.filter fun y => P y.2
theorem filter_q {S : Foot} {w : World} {q l : Nat} {m : Int} {fs : List (List Int × Int)} (h : FQ S w q m fs) (P : Int → Bool) (hbig : fs.length ≤ 1000000)
    (HLV : ∀ W', Below w.heap.size w W' → ∀ A k c n, n ∈ fs.map Prod.snd → Calls Try.prog 51 #[ptr l, .agg #[.slice A k c, .int .i64 n]] W' fun e w' => e = .returned (.bool (P n)) ∧ Below W'.heap.size W' w') :
    Calls Try.prog 50 #[ptr q, .func (.func 51) #[ptr l] #[]] w fun e w' => e = .returned (.int .i64 ((fs.length : Int) - ((stayQ P fs).length : Int))) ∧ Hid (∃ S', FQ S' w' q m (stayQ P fs) ∧ Moves S S' w w') := by
  obtain ⟨G, ps, vs, h1, rfl, h3, h4, rfl⟩ := h.ex
  have hl := h1.len
  simp at hl hbig
  have z1 : (ps.zip vs).map Prod.fst = ps := List.map_fst_zip (by omega)
  have z2 : (ps.zip vs).map Prod.snd = vs := List.map_snd_zip (by omega)
  have zl : (ps.zip vs).length = vs.length := by rw [List.length_zip]; omega
  have hk2 : (kept (fun v => P v.born) (ps.zip vs)).map Prod.snd = vs.filter (fun v => P v.born) := by
    unfold kept
    conv => rhs; rw [← z2]
    rw [List.filter_map]; rfl
  have hst : stayQ P (vs.map fun v => (v.l, v.born)) = (vs.filter fun v => P v.born).map fun v => (v.l, v.born) := by
    unfold stayQ; rw [List.filter_map]; rfl
  have hkl : (kept (fun v => P v.born) (ps.zip vs)).length = (stayQ P (vs.map fun v => (v.l, v.born))).length := by rw [hst, List.length_map, ← hk2, List.length_map]
  refine (filter_any (fun v => P v.born) (ps.zip vs) (by rw [z1, z2]; exact h1) (by omega) (fun W' hb v hv => ?_)).mono ?_
  · rw [z2] at hv
    exact HLV W' hb v.A v.l.length v.c v.born (List.mem_map.2 ⟨(v.l, v.born), List.mem_map.2 ⟨v, hv, rfl⟩, rfl⟩)
  rintro e w' ⟨rfl, H⟩
  obtain ⟨k1, k2⟩ := H.out
  rw [zl, hkl, List.length_map]
  rw [hk2] at k1
  rw [z1] at k2
  have hsub : ∀ u ∈ vs.filter (fun v => P v.born), u ∈ vs := fun u hu => (List.mem_filter.1 hu).1
  have hmem : ∀ i ∈ (kept (fun v => P v.born) (ps.zip vs)).map Prod.fst, i ∈ ps := fun i hi => by
    obtain ⟨z, hz, rfl⟩ := List.mem_map.1 hi
    have : z.1 ∈ (ps.zip vs).map Prod.fst := List.mem_map.2 ⟨z, (List.mem_filter.1 hz).1, rfl⟩
    rwa [z1] at this
  refine ⟨rfl, cover ⟨_, ⟨G, _, vs.filter (fun v => P v.born), k1, hst.symm, fun v hv => own_keep (h3 v (hsub v hv)) fun g hg => ?_, h4.sublist ((List.filter_sublist).filterMap _), rfl⟩, ?_⟩⟩
  · obtain ⟨_, cur, hc⟩ := own_blk (h3 v (hsub v hv)) hg
    obtain ⟨n1, n2, n3⟩ := FIn_ne h1 hc
    refine k2.block g (block_lt hc) (fun hm => ?_)
    rcases List.mem_cons.1 hm with hm | hm
    · exact n1 hm
    · rcases List.mem_append.1 hm with hm | hm
      · exact n2 (by simpa using hm)
      · exact n3 hm
  · refine Moves.of_turned k2 (fun i hi => ?_) (fun i hi => ?_)
    · rcases List.mem_cons.1 hi with hi | hi
      · exact .inl hi
      · rcases List.mem_append.1 hi with hi | hi
        · exact .inr (.inl (by simpa using hi))
        · exact .inr (.inr (.inl hi))
    · rcases hi with hi | hi | hi | ⟨u, hu, hi⟩
      · exact .inl (.inl hi)
      · exact .inl (.inr (.inl hi))
      · exact .inl (.inr (.inr (.inl (hmem i hi))))
      · exact .inl (.inr (.inr (.inr ⟨u, hsub u hu, hi⟩)))
theorem filter_nil (l : Nat) (w : World) : Calls Try.prog 50 #[.pointer none, .func (.func 51) #[ptr l] #[]] w fun e w' => e = .returned (.int .i64 0) ∧ w = w' := by
  go_enter Try.func50, Try.ntmps50
  go_wp2
  go_ret
  exact ⟨rfl, rfl⟩

/-- one age more -/
def older (r : List (List Int × Nat)) : List (List Int × Nat) := r.map fun x => (x.1, x.2 + 1)
def lasts (life : Nat) (r : List (List Int × Nat)) : List (List Int × Nat) := r.filter fun x => decide (x.2 ≤ life)
/-- the rows up to the k-th have lost what is too old -/
def LS.sift (s : LS) (k : Nat) : LS := { s with now := s.now + 1, rows := fun j => if j < k then lasts s.life (older (s.rows j)) else older (s.rows j) }
/-- so many have gone -/
def goneTo (s : LS) : Nat → Nat
  | 0 => 0
  | k + 1 => goneTo s k + ((s.rows k).length - (lasts s.life (older (s.rows k))).length)
def ageN (s : LS) : Nat := goneTo s (s.n * s.n)
/-- what Age leaves -/
def ageS (s : LS) : LS := { s with now := s.now + 1, lost := s.lost + ageN s, rows := fun j => if j < s.n * s.n then lasts s.life (older (s.rows j)) else older (s.rows j) }
theorem lasts_le (life : Nat) (r : List (List Int × Nat)) : (lasts life r).length ≤ r.length := List.length_filter_le _ _
theorem older_length (r : List (List Int × Nat)) : (older r).length = r.length := by simp [older]
theorem goneTo_le (s : LS) (hm : ∀ k, (s.rows k).length ≤ 64) (k : Nat) : goneTo s k ≤ 64 * k := by
  induction k with
  | zero => exact Nat.le_refl _
  | succ k ih => have := hm k; simp only [goneTo]; omega
theorem LS.sift_step (s : LS) (k : Nat) : (s.sift k).upd k (lasts s.life (older (s.rows k))) = s.sift (k + 1) := by
  unfold LS.sift LS.upd
  simp only [LS.mk.injEq, true_and]
  funext j
  by_cases h1 : j = k
  · subst h1; simp
  · by_cases h2 : j < k
    · simp [h1, h2, show j < k + 1 by omega]
    · simp [h1, h2, show ¬ j < k + 1 by omega]
theorem encR_older (now : Nat) (r : List (List Int × Nat)) : encR (now + 1) (older r) = encR now r := by
  unfold encR older
  rw [List.map_map]
  apply List.map_congr_left
  intro x _
  simp only [Function.comp, Prod.mk.injEq, true_and]; omega
theorem stay_lasts (now life : Nat) (r : List (List Int × Nat)) (hr : ∀ x ∈ r, x.2 ≤ now) : stayQ (fun b => decide (((now + 1 : Nat) : Int) - b ≤ (life : Int))) (encR (now + 1) (older r)) = encR (now + 1) (lasts life (older r)) := by
  unfold stayQ encR lasts
  rw [List.filter_map]
  congr 1
  apply List.filter_congr
  intro x hx
  obtain ⟨y, hy, rfl⟩ := List.mem_map.1 hx
  simp only [Function.comp]
  congr 1
  apply propext
  omega
/-- the clock is set -/
theorem LIn.tick {S : Foot} {w : World} {l : Nat} {s : LS} (h : LIn S w l s) : LIn S (w.setCell ⟨l, 2, none⟩ (.int .i64 ((s.now : Int) + 1))) l (s.sift 0) := by
  obtain ⟨g, c, cur, q, R, h1, h2, h3, h4, h5, h6, h7, rfl⟩ := h.ex
  have e0 : ∀ j, (s.sift 0).rows j = older (s.rows j) := fun j => by simp [LS.sift]
  refine ⟨h.n1, h.n16, h.m64, fun k => ?_, fun k x hx => ?_, g, c, cur, q, R, ?_, ?_, h3, fun k hk hd => ⟨(h4 k hk hd).1, ?_⟩, fun k hk1 hd => ⟨(h5 k hk1 hd).1, ?_⟩, h6, h7, rfl⟩
  · rw [e0, older_length]; exact h.len k
  · rw [e0] at hx
    obtain ⟨y, hy, rfl⟩ := List.mem_map.1 hx
    have := h.age k y hy
    show y.2 + 1 ≤ s.now + 1; omega
  · rw [set_block h1]
    show _ = some (Obj.cells #[.int .i64 s.n, .int .i64 s.life, .int .i64 ((s.now + 1 : Nat) : Int), .int .i64 s.lost, _] _ _)
    rw [show ((s.now + 1 : Nat) : Int) = (s.now : Int) + 1 by omega]; rfl
  · rw [set_other _ _ (type_ne h2 h1 (by decide))]; exact h2
  · rw [e0, (h4 k hk hd).2]; rfl
  · rw [e0]
    show FQ (R k) _ (q k) s.m (encR (s.now + 1) (older (s.rows k)))
    rw [encR_older]
    exact (h5 k hk1 hd).2.keep fun i hi => set_other _ _ (h7 k hk1 hd i hi).1
/-- the lan at the head of a round of Age -/
structure AgeAt (S : Foot) (l : Nat) (s : LS) (g c k : Nat) (w wr : World) : Prop where
  lan : LNow S l (s.sift k) w wr
  row : wr.cell? ⟨l, 4, none⟩ = some (.slice (some ⟨g, 0, none⟩) ((s.n * s.n : Nat)) c)

set_option maxRecDepth 100000 in
set_option maxHeartbeats 1600000 in
theorem age_any {S : Foot} {w : World} {l : Nat} {s : LS} (h : LIn S w l s) (hnow : s.now ≤ 1000000) (hlost : s.lost ≤ 100000000) :
    Calls Try.prog 27 #[ptr l] w fun e w' => e = .returned (.int .i64 (ageN s)) ∧ Hid (LNow S l (ageS s) w w') := by
  have h16 := h.n16
  have hnn : s.n * s.n ≤ 16 * 16 := Nat.mul_le_mul h16 h16
  have hlen64 : ∀ k, (s.rows k).length ≤ 64 := fun k => Nat.le_trans (h.len k) h.m64
  have hg64 := goneTo_le s hlen64
  have hc2 := h.cells.2.2.1
  have hf2 := h.thaw 2
  obtain ⟨g, c, cur, q, R, k1, k2, k3, k4, _⟩ := h.ex
  have hc4 : (w.setCell ⟨l, 2, none⟩ (.int .i64 ((s.now : Int) + 1))).cell? ⟨l, 4, none⟩ = some (.slice (some ⟨g, 0, none⟩) ((s.n * s.n : Nat)) c) := by
    rw [cell_of_row _ _ _ _ _ _ (set_block k1 _ _)]; rfl
  have HST : Hid (AgeAt S l s g c 0 w (w.setCell ⟨l, 2, none⟩ (.int .i64 ((s.now : Int) + 1)))) := cover ⟨⟨S, h.tick, (Moves.refl S w).setCell (.inl h.l_in) _ _⟩, hc4⟩
  have HH := cover h
  have HG := cover (And.intro hlen64 hg64)
  obtain ⟨nn, hn⟩ : ∃ nn, nn = s.n * s.n := ⟨_, rfl⟩
  have HNN := cover hn
  rw [← hn] at hnn hc4
  clear k1 k2 k3 k4 h h16 hlen64 hg64 hn
  go_enter Try.func27, Try.ntmps27
  go_wp2_with fail
  go_loopw [3, 20] (fun a i wr => ∃ k : Nat, k ≤ nn ∧ a = .int .i64 (goneTo s k) ∧ i = .int .i64 k ∧ Hid (AgeAt S l s g c k w wr)) (fun _ i _ => nn - (intOf i).toNat)
  case atStart => exact ⟨0, Nat.zero_le _, rfl, rfl, HST⟩
  case round =>
    clear HST hc2 hf2 hc4
    obtain ⟨k, hk, rfl, rfl, hrel⟩ := hrel
    have hgk := HG.out.2 k
    by_cases hlt : k < nn
    · obtain ⟨S1, hl1, hm1⟩ := hrel.out.lan
      have h4 := hrel.out.row
      rw [← HNN.out] at h4
      have hkn : k < (s.sift k).n * (s.sift k).n := by have := HNN.out; show k < s.n * s.n; omega
      have hrk : (s.sift k).rows k = older (s.rows k) := by simp [LS.sift]
      by_cases hd : diag s.n k
      · -- no queue there
        obtain ⟨g', c', cur', q', R', j1, j2, j3, j4, _⟩ := hl1.ex
        have e4 : wr.cell? ⟨l, 4, none⟩ = some (.slice (some ⟨g', 0, none⟩) ((s.n * s.n : Nat)) c') := by rw [cell_of_row _ _ _ _ _ _ j1]; rfl
        have hgg : g' = g := by rw [hrel.out.row] at e4; injection e4 with e4; injection e4 with e4; injection e4 with e4; injection e4 with e4; exact e4.symm
        subst hgg
        obtain ⟨j5, j6⟩ := j4 k hkn hd
        have hcg : wr.cell? ⟨g', k, none⟩ = some (.pointer none) := by rw [cell_of_row _ _ _ _ _ _ j2]; exact j5
        have hr0 : s.rows k = [] := by rw [hrk] at j6; simpa [older] using j6
        have HN : Hid (AgeAt S l s g' c (k + 1) w wr) := cover ⟨by
          rw [← LS.sift_step, hr0]
          have : (s.sift k).upd k (lasts s.life (older [])) = s.sift k := by
            unfold LS.upd
            cases hs : s.sift k with
            | mk a b c d e f =>
              simp only [LS.mk.injEq, true_and]
              funext j
              by_cases hj : j = k
              · subst hj
                have : (s.sift j).rows j = older (s.rows j) := by simp [LS.sift]
                rw [hs, hr0] at this
                simpa [lasts, older] using this.symm
              · simp [hj]
          rw [this]; exact ⟨S1, hl1, hm1⟩, hrel.out.row⟩
        have hg1 : goneTo s (k + 1) = goneTo s k := by simp [goneTo, hr0]
        have HG1 := cover hg1
        have hk0 : (0 : Int) ≤ (k : Int) := by omega
        have hk1 : (k : Int) < (nn : Int) := by omega
        clear j1 j2 j3 j4 j5 j6 e4 hr0 hl1 hm1 hrel hrk hg1 hkn h4
        go_wp2_with fail
        refine (filter_nil l wr).mono ?_
        rintro e w' ⟨rfl, rfl⟩
        clear hcg
        go_wp2
        go_roundw
        case rel => exact ⟨k + 1, by omega, by rw [HG1.out], by go_num, HN⟩
        case measure => simp [intOf]; omega
      · obtain ⟨g', c', cur', q', R', j1, j2, j3, hq, hRS, hclose⟩ := hl1.place hkn hd
        have e4 : wr.cell? ⟨l, 4, none⟩ = some (.slice (some ⟨g', 0, none⟩) ((s.n * s.n : Nat)) c') := by rw [cell_of_row _ _ _ _ _ _ j1]; rfl
        have hgg : g' = g := by rw [hrel.out.row] at e4; injection e4 with e4; injection e4 with e4; injection e4 with e4; injection e4 with e4; exact e4.symm
        subst hgg
        have hcg : wr.cell? ⟨g', k, none⟩ = some (ptr q') := by rw [cell_of_row _ _ _ _ _ _ j2]; exact j3
        have hcl := hl1.cells
        have hlm := block_lt j1
        have hage := HH.out.age k
        rw [hrk] at hq
        have hq' : FQ R' wr q' s.m (encR (s.now + 1) (older (s.rows k))) := hq
        have hF := filter_q (l := l) hq' (fun b => decide (((s.now + 1 : Nat) : Int) - b ≤ (s.life : Int))) (by rw [encR_length, older_length]; have := HG.out.1 k; omega) (fun W' hb A n cc b hbm => by
          obtain ⟨y, hy, rfl⟩ := List.mem_map.1 hbm
          obtain ⟨z, hz, rfl⟩ := List.mem_map.1 hy
          obtain ⟨u, hu, rfl⟩ := List.mem_map.1 hz
          have := hage u hu
          refine lives_any (s.now + 1) s.life ?_ ?_ A n cc _ ⟨by simp only []; omega, by simp only []; omega⟩ (by omega)
          · exact (hb.cell (p := ⟨l, 1, none⟩) hlm).trans hcl.2.1
          · exact (hb.cell (p := ⟨l, 2, none⟩) hlm).trans hcl.2.2.1)
        rw [stay_lasts _ _ _ hage, encR_length, encR_length, older_length] at hF
        have hle := lasts_le s.life (older (s.rows k))
        rw [older_length] at hle
        have hfin : ∀ w', (∃ S', FQ S' w' q' s.m (encR (s.now + 1) (lasts s.life (older (s.rows k)))) ∧ Moves R' S' wr w') → AgeAt S l s g' c (k + 1) w w' := fun w' ⟨S', f1, f2⟩ => by
          obtain ⟨S2, m1, m2, _⟩ := hclose w' S' (lasts s.life (older (s.rows k))) f1 f2 (Nat.le_trans (Nat.le_trans (lasts_le _ _) (by rw [older_length]; exact Nat.le_refl _)) (HH.out.len k)) (fun x hx => by
            obtain ⟨y, hy, rfl⟩ := List.mem_map.1 ((List.mem_filter.1 hx).1)
            have := hage y hy
            show y.2 + 1 ≤ s.now + 1; omega)
          rw [LS.sift_step] at m1
          refine ⟨⟨S2, m1, hm1.trans m2⟩, ?_⟩
          rw [World.cell?_of_block (f2.block l hlm (fun hi => (hRS l hi).2.1 rfl))]
          exact hrel.out.row
        have HN := cover hfin
        have hg1 : ((goneTo s (k + 1) : Nat) : Int) = (goneTo s k : Int) + (((s.rows k).length : Int) - ((lasts s.life (older (s.rows k))).length : Int)) := by simp only [goneTo]; omega
        have HG1 := cover hg1
        have hk0 : (0 : Int) ≤ (k : Int) := by omega
        have hk1 : (k : Int) < (nn : Int) := by omega
        have h64 := HG.out.1 k
        clear j1 j2 j3 e4 hl1 hm1 hrel hrk hg1 hkn h4 hclose hRS hq hq' hcl hage hfin
        generalize (s.rows k).length = x1 at hF hle HG1 h64
        generalize (lasts s.life (older (s.rows k))).length = x2 at hF hle HG1
        go_wp2_with fail
        refine hF.mono ?_
        rintro e w' ⟨rfl, H1⟩
        have HNN' := cover (HN.out _ H1.out)
        clear hcg H1 hF HN
        go_wp2
        go_roundw
        case rel => exact ⟨k + 1, by omega, by rw [HG1.out], by go_num, HNN'⟩
        case measure => simp [intOf]; omega
    · obtain rfl : k = nn := by omega
      obtain ⟨S1, hl1, hm1⟩ := hrel.out.lan
      have c3 : wr.cell? ⟨l, 3, none⟩ = some (.int .i64 s.lost) := hl1.cells.2.2.2
      have f3 := hl1.thaw 3
      have hset := hl1.setLost (s.lost + ageN s)
      have hmv := hl1.moveLost (s.lost + ageN s)
      have HE : Hid ((ageN s : Nat) = goneTo s k) := cover (by unfold ageN; rw [HNN.out])
      have HN : Hid (LNow S l (ageS s) w (wr.setCell ⟨l, 3, none⟩ (.int .i64 ((s.lost : Int) + (goneTo s k : Int))))) := by
        refine cover ?_
        have e1 : ((s.lost + ageN s : Nat) : Int) = (s.lost : Int) + (goneTo s k : Int) := by have := HE.out; omega
        rw [e1] at hset hmv
        refine ⟨S1, ?_, hm1.trans hmv⟩
        have e2 : ageS s = { s.sift k with lost := s.lost + ageN s } := by unfold ageS LS.sift; rw [← HNN.out]
        rw [e2]; exact hset
      clear hset hmv hl1 hm1 hrel
      go_wp2
      go_ret
      exact ⟨by rw [HE.out]; rfl, HN⟩
end Go.Proofs.Ytjidhpmjdhjciaa
