/- The walk of LanApart. -/
import Derived.Deep.CutBlock
import Derived.Deep.DeepCutAuto
import Derived.Deep.RegionHeld3
import Derived.Test.YtjidhpmjdhjciaaFRNew
namespace Go.Proofs.Ytjidhpmjdhjciaa
open Go.RowKit
set_option linter.unusedVariables false
set_option linter.unusedSimpArgs false

/-- two lans of the program's, and the blocks xs, as they lie -/
def Two (W : World) (xs : List (Nat × Obj)) (x y : Nat) (s s' : LS) (w : World) : Prop :=
  ∃ S T, LIn S w x s ∧ LIn T w y s' ∧ (∀ i, S i → ¬ T i) ∧ (∀ i, S i → W.heap.size ≤ i) ∧ (∀ i, T i → W.heap.size ≤ i) ∧ Below W.heap.size W w ∧ ∀ p ∈ xs, w.heap[p.1]? = some p.2 ∧ ¬ S p.1 ∧ ¬ T p.1
section
variable {W w w' w0 : World} {xs : List (Nat × Obj)} {x y r : Nat} {s s' : LS}
theorem Two.bel (h : Two W xs x y s s' w) : Below W.heap.size W w := by obtain ⟨S, T, _, _, _, _, _, h, _⟩ := h; exact h
theorem Two.swap (h : Two W xs x y s s' w) : Two W xs y x s' s w := by
  obtain ⟨S, T, h1, h2, h3, h4, h5, h6, h7⟩ := h
  exact ⟨T, S, h2, h1, fun i hi hs => h3 i hs hi, h5, h4, h6, fun p hp => ⟨(h7 p hp).1, (h7 p hp).2.2, (h7 p hp).2.1⟩⟩
theorem Two.below (h : Two W xs x y s s' w) (hb : Below w.heap.size w w') : Two W xs x y s s' w' := by
  obtain ⟨S, T, h1, h2, h3, h4, h5, h6, h7⟩ := h
  exact ⟨S, T, h1.below hb, h2.below hb, h3, h4, h5, h6.trans (hb.mono h6.size), fun p hp => ⟨(hb.block _ (block_lt (h7 p hp).1)).trans (h7 p hp).1, (h7 p hp).2⟩⟩
theorem Two.keep_new (h : Two W xs x y s s' w) (o : Obj) : Two W ((w.heap.size, o) :: xs) x y s s' (w.alloc o) := by
  obtain ⟨S, T, h1, h2, h3, h4, h5, h6, h7⟩ := h
  have hb : Below w.heap.size w (w.alloc o) := (Below.refl _ _).alloc (Nat.le_refl _) o
  refine ⟨S, T, h1.below hb, h2.below hb, h3, h4, h5, h6.trans (hb.mono h6.size), fun p hp => ?_⟩
  rcases List.mem_cons.1 hp with rfl | hp
  · exact ⟨heap_alloc_new w _, fun hs => by have := h1.lt _ hs; simp at this, fun hs => by have := h2.lt _ hs; simp at this⟩
  · exact ⟨(hb.block _ (block_lt (h7 p hp).1)).trans (h7 p hp).1, (h7 p hp).2⟩
theorem Two.drop (h : Two W xs x y s s' w) : Two W [] x y s s' w := by
  obtain ⟨S, T, h1, h2, h3, h4, h5, h6, h7⟩ := h
  exact ⟨S, T, h1, h2, h3, h4, h5, h6, fun p hp => by cases hp⟩
theorem Two.block (h : Two W xs x y s s' w) : ∀ p ∈ xs, w.heap[p.1]? = some p.2 := by
  obtain ⟨S, T, _, _, _, _, _, _, h7⟩ := h
  exact fun p hp => (h7 p hp).1
theorem Two.row01 (h : Two W xs x y s s' w) (hnow : s.now ≤ 1000000) (hmax : ∀ z ∈ theRow s 0 1, z.1.length ≤ 1000000) :
    Calls Try.prog 23 #[ptr x, .int .i64 0, .int .i64 1] w fun e w' => ∃ A c, e = .returned (.slice A (theRow s 0 1).length c) ∧ Hid (Flies w' A (theRow s 0 1).length (told (theRow s 0 1)) ∧ Below w.heap.size w w') := by
  obtain ⟨S, T, h1, _⟩ := h
  exact (row_any h1 0 1 hnow hmax).mono fun e w' ⟨A, c, k1, k2, k3⟩ => ⟨A, c, k1, cover ⟨k2, k3⟩⟩
theorem told_small {s : LS} (h : Sm1 s) (f t : Int) : ∀ x ∈ told (theRow s f t), x.1.length ≤ 1000000 := fun x hx => by
  obtain ⟨y, hy, rfl⟩ := List.mem_map.1 hx
  have := (sm_row h f t y hy).1
  show y.1.length ≤ _; omega
theorem Two.facts (h : Two W xs x y s s' w) : (∀ k, (s.rows k).length ≤ 64) ∧ s.n ≤ 16 ∧ (∀ k, ∀ x ∈ s.rows k, x.2 ≤ s.now) := by
  obtain ⟨S, T, h1, _⟩ := h
  exact ⟨fun k => Nat.le_trans (h1.len k) h1.m64, h1.n16, h1.age⟩
/-- a deed of the one, beside a lan of the document's own that was just made -/
theorem two_do {T : Foot} {s2 : LS} (h : Two W xs x y s s' w0) (hb : Below w0.heap.size w0 w) (hr : RIn T w r s2) (hT : ∀ i, T i → w0.heap.size ≤ i) (q : DV) {B : Nat} (hq0 : Row W B q.A q.b.length q.b) (hB : B ≤ W.heap.size) (hs : Fit s) (hs2 : Fit s2) (hq : DOk q) (hq2 : q.b.length ≤ 200) (hqc : q.b.length ≤ q.c) :
    Calls Try.prog 21 #[ptr x, ptr r, .agg #[.int .i64 q.what, .int .i64 q.f, .int .i64 q.t, .int .i64 q.bit, .slice q.A q.b.length q.c]] w fun e w' => ∃ bb, e = .returned (.bool bb) ∧ Hid (Two W xs x y (doS s q) s' w') := by
  have hz := h.bel.size
  have hTW : ∀ i, T i → W.heap.size ≤ i := fun i hi => Nat.le_trans hz (hT i hi)
  obtain ⟨S, Sy, h1, h2, h3, h4, h5, h6, h7⟩ := h
  have hlt := h1.lt
  have hlt2 := h2.lt
  have hsz := hb.size
  refine (do_any q (h1.below hb) hr (fun i hi ht => by have := hlt i hi; have := hT i ht; omega) (aside_of (h6.trans (hb.mono hz)) hq0 hB h4 hTW) hs hs2 hq hq2 hqc).mono fun e w' ⟨bb, he, _, hD⟩ => ⟨bb, he, cover ?_⟩
  obtain ⟨S', T', k1, k2, k3, k4⟩ := hD.out
  have hyn : ∀ i, Sy i → ¬ (S i ∨ T i) := fun i hi h => h.elim (fun hs => h3 i hs hi) (fun ht => by have := hlt2 i hi; have := hT i ht; omega)
  have hown : ∀ i, S' i → S i ∨ w0.heap.size ≤ i := fun i hi => by
    rcases k4.own i (.inl hi) with (h8 | h8) | h8
    · exact .inl h8
    · exact .inr (hT i h8)
    · exact .inr (Nat.le_trans hsz h8)
  refine ⟨S', Sy, k1, (h2.below hb).apart k4 hyn, fun i hi hy => ?_, fun i hi => ?_, h5, Moves.below (h6.trans (hb.mono hz)) k4 (fun i hi => hi.elim (h4 i) (hTW i)) (Nat.le_trans hz hsz), fun p hp => ?_⟩
  · rcases hown i hi with h8 | h8
    · exact h3 i h8 hy
    · have := hlt2 i hy; omega
  · rcases hown i hi with h8 | h8
    · exact h4 i h8
    · exact Nat.le_trans hz h8
  · have hpl := block_lt (h7 p hp).1
    have hn : ¬ (S p.1 ∨ T p.1) := fun h => h.elim (h7 p hp).2.1 (fun ht => by have := hT _ ht; omega)
    refine ⟨k4.at_ ((hb.block _ hpl).trans (h7 p hp).1) hn, fun hs => ?_, (h7 p hp).2.2⟩
    rcases hown _ hs with h8 | h8
    · exact (h7 p hp).2.1 h8
    · omega
end
/-- both are as far; the row that is looked at is the same -/
structure Ap (s s' : LS) (k : Nat) : Prop where
  f : FitT s k
  f' : FitT s' k
  n3 : s.n = 3
  n3' : s'.n = 3
  m : s.m = s'.m
  lf : s.life = s'.life
  row : theRow s 0 1 = theRow s' 0 1
theorem FitT.later {s : LS} {k : Nat} (h : FitT s k) : FitT s (k + 1) := ⟨by have := h.now; omega, by have := h.lost; omega, h.sm⟩
theorem Ap.later {s s' : LS} {k : Nat} (h : Ap s s' k) : Ap s s' (k + 1) := ⟨h.f.later, h.f'.later, h.n3, h.n3', h.m, h.lf, h.row⟩
theorem Ap.both {s s' : LS} {k : Nat} (h : Ap s s' k) (hl : ∀ k, (s.rows k).length ≤ 64) (hl' : ∀ k, (s'.rows k).length ≤ 64) {q : DV} (hb : q.b.length ≤ 200 ∧ Bts q.b) (h3 : q.what ≠ 3) (h10 : q.what ≤ 10) (hy : q.f = 0 ∧ q.t = 1 ∨ q.what = 10) : Ap (doS s q) (doS s' q) (k + 1) := by
  obtain ⟨a1, a2, a3, a4⟩ := h.f.step hl (by rw [h.n3]; decide) q hb
  obtain ⟨b1, b2, b3, b4⟩ := h.f'.step hl' (by rw [h.n3']; decide) q hb
  exact ⟨a1, b1, a2.trans h.n3, b2.trans h.n3', (a3.trans h.m).trans b3.symm, (a4.trans h.lf).trans b4.symm, apart_same h.n3 h.n3' h.m h.lf h3 h10 hy h.row⟩
theorem Ap.one {s s' : LS} {k : Nat} (h : Ap s s' k) (hl : ∀ k, (s.rows k).length ≤ 64) {q : DV} (hb : q.b.length ≤ 200 ∧ Bts q.b) (h3 : q.what ≠ 3) (h10 : q.what < 10) (hy : ¬ (q.f = 0 ∧ q.t = 1)) : Ap (doS s q) s' (k + 1) := by
  obtain ⟨a1, a2, a3, a4⟩ := h.f.step hl (by rw [h.n3]; decide) q hb
  exact ⟨a1, h.f'.later, a2.trans h.n3, h.n3', a3.trans h.m, a4.trans h.lf, (apart_other h.n3 h3 h10 hy).trans h.row⟩
theorem fit_fresh : Fit (LS.fresh 3 5 1000) := ⟨Nat.zero_le _, Nat.zero_le _, fun k x hx => by cases hx⟩
theorem mk_nine (w : World) : (Instr.makeSlice 48 (.int .i64 9) (.int .i64 9)).run Try.prog w = .ok (.slice (some ⟨w.heap.size, 0, none⟩) 9 9) (w.alloc (.cells (nilRows 9) 46)) := mk_rows w 9 (by decide)
set_option maxRecDepth 100000 in
set_option maxHeartbeats 12800000 in
theorem apart_walk (A : Option Addr) (n c : Nat) (ds : List DV) (w : World) (hn : n ≤ 120) (hd : DeedsL w w.heap.size A n ds) (hok : ∀ q ∈ ds, DOk q) (hs : small ds) :
    Calls Try.prog 9 #[.slice A n c] w fun e w' => e = .returned (.bool true) ∧ Below w.heap.size w w' := by
  have HD := cover (And.intro hd (And.intro hok hs))
  clear hd hok hs
  go_enter Try.func9, Try.ntmps9
  go_wp2_with fail
  refine (awake_any w).mono ?_
  rintro e w0 ⟨rfl, hb0⟩
  have H0 := cover hb0
  clear hb0
  have hroom := room_any (w := w0) (c := c) 120 (by omega) (by omega) (HD.out.1.below H0.out) true (by simp; exact HD.out.2.2)
  go_wp2_with fail
  refine hroom.mono ?_
  rintro e w' ⟨rfl, rfl⟩
  clear hroom
  have hnew := new_yes 3 5 1000 w0 (by decide) (by decide) (by decide)
  unfold MadeOut at hnew
  go_wp2_with fail
  refine hnew.mono ?_
  rintro e w1 ⟨x, S, rfl, hx1, hx2, hx3⟩
  clear hnew
  have HX := cover (And.intro hx1 (And.intro hx2 hx3))
  clear hx1 hx2 hx3
  have hnew := new_yes 3 5 1000 w1 (by decide) (by decide) (by decide)
  unfold MadeOut at hnew
  go_wp2_with fail
  refine hnew.mono ?_
  rintro e w2 ⟨y, T, rfl, hy1, hy2, hy3⟩
  clear hnew
  have HT : Hid (Two w [] x y (LS.fresh 3 5 1000) (LS.fresh 3 5 1000) w2) := cover (by
    obtain ⟨h1, h2, h3⟩ := HX.out
    have hs0 := H0.out.size
    have hs1 := h3.size
    refine ⟨S, T, h1.below hy3, hy1, fun i hi ht => ?_, fun i hi => Nat.le_trans hs0 (h2 i hi), fun i hi => Nat.le_trans hs0 (Nat.le_trans hs1 (hy2 i hi)), H0.out.trans ((h3.mono hs0).trans (hy3.mono (Nat.le_trans hs0 hs1))), fun p hp => by cases hp⟩
    have := h1.lt i hi; have := hy2 i ht; omega)
  clear HX hy1 hy2 hy3
  go_wp2_with fail
  go_loopw [7] (fun i wr => ∃ (k : Nat) (s s' : LS), k ≤ n ∧ i = .int .i64 k ∧ Hid (Two w [] x y s s' wr ∧ Ap s s' k)) (fun i _ => n - (intOf i).toNat)
  case atStart => exact ⟨0, _, _, Nat.zero_le _, rfl, cover ⟨HT.out, fitT_fresh _ _ _ _, fitT_fresh _ _ _ _, rfl, rfl, rfl, rfl, rfl⟩⟩
  case round =>
    clear HT
    obtain ⟨k, s, s', hk, rfl, hout⟩ := hrel
    by_cases hlt : k < n
    · obtain ⟨q, hq⟩ : ∃ q, ds[k]? = some q := ⟨_, List.getElem?_eq_getElem (by rw [HD.out.1.len]; exact hlt)⟩
      obtain ⟨ad, rfl, hc⟩ := (HD.out.1.below hout.out.1.bel).at_ k q hq
      have h0 := hc.c0
      have h1 := hc.c1
      have h2 := hc.c2
      have h3 := hc.c3
      have h4 := hc.c4
      have hk0 : (0 : Int) ≤ (k : Int) := by omega
      have hk1 : (k : Int) < (n : Int) := by omega
      have hqm := List.mem_of_getElem? hq
      have hrow : Row w w.heap.size q.A q.b.length q.b := (HD.out.1.at_ k q hq).elim fun _ h => h.2.row
      have HQ := cover (And.intro (HD.out.2.1 q hqm) (And.intro (HD.out.2.2 q hqm) (And.intro hrow hc.cap)))
      have HA := cover hout.out.2
      have HT := cover (hout.out.1.keep_new (dobj q))
      obtain ⟨bd, hbd⟩ : ∃ bd, bd = wr.heap.size := ⟨_, rfl⟩
      obtain ⟨wb, hwb⟩ : ∃ wb, wb = wr.alloc (dobj q) := ⟨_, rfl⟩
      rw [← hbd, ← hwb] at HT
      clear hc hq hqm hrow hout
      by_cases c3 : q.what = 3
      · as_aux_lemma =>
          have e3 : (q.what == 3) = true := by simpa using c3
          clear c3
          go_wp2_with fail
          go_roundw
          case rel => exact ⟨k + 1, s, s', by omega, by go_num, cover ⟨by have := HT.out.drop; rw [hwb] at this; exact this, HA.out.later⟩⟩
          case measure => simp [intOf]; omega
      · have e3 : (q.what == 3) = false := by simpa using c3
        by_cases c10 : 10 < q.what
        · as_aux_lemma =>
            clear c3
            go_wp2_with fail
            go_roundw
            case rel => exact ⟨k + 1, s, s', by omega, by go_num, cover ⟨by have := HT.out.drop; rw [hwb] at this; exact this, HA.out.later⟩⟩
            case measure => simp [intOf]; omega
        · have HC := cover (And.intro c3 c10)
          clear c3
          unfold dobj at hwb
          go_wp2_with fail
          rw [← hwb, ← hbd]
          clear h0 h1 h2 h3 h4 hwb hbd
          have HFX := cover (And.intro HT.out.facts.1 HT.out.swap.facts.1)
          have hx := HT.out.block _ (List.mem_cons_self ..)
          have HK : Hid (∀ W', Below wb.heap.size wb W' → (fun W' : World => W'.cell? ⟨bd, 0, none⟩ = some (.int .i64 q.what) ∧ W'.cell? ⟨bd, 1, none⟩ = some (.int .i64 q.f) ∧ W'.cell? ⟨bd, 2, none⟩ = some (.int .i64 q.t) ∧ W'.cell? ⟨bd, 3, none⟩ = some (.int .i64 q.bit) ∧ W'.cell? ⟨bd, 4, none⟩ = some (.slice q.A q.b.length q.c)) W') := cover fun W' hb => dobj_cells ((hb.block bd (block_lt hx)).trans hx)
          clear hx
          have mixed : Try.prog.follows .mixedOrders = true := by kernel_rfl
          refine (wpIn_wide (n := 0)).1 ?_
          refine held_begin (fun W' : World => W'.cell? ⟨bd, 0, none⟩ = some (.int .i64 q.what) ∧ W'.cell? ⟨bd, 1, none⟩ = some (.int .i64 q.f) ∧ W'.cell? ⟨bd, 2, none⟩ = some (.int .i64 q.t) ∧ W'.cell? ⟨bd, 3, none⟩ = some (.int .i64 q.bit) ∧ W'.cell? ⟨bd, 4, none⟩ = some (.slice q.A q.b.length q.c)) 99 mixed ?_
          have HS : (fun W' : World => W'.cell? ⟨bd, 0, none⟩ = some (.int .i64 q.what) ∧ W'.cell? ⟨bd, 1, none⟩ = some (.int .i64 q.f) ∧ W'.cell? ⟨bd, 2, none⟩ = some (.int .i64 q.t) ∧ W'.cell? ⟨bd, 3, none⟩ = some (.int .i64 q.bit) ∧ W'.cell? ⟨bd, 4, none⟩ = some (.slice q.A q.b.length q.c)) wb.drew := HK.out _ (Below.refl _ _).drew
          refine hold_take 0 _ rfl (by kernel_rfl) (by kernel_rfl) (by kernel_rfl) (by kernel_rfl) (by kernel_rfl) (fun _ _ _ h => h) (by rfl) (fun _ => rfl) HS (fun w' hS => by obtain ⟨q0, q1, q2, q3, q4⟩ := hS; go_simp; rfl) ?_
          simp only [Act.put, List.setIfInBounds_toArray, List.set_cons_zero, List.set_cons_succ]
          refine hold_take 4 _ rfl (by kernel_rfl) (by kernel_rfl) (by kernel_rfl) (by kernel_rfl) (by kernel_rfl) (fun _ _ _ h => h) (by rfl) (fun _ => rfl) HS (fun w' hS => by obtain ⟨q0, q1, q2, q3, q4⟩ := hS; go_simp; rfl) ?_
          simp only [Act.put, List.setIfInBounds_toArray, List.set_cons_zero, List.set_cons_succ]
          have hmk := mk_nine wb.drew
          refine hold_one 1 (by kernel_rfl) rfl (by rfl) fun K hK => ?_
          obtain ⟨wa, hwa⟩ : ∃ wa, wa = wb.drew.alloc (.cells (nilRows 9) 46) := ⟨_, rfl⟩
          obtain ⟨ga, hga⟩ : ∃ ga, ga = wb.heap.size := ⟨_, rfl⟩
          refine run_in (fun c h => by cases h) (fun _ _ => trivial) (v := .slice (some ⟨ga, 0, none⟩) 9 9) (w' := wa) (by rw [hwa, hga]; go_simp) ?_
          have hba : Below wb.heap.size wb wa := by rw [hwa]; exact (Below.refl _ _).drew.alloc (by simp) _
          have hxa : wa.heap[ga]? = some (.cells (nilRows 9) 46 (0, 0)) := by rw [hwa, hga]; exact heap_alloc_new wb.drew _
          have hsa : wa.heap.size = ga + 1 := by rw [hwa, hga]; simp
          have HSA : (fun W' : World => W'.cell? ⟨bd, 0, none⟩ = some (.int .i64 q.what) ∧ W'.cell? ⟨bd, 1, none⟩ = some (.int .i64 q.f) ∧ W'.cell? ⟨bd, 2, none⟩ = some (.int .i64 q.t) ∧ W'.cell? ⟨bd, 3, none⟩ = some (.int .i64 q.bit) ∧ W'.cell? ⟨bd, 4, none⟩ = some (.slice q.A q.b.length q.c)) wa := HK.out _ hba
          refine hK _ _ (.inr HSA) ?_
          clear hK K hwa hmk
          refine hold_take 2 _ rfl (by kernel_rfl) (by kernel_rfl) (by kernel_rfl) (by kernel_rfl) (by kernel_rfl) (fun _ _ _ h => h) (by rfl) (fun _ => rfl) HSA (fun w' hS => by obtain ⟨q0, q1, q2, q3, q4⟩ := hS; go_simp; rfl) ?_
          simp only [Act.put, List.setIfInBounds_toArray, List.set_cons_zero, List.set_cons_succ]
          refine hold_one 3 (by kernel_rfl) rfl (by rfl) fun K hK => ?_
          obtain ⟨wc, hwc⟩ : ∃ wc, wc = wa.alloc (.cells #[.int .i64 3, .int .i64 5, .int .i64 1000, .int .i64 0, .slice (some ⟨ga, 0, none⟩) 9 9] 50) := ⟨_, rfl⟩
          obtain ⟨ra, hra⟩ : ∃ ra, ra = wa.heap.size := ⟨_, rfl⟩
          refine run_in (fun c h => by cases h) (fun _ _ => trivial) (v := ptr ra) (w' := wc) (by rw [hwc, hra]; go_simp) ?_
          have hbc : Below wa.heap.size wa wc := by rw [hwc]; exact (Below.refl _ _).alloc (Nat.le_refl _) _
          have hxc : wc.heap[ra]? = some (.cells #[.int .i64 3, .int .i64 5, .int .i64 1000, .int .i64 0, .slice (some ⟨ga, 0, none⟩) 9 9] 50 (0, 0)) := by rw [hwc, hra]; exact heap_alloc_new wa _
          have hbb := hba.trans (hbc.mono hba.size)
          have HSC : (fun W' : World => W'.cell? ⟨bd, 0, none⟩ = some (.int .i64 q.what) ∧ W'.cell? ⟨bd, 1, none⟩ = some (.int .i64 q.f) ∧ W'.cell? ⟨bd, 2, none⟩ = some (.int .i64 q.t) ∧ W'.cell? ⟨bd, 3, none⟩ = some (.int .i64 q.bit) ∧ W'.cell? ⟨bd, 4, none⟩ = some (.slice q.A q.b.length q.c)) wc := HK.out _ hbb
          refine hK _ _ (.inr HSC) ?_
          have hfresh : RIn (fun i => i = ra ∨ i = ga) wc ra (LS.fresh 3 5 1000) := RIn.fresh (by decide) (by decide) hxc ((hbc.block ga (by omega)).trans hxa) (by rw [nilRows_size]; decide) (fun k hk => nilRows_at 9 k hk)
          have hTT : ∀ i, (i = ra ∨ i = ga) → wb.heap.size ≤ i := fun i hi => by omega
          have hDO := two_do HT.out hbb hfresh hTT q HQ.out.2.2.1 (Nat.le_refl _) (HA.out.f.fit HT.out.facts.2.2 (by omega)) fit_fresh HQ.out.1 HQ.out.2.1 HQ.out.2.2.2
          clear hK K hwc hxc hxa hba hbc HSA hfresh hTT hbb hra hga hsa
          refine hold_one 5 (by kernel_rfl) rfl (by rfl) fun K hK => ?_
          go_simp
          refine ⟨trivial, rfl, (callsIn_wide.2 hDO).mono ?_⟩
          rintro e wd ⟨bb, rfl, HT2⟩
          clear hDO
          have HSD : (fun W' : World => W'.cell? ⟨bd, 0, none⟩ = some (.int .i64 q.what) ∧ W'.cell? ⟨bd, 1, none⟩ = some (.int .i64 q.f) ∧ W'.cell? ⟨bd, 2, none⟩ = some (.int .i64 q.t) ∧ W'.cell? ⟨bd, 3, none⟩ = some (.int .i64 q.bit) ∧ W'.cell? ⟨bd, 4, none⟩ = some (.slice q.A q.b.length q.c)) wd := dobj_cells (g := bd) (HT2.out.block (bd, dobj q) (List.mem_cons_self ..))
          refine hK _ _ (.inr HSD) ?_
          clear hK K
          refine held_done (by kernel_rfl) ?_ _
          clear HT HS HSC HK
          obtain ⟨g0, g1, g2, g3, g4⟩ := HSD
          go_upto_region 15 with fail
          go_cut [67] (fun cv wx => cv = .bool ((q.f == 0 && q.t == 1) || q.what == 10) ∧ Hid (wd = wx))
          case first =>
            by_cases f0 : q.f = 0
            · by_cases t1 : q.t = 1
              · have e1 : (q.f == 0) = true := by simpa using f0
                have e2 : (q.t == 1) = true := by simpa using t1
                have HE := cover (And.intro e1 e2)
                clear f0 t1
                go_wp2_with fail
                go_meet
                exact ⟨by rw [HE.out.1, HE.out.2]; rfl, cover rfl⟩
              · by_cases w10 : q.what = 10
                · have e1 : (q.f == 0) = true := by simpa using f0
                  have e2 : (q.t == 1) = false := by simpa using t1
                  have e4 : (q.what == 10) = true := by simpa using w10
                  have HE := cover (And.intro e1 (And.intro e2 e4))
                  clear f0 t1 w10
                  go_wp2_with fail
                  go_meet
                  exact ⟨by rw [HE.out.1, HE.out.2.1, HE.out.2.2]; rfl, cover rfl⟩
                · have e1 : (q.f == 0) = true := by simpa using f0
                  have e2 : (q.t == 1) = false := by simpa using t1
                  have e4 : (q.what == 10) = false := by simpa using w10
                  have HE := cover (And.intro e1 (And.intro e2 e4))
                  clear f0 t1 w10
                  go_wp2_with fail
                  go_meet
                  exact ⟨by rw [HE.out.1, HE.out.2.1, HE.out.2.2]; rfl, cover rfl⟩
            · by_cases w10 : q.what = 10
              · have e1 : (q.f == 0) = false := by simpa using f0
                have e4 : (q.what == 10) = true := by simpa using w10
                have HE := cover (And.intro e1 e4)
                clear f0 w10
                go_wp2_with fail
                go_meet
                exact ⟨by rw [HE.out.1, HE.out.2]; rfl, cover rfl⟩
              · have e1 : (q.f == 0) = false := by simpa using f0
                have e4 : (q.what == 10) = false := by simpa using w10
                have HE := cover (And.intro e1 e4)
                clear f0 w10
                go_wp2_with fail
                go_meet
                exact ⟨by rw [HE.out.1, HE.out.2]; rfl, cover rfl⟩
          case rest =>
            obtain ⟨rfl, hw⟩ := hcut
            have hw' := hw.out
            subst hw'
            clear hw e3 c10 g0 g1 g2 g3 g4
            obtain ⟨cb, hcb⟩ : ∃ cb, cb = ((q.f == 0 && q.t == 1) || q.what == 10) := ⟨_, rfl⟩
            rw [← hcb]
            have HCB := cover hcb
            clear hcb
            go_upto_if 67 with fail
            go_cut [] (fun wx => Hid (∃ s1, Two w [(bd, dobj q)] x y (doS s q) s1 wx ∧ Ap (doS s q) s1 (k + 1)))
            case first =>
              rcases cb with _ | _
              · have HN : Hid (∃ s1, Two w [(bd, dobj q)] x y (doS s q) s1 wd ∧ Ap (doS s q) s1 (k + 1)) := cover (by
                  have hcb := HCB.out
                  have hc := HC.out
                  simp at hcb
                  exact ⟨s', HT2.out, HA.out.one HFX.out.1 ⟨HQ.out.2.1, HQ.out.1.2.2.2.2.1⟩ hc.1 (by omega) (fun h => hcb.1 h.1 h.2)⟩)
                clear HT2
                go_wp2_with fail
                go_meet
                exact HN
              · have hx := HT2.out.block (bd, dobj q) (List.mem_cons_self ..)
                have HK2 : Hid (∀ W', Below wd.heap.size wd W' → (fun W' : World => W'.cell? ⟨bd, 0, none⟩ = some (.int .i64 q.what) ∧ W'.cell? ⟨bd, 1, none⟩ = some (.int .i64 q.f) ∧ W'.cell? ⟨bd, 2, none⟩ = some (.int .i64 q.t) ∧ W'.cell? ⟨bd, 3, none⟩ = some (.int .i64 q.bit) ∧ W'.cell? ⟨bd, 4, none⟩ = some (.slice q.A q.b.length q.c)) W') := cover fun W' hb => dobj_cells ((hb.block bd (block_lt hx)).trans hx)
                clear hx
                go_wp2_with fail
                have mixed : Try.prog.follows .mixedOrders = true := by kernel_rfl
                refine (wpIn_wide (n := 0)).1 ?_
                refine held_begin (fun W' : World => W'.cell? ⟨bd, 0, none⟩ = some (.int .i64 q.what) ∧ W'.cell? ⟨bd, 1, none⟩ = some (.int .i64 q.f) ∧ W'.cell? ⟨bd, 2, none⟩ = some (.int .i64 q.t) ∧ W'.cell? ⟨bd, 3, none⟩ = some (.int .i64 q.bit) ∧ W'.cell? ⟨bd, 4, none⟩ = some (.slice q.A q.b.length q.c)) 99 mixed ?_
                have HS : (fun W' : World => W'.cell? ⟨bd, 0, none⟩ = some (.int .i64 q.what) ∧ W'.cell? ⟨bd, 1, none⟩ = some (.int .i64 q.f) ∧ W'.cell? ⟨bd, 2, none⟩ = some (.int .i64 q.t) ∧ W'.cell? ⟨bd, 3, none⟩ = some (.int .i64 q.bit) ∧ W'.cell? ⟨bd, 4, none⟩ = some (.slice q.A q.b.length q.c)) wd.drew := HK2.out _ (Below.refl _ _).drew
                refine hold_take 0 _ rfl (by kernel_rfl) (by kernel_rfl) (by kernel_rfl) (by kernel_rfl) (by kernel_rfl) (fun _ _ _ h => h) (by rfl) (fun _ => rfl) HS (fun w' hS => by obtain ⟨q0, q1, q2, q3, q4⟩ := hS; go_simp; rfl) ?_
                simp only [Act.put, List.setIfInBounds_toArray, List.set_cons_zero, List.set_cons_succ]
                refine hold_take 4 _ rfl (by kernel_rfl) (by kernel_rfl) (by kernel_rfl) (by kernel_rfl) (by kernel_rfl) (fun _ _ _ h => h) (by rfl) (fun _ => rfl) HS (fun w' hS => by obtain ⟨q0, q1, q2, q3, q4⟩ := hS; go_simp; rfl) ?_
                simp only [Act.put, List.setIfInBounds_toArray, List.set_cons_zero, List.set_cons_succ]
                have hmk := mk_nine wd.drew
                refine hold_one 1 (by kernel_rfl) rfl (by rfl) fun K hK => ?_
                obtain ⟨wa, hwa⟩ : ∃ wa, wa = wd.drew.alloc (.cells (nilRows 9) 46) := ⟨_, rfl⟩
                obtain ⟨ga, hga⟩ : ∃ ga, ga = wd.heap.size := ⟨_, rfl⟩
                refine run_in (fun c h => by cases h) (fun _ _ => trivial) (v := .slice (some ⟨ga, 0, none⟩) 9 9) (w' := wa) (by rw [hwa, hga]; go_simp) ?_
                have hba : Below wd.heap.size wd wa := by rw [hwa]; exact (Below.refl _ _).drew.alloc (by simp) _
                have hxa : wa.heap[ga]? = some (.cells (nilRows 9) 46 (0, 0)) := by rw [hwa, hga]; exact heap_alloc_new wd.drew _
                have hsa : wa.heap.size = ga + 1 := by rw [hwa, hga]; simp
                have HSA : (fun W' : World => W'.cell? ⟨bd, 0, none⟩ = some (.int .i64 q.what) ∧ W'.cell? ⟨bd, 1, none⟩ = some (.int .i64 q.f) ∧ W'.cell? ⟨bd, 2, none⟩ = some (.int .i64 q.t) ∧ W'.cell? ⟨bd, 3, none⟩ = some (.int .i64 q.bit) ∧ W'.cell? ⟨bd, 4, none⟩ = some (.slice q.A q.b.length q.c)) wa := HK2.out _ hba
                refine hK _ _ (.inr HSA) ?_
                clear hK K hwa hmk
                refine hold_take 2 _ rfl (by kernel_rfl) (by kernel_rfl) (by kernel_rfl) (by kernel_rfl) (by kernel_rfl) (fun _ _ _ h => h) (by rfl) (fun _ => rfl) HSA (fun w' hS => by obtain ⟨q0, q1, q2, q3, q4⟩ := hS; go_simp; rfl) ?_
                simp only [Act.put, List.setIfInBounds_toArray, List.set_cons_zero, List.set_cons_succ]
                refine hold_one 3 (by kernel_rfl) rfl (by rfl) fun K hK => ?_
                obtain ⟨wc, hwc⟩ : ∃ wc, wc = wa.alloc (.cells #[.int .i64 3, .int .i64 5, .int .i64 1000, .int .i64 0, .slice (some ⟨ga, 0, none⟩) 9 9] 50) := ⟨_, rfl⟩
                obtain ⟨ra, hra⟩ : ∃ ra, ra = wa.heap.size := ⟨_, rfl⟩
                refine run_in (fun c h => by cases h) (fun _ _ => trivial) (v := ptr ra) (w' := wc) (by rw [hwc, hra]; go_simp) ?_
                have hbc : Below wa.heap.size wa wc := by rw [hwc]; exact (Below.refl _ _).alloc (Nat.le_refl _) _
                have hxc : wc.heap[ra]? = some (.cells #[.int .i64 3, .int .i64 5, .int .i64 1000, .int .i64 0, .slice (some ⟨ga, 0, none⟩) 9 9] 50 (0, 0)) := by rw [hwc, hra]; exact heap_alloc_new wa _
                have hbb := hba.trans (hbc.mono hba.size)
                have HSC : (fun W' : World => W'.cell? ⟨bd, 0, none⟩ = some (.int .i64 q.what) ∧ W'.cell? ⟨bd, 1, none⟩ = some (.int .i64 q.f) ∧ W'.cell? ⟨bd, 2, none⟩ = some (.int .i64 q.t) ∧ W'.cell? ⟨bd, 3, none⟩ = some (.int .i64 q.bit) ∧ W'.cell? ⟨bd, 4, none⟩ = some (.slice q.A q.b.length q.c)) wc := HK2.out _ hbb
                refine hK _ _ (.inr HSC) ?_
                have hfresh : RIn (fun i => i = ra ∨ i = ga) wc ra (LS.fresh 3 5 1000) := RIn.fresh (by decide) (by decide) hxc ((hbc.block ga (by omega)).trans hxa) (by rw [nilRows_size]; decide) (fun k hk => nilRows_at 9 k hk)
                have hTT : ∀ i, (i = ra ∨ i = ga) → wd.heap.size ≤ i := fun i hi => by omega
                have hDO := two_do HT2.out.swap hbb hfresh hTT q HQ.out.2.2.1 (Nat.le_refl _) (HA.out.f'.fit HT2.out.swap.facts.2.2 (by omega)) fit_fresh HQ.out.1 HQ.out.2.1 HQ.out.2.2.2
                clear hK K hwc hxc hxa hba hbc HSA hfresh hTT hbb hra hga hsa
                refine hold_one 5 (by kernel_rfl) rfl (by rfl) fun K hK => ?_
                go_simp
                refine ⟨trivial, rfl, (callsIn_wide.2 hDO).mono ?_⟩
                rintro e we ⟨bb, rfl, HT3⟩
                clear hDO
                have HSD : (fun W' : World => W'.cell? ⟨bd, 0, none⟩ = some (.int .i64 q.what) ∧ W'.cell? ⟨bd, 1, none⟩ = some (.int .i64 q.f) ∧ W'.cell? ⟨bd, 2, none⟩ = some (.int .i64 q.t) ∧ W'.cell? ⟨bd, 3, none⟩ = some (.int .i64 q.bit) ∧ W'.cell? ⟨bd, 4, none⟩ = some (.slice q.A q.b.length q.c)) we := dobj_cells (g := bd) (HT3.out.block (bd, dobj q) (List.mem_cons_self ..))
                refine hK _ _ (.inr HSD) ?_
                clear hK K
                refine held_done (by kernel_rfl) ?_ _
                have HN : Hid (∃ s1, Two w [(bd, dobj q)] x y (doS s q) s1 we ∧ Ap (doS s q) s1 (k + 1)) := cover (by
                  have hcb := HCB.out
                  have hc := HC.out
                  simp at hcb
                  exact ⟨doS s' q, HT3.out.swap, HA.out.both HFX.out.1 HFX.out.2 ⟨HQ.out.2.1, HQ.out.1.2.2.2.2.1⟩ hc.1 (by omega) (by omega)⟩)
                clear HT2 HT3 HS HSC HSD HK2
                go_wp2_with fail
                go_meet
                exact HN
            case rest =>
              obtain ⟨s1, hT, hA⟩ := hcut.out
              have HT4 := cover hT.drop
              have HA4 := cover hA
              have hrx := hT.drop.row01 (by have := hA.f.now; omega) (fun z hz => by have := (sm_row hA.f.sm 0 1 z hz).1; omega)
              have HFL : Hid ((theRow (doS s q) 0 1).length ≤ 1000 ∧ ∀ z ∈ told (theRow (doS s q) 0 1), z.1.length ≤ 1000000) := cover ⟨Nat.le_trans (len_row hT.facts.1 0 1) (by decide), told_small hA.f.sm 0 1⟩
              clear hcut hT hA HT2 HCB HFX HC HQ HA
              go_wp2_with fail
              refine hrx.mono ?_
              rintro e wp ⟨A1, c1, rfl, HR1⟩
              clear hrx
              have hry := (HT4.out.below HR1.out.2).swap.row01 (by have := HA4.out.f'.now; omega) (fun z hz => by have := (sm_row HA4.out.f'.sm 0 1 z hz).1; omega)
              rw [← HA4.out.row] at hry
              go_wp2_with fail
              refine hry.mono ?_
              rintro e wq ⟨A2, c2, rfl, HR2⟩
              clear hry
              have HP : Hid (Flies wq A1 (theRow (doS s q) 0 1).length (told (theRow (doS s q) 0 1)) ∧ Flies wq A2 (theRow (doS s q) 0 1).length (told (theRow (doS s q) 0 1)) ∧ Two w [] x y (doS s q) s1 wq) := cover ⟨HR1.out.1.below HR2.out.2, HR2.out.1, (HT4.out.below HR1.out.2).below HR2.out.2⟩
              clear HR1 HR2 HT4
              obtain ⟨rs, hrs⟩ : ∃ rs, rs = told (theRow (doS s q) 0 1) := ⟨_, rfl⟩
              obtain ⟨L, hL⟩ : ∃ L, L = (theRow (doS s q) 0 1).length := ⟨_, rfl⟩
              rw [← hrs, ← hL] at HP HFL
              rw [← hL]
              clear hrs hL
              obtain ⟨s2, hs2⟩ : ∃ s2, s2 = doS s q := ⟨_, rfl⟩
              rw [← hs2] at HP HA4
              have hLb : L ≤ 1000 := HFL.out.1
              clear hs2
              go_wp2_with fail
              go_loopw [11] (fun i wr => ∃ p : Nat, p ≤ L ∧ i = .int .i64 p ∧ Hid (Below wq.heap.size wq wr)) (fun i _ => L - (intOf i).toNat)
              case atStart => exact ⟨0, Nat.zero_le _, rfl, cover (Below.refl _ _)⟩
              case round =>
                obtain ⟨p, hp, rfl, hrel⟩ := hrel
                by_cases hlp : p < L
                · obtain ⟨z, hz⟩ : ∃ z, rs[p]? = some z := ⟨_, List.getElem?_eq_getElem (by rw [HP.out.1.len]; exact hlp)⟩
                  obtain ⟨g, B, cb1, rfl, hg, c1', c2', hr⟩ := HP.out.1.at_ p z hz
                  obtain ⟨g', B', cb2, rfl, hg', c3', c4', hr'⟩ := HP.out.2.1.at_ p z hz
                  have hb := hrel.out
                  have d1 := (hb.cell (p := ⟨g, p * 2, none⟩) hg).trans c1'
                  have d2 := (hb.cell (p := ⟨g, p * 2 + 1, none⟩) hg).trans c2'
                  have d3 := (hb.cell (p := ⟨g', p * 2, none⟩) hg').trans c3'
                  have d4 := (hb.cell (p := ⟨g', p * 2 + 1, none⟩) hg').trans c4'
                  have HS : Hid (∀ W', Below wr.heap.size wr W' → Calls Try.prog 17 #[.slice B z.1.length cb1, .slice B' z.1.length cb2] W' fun e w' => e = .returned (.bool true) ∧ ∃ d, w' = W'.drewN d) := cover fun W' hb2 => by
                    have hbw := hb.trans (hb2.mono hb.size)
                    have h9 := same_any B B' z.1.length cb1 cb2 _ _ z.1 z.1 W' (hr.below hbw) (hr'.below hbw) (by have := HFL.out.2 z (List.mem_of_getElem? hz); omega)
                    rwa [decide_eq_true rfl] at h9
                  have HK : Hid (∀ W', Below wr.heap.size wr W' → W'.cell? ⟨g, p * 2, none⟩ = some (.slice B z.1.length cb1) ∧ W'.cell? ⟨g, p * 2 + 1, none⟩ = some (.int .i64 z.2) ∧ W'.cell? ⟨g', p * 2, none⟩ = some (.slice B' z.1.length cb2) ∧ W'.cell? ⟨g', p * 2 + 1, none⟩ = some (.int .i64 z.2)) := cover fun W' hb2 => by
                    have hs := hb.size
                    exact ⟨(hb2.cell (p := ⟨g, p * 2, none⟩) (by show g < _; omega)).trans d1, (hb2.cell (p := ⟨g, p * 2 + 1, none⟩) (by show g < _; omega)).trans d2, (hb2.cell (p := ⟨g', p * 2, none⟩) (by show g' < _; omega)).trans d3, (hb2.cell (p := ⟨g', p * 2 + 1, none⟩) (by show g' < _; omega)).trans d4⟩
                  have HB := cover hb
                  have hp0 : (0 : Int) ≤ (p : Int) := by omega
                  have hp1 : (p : Int) < (L : Int) := by omega
                  obtain ⟨ya, hya⟩ : ∃ ya, ya = z.2 := ⟨_, rfl⟩
                  obtain ⟨m, hm⟩ : ∃ m, m = z.1.length := ⟨_, rfl⟩
                  rw [← hm] at HS
                  rw [← hm, ← hya] at HK
                  clear hz c1' c2' c3' c4' d1 d2 d3 d4 hr hr' hb hrel hg hg' hya hm
                  go_wp2_with fail
                  go_region_held3 (fun W' => W'.cell? ⟨g, p * 2, none⟩ = some (.slice B m cb1) ∧ W'.cell? ⟨g, p * 2 + 1, none⟩ = some (.int .i64 ya) ∧ W'.cell? ⟨g', p * 2, none⟩ = some (.slice B' m cb2) ∧ W'.cell? ⟨g', p * 2 + 1, none⟩ = some (.int .i64 ya))
                    (first | exact HK.out _ (Below.refl _ _).drew | exact HK.out _ (below_drewN' _ _))
                    (first | (go_at_call 17; refine (HS.out _ (Below.refl _ _).drew).mono ?_; rintro e w1 ⟨rfl, d, rfl⟩))
                  have HN : Hid (Below wq.heap.size wq (wr.drewN (1 + d))) := cover (HB.out.trans ((below_drewN' wr (1 + d)).mono HB.out.size))
                  generalize wr.drewN (1 + d) = w5 at HN ⊢
                  go_wp2
                  go_roundw
                  case rel => exact ⟨p + 1, by omega, by go_num, HN⟩
                  case measure => simp [intOf]; omega
                · obtain rfl : p = L := by omega
                  have HTN : Hid (Two w [] x y s2 s1 wr) := cover (HP.out.2.2.below hrel.out)
                  clear hrel
                  go_wp2
                  go_roundw
                  case rel => exact ⟨k + 1, s2, s1, by omega, by go_num, cover ⟨HTN.out, HA4.out⟩⟩
                  case measure => simp [intOf]; omega
    · obtain rfl : k = n := by omega
      have HF := cover hout.out.1.bel
      clear hout
      go_wp2
      go_ret
      exact ⟨rfl, HF.out⟩
theorem walk_LanApart (A : Option Addr) (n c : Nat) (ds : List DV) (w : World) (hlc : n ≤ c) (hcm : c ≤ maxLen) (hdk : DeedsL w w.heap.size A n ds ∧ ∀ q ∈ ds, DOk q) :
    Calls Try.prog 9 #[.slice A n c] w fun e w' => e = .returned (.bool true) ∧ Below w.heap.size w w' := by
  obtain ⟨hd, hok⟩ := hdk
  by_cases hn : n ≤ 120
  · by_cases hs : small ds
    · exact apart_walk A n c ds w hn hd hok hs
    · have HD := cover (And.intro hd hs)
      clear hd hok hs
      go_enter Try.func9, Try.ntmps9
      go_wp2_with fail
      refine (awake_any w).mono ?_
      rintro e w0 ⟨rfl, hb0⟩
      have H0 := cover hb0
      clear hb0
      have hroom := room_any (w := w0) (c := c) 120 (by omega) (by omega) (HD.out.1.below H0.out) false (by simp; exact HD.out.2)
      go_wp2_with fail
      refine hroom.mono ?_
      rintro e w' ⟨rfl, rfl⟩
      clear hroom
      go_wp2
      go_ret
      exact ⟨rfl, H0.out⟩
  · have hn' : (120 : Int) < (n : Int) := by omega
    clear hd hok
    go_enter Try.func9, Try.ntmps9
    go_wp2_with fail
    refine (awake_any w).mono ?_
    rintro e w0 ⟨rfl, hb0⟩
    go_wp2_with fail
    refine (room_long 120 hn').mono ?_
    rintro e w' ⟨rfl, rfl⟩
    go_wp2
    go_ret
    exact ⟨rfl, hb0⟩
end Go.Proofs.Ytjidhpmjdhjciaa
