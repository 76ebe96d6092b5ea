/- What the document's Pass and Drop do. What the document's Drop and Twice do. What the document's Spoil does. -/
import Derived.Test.YtjidhpmjdhjciaaFR
namespace Go.Proofs.Ytjidhpmjdhjciaa
open Go.RowKit
set_option linter.unusedVariables false

/-- what Pass of the document's lan hands back -/
def RPassOut (S : Foot) (r : Nat) (s : LS) (f t : Int) (w : World) (e : Ending) (w' : World) : Prop :=
  ∃ A c, e = .returned (.tuple #[.slice A (passL s f t).length c, .bool (passB s f t)]) ∧ OwnB w' 0 (.slice A (passL s f t).length c) (passL s f t) ∧ Hid (RNow S r (passS s f t) w w')
set_option maxRecDepth 100000 in
set_option maxHeartbeats 1600000 in
theorem rpass_any {S : Foot} {w : World} {r : Nat} {s : LS} (h : RIn S w r s) (f t : Int) :
    Calls Try.prog 41 #[ptr r, .int .i64 f, .int .i64 t] w (RPassOut S r s f t w) := by
  have hA := at_any h.cells.1 h.n16 f t
  rcases hr : theRow s f t with _ | ⟨x, rest⟩
  · have HF : Hid (RPassOut S r s f t w (.returned (.tuple #[.slice none 0 0, .bool false])) w) := cover (by
      unfold RPassOut passL passB passS
      rw [hr]
      exact ⟨none, 0, rfl, OwnB.nil _ _, cover (RNow.same h)⟩)
    by_cases ho : okP s.n f t
    · have hk := keyP_lt ho
      rw [atI_ok ho] at hA
      obtain ⟨g, cc, v, us, h1, h2, h3, h4, h5, h6, h7, h8, h9, hclose⟩ := h.place hk
      rw [theRow_ok ho] at hr
      have hul := tell2_len h8
      rw [hr] at hul
      obtain ⟨AV, cV, hv⟩ := h7.shape
      have hki : (keyP s.n f t : Int) < ((s.n * s.n : Nat) : Int) := by omega
      have hk0 : (0 : Int) ≤ (keyP s.n f t : Int) := by omega
      generalize keyP s.n f t = k at *
      generalize s.n * s.n = nn at *
      rw [hul] at hv
      clear h h7 h8 h9 hclose hr hul ho h3
      subst hv
      generalize RPassOut S r s f t w = Post at HF ⊢
      go_enter Try.func41, Try.ntmps41
      go_wp2_with fail
      refine hA.mono ?_
      rintro e w' ⟨rfl, rfl⟩
      clear hA
      go_wp2
      exact HF.out
    · rw [atI_no ho] at hA
      clear h ho hr
      generalize RPassOut S r s f t w = Post at HF ⊢
      go_enter Try.func41, Try.ntmps41
      go_wp2_with fail
      refine hA.mono ?_
      rintro e w' ⟨rfl, rfl⟩
      clear hA
      go_wp2
      exact HF.out
  · obtain ⟨ho, hrk⟩ := theRow_some hr
    have hk := keyP_lt ho
    rw [atI_ok ho] at hA
    obtain ⟨g, cc, v, us, h1, h2, h3, h4, h5, h6, h7, h8, h9, hclose⟩ := h.place hk
    rw [hrk] at h8
    obtain ⟨u, us', rfl, e1, e2, h8'⟩ := tell2_cons h8
    obtain ⟨hb, cV, hv, hcap, hvf, hbl, hcell⟩ := h7.at_ (by simp)
    have hlen := h.len (keyP s.n f t)
    have h64 := h.m64
    rw [hrk] at hlen
    have hul := tell2_len h8'
    simp at hlen
    have hki : (keyP s.n f t : Int) < ((s.n * s.n : Nat) : Int) := by omega
    have hk0 : (0 : Int) ≤ (keyP s.n f t : Int) := by omega
    have b0 : w.cell? ⟨hb, 0, none⟩ = some (.slice u.A u.l.length u.c) := hcell 0 _ rfl
    obtain ⟨L, hL⟩ : ∃ L, L = (u :: us').length := ⟨_, rfl⟩
    rw [← hL] at hv hcap
    have hL1 : (1 : Int) ≤ (L : Int) := by rw [hL]; simp; omega
    have hL2 : (L : Int) ≤ (cV : Int) := by omega
    have hL3 : ((L : Int) == 0) = false := by rw [beq_eq_false_iff_ne]; omega
    have hL4 : L = us'.length + 1 := by simpa using hL
    have hf3 := h3 (keyP s.n f t)
    have HU := cover (And.intro h7 (And.intro e1 (And.intro hL4 (And.intro hcell hul))))
    have hbb : r ≠ hb ∧ g ≠ hb := by have := h9 hb (.inl hvf); exact ⟨fun e => this.1 e.symm, fun e => this.2 e.symm⟩
    have HLN := cover (And.intro hlen h64)
    have HF : Hid (∀ W1 w4 v', Below w.heap.size w W1 → W1.heap[w.heap.size]? = some (.cells #[] 81 (0, 0)) → Longer W1 (.slice (some ⟨w.heap.size, 0, none⟩) 0 0) ([] ++ us') v' w4 → RPassOut S r s f t w (.returned (.tuple #[.slice u.A u.l.length u.c, .bool true])) (w4.setCell ⟨g, keyP s.n f t, none⟩ v')) := cover fun W1 w4 v' hb' hn' hL' => by
      obtain ⟨k1, k2, k3⟩ := h7.grown hb' (own_empty hn') (fun i hi => .inr (by have : vfoot _ i := hi; simp [vfoot, Value.ownBlock] at this; omega)) hL' (fun z hz => .inl (by simpa using .inr hz))
      have hout := hclose w4 v' _ rest k1 h8' (by omega) k2 k3
      unfold RPassOut passL passB passS
      rw [hr]
      refine ⟨u.A, u.c, by rw [e1]; rfl, ?_, cover hout⟩
      have ho := h7.own u (by simp)
      have ho' : OwnB (w4.setCell ⟨g, keyP s.n f t, none⟩ v') 0 u.val u.l := uv_keep ho fun i hi => by
        obtain ⟨cu, hc⟩ := h7.btype ⟨u, by simp, hi⟩
        have n1 : i ≠ g := (h9 i (.inr ⟨u, by simp, hi⟩)).2
        rw [set_other _ _ n1]
        exact k2.block i (block_lt hc) (fun e => by obtain ⟨cu', hc'⟩ := h7.vtype e; exact type_ne hc hc' (by decide) rfl)
      have e5 : x.1 = u.l := e1.symm
      show OwnB _ 0 (.slice u.A x.1.length u.c) x.1
      rw [e5]; exact ho'
    generalize keyP s.n f t = k at *
    generalize s.n * s.n = nn at *
    generalize RPassOut S r s f t w = Post at HF ⊢
    clear hclose h9 h8' hcell e1 e2 h7 h8 hr hrk ho h3 hL hL4 hul hlen hvf h
    subst hv
    go_enter Try.func41, Try.ntmps41
    go_wp2_with fail
    refine hA.mono ?_
    rintro e w' ⟨rfl, rfl⟩
    clear hA
    go_wp2_with fail
    have mixed : Try.prog.follows .mixedOrders = true := by kernel_rfl
    refine (wpIn_wide (n := 0)).1 ?_
    refine held_begin (fun W' : World => W'.cell? ⟨r, 4, none⟩ = some (.slice (some ⟨g, 0, none⟩) nn cc) ∧ W'.cell? ⟨g, k, none⟩ = some (.slice (some ⟨hb, 0, none⟩) L cV) ∧ W'.frozen? ⟨g, k, none⟩ = false) 16 mixed ?_
    have HS : (fun W' : World => W'.cell? ⟨r, 4, none⟩ = some (.slice (some ⟨g, 0, none⟩) nn cc) ∧ W'.cell? ⟨g, k, none⟩ = some (.slice (some ⟨hb, 0, none⟩) L cV) ∧ W'.frozen? ⟨g, k, none⟩ = false) w.drew := ⟨h1, h2, hf3⟩
    obtain ⟨tv, htv⟩ : ∃ tv, tv = Value.slice (if cV = 1 then some ⟨hb, 0, none⟩ else some ⟨hb, 2, none⟩) (L - 1) (cV - 1) := ⟨_, rfl⟩
    refine held_take 0 _ rfl (by kernel_rfl) (by kernel_rfl) (by kernel_rfl) (by kernel_rfl) (by kernel_rfl) (fun _ _ _ h => h) (by rfl) (fun _ => rfl) HS (fun w' hS => by obtain ⟨q0, q1, q2⟩ := hS; go_simp; rfl) ?_
    refine held_take 1 _ rfl (by kernel_rfl) (by kernel_rfl) (by kernel_rfl) (by kernel_rfl) (by kernel_rfl) (fun _ _ _ h => h) (by rfl) (fun _ => rfl) HS (fun w' hS => by obtain ⟨q0, q1, q2⟩ := hS; go_simp; rfl) ?_
    refine held_take 2 _ rfl (by kernel_rfl) (by kernel_rfl) (by kernel_rfl) (by kernel_rfl) (by kernel_rfl) (fun _ _ _ h => h) (by rfl) (fun _ => rfl) HS (fun w' hS => by obtain ⟨q0, q1, q2⟩ := hS; go_simp; rfl) ?_
    refine held_take 3 _ rfl (by kernel_rfl) (by kernel_rfl) (by kernel_rfl) (by kernel_rfl) (by kernel_rfl) (fun _ _ _ h => h) (by rfl) (fun _ => rfl) HS (fun w' hS => by obtain ⟨q0, q1, q2⟩ := hS; go_simp; rfl) ?_
    refine held_take 4 _ rfl (by kernel_rfl) (by kernel_rfl) (by kernel_rfl) (by kernel_rfl) (by kernel_rfl) (fun _ _ _ h => h) (by rfl) (fun _ => rfl) HS (fun w' hS => by obtain ⟨q0, q1, q2⟩ := hS; go_simp; rfl) ?_
    refine held_take 6 _ rfl (by kernel_rfl) (by kernel_rfl) (by kernel_rfl) (by kernel_rfl) (by kernel_rfl) (fun _ _ _ h => h) (by rfl) (fun _ => rfl) HS (fun w' hS => by obtain ⟨q0, q1, q2⟩ := hS; go_simp; rfl) ?_
    refine held_take 7 _ rfl (by kernel_rfl) (by kernel_rfl) (by kernel_rfl) (by kernel_rfl) (by kernel_rfl) (fun _ _ _ h => h) (by rfl) (fun _ => rfl) HS (fun w' hS => by obtain ⟨q0, q1, q2⟩ := hS; go_simp; rfl) ?_
    refine held_take 8 _ rfl (by kernel_rfl) (by kernel_rfl) (by kernel_rfl) (by kernel_rfl) (by kernel_rfl) (fun _ _ _ h => h) (by rfl) (fun _ => rfl) HS (fun w' hS => by obtain ⟨q0, q1, q2⟩ := hS; go_simp; rfl) ?_
    refine held_take 9 _ rfl (by kernel_rfl) (by kernel_rfl) (by kernel_rfl) (by kernel_rfl) (by kernel_rfl) (fun _ _ _ h => h) (by rfl) (fun _ => rfl) HS (fun w' hS => by obtain ⟨q0, q1, q2⟩ := hS; go_simp; rfl) ?_
    refine held_take 10 _ rfl (by kernel_rfl) (by kernel_rfl) (by kernel_rfl) (by kernel_rfl) (by kernel_rfl) (fun _ _ _ h => h) (by rfl) (fun _ => rfl) HS (fun w' hS => by obtain ⟨q0, q1, q2⟩ := hS; go_simp; rfl) ?_
    refine held_take 11 _ rfl (by kernel_rfl) (by kernel_rfl) (by kernel_rfl) (by kernel_rfl) (by kernel_rfl) (fun _ _ _ h => h) (by rfl) (fun _ => rfl) HS (fun w' hS => by obtain ⟨q0, q1, q2⟩ := hS; go_simp; rfl) ?_
    refine held_take 12 _ rfl (by kernel_rfl) (by kernel_rfl) (by kernel_rfl) (by kernel_rfl) (by kernel_rfl) (fun _ _ _ h => h) (by rfl) (fun _ => rfl) HS (fun w' hS => by obtain ⟨q0, q1, q2⟩ := hS; go_simp; rfl) ?_
    refine held_take 13 tv rfl (by kernel_rfl) (by kernel_rfl) (by kernel_rfl) (by kernel_rfl) (by kernel_rfl) (fun _ _ _ h => h) (by rfl) (fun _ => rfl) HS (fun w' hS => by obtain ⟨q0, q1, q2⟩ := hS; go_simp; skip) ?_
    refine held_one 5 (by kernel_rfl) rfl (by rfl) fun K hK => ?_
    refine run_in (fun c h => by cases h) (fun _ _ => trivial) (v := .slice (some ⟨w.heap.size, 0, none⟩) 0 0) (w' := w.drew.alloc (.cells #[] 81)) (by go_simp) ?_
    have hb3 : Below w.heap.size w (w.drew.alloc (.cells #[] 81)) := (Below.refl _ _).drew.alloc (by simp) _
    have hn3 : (w.drew.alloc (.cells #[] 81)).heap[w.heap.size]? = some (.cells #[] 81 (0, 0)) := heap_alloc_new w.drew _
    obtain ⟨w3, hw3⟩ : ∃ w3, w3 = w.drew.alloc (.cells #[] 81) := ⟨_, rfl⟩
    rw [← hw3] at hb3 hn3 ⊢
    have HS3 : (fun W' : World => W'.cell? ⟨r, 4, none⟩ = some (.slice (some ⟨g, 0, none⟩) nn cc) ∧ W'.cell? ⟨g, k, none⟩ = some (.slice (some ⟨hb, 0, none⟩) L cV) ∧ W'.frozen? ⟨g, k, none⟩ = false) w3 := ⟨(hb3.cell (p := ⟨r, 4, none⟩) h5).trans h1, (hb3.cell (p := ⟨g, k, none⟩) h6).trans h2, by have := hf3; unfold World.frozen? at this ⊢; rw [hb3.block g h6]; exact this⟩
    refine hK _ _ (.inr HS3) ?_
    clear hK K hw3
    refine held_one 14 (by kernel_rfl) rfl (by rfl) fun K2 hK2 => ?_
    obtain ⟨v', w4, hr4, hL4⟩ := append_tail (u := u) (hs := []) (own_empty hn3) HU.out.2.2.1 hcap (fun j x hj => (hb3.cell (p := ⟨hb, j, none⟩) hbl).trans (HU.out.2.2.2.1 j x hj)) (by have := HU.out.2.2.1; have := HU.out.2.2.2.2; have := HLN.out; simp; omega) 46
    rw [← htv] at hr4
    refine run_in (fun c h => by cases h) (fun _ _ => trivial) (v := v') (w' := w4) (appends_exec _ _ _ _ rfl (.slice (some ⟨w.heap.size, 0, none⟩) 0 0) tv (by go_simp) (by go_simp) hr4) ?_
    have HN4 := cover (HF.out w3 w4 v' hb3 hn3 hL4)
    obtain ⟨A3, c3, rfl, hl3⟩ := hL4
    have HS4 : (fun W' : World => W'.cell? ⟨r, 4, none⟩ = some (.slice (some ⟨g, 0, none⟩) nn cc) ∧ W'.cell? ⟨g, k, none⟩ = some (.slice (some ⟨hb, 0, none⟩) L cV) ∧ W'.frozen? ⟨g, k, none⟩ = false) w4 := by
      obtain ⟨k1, k2, k3⟩ := HS3
      have hgr := hl3.out.2.1
      have hz := hb3.size
      have n1 : some r ≠ (Value.slice (some ⟨w.heap.size, 0, none⟩) 0 0).ownBlock := fun e => by simp [Value.ownBlock] at e; omega
      have n2 : some g ≠ (Value.slice (some ⟨w.heap.size, 0, none⟩) 0 0).ownBlock := fun e => by simp [Value.ownBlock] at e; omega
      exact ⟨(hgr.cell_far ⟨r, 4, none⟩ (by show r < _; omega) n1).trans k1, (hgr.cell_far ⟨g, k, none⟩ (by show g < _; omega) n2).trans k2, (hgr.frozen_far ⟨g, k, none⟩ (by show g < _; omega) n2).trans k3⟩
    refine hK2 _ _ (.inr HS4) ?_
    clear hK2 K2 hr4 hl3
    refine held_take 15 _ rfl (by kernel_rfl) (by kernel_rfl) (by kernel_rfl) (by kernel_rfl) (by kernel_rfl) (fun _ _ _ h => h) (by rfl) (fun _ => rfl) HS4 (fun w' hS => by obtain ⟨q0, q1, q2⟩ := hS; go_simp; rfl) ?_
    refine held_one 16 (by kernel_rfl) rfl (by rfl) fun K4 hK4 => ?_
    obtain ⟨q0, q1, q2⟩ := HS4
    go_simp
    refine hK4 _ _ (.inl rfl) (held_done (by kernel_rfl) ?_ _)
    clear hK4 K4
    go_wp2
    exact (HN4.out)
end Go.Proofs.Ytjidhpmjdhjciaa

namespace Go.Proofs.Ytjidhpmjdhjciaa
open Go.RowKit
set_option linter.unusedVariables false
set_option linter.unusedSimpArgs false

set_option maxRecDepth 100000 in
theorem rdrop_any {S : Foot} {w : World} {r : Nat} {s : LS} (h : RIn S w r s) (f t : Int) (hlost : s.lost ≤ 100000000) :
    Calls Try.prog 42 #[ptr r, .int .i64 f, .int .i64 t] w fun e w' => e = .returned (.bool (passB s f t)) ∧ Hid (RNow S r (dropS s f t) w w') := by
  have hP := rpass_any h f t
  unfold RPassOut at hP
  rcases hr : theRow s f t with _ | ⟨x, rest⟩
  · obtain ⟨p1, p2, p3⟩ := pass_none hr
    have e1 : dropS s f t = s := by unfold dropS; rw [hr]
    rw [p1, p2, p3] at hP
    rw [p2, e1]
    clear h hr p1 p2 p3 e1
    go_enter Try.func42, Try.ntmps42
    go_wp2_with fail
    refine hP.mono ?_
    rintro e w' ⟨A, c, rfl, _, hN⟩
    clear hP
    go_wp2
    go_ret
    exact ⟨rfl, hN⟩
  · obtain ⟨p1, p2, p3⟩ := pass_row hr
    have e1 : dropS s f t = (setRow' s f t rest).loss 1 := by unfold dropS; rw [hr]
    rw [p1, p2, p3] at hP
    rw [p2, e1]
    clear h hr p1 p2 p3 e1
    have HL : Hid ((setRow' s f t rest).lost = s.lost) := cover rfl
    generalize setRow' s f t rest = s' at hP HL ⊢
    go_enter Try.func42, Try.ntmps42
    go_wp2_with fail
    refine hP.mono ?_
    rintro e w' ⟨A, c, rfl, _, hN⟩
    clear hP
    obtain ⟨S', h1, h2⟩ := hN.out
    have c3 := h1.cells.2.2.2
    have f3 := h1.thaw 3
    have HF := cover (RNow.loss (⟨S', h1, h2⟩ : RNow S r s' w w') 1)
    have hll : s'.lost ≤ 100000000 := by rw [HL.out]; exact hlost
    clear h1 h2 hN
    go_wp2
    go_ret
    exact ⟨rfl, HF⟩
/-- a row whose first frame is known, as the document's lan holds it -/
structure FirstR (S : Foot) (w : World) (r : Nat) (s : LS) (f t : Int) (x : List Int × Nat) (rest : List (List Int × Nat)) (k nn g cc hb cV L : Nat) (u : UV) (us' : List UV) : Prop where
  at_ : Calls Try.prog 48 #[ptr r, .int .i64 f, .int .i64 t] w fun e w' => e = .returned (.int .i64 (k : Int)) ∧ w = w'
  kn : (k : Int) < (nn : Int)
  c4 : w.cell? ⟨r, 4, none⟩ = some (.slice (some ⟨g, 0, none⟩) nn cc)
  gk : w.cell? ⟨g, k, none⟩ = some (.slice (some ⟨hb, 0, none⟩) L cV)
  gf : w.frozen? ⟨g, k, none⟩ = false
  lt : r < w.heap.size ∧ g < w.heap.size ∧ hb < w.heap.size
  l1 : (1 : Int) ≤ (L : Int) ∧ (L : Int) ≤ (cV : Int) ∧ ((L : Int) == 0) = false ∧ L ≤ cV
  b0 : w.cell? ⟨hb, 0, none⟩ = some (.slice u.A u.l.length u.c)
  b1 : w.cell? ⟨hb, 1, none⟩ = some (.int .i64 u.age)
  ul : u.l = x.1 ∧ u.age = (x.2 : Int) ∧ L = us'.length + 1 ∧ us'.length = rest.length ∧ tell2 us' = told rest ∧ L ≤ s.m ∧ s.m ≤ 64
  cell : ∀ j v, (flat (u :: us'))[j]? = some v → w.cell? ⟨hb, j, none⟩ = some v
  own : OwnB w 0 u.val u.l
  close : ∀ W1 w4 vb n xs v' zs rr, Below w.heap.size w W1 → W1.ownsRow 0 81 2 vb n xs → (∀ i, vfoot vb i → w.heap.size ≤ i) → Longer W1 vb zs v' w4 → (∀ z ∈ zs, z = u ∨ z ∈ us' ∨ OwnB W1 w.heap.size z.val z.l) → tell2 zs = told rr → rr.length ≤ s.m →
    RNow S r (setRow' s f t rr) w (w4.setCell ⟨g, k, none⟩ v')
theorem RIn.first {S : Foot} {w : World} {r : Nat} {s : LS} (h : RIn S w r s) {f t : Int} {x : List Int × Nat} {rest : List (List Int × Nat)} (hr : theRow s f t = x :: rest) : ∃ k nn g cc hb cV L u us', FirstR S w r s f t x rest k nn g cc hb cV L u us' := by
  have hA := at_any h.cells.1 h.n16 f t
  obtain ⟨ho, hrk⟩ := theRow_some hr
  have hk := keyP_lt ho
  rw [atI_ok ho] at hA
  obtain ⟨g, cc, v, us, h1, h2, h3, h4, h5, h6, h7, h8, h9, hclose⟩ := h.place hk
  rw [hrk] at h8
  obtain ⟨u, us', rfl, e1, e2, h8'⟩ := tell2_cons h8
  obtain ⟨hb, cV, rfl, hcap, hvf, hbl, hcell⟩ := h7.at_ (by simp)
  have hlen := h.len (keyP s.n f t)
  rw [hrk] at hlen
  have hul := tell2_len h8'
  simp at hlen hcap
  refine ⟨keyP s.n f t, s.n * s.n, g, cc, hb, cV, _, u, us', hA, by omega, h1, h2, h3 _, ⟨h5, h6, hbl⟩, ⟨by simp; omega, by simp; omega, by rw [beq_eq_false_iff_ne]; simp; omega, by simpa using hcap⟩, hcell 0 _ rfl, hcell 1 _ rfl, ⟨e1, e2, by simp, hul, h8', by simp; omega, h.m64⟩, hcell, h7.own u (by simp), ?_⟩
  intro W1 w4 vb n xs v' zs rr hb' hvo hvb hL hz htell hrr
  obtain ⟨k1, k2, k3⟩ := h7.grown hb' hvo (fun i hi => .inr (hvb i hi)) hL (fun z hzz => by
    rcases hz z hzz with rfl | h10 | h10
    · exact .inl (by simp)
    · exact .inl (List.mem_cons_of_mem _ h10)
    · exact .inr h10)
  exact hclose w4 v' zs rr k1 htell hrr k2 k3
/-- a row of frames that was made whole -/
theorem own_made {W : World} {g : Nat} {hs : List UV} (h : W.heap[g]? = some (.cells (flat hs).toArray 81 (0, 0))) (hl : hs.length ≤ 1000) : W.ownsRow 0 81 2 (.slice (some ⟨g, 0, none⟩) hs.length hs.length) hs.length (flat hs) :=
  ⟨flat_length hs, .inr ⟨g, hs.length, _, rfl, Nat.zero_le _, h, Nat.le_refl _, by unfold maxLen; omega, by simp [flat_length], by simp [← flat_length]⟩⟩
set_option maxRecDepth 100000 in
set_option maxHeartbeats 1600000 in
theorem rtwice_some {S : Foot} {w : World} {r : Nat} {s : LS} (h : RIn S w r s) (f t : Int) {x : List Int × Nat} {rest : List (List Int × Nat)} (hr : theRow s f t = x :: rest) (hmax : x.1.length ≤ 1000000) :
    Calls Try.prog 43 #[ptr r, .int .i64 f, .int .i64 t] w fun e w' => e = .returned (.bool (twiceB s f t)) ∧ Hid (RNow S r (twiceS s f t) w w') := by
  obtain ⟨k, nn, g, cc, hb, cV, L, u, us', F⟩ := h.first hr
  have hm1 := h.cells.2.1
  have hA := F.at_
  have hki := F.kn
  have h1 := F.c4
  have h2 := F.gk
  have hf3 := F.gf
  have b0 := F.b0
  have b1 := F.b1
  obtain ⟨h5, h6, hbl⟩ := F.lt
  obtain ⟨hL1, hL2, hL3, hcap⟩ := F.l1
  have HFF := cover F
  have hLm : L ≤ 64 := by have := F.ul; omega
  have hk0 : (0 : Int) ≤ (k : Int) := by omega
  by_cases hfull : L < s.m
  · have hlt : ¬ (s.m : Int) ≤ (L : Int) := by omega
    have HSB : Hid (twiceB s f t = true ∧ twiceS s f t = setRow' s f t (x :: x :: rest)) := cover (twice_row hr (by have := F.ul; simp; omega))
    have HM := cover (And.intro hmax (And.intro hfull hLm))
    have HMM : Hid (L + 1 ≤ s.m) := cover (by omega)
    obtain ⟨m, hm⟩ : ∃ m, m = s.m := ⟨_, rfl⟩
    rw [← hm] at hm1 hlt
    clear hm
    clear h hr F hfull hmax
    go_enter Try.func43, Try.ntmps43
    go_wp2_with fail
    refine hA.mono ?_
    rintro e w' ⟨rfl, rfl⟩
    clear hA
    go_wp2_with fail
    go_quiet (fail)
    have hbd := below_drewN' w nq
    obtain ⟨w1, hw1⟩ : ∃ w1, w1 = w.drewN nq := ⟨_, rfl⟩
    rw [← hw1] at hbd ⊢
    have hs1 := hbd.size
    have f1 := (hbd.cell (p := ⟨r, 4, none⟩) h5).trans h1
    have f2 := (hbd.cell (p := ⟨g, k, none⟩) h6).trans h2
    have f3 : w1.frozen? ⟨g, k, none⟩ = false := by rw [hw1]; exact hf3
    have f4 := (hbd.cell (p := ⟨hb, 0, none⟩) hbl).trans b0
    have f5 := (hbd.cell (p := ⟨hb, 1, none⟩) hbl).trans b1
    have HB1 := cover (And.intro hbd (And.intro hs1 (And.intro h5 (And.intro h6 hbl))))
    clear hw1 h1 h2 hf3 b0 b1 hm1 hbd
    go_wp2_with fail
    obtain ⟨w2, hw2⟩ : ∃ w2, w2 = w1.alloc (.cells #[.slice u.A u.l.length u.c, .int .i64 u.age] 81) := ⟨_, rfl⟩
    obtain ⟨bx, hbx⟩ : ∃ bx, bx = w1.heap.size := ⟨_, rfl⟩
    have hb12 : Below w1.heap.size w1 w2 := by rw [hw2]; exact (Below.refl _ _).alloc (Nat.le_refl _) _
    have hxx : w2.heap[bx]? = some (.cells #[.slice u.A u.l.length u.c, .int .i64 u.age] 81 (0, 0)) := by rw [hw2, hbx]; exact heap_alloc_new _ _
    have hs2 : w2.heap.size = bx + 1 := by rw [hw2, hbx]; simp
    rw [← hw2, ← hbx]
    have hbd2 : Below w.heap.size w w2 := HB1.out.1.trans (hb12.mono HB1.out.2.1)
    have hsz2 := hbd2.size
    have HK : Hid (∀ W', Below w2.heap.size w2 W' → (fun W' : World => W'.cell? ⟨r, 4, none⟩ = some (.slice (some ⟨g, 0, none⟩) nn cc) ∧ W'.cell? ⟨g, k, none⟩ = some (.slice (some ⟨hb, 0, none⟩) L cV) ∧ W'.frozen? ⟨g, k, none⟩ = false ∧ W'.cell? ⟨bx, 0, none⟩ = some (.slice u.A u.l.length u.c) ∧ W'.cell? ⟨bx, 1, none⟩ = some (.int .i64 u.age)) W') := cover fun W' hb' => by
      have hbw := hbd2.trans (hb'.mono hsz2)
      have hxb := (hb'.block bx (by omega)).trans hxx
      exact ⟨(hbw.cell (p := ⟨r, 4, none⟩) h5).trans HFF.out.c4, (hbw.cell (p := ⟨g, k, none⟩) h6).trans HFF.out.gk, by have := HFF.out.gf; unfold World.frozen? at this ⊢; rw [hbw.block g h6]; exact this, by rw [cell_of_row _ _ _ _ _ _ hxb]; rfl, by rw [cell_of_row _ _ _ _ _ _ hxb]; rfl⟩
    have HCP : Hid (∀ W', Below w2.heap.size w2 W' → Calls Try.prog 60 #[.slice u.A u.l.length u.c] W' (GivesB W' u.l)) := cover fun W' hb' => by
      have hbw := hbd2.trans (hb'.mono hsz2)
      exact copy_any u.A u.l.length u.c w.heap.size u.l W' (HFF.out.own.row.below hbw) hbw.size (by have := HFF.out.ul.1; have := HM.out.1; rw [HFF.out.ul.1]; omega)
    have HBD := cover (And.intro hbd2 hsz2)
    have HBX : Hid (bx < w2.heap.size) := cover (by omega)
    clear hw2 hbx hb12 hxx hs2 f1 f2 f3 f4 f5 hbd2
    have mixed : Try.prog.follows .mixedOrders = true := by kernel_rfl
    refine (wpIn_wide (n := 0)).1 ?_
    refine held_begin (fun W' : World => W'.cell? ⟨r, 4, none⟩ = some (.slice (some ⟨g, 0, none⟩) nn cc) ∧ W'.cell? ⟨g, k, none⟩ = some (.slice (some ⟨hb, 0, none⟩) L cV) ∧ W'.frozen? ⟨g, k, none⟩ = false ∧ W'.cell? ⟨bx, 0, none⟩ = some (.slice u.A u.l.length u.c) ∧ W'.cell? ⟨bx, 1, none⟩ = some (.int .i64 u.age)) 23 mixed ?_
    have HS : (fun W' : World => W'.cell? ⟨r, 4, none⟩ = some (.slice (some ⟨g, 0, none⟩) nn cc) ∧ W'.cell? ⟨g, k, none⟩ = some (.slice (some ⟨hb, 0, none⟩) L cV) ∧ W'.frozen? ⟨g, k, none⟩ = false ∧ W'.cell? ⟨bx, 0, none⟩ = some (.slice u.A u.l.length u.c) ∧ W'.cell? ⟨bx, 1, none⟩ = some (.int .i64 u.age)) w2.drew := HK.out _ (Below.refl _ _).drew
    obtain ⟨tv, htv⟩ : ∃ tv, tv = Value.slice (if cV = 1 then some ⟨hb, 0, none⟩ else some ⟨hb, 2, none⟩) (L - 1) (cV - 1) := ⟨_, rfl⟩
    refine hold_take 0 _ rfl (by kernel_rfl) (by kernel_rfl) (by kernel_rfl) (by kernel_rfl) (by kernel_rfl) (fun _ _ _ h => h) (by rfl) (fun _ => rfl) HS (fun w' hS => by obtain ⟨q0, q1, q2, q3, q4⟩ := hS; go_simp; rfl) ?_
    simp only [Act.put, List.setIfInBounds_toArray, List.set_cons_zero, List.set_cons_succ]
    refine hold_take 1 _ rfl (by kernel_rfl) (by kernel_rfl) (by kernel_rfl) (by kernel_rfl) (by kernel_rfl) (fun _ _ _ h => h) (by rfl) (fun _ => rfl) HS (fun w' hS => by obtain ⟨q0, q1, q2, q3, q4⟩ := hS; go_simp; rfl) ?_
    simp only [Act.put, List.setIfInBounds_toArray, List.set_cons_zero, List.set_cons_succ]
    refine hold_take 2 _ rfl (by kernel_rfl) (by kernel_rfl) (by kernel_rfl) (by kernel_rfl) (by kernel_rfl) (fun _ _ _ h => h) (by rfl) (fun _ => rfl) HS (fun w' hS => by obtain ⟨q0, q1, q2, q3, q4⟩ := hS; go_simp; rfl) ?_
    simp only [Act.put, List.setIfInBounds_toArray, List.set_cons_zero, List.set_cons_succ]
    refine hold_take 3 _ rfl (by kernel_rfl) (by kernel_rfl) (by kernel_rfl) (by kernel_rfl) (by kernel_rfl) (fun _ _ _ h => h) (by rfl) (fun _ => rfl) HS (fun w' hS => by obtain ⟨q0, q1, q2, q3, q4⟩ := hS; go_simp; rfl) ?_
    simp only [Act.put, List.setIfInBounds_toArray, List.set_cons_zero, List.set_cons_succ]
    refine hold_take 4 _ rfl (by kernel_rfl) (by kernel_rfl) (by kernel_rfl) (by kernel_rfl) (by kernel_rfl) (fun _ _ _ h => h) (by rfl) (fun _ => rfl) HS (fun w' hS => by obtain ⟨q0, q1, q2, q3, q4⟩ := hS; go_simp; rfl) ?_
    simp only [Act.put, List.setIfInBounds_toArray, List.set_cons_zero, List.set_cons_succ]
    refine hold_take 5 _ rfl (by kernel_rfl) (by kernel_rfl) (by kernel_rfl) (by kernel_rfl) (by kernel_rfl) (fun _ _ _ h => h) (by rfl) (fun _ => rfl) HS (fun w' hS => by obtain ⟨q0, q1, q2, q3, q4⟩ := hS; go_simp; rfl) ?_
    simp only [Act.put, List.setIfInBounds_toArray, List.set_cons_zero, List.set_cons_succ]
    refine hold_take 6 _ rfl (by kernel_rfl) (by kernel_rfl) (by kernel_rfl) (by kernel_rfl) (by kernel_rfl) (fun _ _ _ h => h) (by rfl) (fun _ => rfl) HS (fun w' hS => by obtain ⟨q0, q1, q2, q3, q4⟩ := hS; go_simp; rfl) ?_
    simp only [Act.put, List.setIfInBounds_toArray, List.set_cons_zero, List.set_cons_succ]
    refine hold_take 7 _ rfl (by kernel_rfl) (by kernel_rfl) (by kernel_rfl) (by kernel_rfl) (by kernel_rfl) (fun _ _ _ h => h) (by rfl) (fun _ => rfl) HS (fun w' hS => by obtain ⟨q0, q1, q2, q3, q4⟩ := hS; go_simp; rfl) ?_
    simp only [Act.put, List.setIfInBounds_toArray, List.set_cons_zero, List.set_cons_succ]
    refine hold_take 9 _ rfl (by kernel_rfl) (by kernel_rfl) (by kernel_rfl) (by kernel_rfl) (by kernel_rfl) (fun _ _ _ h => h) (by rfl) (fun _ => rfl) HS (fun w' hS => by obtain ⟨q0, q1, q2, q3, q4⟩ := hS; go_simp; rfl) ?_
    simp only [Act.put, List.setIfInBounds_toArray, List.set_cons_zero, List.set_cons_succ]
    refine hold_take 10 _ rfl (by kernel_rfl) (by kernel_rfl) (by kernel_rfl) (by kernel_rfl) (by kernel_rfl) (fun _ _ _ h => h) (by rfl) (fun _ => rfl) HS (fun w' hS => by obtain ⟨q0, q1, q2, q3, q4⟩ := hS; go_simp; rfl) ?_
    simp only [Act.put, List.setIfInBounds_toArray, List.set_cons_zero, List.set_cons_succ]
    refine hold_take 13 _ rfl (by kernel_rfl) (by kernel_rfl) (by kernel_rfl) (by kernel_rfl) (by kernel_rfl) (fun _ _ _ h => h) (by rfl) (fun _ => rfl) HS (fun w' hS => by obtain ⟨q0, q1, q2, q3, q4⟩ := hS; go_simp; rfl) ?_
    simp only [Act.put, List.setIfInBounds_toArray, List.set_cons_zero, List.set_cons_succ]
    refine hold_take 14 _ rfl (by kernel_rfl) (by kernel_rfl) (by kernel_rfl) (by kernel_rfl) (by kernel_rfl) (fun _ _ _ h => h) (by rfl) (fun _ => rfl) HS (fun w' hS => by obtain ⟨q0, q1, q2, q3, q4⟩ := hS; go_simp; rfl) ?_
    simp only [Act.put, List.setIfInBounds_toArray, List.set_cons_zero, List.set_cons_succ]
    refine hold_take 15 _ rfl (by kernel_rfl) (by kernel_rfl) (by kernel_rfl) (by kernel_rfl) (by kernel_rfl) (fun _ _ _ h => h) (by rfl) (fun _ => rfl) HS (fun w' hS => by obtain ⟨q0, q1, q2, q3, q4⟩ := hS; go_simp; rfl) ?_
    simp only [Act.put, List.setIfInBounds_toArray, List.set_cons_zero, List.set_cons_succ]
    refine hold_take 16 _ rfl (by kernel_rfl) (by kernel_rfl) (by kernel_rfl) (by kernel_rfl) (by kernel_rfl) (fun _ _ _ h => h) (by rfl) (fun _ => rfl) HS (fun w' hS => by obtain ⟨q0, q1, q2, q3, q4⟩ := hS; go_simp; rfl) ?_
    simp only [Act.put, List.setIfInBounds_toArray, List.set_cons_zero, List.set_cons_succ]
    refine hold_take 17 _ rfl (by kernel_rfl) (by kernel_rfl) (by kernel_rfl) (by kernel_rfl) (by kernel_rfl) (fun _ _ _ h => h) (by rfl) (fun _ => rfl) HS (fun w' hS => by obtain ⟨q0, q1, q2, q3, q4⟩ := hS; go_simp; rfl) ?_
    simp only [Act.put, List.setIfInBounds_toArray, List.set_cons_zero, List.set_cons_succ]
    refine hold_take 18 _ rfl (by kernel_rfl) (by kernel_rfl) (by kernel_rfl) (by kernel_rfl) (by kernel_rfl) (fun _ _ _ h => h) (by rfl) (fun _ => rfl) HS (fun w' hS => by obtain ⟨q0, q1, q2, q3, q4⟩ := hS; go_simp; rfl) ?_
    simp only [Act.put, List.setIfInBounds_toArray, List.set_cons_zero, List.set_cons_succ]
    refine hold_take 19 _ rfl (by kernel_rfl) (by kernel_rfl) (by kernel_rfl) (by kernel_rfl) (by kernel_rfl) (fun _ _ _ h => h) (by rfl) (fun _ => rfl) HS (fun w' hS => by obtain ⟨q0, q1, q2, q3, q4⟩ := hS; go_simp; rfl) ?_
    simp only [Act.put, List.setIfInBounds_toArray, List.set_cons_zero, List.set_cons_succ]
    refine hold_take 20 tv rfl (by kernel_rfl) (by kernel_rfl) (by kernel_rfl) (by kernel_rfl) (by kernel_rfl) (fun _ _ _ h => h) (by rfl) (fun _ => rfl) HS (fun w' hS => by obtain ⟨q0, q1, q2, q3, q4⟩ := hS; go_simp; skip) ?_
    simp only [Act.put, List.setIfInBounds_toArray, List.set_cons_zero, List.set_cons_succ]
    have HTV := cover htv
    clear htv
    refine hold_one 8 (by kernel_rfl) rfl (by rfl) fun K hK => ?_
    go_simp
    refine ⟨trivial, rfl, (callsIn_wide.2 (HCP.out _ (Below.refl _ _).drew)).mono ?_⟩
    rintro e w3 ⟨A2, c2, rfl, ho3, hb03⟩
    have hb3 : Below w2.heap.size w2 w3 := (Below.refl _ _).drew.trans hb03
    have HS3 : (fun W' : World => W'.cell? ⟨r, 4, none⟩ = some (.slice (some ⟨g, 0, none⟩) nn cc) ∧ W'.cell? ⟨g, k, none⟩ = some (.slice (some ⟨hb, 0, none⟩) L cV) ∧ W'.frozen? ⟨g, k, none⟩ = false ∧ W'.cell? ⟨bx, 0, none⟩ = some (.slice u.A u.l.length u.c) ∧ W'.cell? ⟨bx, 1, none⟩ = some (.int .i64 u.age)) w3 := HK.out _ hb3
    refine hK _ _ (.inr HS3) ?_
    clear hK K
    refine hold_take 11 _ rfl (by kernel_rfl) (by kernel_rfl) (by kernel_rfl) (by kernel_rfl) (by kernel_rfl) (fun _ _ _ h => h) (by rfl) (fun _ => rfl) HS3 (fun w' hS => by obtain ⟨q0, q1, q2, q3, q4⟩ := hS; go_simp; rfl) ?_
    simp only [Act.put, List.setIfInBounds_toArray, List.set_cons_zero, List.set_cons_succ]
    refine hold_one 12 (by kernel_rfl) rfl (by rfl) fun K2 hK2 => ?_
    obtain ⟨w4, hw4⟩ : ∃ w4, w4 = w3.alloc (.cells #[.slice u.A u.l.length u.c, .int .i64 u.age, .slice A2 u.l.length c2, .int .i64 u.age] 81) := ⟨_, rfl⟩
    have hb4 : Below w2.heap.size w2 w4 := by rw [hw4]; exact hb3.alloc hb3.size _
    obtain ⟨y, hy⟩ : ∃ y, y = w3.heap.size := ⟨_, rfl⟩
    have hn4 : w4.heap[y]? = some (.cells (flat [u, ⟨A2, c2, u.l, u.age⟩]).toArray 81 (0, 0)) := by rw [hw4, hy]; exact heap_alloc_new w3 _
    have hy4 : w2.heap.size ≤ y ∧ y < w4.heap.size := by rw [hw4, hy]; exact ⟨hb3.size, by simp⟩
    have HO4 : Hid (OwnB w4 w.heap.size (.slice A2 u.l.length c2) u.l) := cover (by rw [hw4]; exact own_below (ho3.mono (by have := HBD.out.2; exact this)) ((Below.refl _ _).alloc (Nat.le_refl _) _))
    refine run_in (fun c h => by cases h) (fun _ _ => trivial) (v := .slice (some ⟨y, 0, none⟩) 2 2) (w' := w4) (by rw [hw4, hy]; go_simp) ?_
    have HS4 : (fun W' : World => W'.cell? ⟨r, 4, none⟩ = some (.slice (some ⟨g, 0, none⟩) nn cc) ∧ W'.cell? ⟨g, k, none⟩ = some (.slice (some ⟨hb, 0, none⟩) L cV) ∧ W'.frozen? ⟨g, k, none⟩ = false ∧ W'.cell? ⟨bx, 0, none⟩ = some (.slice u.A u.l.length u.c) ∧ W'.cell? ⟨bx, 1, none⟩ = some (.int .i64 u.age)) w4 := HK.out _ hb4
    refine hK2 _ _ (.inr HS4) ?_
    clear hK2 K2 hw4 hy HS3
    refine hold_one 21 (by kernel_rfl) rfl (by rfl) fun K3 hK3 => ?_
    obtain ⟨v', w5, hr5, hL5⟩ := append_tail (u := u) (hs := [u, ⟨A2, c2, u.l, u.age⟩]) (own_made hn4 (by simp)) HFF.out.ul.2.2.1 hcap (fun j x hj => ((HBD.out.1.trans (hb4.mono HBD.out.2)).cell (p := ⟨hb, j, none⟩) hbl).trans (HFF.out.cell j x hj)) (by have := HFF.out.ul.2.2.1; have := HM.out.2.2; simp; omega) 46
    rw [← HTV.out] at hr5
    refine run_in (fun c h => by cases h) (fun _ _ => trivial) (v := v') (w' := w5) (appends_exec _ _ _ _ rfl (.slice (some ⟨y, 0, none⟩) 2 2) tv (by go_simp) (by go_simp) hr5) ?_
    have HN5 : Hid (RNow S r (twiceS s f t) w (w5.setCell ⟨g, k, none⟩ v')) := cover (by
      rw [HSB.out.2]
      have e6 := HFF.out.ul
      refine HFF.out.close w4 w5 _ _ _ v' _ (x :: x :: rest) (HBD.out.1.trans (hb4.mono HBD.out.2)) (own_made hn4 (by simp)) (fun i hi => ?_) hL5 (fun z hz => ?_) ?_ ?_
      · have : vfoot _ i := hi
        simp [vfoot, Value.ownBlock] at this; have := hy4.1; have := HBD.out.2; omega
      · rcases List.mem_append.1 hz with hz | hz
        · simp at hz; rcases hz with rfl | rfl
          · exact .inl rfl
          · exact .inr (.inr HO4.out)
        · exact .inr (.inl hz)
      · rw [tell2_app, e6.2.2.2.2.1]; simp [tell2, told, e6.1, e6.2.1]
      · have e7 := HMM.out; have e8 := e6.2.2.2.1; have e9 := e6.2.2.1; simp; omega)
    obtain ⟨A3, c3, rfl, hl3⟩ := hL5
    have HS5 : (fun W' : World => W'.cell? ⟨r, 4, none⟩ = some (.slice (some ⟨g, 0, none⟩) nn cc) ∧ W'.cell? ⟨g, k, none⟩ = some (.slice (some ⟨hb, 0, none⟩) L cV) ∧ W'.frozen? ⟨g, k, none⟩ = false ∧ W'.cell? ⟨bx, 0, none⟩ = some (.slice u.A u.l.length u.c) ∧ W'.cell? ⟨bx, 1, none⟩ = some (.int .i64 u.age)) w5 := by
      obtain ⟨k1, k2, k3, k4, k5⟩ := HS4
      have hgr := hl3.out.2.1
      have hz := hy4
      have hz2 := HBX.out
      have n0 : ∀ i, i < w2.heap.size → some i ≠ (Value.slice (some ⟨y, 0, none⟩) 2 2).ownBlock := fun i hi e => by simp [Value.ownBlock] at e; omega
      have hf : ∀ i o, i < w2.heap.size → w5.cell? ⟨i, o, none⟩ = w4.cell? ⟨i, o, none⟩ := fun i o hi => hgr.cell_far ⟨i, o, none⟩ (by show i < _; omega) (n0 i hi)
      exact ⟨(hf r 4 (by omega)).trans k1, (hf g k (by omega)).trans k2, (hgr.frozen_far ⟨g, k, none⟩ (by show g < _; omega) (n0 g (by omega))).trans k3, (hf bx 0 (by omega)).trans k4, (hf bx 1 (by omega)).trans k5⟩
    refine hK3 _ _ (.inr HS5) ?_
    clear hK3 K3 hr5 hl3
    refine hold_take 22 _ rfl (by kernel_rfl) (by kernel_rfl) (by kernel_rfl) (by kernel_rfl) (by kernel_rfl) (fun _ _ _ h => h) (by rfl) (fun _ => rfl) HS5 (fun w' hS => by obtain ⟨q0, q1, q2, q3, q4⟩ := hS; go_simp; rfl) ?_
    simp only [Act.put, List.setIfInBounds_toArray, List.set_cons_zero, List.set_cons_succ]
    refine hold_one 23 (by kernel_rfl) rfl (by rfl) fun K4 hK4 => ?_
    obtain ⟨q0, q1, q2, q3, q4⟩ := HS5
    go_simp
    refine hK4 _ _ (.inl rfl) (held_done (by kernel_rfl) ?_ _)
    clear hK4 K4
    go_wp2
    go_ret
    exact ⟨ret_bool HSB.out.1.symm, cover HN5.out⟩
  · have hlt : (s.m : Int) ≤ (L : Int) := by omega
    have HSB : Hid (twiceB s f t = false ∧ twiceS s f t = s) := cover (by
      have e6 := F.ul
      unfold twiceB twiceS
      rw [hr]
      have : ¬ (x :: rest).length < s.m := by simp; omega
      exact ⟨by simpa using this, by simp only []; rw [if_neg this]⟩)
    have HF : Hid (∀ d, RNow S r (twiceS s f t) w (w.drewN d)) := cover fun d => by rw [HSB.out.2]; exact RNow.below h (below_drewN' w d)
    obtain ⟨m, hm⟩ : ∃ m, m = s.m := ⟨_, rfl⟩
    rw [← hm] at hm1 hlt
    clear h hr F hfull hmax hm
    go_enter Try.func43, Try.ntmps43
    go_wp2_with fail
    refine hA.mono ?_
    rintro e w' ⟨rfl, rfl⟩
    clear hA
    go_wp2_with fail
    go_quiet (fail)
    go_wp2
    go_ret
    exact ⟨ret_bool HSB.out.1.symm, cover (HF.out _)⟩
set_option maxRecDepth 100000 in
set_option maxHeartbeats 1600000 in
theorem rtwice_none {S : Foot} {w : World} {r : Nat} {s : LS} (h : RIn S w r s) (f t : Int) (hr : theRow s f t = []) :
    Calls Try.prog 43 #[ptr r, .int .i64 f, .int .i64 t] w fun e w' => e = .returned (.bool (twiceB s f t)) ∧ Hid (RNow S r (twiceS s f t) w w') := by
  have HSB : Hid (twiceB s f t = false ∧ twiceS s f t = s) := cover (by unfold twiceB twiceS; rw [hr]; exact ⟨rfl, rfl⟩)
  have HF : Hid (∀ d, RNow S r (twiceS s f t) w (w.drewN d)) := cover fun d => by rw [HSB.out.2]; exact RNow.below h (below_drewN' w d)
  have hA := at_any h.cells.1 h.n16 f t
  have hm1 := h.cells.2.1
  by_cases ho : okP s.n f t
  · have hk := keyP_lt ho
    rw [atI_ok ho] at hA
    obtain ⟨g, cc, v, us, h1, h2, h3, h4, h5, h6, h7, h8, h9, hclose⟩ := h.place hk
    rw [theRow_ok ho] at hr
    have hul := tell2_len h8
    rw [hr] at hul
    have hul : us.length = 0 := hul
    obtain ⟨AV, cV, hv⟩ := h7.shape
    have hki : (keyP s.n f t : Int) < ((s.n * s.n : Nat) : Int) := by omega
    have hk0 : (0 : Int) ≤ (keyP s.n f t : Int) := by omega
    have kd : decide ((keyP s.n f t : Int) < 0) = false := by simp
    generalize keyP s.n f t = k at *
    generalize s.n * s.n = nn at *
    rw [hul] at hv
    clear h h7 h8 h9 hclose hr hul ho h3
    subst hv
    go_enter Try.func43, Try.ntmps43
    go_wp2_with fail
    refine hA.mono ?_
    rintro e w' ⟨rfl, rfl⟩
    clear hA
    go_wp2_with fail
    have mixed : Try.prog.follows .mixedOrders = true := by kernel_rfl
    refine (wpIn_wide (n := 0)).1 ?_
    refine held_begin (fun W' : World => W'.cell? ⟨r, 4, none⟩ = some (.slice (some ⟨g, 0, none⟩) nn cc) ∧ W'.cell? ⟨g, k, none⟩ = some (.slice AV 0 cV)) 99 mixed ?_
    have HS : (fun W' : World => W'.cell? ⟨r, 4, none⟩ = some (.slice (some ⟨g, 0, none⟩) nn cc) ∧ W'.cell? ⟨g, k, none⟩ = some (.slice AV 0 cV)) w.drew := ⟨h1, h2⟩
    refine hold_take 0 _ rfl (by kernel_rfl) (by kernel_rfl) (by kernel_rfl) (by kernel_rfl) (by kernel_rfl) (fun _ _ _ h => h) (by rfl) (fun _ => rfl) HS (fun w' hS => by obtain ⟨q0, q1⟩ := hS; go_simp; rfl) ?_
    simp only [Act.put, List.setIfInBounds_toArray, List.set_cons_zero, List.set_cons_succ]
    refine hold_take 1 (.bool false) rfl (by kernel_rfl) (by kernel_rfl) (by kernel_rfl) (by kernel_rfl) (by kernel_rfl) (fun _ _ _ h => h) (by rfl) (fun _ => rfl) HS (fun w' hS => by obtain ⟨q0, q1⟩ := hS; go_simp; skip) ?_
    simp only [Act.put, List.setIfInBounds_toArray, List.set_cons_zero, List.set_cons_succ]
    refine hold_take 2 _ rfl (by kernel_rfl) (by kernel_rfl) (by kernel_rfl) (by kernel_rfl) (by kernel_rfl) (fun _ _ _ h => h) (by rfl) (fun _ => rfl) HS (fun w' hS => by obtain ⟨q0, q1⟩ := hS; go_simp; rfl) ?_
    simp only [Act.put, List.setIfInBounds_toArray, List.set_cons_zero, List.set_cons_succ]
    refine hold_take 3 _ rfl (by kernel_rfl) (by kernel_rfl) (by kernel_rfl) (by kernel_rfl) (by kernel_rfl) (fun _ _ _ h => h) (by rfl) (fun _ => rfl) HS (fun w' hS => by obtain ⟨q0, q1⟩ := hS; go_simp; rfl) ?_
    simp only [Act.put, List.setIfInBounds_toArray, List.set_cons_zero, List.set_cons_succ]
    refine hold_take 4 _ rfl (by kernel_rfl) (by kernel_rfl) (by kernel_rfl) (by kernel_rfl) (by kernel_rfl) (fun _ _ _ h => h) (by rfl) (fun _ => rfl) HS (fun w' hS => by obtain ⟨q0, q1⟩ := hS; go_simp; rfl) ?_
    simp only [Act.put, List.setIfInBounds_toArray, List.set_cons_zero, List.set_cons_succ]
    refine hold_take 5 _ rfl (by kernel_rfl) (by kernel_rfl) (by kernel_rfl) (by kernel_rfl) (by kernel_rfl) (fun _ _ _ h => h) (by rfl) (fun _ => rfl) HS (fun w' hS => by obtain ⟨q0, q1⟩ := hS; go_simp; rfl) ?_
    simp only [Act.put, List.setIfInBounds_toArray, List.set_cons_zero, List.set_cons_succ]
    refine hold_take 6 _ rfl (by kernel_rfl) (by kernel_rfl) (by kernel_rfl) (by kernel_rfl) (by kernel_rfl) (fun _ _ _ h => h) (by rfl) (fun _ => rfl) HS (fun w' hS => by obtain ⟨q0, q1⟩ := hS; go_simp; rfl) ?_
    simp only [Act.put, List.setIfInBounds_toArray, List.set_cons_zero, List.set_cons_succ]
    refine hold_take 7 _ rfl (by kernel_rfl) (by kernel_rfl) (by kernel_rfl) (by kernel_rfl) (by kernel_rfl) (fun _ _ _ h => h) (by rfl) (fun _ => rfl) HS (fun w' hS => by obtain ⟨q0, q1⟩ := hS; go_simp; rfl) ?_
    simp only [Act.put, List.setIfInBounds_toArray, List.set_cons_zero, List.set_cons_succ]
    refine hold_take 8 _ rfl (by kernel_rfl) (by kernel_rfl) (by kernel_rfl) (by kernel_rfl) (by kernel_rfl) (fun _ _ _ h => h) (by rfl) (fun _ => rfl) HS (fun w' hS => by obtain ⟨q0, q1⟩ := hS; go_simp; rfl) ?_
    simp only [Act.put, List.setIfInBounds_toArray, List.set_cons_zero, List.set_cons_succ]
    refine hold_take 9 _ rfl (by kernel_rfl) (by kernel_rfl) (by kernel_rfl) (by kernel_rfl) (by kernel_rfl) (fun _ _ _ h => h) (by rfl) (fun _ => rfl) HS (fun w' hS => by obtain ⟨q0, q1⟩ := hS; go_simp; rfl) ?_
    simp only [Act.put, List.setIfInBounds_toArray, List.set_cons_zero, List.set_cons_succ]
    refine hold_take 10 _ rfl (by kernel_rfl) (by kernel_rfl) (by kernel_rfl) (by kernel_rfl) (by kernel_rfl) (fun _ _ _ h => h) (by rfl) (fun _ => rfl) HS (fun w' hS => by obtain ⟨q0, q1⟩ := hS; go_simp; rfl) ?_
    simp only [Act.put, List.setIfInBounds_toArray, List.set_cons_zero, List.set_cons_succ]
    refine hold_take 11 (.bool true) rfl (by kernel_rfl) (by kernel_rfl) (by kernel_rfl) (by kernel_rfl) (by kernel_rfl) (fun _ _ _ h => h) (by rfl) (fun _ => rfl) HS (fun w' hS => by obtain ⟨q0, q1⟩ := hS; go_simp; skip) ?_
    simp only [Act.put, List.setIfInBounds_toArray, List.set_cons_zero, List.set_cons_succ]
    refine hold_take 12 (.bool true) rfl (by kernel_rfl) (by kernel_rfl) (by kernel_rfl) (by kernel_rfl) (by kernel_rfl) (fun _ _ _ h => h) (by rfl) (fun _ => rfl) HS (fun w' hS => by obtain ⟨q0, q1⟩ := hS; go_simp; skip) ?_
    simp only [Act.put, List.setIfInBounds_toArray, List.set_cons_zero, List.set_cons_succ]
    refine hold_take 13 _ rfl (by kernel_rfl) (by kernel_rfl) (by kernel_rfl) (by kernel_rfl) (by kernel_rfl) (fun _ _ _ h => h) (by rfl) (fun _ => rfl) HS (fun w' hS => by obtain ⟨q0, q1⟩ := hS; go_simp; rfl) ?_
    simp only [Act.put, List.setIfInBounds_toArray, List.set_cons_zero, List.set_cons_succ]
    refine hold_skip 14 rfl (by kernel_rfl) (by kernel_rfl) (by kernel_rfl) (by kernel_rfl) (by kernel_rfl) (fun _ _ _ h => h) (by rfl) (fun _ => rfl) HS ?_
    simp only [Act.put, List.setIfInBounds_toArray, List.set_cons_zero, List.set_cons_succ]
    refine hold_skip 15 rfl (by kernel_rfl) (by kernel_rfl) (by kernel_rfl) (by kernel_rfl) (by kernel_rfl) (fun _ _ _ h => h) (by rfl) (fun _ => rfl) HS ?_
    simp only [Act.put, List.setIfInBounds_toArray, List.set_cons_zero, List.set_cons_succ]
    refine hold_skip 16 rfl (by kernel_rfl) (by kernel_rfl) (by kernel_rfl) (by kernel_rfl) (by kernel_rfl) (fun _ _ _ h => h) (by rfl) (fun _ => rfl) HS ?_
    simp only [Act.put, List.setIfInBounds_toArray, List.set_cons_zero, List.set_cons_succ]
    refine hold_skip 17 rfl (by kernel_rfl) (by kernel_rfl) (by kernel_rfl) (by kernel_rfl) (by kernel_rfl) (fun _ _ _ h => h) (by rfl) (fun _ => rfl) HS ?_
    simp only [Act.put, List.setIfInBounds_toArray, List.set_cons_zero, List.set_cons_succ]
    refine hold_skip 18 rfl (by kernel_rfl) (by kernel_rfl) (by kernel_rfl) (by kernel_rfl) (by kernel_rfl) (fun _ _ _ h => h) (by rfl) (fun _ => rfl) HS ?_
    simp only [Act.put, List.setIfInBounds_toArray, List.set_cons_zero, List.set_cons_succ]
    refine hold_skip 19 rfl (by kernel_rfl) (by kernel_rfl) (by kernel_rfl) (by kernel_rfl) (by kernel_rfl) (fun _ _ _ h => h) (by rfl) (fun _ => rfl) HS ?_
    simp only [Act.put, List.setIfInBounds_toArray, List.set_cons_zero, List.set_cons_succ]
    refine hold_skip 20 rfl (by kernel_rfl) (by kernel_rfl) (by kernel_rfl) (by kernel_rfl) (by kernel_rfl) (fun _ _ _ h => h) (by rfl) (fun _ => rfl) HS ?_
    simp only [Act.put, List.setIfInBounds_toArray, List.set_cons_zero, List.set_cons_succ]
    refine hold_skip 21 rfl (by kernel_rfl) (by kernel_rfl) (by kernel_rfl) (by kernel_rfl) (by kernel_rfl) (fun _ _ _ h => h) (by rfl) (fun _ => rfl) HS ?_
    simp only [Act.put, List.setIfInBounds_toArray, List.set_cons_zero, List.set_cons_succ]
    refine hold_skip 22 rfl (by kernel_rfl) (by kernel_rfl) (by kernel_rfl) (by kernel_rfl) (by kernel_rfl) (fun _ _ _ h => h) (by rfl) (fun _ => rfl) HS ?_
    simp only [Act.put, List.setIfInBounds_toArray, List.set_cons_zero, List.set_cons_succ]
    refine hold_skip 23 rfl (by kernel_rfl) (by kernel_rfl) (by kernel_rfl) (by kernel_rfl) (by kernel_rfl) (fun _ _ _ h => h) (by rfl) (fun _ => rfl) HS ?_
    simp only [Act.put, List.setIfInBounds_toArray, List.set_cons_zero, List.set_cons_succ]
    refine hold_skip 24 rfl (by kernel_rfl) (by kernel_rfl) (by kernel_rfl) (by kernel_rfl) (by kernel_rfl) (fun _ _ _ h => h) (by rfl) (fun _ => rfl) HS ?_
    simp only [Act.put, List.setIfInBounds_toArray, List.set_cons_zero, List.set_cons_succ]
    refine hold_skip 25 rfl (by kernel_rfl) (by kernel_rfl) (by kernel_rfl) (by kernel_rfl) (by kernel_rfl) (fun _ _ _ h => h) (by rfl) (fun _ => rfl) HS ?_
    simp only [Act.put, List.setIfInBounds_toArray, List.set_cons_zero, List.set_cons_succ]
    refine hold_skip 26 rfl (by kernel_rfl) (by kernel_rfl) (by kernel_rfl) (by kernel_rfl) (by kernel_rfl) (fun _ _ _ h => h) (by rfl) (fun _ => rfl) HS ?_
    simp only [Act.put, List.setIfInBounds_toArray, List.set_cons_zero, List.set_cons_succ]
    refine hold_take 27 (.bool true) rfl (by kernel_rfl) (by kernel_rfl) (by kernel_rfl) (by kernel_rfl) (by kernel_rfl) (fun _ _ _ h => h) (by rfl) (fun _ => rfl) HS (fun w' hS => by obtain ⟨q0, q1⟩ := hS; go_simp; skip) ?_
    simp only [Act.put, List.setIfInBounds_toArray, List.set_cons_zero, List.set_cons_succ]
    refine held_done (by kernel_rfl) ?_ _
    go_wp2
    go_ret
    exact ⟨ret_bool HSB.out.1.symm, cover (HF.out _)⟩
  · rw [atI_no ho] at hA
    clear h ho hr
    go_enter Try.func43, Try.ntmps43
    go_wp2_with fail
    refine hA.mono ?_
    rintro e w' ⟨rfl, rfl⟩
    clear hA
    go_wp2_with fail
    have mixed : Try.prog.follows .mixedOrders = true := by kernel_rfl
    refine (wpIn_wide (n := 0)).1 ?_
    refine held_begin (fun _ : World => True) 99 mixed ?_
    have HS : (fun _ : World => True) w.drew := trivial
    refine hold_take 0 _ rfl (by kernel_rfl) (by kernel_rfl) (by kernel_rfl) (by kernel_rfl) (by kernel_rfl) (fun _ _ _ h => h) (by rfl) (fun _ => rfl) HS (fun w' hS => by obtain ⟨⟩ := hS; go_simp; rfl) ?_
    simp only [Act.put, List.setIfInBounds_toArray, List.set_cons_zero, List.set_cons_succ]
    refine hold_take 1 (.bool true) rfl (by kernel_rfl) (by kernel_rfl) (by kernel_rfl) (by kernel_rfl) (by kernel_rfl) (fun _ _ _ h => h) (by rfl) (fun _ => rfl) HS (fun w' hS => by obtain ⟨⟩ := hS; go_simp; skip) ?_
    simp only [Act.put, List.setIfInBounds_toArray, List.set_cons_zero, List.set_cons_succ]
    refine hold_take 2 _ rfl (by kernel_rfl) (by kernel_rfl) (by kernel_rfl) (by kernel_rfl) (by kernel_rfl) (fun _ _ _ h => h) (by rfl) (fun _ => rfl) HS (fun w' hS => by obtain ⟨⟩ := hS; go_simp; rfl) ?_
    simp only [Act.put, List.setIfInBounds_toArray, List.set_cons_zero, List.set_cons_succ]
    refine hold_skip 3 rfl (by kernel_rfl) (by kernel_rfl) (by kernel_rfl) (by kernel_rfl) (by kernel_rfl) (fun _ _ _ h => h) (by rfl) (fun _ => rfl) HS ?_
    simp only [Act.put, List.setIfInBounds_toArray, List.set_cons_zero, List.set_cons_succ]
    refine hold_skip 4 rfl (by kernel_rfl) (by kernel_rfl) (by kernel_rfl) (by kernel_rfl) (by kernel_rfl) (fun _ _ _ h => h) (by rfl) (fun _ => rfl) HS ?_
    simp only [Act.put, List.setIfInBounds_toArray, List.set_cons_zero, List.set_cons_succ]
    refine hold_skip 5 rfl (by kernel_rfl) (by kernel_rfl) (by kernel_rfl) (by kernel_rfl) (by kernel_rfl) (fun _ _ _ h => h) (by rfl) (fun _ => rfl) HS ?_
    simp only [Act.put, List.setIfInBounds_toArray, List.set_cons_zero, List.set_cons_succ]
    refine hold_skip 6 rfl (by kernel_rfl) (by kernel_rfl) (by kernel_rfl) (by kernel_rfl) (by kernel_rfl) (fun _ _ _ h => h) (by rfl) (fun _ => rfl) HS ?_
    simp only [Act.put, List.setIfInBounds_toArray, List.set_cons_zero, List.set_cons_succ]
    refine hold_skip 7 rfl (by kernel_rfl) (by kernel_rfl) (by kernel_rfl) (by kernel_rfl) (by kernel_rfl) (fun _ _ _ h => h) (by rfl) (fun _ => rfl) HS ?_
    simp only [Act.put, List.setIfInBounds_toArray, List.set_cons_zero, List.set_cons_succ]
    refine hold_skip 8 rfl (by kernel_rfl) (by kernel_rfl) (by kernel_rfl) (by kernel_rfl) (by kernel_rfl) (fun _ _ _ h => h) (by rfl) (fun _ => rfl) HS ?_
    simp only [Act.put, List.setIfInBounds_toArray, List.set_cons_zero, List.set_cons_succ]
    refine hold_skip 9 rfl (by kernel_rfl) (by kernel_rfl) (by kernel_rfl) (by kernel_rfl) (by kernel_rfl) (fun _ _ _ h => h) (by rfl) (fun _ => rfl) HS ?_
    simp only [Act.put, List.setIfInBounds_toArray, List.set_cons_zero, List.set_cons_succ]
    refine hold_skip 10 rfl (by kernel_rfl) (by kernel_rfl) (by kernel_rfl) (by kernel_rfl) (by kernel_rfl) (fun _ _ _ h => h) (by rfl) (fun _ => rfl) HS ?_
    simp only [Act.put, List.setIfInBounds_toArray, List.set_cons_zero, List.set_cons_succ]
    refine hold_skip 11 rfl (by kernel_rfl) (by kernel_rfl) (by kernel_rfl) (by kernel_rfl) (by kernel_rfl) (fun _ _ _ h => h) (by rfl) (fun _ => rfl) HS ?_
    simp only [Act.put, List.setIfInBounds_toArray, List.set_cons_zero, List.set_cons_succ]
    refine hold_take 12 (.bool true) rfl (by kernel_rfl) (by kernel_rfl) (by kernel_rfl) (by kernel_rfl) (by kernel_rfl) (fun _ _ _ h => h) (by rfl) (fun _ => rfl) HS (fun w' hS => by obtain ⟨⟩ := hS; go_simp; skip) ?_
    simp only [Act.put, List.setIfInBounds_toArray, List.set_cons_zero, List.set_cons_succ]
    refine hold_take 13 _ rfl (by kernel_rfl) (by kernel_rfl) (by kernel_rfl) (by kernel_rfl) (by kernel_rfl) (fun _ _ _ h => h) (by rfl) (fun _ => rfl) HS (fun w' hS => by obtain ⟨⟩ := hS; go_simp; rfl) ?_
    simp only [Act.put, List.setIfInBounds_toArray, List.set_cons_zero, List.set_cons_succ]
    refine hold_skip 14 rfl (by kernel_rfl) (by kernel_rfl) (by kernel_rfl) (by kernel_rfl) (by kernel_rfl) (fun _ _ _ h => h) (by rfl) (fun _ => rfl) HS ?_
    simp only [Act.put, List.setIfInBounds_toArray, List.set_cons_zero, List.set_cons_succ]
    refine hold_skip 15 rfl (by kernel_rfl) (by kernel_rfl) (by kernel_rfl) (by kernel_rfl) (by kernel_rfl) (fun _ _ _ h => h) (by rfl) (fun _ => rfl) HS ?_
    simp only [Act.put, List.setIfInBounds_toArray, List.set_cons_zero, List.set_cons_succ]
    refine hold_skip 16 rfl (by kernel_rfl) (by kernel_rfl) (by kernel_rfl) (by kernel_rfl) (by kernel_rfl) (fun _ _ _ h => h) (by rfl) (fun _ => rfl) HS ?_
    simp only [Act.put, List.setIfInBounds_toArray, List.set_cons_zero, List.set_cons_succ]
    refine hold_skip 17 rfl (by kernel_rfl) (by kernel_rfl) (by kernel_rfl) (by kernel_rfl) (by kernel_rfl) (fun _ _ _ h => h) (by rfl) (fun _ => rfl) HS ?_
    simp only [Act.put, List.setIfInBounds_toArray, List.set_cons_zero, List.set_cons_succ]
    refine hold_skip 18 rfl (by kernel_rfl) (by kernel_rfl) (by kernel_rfl) (by kernel_rfl) (by kernel_rfl) (fun _ _ _ h => h) (by rfl) (fun _ => rfl) HS ?_
    simp only [Act.put, List.setIfInBounds_toArray, List.set_cons_zero, List.set_cons_succ]
    refine hold_skip 19 rfl (by kernel_rfl) (by kernel_rfl) (by kernel_rfl) (by kernel_rfl) (by kernel_rfl) (fun _ _ _ h => h) (by rfl) (fun _ => rfl) HS ?_
    simp only [Act.put, List.setIfInBounds_toArray, List.set_cons_zero, List.set_cons_succ]
    refine hold_skip 20 rfl (by kernel_rfl) (by kernel_rfl) (by kernel_rfl) (by kernel_rfl) (by kernel_rfl) (fun _ _ _ h => h) (by rfl) (fun _ => rfl) HS ?_
    simp only [Act.put, List.setIfInBounds_toArray, List.set_cons_zero, List.set_cons_succ]
    refine hold_skip 21 rfl (by kernel_rfl) (by kernel_rfl) (by kernel_rfl) (by kernel_rfl) (by kernel_rfl) (fun _ _ _ h => h) (by rfl) (fun _ => rfl) HS ?_
    simp only [Act.put, List.setIfInBounds_toArray, List.set_cons_zero, List.set_cons_succ]
    refine hold_skip 22 rfl (by kernel_rfl) (by kernel_rfl) (by kernel_rfl) (by kernel_rfl) (by kernel_rfl) (fun _ _ _ h => h) (by rfl) (fun _ => rfl) HS ?_
    simp only [Act.put, List.setIfInBounds_toArray, List.set_cons_zero, List.set_cons_succ]
    refine hold_skip 23 rfl (by kernel_rfl) (by kernel_rfl) (by kernel_rfl) (by kernel_rfl) (by kernel_rfl) (fun _ _ _ h => h) (by rfl) (fun _ => rfl) HS ?_
    simp only [Act.put, List.setIfInBounds_toArray, List.set_cons_zero, List.set_cons_succ]
    refine hold_skip 24 rfl (by kernel_rfl) (by kernel_rfl) (by kernel_rfl) (by kernel_rfl) (by kernel_rfl) (fun _ _ _ h => h) (by rfl) (fun _ => rfl) HS ?_
    simp only [Act.put, List.setIfInBounds_toArray, List.set_cons_zero, List.set_cons_succ]
    refine hold_skip 25 rfl (by kernel_rfl) (by kernel_rfl) (by kernel_rfl) (by kernel_rfl) (by kernel_rfl) (fun _ _ _ h => h) (by rfl) (fun _ => rfl) HS ?_
    simp only [Act.put, List.setIfInBounds_toArray, List.set_cons_zero, List.set_cons_succ]
    refine hold_skip 26 rfl (by kernel_rfl) (by kernel_rfl) (by kernel_rfl) (by kernel_rfl) (by kernel_rfl) (fun _ _ _ h => h) (by rfl) (fun _ => rfl) HS ?_
    simp only [Act.put, List.setIfInBounds_toArray, List.set_cons_zero, List.set_cons_succ]
    refine hold_take 27 (.bool true) rfl (by kernel_rfl) (by kernel_rfl) (by kernel_rfl) (by kernel_rfl) (by kernel_rfl) (fun _ _ _ h => h) (by rfl) (fun _ => rfl) HS (fun w' hS => by obtain ⟨⟩ := hS; go_simp; skip) ?_
    simp only [Act.put, List.setIfInBounds_toArray, List.set_cons_zero, List.set_cons_succ]
    refine held_done (by kernel_rfl) ?_ _
    go_wp2
    go_ret
    exact ⟨ret_bool HSB.out.1.symm, cover (HF.out _)⟩
theorem rtwice_any {S : Foot} {w : World} {r : Nat} {s : LS} (h : RIn S w r s) (f t : Int) (hmax : ∀ x ∈ theRow s f t, x.1.length ≤ 1000000) :
    Calls Try.prog 43 #[ptr r, .int .i64 f, .int .i64 t] w fun e w' => e = .returned (.bool (twiceB s f t)) ∧ Hid (RNow S r (twiceS s f t) w w') := by
  rcases hr : theRow s f t with _ | ⟨x, rest⟩
  · exact rtwice_none h f t hr
  · exact rtwice_some h f t hr (hmax x (by rw [hr]; simp))
end Go.Proofs.Ytjidhpmjdhjciaa

namespace Go.Proofs.Ytjidhpmjdhjciaa
open Go.RowKit
set_option linter.unusedVariables false
set_option linter.unusedSimpArgs false

theorem own_set {w : World} {B g c i : Nat} {l : List Int} (v : Int) (h : OwnB w B (.slice (some ⟨g, 0, none⟩) l.length c) l) (hi : i < l.length) : OwnB (w.setCell ⟨g, i, none⟩ (.int .u8 v)) B (.slice (some ⟨g, 0, none⟩) (l.set i v).length c) (l.set i v) := by
  rcases h.2 with ⟨hv, h0⟩ | ⟨g', cap, cur, hv, hb, hh, h1, h2, h3, h4⟩
  · omega
  · injection hv with hv h5 h6
    injection hv with hv
    injection hv with hv
    subst hv h6
    refine ⟨by simp, .inr ⟨g, c, cur.setIfInBounds i (.int .u8 v), rfl, hb, by rw [set_block hh], by simpa using h1, h2, by simpa using h3, ?_⟩⟩
    rw [Array.toList_setIfInBounds, List.length_set, Nat.mul_one, List.take_set, List.map_set]
    rw [Nat.mul_one] at h4
    rw [h4]
theorem spot_walk8 (bit : Int) (L : Nat) (h0 : 0 < L) (hn : L ≤ 1000000) : (wrap64 (bit.tmod (8 * (L : Int)) + 8 * (L : Int))).tmod (8 * (L : Int)) = (spot bit L : Int) := by
  have := spot_at bit L h0 hn
  rwa [show ((8 * L : Nat) : Int) = 8 * (L : Int) by omega] at this
set_option maxRecDepth 100000 in
set_option maxHeartbeats 1600000 in
theorem rspoil_yes {S : Foot} {w : World} {r : Nat} {s : LS} (h : RIn S w r s) (f t bit : Int) {x : List Int × Nat} {rest : List (List Int × Nat)} (hr : theRow s f t = x :: rest) (hmax : x.1.length ≤ 1000000) (hx0 : 0 < x.1.length) (hxb : Bts x.1) :
    Calls Try.prog 44 #[ptr r, .int .i64 f, .int .i64 t, .int .i64 bit] w fun e w' => e = .returned (.bool (spoilB s f t)) ∧ Hid (RNow S r (spoilS s f t bit) w w') := by
  obtain ⟨k, nn, g, cc, hb, cV, L, u, us', F⟩ := h.first hr
  have hA := F.at_
  have hki := F.kn
  have h1 := F.c4
  have h2 := F.gk
  have b0 := F.b0
  obtain ⟨h5, h6, hbl⟩ := F.lt
  obtain ⟨hL1, hL2, hL3, hcap⟩ := F.l1
  have HFF := cover F
  have hLm : L ≤ 64 := by have := F.ul; omega
  have hk0 : (0 : Int) ≤ (k : Int) := by omega
  have hux := F.ul.1
  rw [← hux] at hmax hx0 hxb
  have HSB : Hid (spoilB s f t = true ∧ spoilS s f t bit = setRow' s f t ((turnB u.l bit, x.2) :: rest)) := cover (by
    unfold spoilB spoilS; rw [hr]; simp only []; rw [← hux]; exact ⟨by simpa using hx0, if_pos hx0⟩)
  have hro := F.own.row
  have HCP : Hid (Calls Try.prog 60 #[.slice u.A u.l.length u.c] w (GivesB w u.l)) := cover (copy_any u.A u.l.length u.c w.heap.size u.l w hro (Nat.le_refl _) (by omega))
  clear h hr F hro hux
  obtain ⟨n, hn⟩ : ∃ n, n = u.l.length := ⟨_, rfl⟩
  rw [← hn] at b0 hmax hx0 HCP
  have hn0 : ((n : Int) == 0) = false := by rw [beq_eq_false_iff_ne]; omega
  have hsw := spot_walk8 bit n hx0 hmax
  have hsl := spot_lt bit hx0
  obtain ⟨kk, hkk⟩ : ∃ kk, kk = spot bit n := ⟨_, rfl⟩
  rw [← hkk] at hsw hsl
  have HT : Hid (turnB u.l bit = turnAt u.l (kk / 8) (kk % 8)) := cover (by unfold turnB; rw [hkk, hn])
  clear hkk
  obtain ⟨i, hi⟩ : ∃ i, i = kk / 8 := ⟨_, rfl⟩
  obtain ⟨j, hj⟩ : ∃ j, j = kk % 8 := ⟨_, rfl⟩
  have hj8 : j < 8 := by omega
  rw [← hi, ← hj] at HT
  rw [← hi] at hsl
  have hsl' : i < u.l.length := by rw [← hn]; exact hsl
  have ei : (kk : Int) / 8 = (i : Int) := by omega
  have ej : (kk : Int) % 8 = (j : Int) := by omega
  obtain ⟨y, hy⟩ : ∃ y, y = u.l[i] := ⟨_, rfl⟩
  have hyb : 0 ≤ y ∧ y ≤ 255 := by rw [hy]; exact hxb.at hsl'
  have HX : Hid (turnAt u.l i j = u.l.set i (bits BinOp.xor IntKind.u8 y (2 ^ j % 256))) := cover (by
    rw [xor8_pow hyb hj8]; unfold turnAt
    rw [List.getD_eq_getElem?_getD, List.getElem?_eq_getElem hsl', hy]; rfl)
  have hye : u.l[i]? = some y := by rw [List.getElem?_eq_getElem hsl', hy]
  have HY := cover (And.intro hye (And.intro hn hsl'))
  have hi0 : (0 : Int) ≤ (i : Int) := by omega
  have hi1 : (i : Int) < (n : Int) := by omega
  have HD : Hid (kk < 8000000) := cover (by omega)
  have hj80 : (0 : Int) ≤ (j : Int) := by omega
  have hj81 : (j : Int) < 8 := by omega
  clear hi hj hy hye hxb hn hsl hsl'
  go_enter Try.func44, Try.ntmps44
  go_wp2_with fail
  refine hA.mono ?_
  rintro e w' ⟨rfl, rfl⟩
  clear hA
  go_wp2_with fail
  refine HCP.out.mono ?_
  rintro e w1 ⟨A2, c2, rfl, ho1, hb1⟩
  clear HCP
  rw [← HY.out.2.1]
  have hex : ∃ b2 cur, A2 = some ⟨b2, 0, none⟩ ∧ w.heap.size ≤ b2 ∧ w1.heap[b2]? = some (.cells cur 5 (0, 0)) ∧ u.l.length ≤ cur.size ∧ (cur.toList.take u.l.length = u.l.map (Value.int .u8)) := by
    rcases ho1.2 with ⟨hv, h0⟩ | ⟨b2, cap, cur, hv, hbb, hh, hc1, _, hc2, hc3⟩
    · have := HY.out.2.2; omega
    · injection hv with hv; exact ⟨b2, cur, hv, hbb, hh, by omega, by simpa using hc3⟩
  obtain ⟨b2, cur, rfl, hbb2, hh2, hcs, hct⟩ := hex
  have hcy : w1.cell? ⟨b2, i, none⟩ = some (.int .u8 y) := by
    rw [cell_of_row _ _ _ _ _ _ hh2]
    have h9 : (cur.toList.take u.l.length)[i]? = some (.int .u8 y) := by rw [hct, List.getElem?_map, HY.out.1]; rfl
    rw [List.getElem?_take_of_lt HY.out.2.2] at h9
    simpa using h9
  have hfy : w1.frozen? ⟨b2, i, none⟩ = false := by simp [World.frozen?, hh2]
  have hc2n : (n : Int) ≤ (c2 : Int) := by
    have := own_cap ho1; have := HY.out.2.1; omega
  obtain ⟨z, hz⟩ : ∃ z, z = bits BinOp.xor IntKind.u8 y (2 ^ j % 256) := ⟨_, rfl⟩
  have HZ := cover hz
  have HO := cover (And.intro ho1 (And.intro hb1 (And.intro hbb2 (And.intro hh2 (And.intro hcs hct)))))
  clear ho1 hb1 hh2 hcs hct b0
  have hb1s : w.heap.size ≤ w1.heap.size := HO.out.2.1.size
  go_wp2_with fail
  obtain ⟨w2, hw2⟩ : ∃ w2, w2 = w1.setCell ⟨b2, i, none⟩ (.int .u8 (bits BinOp.xor IntKind.u8 y (2 ^ j % 256))) := ⟨_, rfl⟩
  have hbd2 : Below w.heap.size w w2 := by rw [hw2]; exact HO.out.2.1.setCell HO.out.2.2.1 _
  have hsz2 := hbd2.size
  have HO2 : Hid (OwnB w2 w.heap.size (.slice (some ⟨b2, 0, none⟩) n c2) (turnB u.l bit)) := cover (by
    have h9 := own_set (bits BinOp.xor IntKind.u8 y (2 ^ j % 256)) HO.out.1 HY.out.2.2
    rw [List.length_set, ← HY.out.2.1, ← HX.out, ← HT.out] at h9
    rw [hw2]; exact h9)
  rw [← hw2]
  have HK : Hid (∀ W', Below w2.heap.size w2 W' → (fun W' : World => W'.cell? ⟨r, 4, none⟩ = some (.slice (some ⟨g, 0, none⟩) nn cc) ∧ W'.cell? ⟨g, k, none⟩ = some (.slice (some ⟨hb, 0, none⟩) L cV) ∧ W'.frozen? ⟨g, k, none⟩ = false ∧ W'.cell? ⟨hb, 1, none⟩ = some (.int .i64 u.age)) W') := cover fun W' hb' => by
    have hbw := hbd2.trans (hb'.mono hsz2)
    exact ⟨(hbw.cell (p := ⟨r, 4, none⟩) h5).trans HFF.out.c4, (hbw.cell (p := ⟨g, k, none⟩) h6).trans HFF.out.gk, by have := HFF.out.gf; unfold World.frozen? at this ⊢; rw [hbw.block g h6]; exact this, (hbw.cell (p := ⟨hb, 1, none⟩) hbl).trans HFF.out.b1⟩
  have HBD := cover (And.intro hbd2 hsz2)
  have HTL : Hid ((turnB u.l bit).length = n) := cover (by rw [turnB_length]; exact HY.out.2.1.symm)
  clear hw2 hbd2 h1 h2 hcy hfy HO HZ hz ei ej hsw hyb HX HT
  obtain ⟨tb, htb⟩ : ∃ tb, tb = turnB u.l bit := ⟨_, rfl⟩
  rw [← htb] at HO2 HTL HSB
  clear htb
  have mixed : Try.prog.follows .mixedOrders = true := by kernel_rfl
  refine (wpIn_wide (n := 0)).1 ?_
  refine held_begin (fun W' : World => W'.cell? ⟨r, 4, none⟩ = some (.slice (some ⟨g, 0, none⟩) nn cc) ∧ W'.cell? ⟨g, k, none⟩ = some (.slice (some ⟨hb, 0, none⟩) L cV) ∧ W'.frozen? ⟨g, k, none⟩ = false ∧ W'.cell? ⟨hb, 1, none⟩ = some (.int .i64 u.age)) 28 mixed ?_
  have HS : (fun W' : World => W'.cell? ⟨r, 4, none⟩ = some (.slice (some ⟨g, 0, none⟩) nn cc) ∧ W'.cell? ⟨g, k, none⟩ = some (.slice (some ⟨hb, 0, none⟩) L cV) ∧ W'.frozen? ⟨g, k, none⟩ = false ∧ W'.cell? ⟨hb, 1, none⟩ = some (.int .i64 u.age)) w2.drew := HK.out _ (Below.refl _ _).drew
  obtain ⟨tv, htv⟩ : ∃ tv, tv = Value.slice (if cV = 1 then some ⟨hb, 0, none⟩ else some ⟨hb, 2, none⟩) (L - 1) (cV - 1) := ⟨_, rfl⟩
  refine hold_take 0 _ rfl (by kernel_rfl) (by kernel_rfl) (by kernel_rfl) (by kernel_rfl) (by kernel_rfl) (fun _ _ _ h => h) (by rfl) (fun _ => rfl) HS (fun w' hS => by obtain ⟨q0, q1, q2, q3⟩ := hS; go_simp; rfl) ?_
  simp only [Act.put, List.setIfInBounds_toArray, List.set_cons_zero, List.set_cons_succ]
  refine hold_take 1 _ rfl (by kernel_rfl) (by kernel_rfl) (by kernel_rfl) (by kernel_rfl) (by kernel_rfl) (fun _ _ _ h => h) (by rfl) (fun _ => rfl) HS (fun w' hS => by obtain ⟨q0, q1, q2, q3⟩ := hS; go_simp; rfl) ?_
  simp only [Act.put, List.setIfInBounds_toArray, List.set_cons_zero, List.set_cons_succ]
  refine hold_take 2 _ rfl (by kernel_rfl) (by kernel_rfl) (by kernel_rfl) (by kernel_rfl) (by kernel_rfl) (fun _ _ _ h => h) (by rfl) (fun _ => rfl) HS (fun w' hS => by obtain ⟨q0, q1, q2, q3⟩ := hS; go_simp; rfl) ?_
  simp only [Act.put, List.setIfInBounds_toArray, List.set_cons_zero, List.set_cons_succ]
  refine hold_take 3 _ rfl (by kernel_rfl) (by kernel_rfl) (by kernel_rfl) (by kernel_rfl) (by kernel_rfl) (fun _ _ _ h => h) (by rfl) (fun _ => rfl) HS (fun w' hS => by obtain ⟨q0, q1, q2, q3⟩ := hS; go_simp; rfl) ?_
  simp only [Act.put, List.setIfInBounds_toArray, List.set_cons_zero, List.set_cons_succ]
  refine hold_take 4 _ rfl (by kernel_rfl) (by kernel_rfl) (by kernel_rfl) (by kernel_rfl) (by kernel_rfl) (fun _ _ _ h => h) (by rfl) (fun _ => rfl) HS (fun w' hS => by obtain ⟨q0, q1, q2, q3⟩ := hS; go_simp; rfl) ?_
  simp only [Act.put, List.setIfInBounds_toArray, List.set_cons_zero, List.set_cons_succ]
  refine hold_take 5 _ rfl (by kernel_rfl) (by kernel_rfl) (by kernel_rfl) (by kernel_rfl) (by kernel_rfl) (fun _ _ _ h => h) (by rfl) (fun _ => rfl) HS (fun w' hS => by obtain ⟨q0, q1, q2, q3⟩ := hS; go_simp; rfl) ?_
  simp only [Act.put, List.setIfInBounds_toArray, List.set_cons_zero, List.set_cons_succ]
  refine hold_take 6 _ rfl (by kernel_rfl) (by kernel_rfl) (by kernel_rfl) (by kernel_rfl) (by kernel_rfl) (fun _ _ _ h => h) (by rfl) (fun _ => rfl) HS (fun w' hS => by obtain ⟨q0, q1, q2, q3⟩ := hS; go_simp; rfl) ?_
  simp only [Act.put, List.setIfInBounds_toArray, List.set_cons_zero, List.set_cons_succ]
  refine hold_take 7 _ rfl (by kernel_rfl) (by kernel_rfl) (by kernel_rfl) (by kernel_rfl) (by kernel_rfl) (fun _ _ _ h => h) (by rfl) (fun _ => rfl) HS (fun w' hS => by obtain ⟨q0, q1, q2, q3⟩ := hS; go_simp; rfl) ?_
  simp only [Act.put, List.setIfInBounds_toArray, List.set_cons_zero, List.set_cons_succ]
  refine hold_take 8 _ rfl (by kernel_rfl) (by kernel_rfl) (by kernel_rfl) (by kernel_rfl) (by kernel_rfl) (fun _ _ _ h => h) (by rfl) (fun _ => rfl) HS (fun w' hS => by obtain ⟨q0, q1, q2, q3⟩ := hS; go_simp; rfl) ?_
  simp only [Act.put, List.setIfInBounds_toArray, List.set_cons_zero, List.set_cons_succ]
  refine hold_take 9 _ rfl (by kernel_rfl) (by kernel_rfl) (by kernel_rfl) (by kernel_rfl) (by kernel_rfl) (fun _ _ _ h => h) (by rfl) (fun _ => rfl) HS (fun w' hS => by obtain ⟨q0, q1, q2, q3⟩ := hS; go_simp; rfl) ?_
  simp only [Act.put, List.setIfInBounds_toArray, List.set_cons_zero, List.set_cons_succ]
  refine hold_take 10 _ rfl (by kernel_rfl) (by kernel_rfl) (by kernel_rfl) (by kernel_rfl) (by kernel_rfl) (fun _ _ _ h => h) (by rfl) (fun _ => rfl) HS (fun w' hS => by obtain ⟨q0, q1, q2, q3⟩ := hS; go_simp; rfl) ?_
  simp only [Act.put, List.setIfInBounds_toArray, List.set_cons_zero, List.set_cons_succ]
  refine hold_take 11 _ rfl (by kernel_rfl) (by kernel_rfl) (by kernel_rfl) (by kernel_rfl) (by kernel_rfl) (fun _ _ _ h => h) (by rfl) (fun _ => rfl) HS (fun w' hS => by obtain ⟨q0, q1, q2, q3⟩ := hS; go_simp; rfl) ?_
  simp only [Act.put, List.setIfInBounds_toArray, List.set_cons_zero, List.set_cons_succ]
  refine hold_take 12 _ rfl (by kernel_rfl) (by kernel_rfl) (by kernel_rfl) (by kernel_rfl) (by kernel_rfl) (fun _ _ _ h => h) (by rfl) (fun _ => rfl) HS (fun w' hS => by obtain ⟨q0, q1, q2, q3⟩ := hS; go_simp; rfl) ?_
  simp only [Act.put, List.setIfInBounds_toArray, List.set_cons_zero, List.set_cons_succ]
  refine hold_take 13 _ rfl (by kernel_rfl) (by kernel_rfl) (by kernel_rfl) (by kernel_rfl) (by kernel_rfl) (fun _ _ _ h => h) (by rfl) (fun _ => rfl) HS (fun w' hS => by obtain ⟨q0, q1, q2, q3⟩ := hS; go_simp; rfl) ?_
  simp only [Act.put, List.setIfInBounds_toArray, List.set_cons_zero, List.set_cons_succ]
  refine hold_take 14 _ rfl (by kernel_rfl) (by kernel_rfl) (by kernel_rfl) (by kernel_rfl) (by kernel_rfl) (fun _ _ _ h => h) (by rfl) (fun _ => rfl) HS (fun w' hS => by obtain ⟨q0, q1, q2, q3⟩ := hS; go_simp; rfl) ?_
  simp only [Act.put, List.setIfInBounds_toArray, List.set_cons_zero, List.set_cons_succ]
  refine hold_take 15 _ rfl (by kernel_rfl) (by kernel_rfl) (by kernel_rfl) (by kernel_rfl) (by kernel_rfl) (fun _ _ _ h => h) (by rfl) (fun _ => rfl) HS (fun w' hS => by obtain ⟨q0, q1, q2, q3⟩ := hS; go_simp; rfl) ?_
  simp only [Act.put, List.setIfInBounds_toArray, List.set_cons_zero, List.set_cons_succ]
  refine hold_take 16 _ rfl (by kernel_rfl) (by kernel_rfl) (by kernel_rfl) (by kernel_rfl) (by kernel_rfl) (fun _ _ _ h => h) (by rfl) (fun _ => rfl) HS (fun w' hS => by obtain ⟨q0, q1, q2, q3⟩ := hS; go_simp; rfl) ?_
  simp only [Act.put, List.setIfInBounds_toArray, List.set_cons_zero, List.set_cons_succ]
  refine hold_take 18 _ rfl (by kernel_rfl) (by kernel_rfl) (by kernel_rfl) (by kernel_rfl) (by kernel_rfl) (fun _ _ _ h => h) (by rfl) (fun _ => rfl) HS (fun w' hS => by obtain ⟨q0, q1, q2, q3⟩ := hS; go_simp; rfl) ?_
  simp only [Act.put, List.setIfInBounds_toArray, List.set_cons_zero, List.set_cons_succ]
  refine hold_take 19 _ rfl (by kernel_rfl) (by kernel_rfl) (by kernel_rfl) (by kernel_rfl) (by kernel_rfl) (fun _ _ _ h => h) (by rfl) (fun _ => rfl) HS (fun w' hS => by obtain ⟨q0, q1, q2, q3⟩ := hS; go_simp; rfl) ?_
  simp only [Act.put, List.setIfInBounds_toArray, List.set_cons_zero, List.set_cons_succ]
  refine hold_take 20 _ rfl (by kernel_rfl) (by kernel_rfl) (by kernel_rfl) (by kernel_rfl) (by kernel_rfl) (fun _ _ _ h => h) (by rfl) (fun _ => rfl) HS (fun w' hS => by obtain ⟨q0, q1, q2, q3⟩ := hS; go_simp; rfl) ?_
  simp only [Act.put, List.setIfInBounds_toArray, List.set_cons_zero, List.set_cons_succ]
  refine hold_take 21 _ rfl (by kernel_rfl) (by kernel_rfl) (by kernel_rfl) (by kernel_rfl) (by kernel_rfl) (fun _ _ _ h => h) (by rfl) (fun _ => rfl) HS (fun w' hS => by obtain ⟨q0, q1, q2, q3⟩ := hS; go_simp; rfl) ?_
  simp only [Act.put, List.setIfInBounds_toArray, List.set_cons_zero, List.set_cons_succ]
  refine hold_take 22 _ rfl (by kernel_rfl) (by kernel_rfl) (by kernel_rfl) (by kernel_rfl) (by kernel_rfl) (fun _ _ _ h => h) (by rfl) (fun _ => rfl) HS (fun w' hS => by obtain ⟨q0, q1, q2, q3⟩ := hS; go_simp; rfl) ?_
  simp only [Act.put, List.setIfInBounds_toArray, List.set_cons_zero, List.set_cons_succ]
  refine hold_take 23 _ rfl (by kernel_rfl) (by kernel_rfl) (by kernel_rfl) (by kernel_rfl) (by kernel_rfl) (fun _ _ _ h => h) (by rfl) (fun _ => rfl) HS (fun w' hS => by obtain ⟨q0, q1, q2, q3⟩ := hS; go_simp; rfl) ?_
  simp only [Act.put, List.setIfInBounds_toArray, List.set_cons_zero, List.set_cons_succ]
  refine hold_take 24 _ rfl (by kernel_rfl) (by kernel_rfl) (by kernel_rfl) (by kernel_rfl) (by kernel_rfl) (fun _ _ _ h => h) (by rfl) (fun _ => rfl) HS (fun w' hS => by obtain ⟨q0, q1, q2, q3⟩ := hS; go_simp; rfl) ?_
  simp only [Act.put, List.setIfInBounds_toArray, List.set_cons_zero, List.set_cons_succ]
  refine hold_take 25 tv rfl (by kernel_rfl) (by kernel_rfl) (by kernel_rfl) (by kernel_rfl) (by kernel_rfl) (fun _ _ _ h => h) (by rfl) (fun _ => rfl) HS (fun w' hS => by obtain ⟨q0, q1, q2, q3⟩ := hS; go_simp; skip) ?_
  simp only [Act.put, List.setIfInBounds_toArray, List.set_cons_zero, List.set_cons_succ]
  have HTV := cover htv
  clear htv
  refine hold_one 17 (by kernel_rfl) rfl (by rfl) fun K2 hK2 => ?_
  obtain ⟨w4, hw4⟩ : ∃ w4, w4 = w2.drew.alloc (.cells #[.slice (some ⟨b2, 0, none⟩) n c2, .int .i64 u.age] 81) := ⟨_, rfl⟩
  have hb4 : Below w2.heap.size w2 w4 := by rw [hw4]; exact (Below.refl _ _).drew.alloc (by simp) _
  obtain ⟨q, hq⟩ : ∃ q, q = w2.heap.size := ⟨_, rfl⟩
  have hn4 : w4.heap[q]? = some (.cells (flat [⟨some ⟨b2, 0, none⟩, c2, tb, u.age⟩]).toArray 81 (0, 0)) := by rw [hw4, hq]; have := HTL.out; show (w2.drew.alloc _).heap[w2.drew.heap.size]? = some (.cells #[.slice (some ⟨b2, 0, none⟩) tb.length c2, .int .i64 u.age] _ _); rw [this]; exact heap_alloc_new w2.drew _
  have hy4 : q = w2.heap.size ∧ q < w4.heap.size := ⟨hq, by rw [hw4, hq]; simp⟩
  have HO4 : Hid (OwnB w4 w.heap.size (.slice (some ⟨b2, 0, none⟩) tb.length c2) tb) := cover (by have := own_below (w := w2) (w' := w4) HO2.out hb4; have e := HTL.out; rw [← e] at this; exact this)
  refine run_in (fun c h => by cases h) (fun _ _ => trivial) (v := .slice (some ⟨q, 0, none⟩) 1 1) (w' := w4) (by rw [hw4, hq]; go_simp) ?_
  have HS4 : (fun W' : World => W'.cell? ⟨r, 4, none⟩ = some (.slice (some ⟨g, 0, none⟩) nn cc) ∧ W'.cell? ⟨g, k, none⟩ = some (.slice (some ⟨hb, 0, none⟩) L cV) ∧ W'.frozen? ⟨g, k, none⟩ = false ∧ W'.cell? ⟨hb, 1, none⟩ = some (.int .i64 u.age)) w4 := HK.out _ hb4
  refine hK2 _ _ (.inr HS4) ?_
  clear hK2 K2 hw4 hq
  refine hold_one 26 (by kernel_rfl) rfl (by rfl) fun K3 hK3 => ?_
  obtain ⟨v', w5, hr5, hL5⟩ := append_tail (u := u) (hs := [⟨some ⟨b2, 0, none⟩, c2, tb, u.age⟩]) (own_made hn4 (by simp)) HFF.out.ul.2.2.1 hcap (fun j x hj => ((HBD.out.1.trans (hb4.mono HBD.out.2)).cell (p := ⟨hb, j, none⟩) hbl).trans (HFF.out.cell j x hj)) (by have := HFF.out.ul.2.2.1; simp; omega) 46
  rw [← HTV.out] at hr5
  refine run_in (fun c h => by cases h) (fun _ _ => trivial) (v := v') (w' := w5) (appends_exec _ _ _ _ rfl (.slice (some ⟨q, 0, none⟩) 1 1) tv (by go_simp) (by go_simp) hr5) ?_
  have HN5 : Hid (RNow S r (spoilS s f t bit) w (w5.setCell ⟨g, k, none⟩ v')) := cover (by
    rw [HSB.out.2]
    have e6 := HFF.out.ul
    refine HFF.out.close w4 w5 _ _ _ v' _ ((tb, x.2) :: rest) (HBD.out.1.trans (hb4.mono HBD.out.2)) (own_made hn4 (by simp)) (fun i hi => ?_) hL5 (fun z hz => ?_) ?_ ?_
    · have : vfoot _ i := hi
      simp [vfoot, Value.ownBlock] at this; have := hy4.1; have := HBD.out.2; omega
    · rcases List.mem_append.1 hz with hz | hz
      · simp at hz; subst hz
        exact .inr (.inr HO4.out)
      · exact .inr (.inl hz)
    · rw [tell2_app, e6.2.2.2.2.1]; simp [tell2, told, e6.2.1]
    · have e8 := e6.2.2.2.1; have e9 := e6.2.2.1; have e10 := e6.2.2.2.2.2.1; simp; omega)
  obtain ⟨A3, c3, rfl, hl3⟩ := hL5
  have HS5 : (fun W' : World => W'.cell? ⟨r, 4, none⟩ = some (.slice (some ⟨g, 0, none⟩) nn cc) ∧ W'.cell? ⟨g, k, none⟩ = some (.slice (some ⟨hb, 0, none⟩) L cV) ∧ W'.frozen? ⟨g, k, none⟩ = false ∧ W'.cell? ⟨hb, 1, none⟩ = some (.int .i64 u.age)) w5 := by
    obtain ⟨k1, k2, k3, k4⟩ := HS4
    have hgr := hl3.out.2.1
    have hz := hy4
    have n0 : ∀ i, i < w.heap.size → some i ≠ (Value.slice (some ⟨q, 0, none⟩) 1 1).ownBlock := fun i hi e => by simp [Value.ownBlock] at e; omega
    have hf : ∀ i o, i < w.heap.size → w5.cell? ⟨i, o, none⟩ = w4.cell? ⟨i, o, none⟩ := fun i o hi => hgr.cell_far ⟨i, o, none⟩ (by show i < _; omega) (n0 i hi)
    exact ⟨(hf r 4 h5).trans k1, (hf g k h6).trans k2, (hgr.frozen_far ⟨g, k, none⟩ (by show g < _; omega) (n0 g h6)).trans k3, (hf hb 1 hbl).trans k4⟩
  refine hK3 _ _ (.inr HS5) ?_
  clear hK3 K3 hr5 hl3
  refine hold_take 27 _ rfl (by kernel_rfl) (by kernel_rfl) (by kernel_rfl) (by kernel_rfl) (by kernel_rfl) (fun _ _ _ h => h) (by rfl) (fun _ => rfl) HS5 (fun w' hS => by obtain ⟨q0, q1, q2, q3⟩ := hS; go_simp; rfl) ?_
  simp only [Act.put, List.setIfInBounds_toArray, List.set_cons_zero, List.set_cons_succ]
  refine hold_one 28 (by kernel_rfl) rfl (by rfl) fun K4 hK4 => ?_
  obtain ⟨q0, q1, q2, q3⟩ := HS5
  go_simp
  refine hK4 _ _ (.inl rfl) (held_done (by kernel_rfl) ?_ _)
  clear hK4 K4
  go_wp2
  go_ret
  exact ⟨ret_bool HSB.out.1.symm, cover HN5.out⟩
theorem rspoil_no {S : Foot} {w : World} {r : Nat} {s : LS} (h : RIn S w r s) (f t bit : Int) (hr : ∀ x rest, theRow s f t = x :: rest → x.1 = []) :
    Calls Try.prog 44 #[ptr r, .int .i64 f, .int .i64 t, .int .i64 bit] w fun e w' => e = .returned (.bool (spoilB s f t)) ∧ Hid (RNow S r (spoilS s f t bit) w w') := by
  have HSB : Hid (spoilB s f t = false ∧ spoilS s f t bit = s) := cover (by
    unfold spoilB spoilS
    rcases h0 : theRow s f t with _ | ⟨x, rest⟩
    · exact ⟨rfl, rfl⟩
    · have := hr x rest h0
      simp only []; rw [this]; exact ⟨rfl, rfl⟩)
  have HF : Hid (RNow S r (spoilS s f t bit) w w) := cover (by rw [HSB.out.2]; exact RNow.same h)
  have hA := at_any h.cells.1 h.n16 f t
  by_cases ho : okP s.n f t
  · rcases h0 : theRow s f t with _ | ⟨x, rest⟩
    · have hk := keyP_lt ho
      rw [atI_ok ho] at hA
      obtain ⟨g, cc, v, us, h1, h2, h3, h4, h5, h6, h7, h8, h9, hclose⟩ := h.place hk
      rw [theRow_ok ho] at h0
      have hul := tell2_len h8
      rw [h0] at hul
      have hul : us.length = 0 := hul
      obtain ⟨AV, cV, hv⟩ := h7.shape
      have hki : (keyP s.n f t : Int) < ((s.n * s.n : Nat) : Int) := by omega
      have hk0 : (0 : Int) ≤ (keyP s.n f t : Int) := by omega
      generalize keyP s.n f t = k at *
      generalize s.n * s.n = nn at *
      rw [hul] at hv
      clear h h7 h8 h9 hclose hr hul ho h3 h0
      subst hv
      go_enter Try.func44, Try.ntmps44
      go_wp2_with fail
      refine hA.mono ?_
      rintro e w' ⟨rfl, rfl⟩
      clear hA
      go_wp2
      go_ret
      exact ⟨ret_bool HSB.out.1.symm, HF⟩
    · have hx := hr x rest h0
      obtain ⟨k, nn, g, cc, hb, cV, L, u, us', F⟩ := h.first h0
      have hA := F.at_
      have hki := F.kn
      have h1 := F.c4
      have h2 := F.gk
      have b0 := F.b0
      obtain ⟨hL1, hL2, hL3, hcap⟩ := F.l1
      have hk0 : (0 : Int) ≤ (k : Int) := by omega
      have hux := F.ul.1
      rw [hx] at hux
      rw [hux] at b0
      clear F h hr hx hux ho h0
      go_enter Try.func44, Try.ntmps44
      go_wp2_with fail
      refine hA.mono ?_
      rintro e w' ⟨rfl, rfl⟩
      clear hA
      go_wp2
      go_ret
      exact ⟨ret_bool HSB.out.1.symm, HF⟩
  · rw [atI_no ho] at hA
    clear h ho hr
    go_enter Try.func44, Try.ntmps44
    go_wp2_with fail
    refine hA.mono ?_
    rintro e w' ⟨rfl, rfl⟩
    clear hA
    go_wp2
    go_ret
    exact ⟨ret_bool HSB.out.1.symm, HF⟩
theorem rspoil_any {S : Foot} {w : World} {r : Nat} {s : LS} (h : RIn S w r s) (f t bit : Int) (hmax : ∀ x ∈ theRow s f t, x.1.length ≤ 1000000 ∧ Bts x.1) :
    Calls Try.prog 44 #[ptr r, .int .i64 f, .int .i64 t, .int .i64 bit] w fun e w' => e = .returned (.bool (spoilB s f t)) ∧ Hid (RNow S r (spoilS s f t bit) w w') := by
  rcases hr : theRow s f t with _ | ⟨x, rest⟩
  · exact rspoil_no h f t bit (fun x r e => by rw [hr] at e; cases e)
  · obtain ⟨h1, h2⟩ := hmax x (by rw [hr]; simp)
    by_cases h0 : 0 < x.1.length
    · exact rspoil_yes h f t bit hr h1 h0 h2
    · exact rspoil_no h f t bit (fun y q e => by rw [hr] at e; injection e with e; subst e; exact List.eq_nil_of_length_eq_zero (by omega))
end Go.Proofs.Ytjidhpmjdhjciaa
