/- What a walk tells in whose midst the queue is turned: the law's own 'walk'. -/
import Derived.Test.YthfmkhjafkhpdaaQAll
namespace Go.Proofs.Ythfmkhjafkhpdaa
open Go.RowKit Go.Shelf
set_option linter.unusedVariables false
attribute [local go_sem] Oper.semAt_some

/-- the queue in the midst of the walk: none of its blocks is the walk's own -/
structure QMid (A : World) (b q : Nat) (G0 : Option Nat) (n : Nat) : Prop where
  ex : ∃ G ps xs, IIn A q G 100 ps xs ∧ ps.length ≤ n ∧ (∀ g, G = some g → G0 = some g ∨ b + 12 ≤ g) ∧ ∀ p ∈ ps, p < b ∨ b + 12 ≤ p
theorem QMid.keep {A A' : World} {b q n : Nat} {G0 : Option Nat} (h : QMid A b q G0 n) (hk : ∀ k c T f, A.heap[k]? = some (.cells c T f) → (k = q ∨ G0 = some k ∨ k < b ∨ b + 12 ≤ k) → T ≠ 3 → T ≠ 35 → A'.heap[k]? = A.heap[k]?) : QMid A' b q G0 n := by
  obtain ⟨G, ps, xs, h, h1, h2, h3⟩ := h.ex
  refine ⟨G, ps, xs, h.keep fun k hkk => ?_, h1, h2, h3⟩
  obtain ⟨A0, c0, hh, hr⟩ := h.ex
  rcases hkk with rfl | hg | hp
  · exact hk _ _ _ _ hh (.inl rfl) (by decide) (by decide)
  · obtain ⟨cur, hc⟩ := hr.lt hg
    exact hk _ _ _ _ hc ((h2 k hg).elim (fun e => .inr (.inl e)) (fun e => .inr (.inr (.inr e)))) (by decide) (by decide)
  · obtain ⟨z, hz⟩ := h.cellOf hp
    exact hk _ _ _ _ hz (.inr (.inr (h3 k hp))) (by decide) (by decide)
/-- at the head of a round of 'walk' -/
structure WalkRound (w3 : World) (b q : Nat) (G0 : Option Nat) (ps : List Nat) (k : Nat) (xs : List Value) (Rc : Obj) (i : Nat) (A : World) : Prop where
  at_ : AtAll ((b + 3) :: q :: G0.toList) w3 (b + 3) (b + 12) (xs.take i) A
  dfr : A.heap[b + 5]? = some (.deferred (some []))
  rcd : A.heap[b + 6]? = some Rc
  le : i ≤ k
  qu : QMid A b q G0 (60 + i)
theorem AtAll.turnedT {L M : List Nat} {W A A' : World} {b base : Nat} {xs : List Value} (h : AtAll L W b base xs A) (hT : Turned M A A') (hb : b ∉ M) (hr : ∀ (g : Nat) (cur : Array Value), A.heap[g]? = some (.cells cur 3 (0, 0)) → g ∉ M) (hM : ∀ i ∈ M, i ∈ L ∨ W.heap.size ≤ i) : AtAll L W b base xs A' := by
  obtain ⟨v, h1, h2⟩ := h.row
  refine ⟨⟨v, hT.at_ h1 hb, own_turned h2 hT (fun g hg => ?_)⟩, h.tur.trans hT hM⟩
  rcases h2.2 with ⟨rfl, _⟩ | ⟨g', cap, cur, rfl, _, hh, _⟩
  · cases hg
  · have : g' = g := by simpa [Value.ownBlock] using hg
    subst this; exact hr _ _ hh
theorem WalkRound.turned {w3 A A' : World} {b q k i : Nat} {G0 : Option Nat} {ps : List Nat} {xs : List Value} {Rc : Obj} (h : WalkRound w3 b q G0 ps k xs Rc i A) (hs : w3.heap.size = b + 5) (hq : q < b) (hG : ∀ g, G0 = some g → g < b) (hT : Turned (List.range' (b + 7) 5) A A') : WalkRound w3 b q G0 ps k xs Rc i A' :=
  ⟨h.at_.turned hT (fun hm => by have := List.mem_range'_1.1 hm; omega) (fun i hi => by have := List.mem_range'_1.1 hi; omega), hT.at_ h.dfr (fun hm => by have := List.mem_range'_1.1 hm; omega), hT.at_ h.rcd (fun hm => by have := List.mem_range'_1.1 hm; omega), h.le,
    h.qu.keep fun k c T f hc hk _ _ => (hT.at_ hc (fun hm => by
      have := List.mem_range'_1.1 hm
      rcases hk with rfl | hk | hk
      · omega
      · have := hG k hk; omega
      · omega)).trans hc.symm⟩

/-- in the midst of a round: what has been gathered; the queue; all the walk's own blocks lie as they lay -/
structure MidW (w3 A4 : World) (b q : Nat) (G0 : Option Nat) (ps : List Nat) (ys : List Value) (n : Nat) (A : World) : Prop where
  at_ : AtAll ((b + 3) :: q :: G0.toList) w3 (b + 3) (b + 12) ys A
  qu : QMid A b q G0 n
  own : ∀ j, b ≤ j → j < b + 12 → j ≠ b + 3 → A.heap[j]? = A4.heap[j]?
  cel : ∀ p ∈ ps, A.heap[p]? = A4.heap[p]?
  size : A4.heap.size ≤ A.heap.size
  big : b + 12 ≤ A.heap.size
theorem MidW.turn {w3 A4 A A' : World} {b q : Nat} {G0 G1 : Option Nat} {ps ps1 : List Nat} {ys xs1 : List Value} {n n' : Nat} (h : MidW w3 A4 b q G0 ps ys n A) (hq : q < b) (hs : w3.heap.size = b + 5) (hI : IIn A q G1 100 ps1 xs1) (h2 : ∀ g, G1 = some g → G0 = some g ∨ b + 12 ≤ g)
    (hG : ∀ g, G0 = some g → g < b) (hc : ∀ p ∈ ps, ∃ z, A4.heap[p]? = some (.cells #[z, .bool false] 75 (0, 0))) (hT : Turned (q :: G1.toList) A A') (hQ : QMid A' b q G0 n') : MidW w3 A4 b q G0 ps ys n' A' := by
  have hn : ∀ j, b ≤ j → j < b + 12 → j ∉ q :: G1.toList := fun j h1 h3 hm => by
    rcases List.mem_cons.1 hm with rfl | hm
    · omega
    · have := h2 j (by simpa using hm)
      rcases this with this | this
      · have := hG j this; omega
      · omega
  obtain ⟨A0, c0, hh, hr⟩ := hI.ex
  have hm : ∀ (g : Nat) (c : Array Value) (T : TypeId), A.heap[g]? = some (.cells c T (0, 0)) → T ≠ 70 → T ≠ 73 → g ∉ q :: G1.toList := fun g c T hg t1 t2 hm => by
    rcases List.mem_cons.1 hm with rfl | hm
    · rw [hh] at hg; injection hg with hg; injection hg with _ e; exact t1 e.symm
    · obtain ⟨cur, hc⟩ := hr.lt (by simpa using hm); rw [hc] at hg; injection hg with hg; injection hg with _ e; exact t2 e.symm
  refine ⟨h.at_.turnedT hT (hn _ (by omega) (by omega)) (fun g cur hg => hm g cur _ hg (by decide) (by decide)) (fun i hi => ?_), hQ, fun j h1 h3 h4 => ?_, fun p hp => ?_, Nat.le_trans h.size hT.size, Nat.le_trans h.big hT.size⟩
  · rcases List.mem_cons.1 hi with rfl | hi
    · exact .inl (by simp)
    · rcases h2 i (by simpa using hi) with h5 | h5
      · exact .inl (by simp [h5])
      · exact .inr (by omega)
  · exact (hT.block j (by have := h.big; omega) (hn j h1 h3)).trans (h.own j h1 h3 h4)
  · obtain ⟨z, hz⟩ := hc p hp
    have hz' := (h.cel p hp).trans hz
    exact (hT.at_ hz' (hm p _ _ hz' (by decide) (by decide))).trans hz.symm
/-- what 'walk' hands back -/
def WalkOut (ys : List Value) (w : World) (q : Nat) (G0 : Option Nat) (e : Ending) (w' : World) : Prop :=
  ∃ A c, e = .returned (.slice A ys.length c) ∧ w'.ownsRow w.heap.size 3 1 (.slice A ys.length c) ys.length ys ∧ Turned (q :: G0.toList) w w'

set_option maxRecDepth 100000 in
set_option maxHeartbeats 1600000 in
theorem walk_any {w : World} {q : Nat} {G : Option Nat} {ps : List Nat} {xs : List Int} (h : IIn w q G 100 ps (xs.map (.int .i64))) (hbig : ps.length ≤ 60) (n ch k : Nat) (hk : k = min n xs.length) (hch : ch = 0 ∨ ch = 1 ∨ ch = 2) :
    Calls Try.prog 31 #[ptr q, .int .i64 n, .int .i64 ch] w (WalkOut ((xs.map (.int .i64)).take k) w q G) := by
  obtain ⟨i0, hi, hz0, hz1, hz2⟩ := info_parts int_info
  have HK := cover hk
  have hkl : k ≤ xs.length := by rw [hk]; exact Nat.min_le_right _ _
  clear hk
  obtain ⟨b, hb⟩ : ∃ b, w.heap.size = b := ⟨_, rfl⟩
  have HB := cover hb
  have hqb : q < b := by rw [← hb]; exact h.lt
  have hGb : ∀ g, G = some g → g < b := fun g hg => by rw [← hb]; exact h.inSize (.inr (.inl hg))
  have hpb : ∀ p ∈ ps, p < b := fun p hp => by rw [← hb]; exact h.inSize (.inr (.inr hp))
  have HGB := cover (And.intro hGb hpb)
  clear hGb hpb
  refine (callsIn_wide (n := 9)).1 ?_
  refine callsIn_of_wp_marks Try.func31 rfl trivial ?_ rfl
  simp only [Try.ntmps31, List.size_toArray, List.length_cons, List.length_nil, Nat.reduceAdd, Nat.reduceSub, Array.replicate_succ, Array.replicate_zero, List.push_toArray, List.append_toArray, List.nil_append, List.cons_append]
  have HCH := cover hch
  clear hch
  obtain ⟨v0, hv0⟩ : ∃ v0, v0 = (((w.alloc (.cells #[ptr q] 30)).alloc (.cells #[.int .i64 n] 3)).alloc (.cells #[.int .i64 ch] 3)).alloc (.cells #[.slice none 0 0] 35) := ⟨_, rfl⟩
  have hs0 : v0.heap.size = b + 4 := by rw [hv0]; simp [hb]
  have hq0 : v0.heap[b]? = some (.cells #[ptr q] 30 (0, 0)) := by
    rw [hv0, Below.heap_alloc _ _ _ (by simp; omega), Below.heap_alloc _ _ _ (by simp; omega), Below.heap_alloc _ _ _ (by simp; omega), ← hb]; exact heap_alloc_new w _
  have hn0 : v0.heap[b + 1]? = some (.cells #[.int .i64 n] 3 (0, 0)) := by
    rw [hv0, Below.heap_alloc _ _ _ (by simp; omega), Below.heap_alloc _ _ _ (by simp; omega), ← hb]
    have := heap_alloc_new (w.alloc (.cells #[ptr q] 30)) (.cells #[.int .i64 n] 3)
    rw [World.size_alloc] at this; exact this
  have hc0 : v0.heap[b + 2]? = some (.cells #[.int .i64 ch] 3 (0, 0)) := by
    rw [hv0, Below.heap_alloc _ _ _ (by simp; omega), ← hb]
    have := heap_alloc_new ((w.alloc (.cells #[ptr q] 30)).alloc (.cells #[.int .i64 n] 3)) (.cells #[.int .i64 ch] 3)
    simp only [World.size_alloc] at this; exact this
  have ho0 : v0.heap[b + 3]? = some (.cells #[.slice none 0 0] 35 (0, 0)) := by
    rw [hv0, ← hb]
    have := heap_alloc_new (((w.alloc (.cells #[ptr q] 30)).alloc (.cells #[.int .i64 n] 3)).alloc (.cells #[.int .i64 ch] 3)) (.cells #[.slice none 0 0] 35)
    simp only [World.size_alloc] at this; exact this
  have hbl0 : Below b w v0 := by
    rw [hv0]; exact ((((Below.refl _ _).alloc (by omega) _).alloc (by simp; omega) _).alloc (by simp; omega) _).alloc (by simp; omega) _
  have hcq : v0.cell? ⟨b, 0, none⟩ = some (ptr q) := by rw [cell_of_row _ _ _ _ _ _ hq0]; rfl
  gi_wp2_with (rw [← hv0])
  refine ⟨trivial, (callsIn_wide.2 (each_any q _)).mono ?_⟩
  rintro e w3 ⟨rfl, hw3⟩
  have hsz : w3.heap.size = b + 5 := by rw [hw3]; simp [hs0]
  have hn3 : w3.heap[b + 1]? = some (.cells #[.int .i64 n] 3 (0, 0)) := by rw [hw3, Below.heap_alloc _ _ _ (by omega)]; exact hn0
  have hc3 : w3.heap[b + 2]? = some (.cells #[.int .i64 ch] 3 (0, 0)) := by rw [hw3, Below.heap_alloc _ _ _ (by omega)]; exact hc0
  have hp3 : w3.heap[b]? = some (.cells #[ptr q] 30 (0, 0)) := by rw [hw3, Below.heap_alloc _ _ _ (by omega)]; exact hq0
  have ho3 : w3.heap[b + 3]? = some (.cells #[.slice none 0 0] 35 (0, 0)) := by rw [hw3, Below.heap_alloc _ _ _ (by omega)]; exact ho0
  have hq3 : w3.cell? ⟨b + 4, 0, none⟩ = some (ptr q) := by
    have := heap_alloc_new v0 (.cells #[ptr q] 30)
    rw [← hw3, hs0] at this
    rw [cell_of_row w3 (b + 4) 0 _ _ _ this]; rfl
  have hb3 : Below b w w3 := by rw [hw3]; exact hbl0.alloc (by omega) _
  have hQ3 : IIn w3 q G 100 ps (xs.map (.int .i64)) := h.below (by rw [hb]; exact hb3)
  rw [hs0]
  have HQ := cover hQ3
  clear hw3 hv0 hs0 hq0 hn0 hc0 ho0 hbl0 hcq h hb hQ3
  gi_wp2_with fail
  have hend : ∀ i : Nat, i < xs.length → i ≤ k → ((n : Int) ≤ (i : Int) ↔ i = k) := fun i h1 h2 => by
    have := HK.out
    omega
  have HEND := cover hend
  clear hend
  have HI := cover hi
  have hfin : ∀ o A, AtAll ((b + 3) :: q :: G.toList) w3 (b + 3) (b + 12) ((xs.map (.int .i64)).take k) A → A.heap[b + 5]? = some (.deferred (some [])) → ∃ v, (A.putObj (b + 5 + 1) o).cell? ⟨b + 1 + 1 + 1, 0, none⟩ = some v ∧ (A.putObj (b + 5 + 1) o).heap[b + 5]? = some (.deferred (some [])) ∧
      Hid (WalkOut ((xs.map (.int .i64)).take k) w q G (.returned v) ((A.putObj (b + 5 + 1) o).putObj (b + 5) (.deferred none))) := by
    intro o A hA hd
    have hA2 := hA.turned (turned_put (L := [b + 6, b + 5]) (turned_put (Turned.refl _ _) (l := b + 5 + 1) (by simp) o) (l := b + 5) (by simp) (.deferred none)) (by simp) (by simp; omega)
    obtain ⟨v, h1, h2⟩ := hA2.row
    have h1' : (A.putObj (b + 5 + 1) o).heap[b + 3]? = some (.cells #[v] 35 (0, 0)) := by rw [World.putObj_heap_other (by omega)] at h1; exact h1
    obtain ⟨A', c', rfl, _⟩ := own_shape h2
    refine ⟨_, by rw [show b + 1 + 1 + 1 = b + 3 from rfl, cell_of_row _ _ _ _ _ _ h1']; rfl, (World.putObj_heap_other (by omega)).trans hd, cover ⟨A', c', rfl, own_base h2 (by rw [HB.out]; omega), ?_⟩⟩
    refine (Turned.of_below (L := []) (by rw [HB.out]; exact hb3) : Turned [] w w3).mono (by simp) |>.trans hA2.tur (fun i hi => ?_)
    rcases List.mem_cons.1 hi with rfl | hi
    · exact .inr (by rw [HB.out]; omega)
    · exact .inl hi
  have HFIN := cover hfin
  clear hfin
  refine range_outer rfl (by omega) (gf := 53) (ba := #[]) (lb := #[ptr (b + 4)]) rfl trivial (enters_of Try.func53 (by kernel_rfl) rfl)
    (fun A => AtAll ((b + 3) :: q :: G.toList) w3 (b + 3) (b + 12) ((xs.map (.int .i64)).take k) A) (fun c A => c = .exit 0 ∧ AtAll ((b + 3) :: q :: G.toList) w3 (b + 3) (b + 12) ((xs.map (.int .i64)).take k) A) ?hit ?hdone ?hstop
  case hit =>
    intro fn Rc W2 hF hRc hW2
    rw [hsz] at hRc ⊢
    show CallsIn Fence.wide _ _ _ #[.func (.yield (b + 5 + 1)) #[] #[], ptr (b + 4)] _ _
    have hsz2 : W2.heap.size = b + 7 := by rw [hW2]; simp [hsz]
    have hb2 : Below w3.heap.size w3 W2 := by rw [hW2]; exact ((Below.refl _ _).alloc (Nat.le_refl _) _).alloc (by simp) _
    have hdf2 : W2.heap[b + 5]? = some (.deferred (some [])) := by
      rw [hW2, Below.heap_alloc _ _ _ (by simp; omega), ← hsz]; exact World.alloc_heap_new w3 _
    have hrc2 : W2.heap[b + 6]? = some (Rc .ready none) := by
      have := World.alloc_heap_new (w3.alloc (.deferred (some []))) (Rc .ready none)
      rw [World.size_alloc, hsz] at this; rw [hW2]; exact this
    have hQ2 : IIn W2 q G 100 ps (xs.map (.int .i64)) := HQ.out.below hb2
    have hq2 : W2.cell? ⟨b + 4, 0, none⟩ = some (ptr q) := (hb2.cell (p := ⟨b + 4, 0, none⟩) (by show b + 4 < _; omega)).trans hq3
    have hat2 : AtAll ((b + 3) :: q :: G.toList) w3 (b + 3) (b + 12) [] W2 := ⟨⟨_, (hb2.block (b + 3) (by omega)).trans ho3, World.ownsRow_nil _ _ _ _⟩, Turned.of_below hb2⟩
    clear hW2
    refine (each1_in (b + 5 + 1) hQ2 (by omega) hq2 (fun i A => WalkRound w3 b q G ps k (xs.map (.int .i64)) (Rc .ready none) i A)
      (fun i A => AtAll ((b + 3) :: q :: G.toList) w3 (b + 3) (b + 12) ((xs.map (.int .i64)).take k) A ∧ A.heap[b + 5]? = some (.deferred (some [])) ∧ A.heap[b + 6]? = some (Rc .done (some (.exit 0)))) ?hst ?hstx ?h0 ?hY).mono ?_
    case hst => rw [hsz2]; exact fun i A A' h hT => h.turned hsz hqb HGB.out.1 hT
    case hstx =>
      rw [hsz2]
      rintro i A A' ⟨h1, h2, h3⟩ hT
      exact ⟨h1.turned hT (fun hm => by have := List.mem_range'_1.1 hm; omega) (fun i hi => by have := List.mem_range'_1.1 hi; omega), hT.at_ h2 (fun hm => by have := List.mem_range'_1.1 hm; omega), hT.at_ h3 (fun hm => by have := List.mem_range'_1.1 hm; omega)⟩
    case h0 => exact ⟨hat2, hdf2, hrc2, Nat.zero_le _, ⟨G, ps, _, hQ2, hbig, fun g hg => .inl hg, fun p hp => .inl (HGB.out.2 p hp)⟩⟩
    case hY =>
      rw [hsz2]
      intro i x A hx hA hsA mm
      refine yield_any (k := 8) ?_ mm
      refine round_own Rc (fun c _ W' => (c = true ∧ WalkRound w3 b q G ps k (xs.map (.int .i64)) (Rc .ready none) (i + 1) W' ∧ Keeps (b + 7) 5 ps A W') ∨
        (c = false ∧ (AtAll ((b + 3) :: q :: G.toList) w3 (b + 3) (b + 12) ((xs.map (.int .i64)).take k) W' ∧ W'.heap[b + 5]? = some (.deferred (some [])) ∧ W'.heap[b + 6]? = some (Rc .done (some (.exit 0)))) ∧ Keeps (b + 7) 5 ps A W')) hRc hF hA.rcd rfl ?walk ?conv
      case conv =>
        rintro c _ W' (⟨rfl, h1, h2⟩ | ⟨rfl, h1, h2⟩)
        · exact .inl ⟨rfl, h1, h2⟩
        · exact .inr ⟨rfl, h1, h2⟩
      case walk =>
        clear hRc
        rw [List.getElem?_map] at hx
        obtain ⟨y, hy, rfl⟩ := Option.map_eq_some_iff.1 hx
        have hil : i < xs.length := (List.getElem?_eq_some_iff.1 hy).1
        gi_wp2
        refine ⟨hA.rcd, ?_⟩
        obtain ⟨A4, hA4⟩ : ∃ A4, A4 = A.putObj (b + 5 + 1) (Rc .busy none) := ⟨_, rfl⟩
        rw [← hA4]
        have hs4 : A4.heap.size = A.heap.size := by rw [hA4]; simp
        have hT4 : Turned [b + 6] A A4 := by rw [hA4]; exact turned_put (Turned.refl _ _) (by simp) _
        have hk4 : ∀ k, k ≠ b + 6 → A4.heap[k]? = A.heap[k]? := fun k hk => by rw [hA4, World.putObj_heap_other hk]
        have hr4 : A4.heap[b + 6]? = some (Rc .busy none) := by rw [hA4]; exact World.putObj_heap_same (by omega)
        have hat4 := hA.at_.turned hT4 (by simp) (by simp; omega)
        have hLn : ∀ j, b ≤ j → j ≠ b + 3 → j ∉ (b + 3) :: q :: G.toList := fun j h1 h2 hm => by
          rcases List.mem_cons.1 hm with rfl | hm
          · exact h2 rfl
          · rcases List.mem_cons.1 hm with rfl | hm
            · omega
            · have := HGB.out.1 j (by simpa using hm); omega
        have hpc : ∀ p ∈ ps, ∃ z, A4.heap[p]? = some (.cells #[z, .bool false] 75 (0, 0)) := fun p hp => by
          obtain ⟨z, hz⟩ := HQ.out.cellOf hp
          refine ⟨z, hat4.tur.at_ hz (fun hm => ?_)⟩
          obtain ⟨A0, c0, hh, hr⟩ := HQ.out.ex
          rcases List.mem_cons.1 hm with e | hm
          · exact type_ne hz ho3 (by decide) e
          · rcases List.mem_cons.1 hm with e | hm
            · exact type_ne hz hh (by decide) e
            · obtain ⟨cur, hc⟩ := hr.lt (by simpa using hm)
              exact type_ne hz hc (by decide) rfl
        have hM4 : MidW w3 A4 b q G ps ((xs.map (.int .i64)).take i) (60 + i) A4 := ⟨hat4, hA.qu.keep (fun k c T f hc hk _ _ => hk4 k (by
          rcases hk with rfl | hk | hk
          · omega
          · have := HGB.out.1 k hk; omega
          · omega)), fun _ _ _ _ => rfl, fun _ _ => rfl, Nat.le_refl _, by omega⟩
        have hn4 : A4.heap[b + 1]? = some (.cells #[.int .i64 n] 3 (0, 0)) := hat4.tur.at_ hn3 (hLn _ (by omega) (by omega))
        have hc4 : A4.heap[b + 2]? = some (.cells #[.int .i64 ch] 3 (0, 0)) := hat4.tur.at_ hc3 (hLn _ (by omega) (by omega))
        have hp4 : A4.heap[b]? = some (.cells #[ptr q] 30 (0, 0)) := hat4.tur.at_ hp3 (hLn _ (by omega) (by omega))
        have hdf4 : A4.heap[b + 5]? = some (.deferred (some [])) := (hk4 _ (by omega)).trans hA.dfr
        obtain ⟨v, hbox, hown⟩ := hat4.row
        have hcn : A4.cell? ⟨b + 1, 0, none⟩ = some (.int .i64 n) := by rw [cell_of_row _ _ _ _ _ _ hn4]; rfl
        have hcb : A4.cell? ⟨b + 1 + 1 + 1, 0, none⟩ = some v := by rw [show b + 1 + 1 + 1 = b + 3 from rfl, cell_of_row _ _ _ _ _ _ hbox]; rfl
        have hle := hA.le
        -- the cells of the walk's variables, in whatever world of the round
        have hvar : ∀ ys m A5, MidW w3 A4 b q G ps ys m A5 → A5.cell? ⟨b, 0, none⟩ = some (ptr q) ∧ A5.cell? ⟨b + 1 + 1, 0, none⟩ = some (.int .i64 ch) := fun ys m A5 h5 => by
          refine ⟨?_, ?_⟩
          · rw [cell_of_row _ _ _ _ _ _ ((h5.own b (by omega) (by omega) (by omega)).trans hp4)]; rfl
          · rw [show b + 1 + 1 = b + 2 from rfl, cell_of_row _ _ _ _ _ _ ((h5.own (b + 2) (by omega) (by omega) (by omega)).trans hc4)]; rfl
        -- the round's end
        have hout : ∀ A5, i ≠ k → MidW w3 A4 b q G ps ((xs.map (.int .i64)).take (i + 1)) (60 + (i + 1)) A5 → A5.heap[b + 5 + 1]? = some (Rc .busy none) ∧ WalkRound w3 b q G ps k (xs.map (.int .i64)) (Rc .ready none) (i + 1) (A5.putObj (b + 5 + 1) (Rc .ready none)) ∧ Keeps (b + 7) 5 ps A (A5.putObj (b + 5 + 1) (Rc .ready none)) := fun A5 hik h5 => by
          have h6 : A5.heap[b + 6]? = some (Rc .busy none) := (h5.own (b + 6) (by omega) (by omega) (by omega)).trans hr4
          refine ⟨h6, ⟨h5.at_.turned (turned_put (L := [b + 6]) (Turned.refl _ _) (by simp) _) (by simp) (by simp; omega), ?_, World.putObj_heap_same (block_lt h6), by omega, h5.qu.keep (fun k c T f hc hk _ _ => World.putObj_heap_other (by
            rcases hk with rfl | hk | hk
            · omega
            · have := HGB.out.1 k hk; omega
            · omega))⟩, ⟨?_, ?_⟩⟩
          · rw [World.putObj_heap_other (by omega)]; exact (h5.own (b + 5) (by omega) (by omega) (by omega)).trans hdf4
          · have := h5.size; simp only [World.putObj_size]; omega
          · intro j hj
            rcases hj with hj | hj
            · rw [World.putObj_heap_other (by omega), h5.own j (by omega) (by omega) (by omega), hk4 j (by omega)]
            · have := HGB.out.2 j hj
              rw [World.putObj_heap_other (by omega), h5.cel j hj, hk4 j (by omega)]
        by_cases hik : i = k
        · have hni : (n : Int) ≤ (i : Int) := (HEND.out i hil hle).2 hik
          have HFin : Hid (A4.heap[b + 6]? = some (Rc .busy none) ∧ (AtAll ((b + 3) :: q :: G.toList) w3 (b + 3) (b + 12) ((xs.map (.int .i64)).take k) (A4.putObj (b + 5 + 1) (Rc .done (some (.exit 0)))) ∧ (A4.putObj (b + 5 + 1) (Rc .done (some (.exit 0)))).heap[b + 5]? = some (.deferred (some [])) ∧ (A4.putObj (b + 5 + 1) (Rc .done (some (.exit 0)))).heap[b + 6]? = some (Rc .done (some (.exit 0)))) ∧ Keeps (b + 7) 5 ps A (A4.putObj (b + 5 + 1) (Rc .done (some (.exit 0))))) := by
            rw [hik] at hat4
            refine cover ⟨hr4, ⟨hat4.turned (turned_put (L := [b + 6]) (Turned.refl _ _) (by simp) _) (by simp) (by simp; omega), (World.putObj_heap_other (by omega)).trans hdf4, World.putObj_heap_same (by omega)⟩, ⟨by simp [hs4], ?_⟩⟩
            intro j hj
            have : j ≠ b + 6 := by
              rcases hj with hj | hj
              · omega
              · have := HGB.out.2 j hj; omega
            rw [World.putObj_heap_other this, hk4 j this]
          clear hA hA4 hs4 hT4 hk4 hr4 hat4 hLn hpc hM4 hn4 hc4 hp4 hdf4 hbox hown hcb hvar hout hn3 hc3 hp3 ho3 hq3 hb2 hdf2 hrc2 hQ2 hq2 hat2 hb3 hx
          gi_wp2
          exact ⟨HFin.out.1, .inr ⟨rfl, HFin.out.2⟩⟩
        · have hni : ¬ (n : Int) ≤ (i : Int) := fun e => hik ((HEND.out i hil hle).1 e)
          have hil' : ((xs.map (Value.int .i64)).take i).length = i := by simp; omega
          rw [hil'] at hown
          have hpl := HQ.out.len
          simp at hpl
          have hfb : A4.frozen? ⟨b + 1 + 1 + 1, 0, none⟩ = false := by rw [show b + 1 + 1 + 1 = b + 3 from rfl]; simp [World.frozen?, hbox]
          have hsA4 : b + 12 ≤ A4.heap.size := by omega
          have HBX := cover (And.intro hbox hat4.tur)
          have HM4 := cover hM4
          have HV := cover hvar
          have HO := cover (fun A5 => hout A5 hik)
          have HPC := cover hpc
          clear hA hA4 hs4 hT4 hk4 hr4 hat4 hLn hpc hM4 hn4 hc4 hp4 hdf4 hbox hvar hout hn3 hc3 hp3 ho3 hq3 hb2 hdf2 hrc2 hQ2 hq2 hat2 hb3 hx hik
          gi_wp2_with (gi_at_builtin; refine wpListIn_append_own _ rfl _ _ 35 rfl (b + 12) 3 i0 (.int .i64 0) 1 8 Try.underlying35 HI.out hz0 hz1 hz2 rfl (by decide) _ _ _ rfl (hown.alloc _) ⟨A4.heap.size, 0, none⟩ 1 1 [.int .i64 y] rfl rfl ?c1 ?c2 ?c3 ?c4 ?c5 ?_)
          all_goals try (case c1 => exact cell_one_new _ _ _)
          case c2 => first | rfl | (intro u hu; simp at hu; subst hu; rfl)
          case c3 => unfold maxLen; omega
          case c4 => omega
          case c5 => first | omega | (simp; omega)
          intro v' w5 hown' hgrow _
          obtain ⟨g', cap', rfl⟩ := ownsRow_succ hown'
          obtain ⟨hat5, hs5, hk5⟩ := AtAll.app HBX.out.1 hown HBX.out.2 (by simp) (by omega) (by omega) (by simp [hil']) hown' hgrow
          have hbx5 : w5.heap[b + 3]? = some (.cells #[v] 35 (0, 0)) := by
            have hlt := block_lt HBX.out.1
            exact (hgrow.block (b + 3) (by simp; omega) (fun e => by have := (hown.lt _ e.symm).1; omega)).trans ((Below.heap_alloc _ _ _ hlt).trans HBX.out.1)
          have hcb5 : w5.cell? ⟨b + 1 + 1 + 1, 0, none⟩ = some v := by rw [show b + 1 + 1 + 1 = b + 3 from rfl, cell_of_row _ _ _ _ _ _ hbx5]; rfl
          have hfb5 : w5.frozen? ⟨b + 1 + 1 + 1, 0, none⟩ = false := by rw [show b + 1 + 1 + 1 = b + 3 from rfl]; simp [World.frozen?, hbx5]
          rw [show (xs.map (Value.int .i64)).take i ++ [.int .i64 y] = (xs.map (.int .i64)).take (i + 1) by rw [List.take_add_one, List.getElem?_map, hy]; rfl] at hat5
          have h5 : MidW w3 A4 b q G ps ((xs.map (.int .i64)).take (i + 1)) (60 + i) (w5.setCell ⟨b + 3, 0, none⟩ (.slice (some ⟨g', 0, none⟩) (i + 1) cap')) :=
            ⟨hat5, HM4.out.qu.keep (fun k c T f hc hk t1 t2 => hk5 k (block_lt hc) (fun e => by subst e; rw [HBX.out.1] at hc; injection hc with hc; injection hc with _ e; exact t2 e.symm) (.inr ⟨c, T, f, hc, t1⟩)),
              fun j h1 h2 h3 => hk5 j (by omega) h3 (.inl h2), fun p hp => hk5 p (by have := HGB.out.2 p hp; omega) (by have := HGB.out.2 p hp; omega) (.inl (by have := HGB.out.2 p hp; omega)), hs5, by omega⟩
          obtain ⟨A5, hA5⟩ : ∃ A5, A5 = w5.setCell ⟨b + 1 + 1 + 1, 0, none⟩ (.slice (some ⟨g', 0, none⟩) (i + 1) cap') := ⟨_, rfl⟩
          have h5' : MidW w3 A4 b q G ps ((xs.map (.int .i64)).take (i + 1)) (60 + i) A5 := by rw [hA5]; exact h5
          have H5 := cover h5'
          have hw5 : ∀ j, j ≠ b + 3 → w5.cell? ⟨j, 0, none⟩ = A5.cell? ⟨j, 0, none⟩ := fun j hj => by
            rw [hA5]; exact (World.cell?_of_block (set_other _ _ hj)).symm
          have hcq5 : w5.cell? ⟨b, 0, none⟩ = some (ptr q) := (hw5 b (by omega)).trans (HV.out _ _ _ h5').1
          have hcc5 : w5.cell? ⟨b + 1 + 1, 0, none⟩ = some (.int .i64 ch) := (hw5 (b + 2) (by omega)).trans (HV.out _ _ _ h5').2
          have hfin : ∀ A6, MidW w3 A4 b q G ps ((xs.map (.int .i64)).take (i + 1)) (60 + (i + 1)) A6 → Hid (A6.heap[b + 5 + 1]? = some (Rc .busy none) ∧ WalkRound w3 b q G ps k (xs.map (.int .i64)) (Rc .ready none) (i + 1) (A6.putObj (b + 5 + 1) (Rc .ready none)) ∧ Keeps (b + 7) 5 ps A (A6.putObj (b + 5 + 1) (Rc .ready none))) := fun A6 h => cover (HO.out A6 h)
          have HF := cover hfin
          have hmore : ∀ A6 m, MidW w3 A4 b q G ps ((xs.map (.int .i64)).take (i + 1)) m A6 → m ≤ 60 + (i + 1) → MidW w3 A4 b q G ps ((xs.map (.int .i64)).take (i + 1)) (60 + (i + 1)) A6 := fun A6 m h hm => by
            obtain ⟨G1, ps1, xs1, h1, h2, h3⟩ := h.qu.ex
            exact ⟨h.at_, ⟨G1, ps1, xs1, h1, by omega, h3⟩, h.own, h.cel, h.size, h.big⟩
          have HMORE := cover hmore
          clear h5 h5' hat5 hs5 hk5 hown' hgrow hown hcb hfb hbx5 hw5 hfin hmore
          rcases HCH.out with rfl | rfl | rfl
          · have HE := HF.out A5 (HMORE.out A5 _ H5.out (by omega))
            rw [hA5] at HE
            clear hA5 HCH
            gi_wp2
            exact ⟨HE.out.1, .inl ⟨rfl, HE.out.2⟩⟩
          · gi_wp2_with fail
            rw [← hA5]
            obtain ⟨G1, ps1, xs1, h1, h2, h3, h4⟩ := H5.out.qu.ex
            by_cases hfull : (ps1.length : Int) < 100
            · first
                | refine ⟨trivial, (CallsIn.inRound (b + 5 + 1) (callsIn_wide.2 (putI_yes h1 (-1) hfull (by omega)))).mono ?_⟩
                | refine (CallsIn.inRound (b + 5 + 1) (callsIn_wide.2 (putI_yes h1 (-1) hfull (by omega)))).mono ?_
              rintro e A6 ⟨rfl, H6⟩
              obtain ⟨G2, p, hI6, hT6, hN6, hp6⟩ := H6.out
              have hbig5 := H5.out.big
              have HE := HF.out A6 (H5.out.turn hqb hsz h1 h3 HGB.out.1 HPC.out hT6 ⟨G2, _, _, hI6, by simp; omega, fun g hg => by
                rcases hN6 with rfl | ⟨g2, rfl, hg2⟩
                · exact h3 g hg
                · injection hg with e; exact .inr (by omega), fun p' hp' => by
                rcases List.mem_append.1 hp' with hp' | hp'
                · exact h4 p' hp'
                · simp at hp'; exact .inr (by omega)⟩)
              have hcc6 : A6.cell? ⟨b + 1 + 1, 0, none⟩ = some (.int .i64 (1 : Nat)) := (HV.out _ _ _ (H5.out.turn (n' := 60 + (i + 1)) hqb hsz h1 h3 HGB.out.1 HPC.out hT6 ⟨G2, _, _, hI6, by simp; omega, fun g hg => by
                rcases hN6 with rfl | ⟨g2, rfl, hg2⟩
                · exact h3 g hg
                · injection hg with e; exact .inr (by omega), fun p' hp' => by
                rcases List.mem_append.1 hp' with hp' | hp'
                · exact h4 p' hp'
                · simp at hp'; exact .inr (by omega)⟩)).2
              clear hI6 hT6 hN6 hp6 h1 h2 h3 h4 hA5 hcq5 hcc5 H6 HCH
              gi_wp2
              exact ⟨HE.out.1, .inl ⟨rfl, HE.out.2⟩⟩
            · first
                | refine ⟨trivial, (CallsIn.inRound (b + 5 + 1) (callsIn_wide.2 (putI_no h1 (-1) (by omega)))).mono ?_⟩
                | refine (CallsIn.inRound (b + 5 + 1) (callsIn_wide.2 (putI_no h1 (-1) (by omega)))).mono ?_
              rintro e A6 ⟨rfl, rfl⟩
              have HE := HF.out _ (HMORE.out _ _ H5.out (by omega))
              have hcc6 := (HV.out _ _ _ H5.out).2
              clear h1 h2 h3 h4 hA5 hcq5 hcc5 HCH
              gi_wp2
              exact ⟨HE.out.1, .inl ⟨rfl, HE.out.2⟩⟩
          · gi_wp2_with fail
            rw [← hA5]
            obtain ⟨G1, ps1, xs1, h1, h2, h3, h4⟩ := H5.out.qu.ex
            rcases xs1 with _ | ⟨z, zs⟩
            · have hl0 := h1.len
              simp at hl0
              subst hl0
              first
                | refine ⟨trivial, (CallsIn.inRound (b + 5 + 1) (callsIn_wide.2 (takeI_no h1))).mono ?_⟩
                | refine (CallsIn.inRound (b + 5 + 1) (callsIn_wide.2 (takeI_no h1))).mono ?_
              rintro e A6 ⟨rfl, rfl⟩
              have HE := HF.out _ (HMORE.out _ _ H5.out (by omega))
              clear h1 h2 h3 h4 hA5 hcq5 hcc5 HCH
              gi_wp2
              exact ⟨HE.out.1, .inl ⟨rfl, HE.out.2⟩⟩
            · first
                | refine ⟨trivial, (CallsIn.inRound (b + 5 + 1) (callsIn_wide.2 (takeI_yes h1 z rfl))).mono ?_⟩
                | refine (CallsIn.inRound (b + 5 + 1) (callsIn_wide.2 (takeI_yes h1 z rfl))).mono ?_
              rintro e A6 ⟨rfl, H6⟩
              have HE := HF.out A6 (H5.out.turn hqb hsz h1 h3 HGB.out.1 HPC.out H6.out.2 ⟨G1, _, _, H6.out.1, by simp; omega, h3, fun p' hp' => h4 p' (List.mem_of_mem_drop hp')⟩)
              clear h1 h2 h3 h4 hA5 hcq5 hcc5 H6 HCH
              gi_wp2
              exact ⟨HE.out.1, .inl ⟨rfl, HE.out.2⟩⟩
    rintro e W' ⟨⟨v, rfl⟩, hA | ⟨i, h1, h2, h3⟩⟩
    · refine ⟨⟨v, rfl⟩, hA.dfr, .inl ⟨hA.rcd, ?_⟩⟩
      have hle := hA.le
      have hpl := HQ.out.len
      simp at hpl
      have := hA.at_
      rwa [show ps.length = k by omega] at this
    · exact ⟨⟨v, rfl⟩, h2, .inr ⟨_, h3, rfl, h1⟩⟩
  case hdone =>
    intro o A hA hd
    rw [hsz] at hd ⊢
    obtain ⟨v, hcv, hd2, HO⟩ := HFIN.out o A hA hd
    clear hd hA
    gi_wp2
    refine ⟨by simp, .inl ⟨_, _, rfl, run_takeDeferred hd2, ?_⟩⟩
    exact ⟨_, results_tmp (t := 6) rfl _ _ _, HO.out⟩
  case hstop =>
    rintro o c A ⟨rfl, hA⟩ hd
    rw [hsz] at hd ⊢
    obtain ⟨v, hcv, hd2, HO⟩ := HFIN.out o A hA hd
    clear hd hA
    gi_wp2
    refine ⟨by simp, .inl ⟨_, _, rfl, run_takeDeferred hd2, ?_⟩⟩
    exact ⟨_, results_tmp (t := 6) rfl _ _ _, HO.out⟩
end Go.Proofs.Ythfmkhjafkhpdaa
