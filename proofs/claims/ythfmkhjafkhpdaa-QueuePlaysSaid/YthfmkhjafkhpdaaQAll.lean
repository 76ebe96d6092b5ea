/- What a walk tells: the law's own 'all'. -/
import Derived.RangeFuncBox
import Derived.Test.YthfmkhjafkhpdaaQEach1
import Derived.Test.YthfmkhjafkhpdaaQIHas
namespace Go.Proofs.Ythfmkhjafkhpdaa
open Go.RowKit Go.Shelf
set_option linter.unusedVariables false
attribute [local go_sem] Oper.semAt_some

theorem each_any (q : Nat) (w : World) : Calls Try.prog 42 #[ptr q] w fun e w' => e = .returned (.func (.func 53) #[] #[ptr w.heap.size]) ∧ w' = w.alloc (.cells #[ptr q] 30) := by
  have hmf : ∀ (fn : Fn) (first cap : Array Value) (w : World), (Instr.makeFunc fn first cap).run Try.prog w = .ok (.func fn first cap) w := fun _ _ _ _ => rfl
  go_enter Try.func42, Try.ntmps42
  go_wp2
  go_ret
  exact ⟨rfl, rfl⟩
theorem int_info : (Try.prog.info? 3).map (fun i => (i.zero, i.size, i.bytes)) = some (some (.int .i64 0), 1, 8) := by kernel_rfl

/-- a list that the call has gathered, in its variable; of what was there these blocks alone may have turned -/
structure AtAll (L : List Nat) (W : World) (b base : Nat) (xs : List Value) (A : World) : Prop where
  row : ∃ v, A.heap[b]? = some (.cells #[v] 35 (0, 0)) ∧ A.ownsRow base 3 1 v xs.length xs
  tur : Turned L W A
theorem own_turned {L : List Nat} {a b : World} {base e n : Nat} {v : Value} {xs : List Value} (h : a.ownsRow base e 1 v n xs) (hT : Turned L a b) (hL : ∀ g, v.ownBlock = some g → g ∉ L) : b.ownsRow base e 1 v n xs := by
  refine ⟨h.1, ?_⟩
  rcases h.2 with h0 | ⟨g, cap, cur, rfl, hg, hh, hr⟩
  · exact .inl h0
  · exact .inr ⟨g, cap, cur, rfl, hg, hT.at_ hh (hL g rfl), hr⟩
theorem AtAll.turned {L M : List Nat} {W A A' : World} {b base : Nat} {xs : List Value} (h : AtAll L W b base xs A) (hT : Turned M A A') (hb : b ∉ M) (hM : ∀ i ∈ M, W.heap.size ≤ i ∧ i < base) : AtAll L W b base xs A' := by
  obtain ⟨v, h1, h2⟩ := h.row
  exact ⟨⟨v, hT.at_ h1 hb, own_turned h2 hT (fun g hg hm => by have := (h2.lt g hg).1; have := hM g hm; omega)⟩, h.tur.trans hT (fun i hi => .inr (hM i hi).1)⟩
theorem AtAll.put {L : List Nat} {W A : World} {b base : Nat} {xs : List Value} (h : AtAll L W b base xs A) {l : Nat} {o o' : Obj} (hl : A.heap[l]? = some o) (hc : o.isCells = false) (hL : l ∈ L) : AtAll L W b base xs (A.putObj l o') := by
  obtain ⟨v, h1, h2⟩ := h.row
  refine ⟨⟨v, ?_, ownsRow_putObj h2 o' hl hc⟩, turned_put h.tur hL o'⟩
  rw [World.putObj_heap_other (fun e => ?_)]
  · exact h1
  · subst e; rw [hl] at h1; cases h1; cases hc
theorem AtAll.more {L L' : List Nat} {W A : World} {b base : Nat} {xs : List Value} (h : AtAll L W b base xs A) (hL : ∀ i ∈ L, i ∈ L') : AtAll L' W b base xs A := ⟨h.row, h.tur.mono hL⟩

theorem AtAll.app {L : List Nat} {W A w1 : World} {b base n : Nat} {v v' : Value} {ys : List Value} {y : Value} {o : Obj} (h1 : A.heap[b]? = some (.cells #[v] 35 (0, 0))) (h2 : A.ownsRow base 3 1 v n ys) (tur : Turned L W A) (hb : b ∈ L) (hbb : b < base) (hW : W.heap.size ≤ base) (hl : (ys ++ [y]).length = n + 1)
    (hown' : w1.ownsRow base 3 1 v' (n + 1) (ys ++ [y])) (hgrow : (A.alloc o).grownBy w1 v.ownBlock) :
    AtAll L W b base (ys ++ [y]) (w1.setCell ⟨b, 0, none⟩ v') ∧ A.heap.size ≤ (w1.setCell ⟨b, 0, none⟩ v').heap.size ∧ ∀ k, k < A.heap.size → k ≠ b → k < base ∨ (∃ c T f, A.heap[k]? = some (.cells c T f) ∧ T ≠ 3) → (w1.setCell ⟨b, 0, none⟩ v').heap[k]? = A.heap[k]? := by
  have hlt := block_lt h1
  have hsz := hgrow.size
  simp at hsz
  have hbase : ∀ g, v.ownBlock = some g → base ≤ g := fun g hg => (h2.lt g hg).1
  have hk1 : ∀ k, k < A.heap.size → v.ownBlock ≠ some k → w1.heap[k]? = A.heap[k]? := fun k hk hn => (hgrow.block k (by simp; omega) (fun e => hn e.symm)).trans (Below.heap_alloc _ _ _ hk)
  have hb1 : w1.heap[b]? = some (.cells #[v] 35 (0, 0)) := (hk1 b hlt (fun e => by have := hbase b e; omega)).trans h1
  refine ⟨⟨⟨v', by rw [set_block hb1]; rfl, ?_⟩, ?_⟩, by rw [set_size]; omega, ?_⟩
  · rw [hl]
    exact ownsRow_setCell_other hown' (fun e => by have := (hown'.lt b e).1; omega) _
  · refine Turned.setCell ⟨hgrow.os.trans tur.os, hgrow.tape.trans tur.tape, hgrow.output.trans tur.output, by have := tur.size; omega, fun k hk hn => ?_⟩ (.inl hb) _ _
    have := tur.size
    exact (hk1 k (by omega) (fun e => by have := hbase k e; omega)).trans (tur.block k hk hn)
  · intro k hk hne hor
    rw [set_other _ _ hne]
    refine hk1 k hk (fun e => ?_)
    rcases hor with hor | ⟨c, T, f, hc, hT⟩
    · have := hbase k e; omega
    · rcases h2.2 with ⟨rfl, _⟩ | ⟨g, cap, cur, rfl, _, hh, _⟩
      · cases e
      · have : g = k := by simpa [Value.ownBlock] using e
        subst this
        rw [hh] at hc; injection hc with hc; injection hc with _ ht; exact hT ht.symm

/-- what 'all' hands back -/
def AllOut (ys : List Value) (w : World) (e : Ending) (w' : World) : Prop :=
  ∃ A c, e = .returned (.slice A ys.length c) ∧ w'.ownsRow w.heap.size 3 1 (.slice A ys.length c) ys.length ys ∧ Below w.heap.size w w'

/-- at the head of a round of 'all' -/
structure AllRound (w3 : World) (b k : Nat) (xs : List Value) (Rc : Obj) (i : Nat) (A : World) : Prop where
  at_ : AtAll [b + 1] w3 (b + 1) (b + 10) (xs.take i) A
  dfr : A.heap[b + 3]? = some (.deferred (some []))
  rcd : A.heap[b + 4]? = some Rc
  le : i ≤ k
theorem AllRound.turned {w3 A A' : World} {b k i : Nat} {xs : List Value} {Rc : Obj} (h : AllRound w3 b k xs Rc i A) (hs : w3.heap.size = b + 3) (hT : Turned (List.range' (b + 5) 5) A A') : AllRound w3 b k xs Rc i A' :=
  ⟨h.at_.turned hT (fun hm => by have := List.mem_range'_1.1 hm; omega) (fun i hi => by have := List.mem_range'_1.1 hi; omega), hT.at_ h.dfr (fun hm => by have := List.mem_range'_1.1 hm; omega), hT.at_ h.rcd (fun hm => by have := List.mem_range'_1.1 hm; omega), h.le⟩

set_option maxRecDepth 100000 in
set_option maxHeartbeats 1600000 in
theorem all_any {w : World} {q : Nat} {G : Option Nat} {m : Int} {ps : List Nat} {xs : List Int} (h : IIn w q G m ps (xs.map (.int .i64))) (hbig : ps.length ≤ 1000000) (n : Int) (k : Nat) (hk : k = if 0 ≤ n ∧ n < xs.length then n.toNat else xs.length) :
    Calls Try.prog 26 #[ptr q, .int .i64 n] w (AllOut ((xs.map (.int .i64)).take k) w) := by
  obtain ⟨i0, hi, hz0, hz1, hz2⟩ := info_parts int_info
  have HK := cover hk
  have hkl : k ≤ xs.length := by rw [hk]; split <;> omega
  clear hk
  obtain ⟨b, hb⟩ : ∃ b, w.heap.size = b := ⟨_, rfl⟩
  have HB := cover hb
  refine (callsIn_wide (n := 9)).1 ?_
  refine callsIn_of_wp_marks Try.func26 rfl trivial ?_ rfl
  simp only [Try.ntmps26, List.size_toArray, List.length_cons, List.length_nil, Nat.reduceAdd, Nat.reduceSub, Array.replicate_succ, Array.replicate_zero, List.push_toArray, List.append_toArray, List.nil_append, List.cons_append]
  gi_wp2_with fail
  refine ⟨trivial, (callsIn_wide.2 (each_any q _)).mono ?_⟩
  rintro e w3 ⟨rfl, hw3⟩
  have hsz : w3.heap.size = b + 3 := by rw [hw3]; simp [hb]
  have hn3 : w3.heap[b]? = some (.cells #[.int .i64 n] 3 (0, 0)) := by
    rw [hw3, Below.heap_alloc _ _ _ (by simp; omega), Below.heap_alloc _ _ _ (by simp; omega), ← hb]; exact heap_alloc_new w _
  have ho3 : w3.heap[b + 1]? = some (.cells #[.slice none 0 0] 35 (0, 0)) := by
    rw [hw3, Below.heap_alloc _ _ _ (by simp; omega), ← hb]
    have := heap_alloc_new (w.alloc (.cells #[.int .i64 n] 3)) (.cells #[.slice none 0 0] 35)
    rw [World.size_alloc] at this; exact this
  have hq3 : w3.cell? ⟨b + 2, 0, none⟩ = some (ptr q) := by
    have := heap_alloc_new ((w.alloc (.cells #[.int .i64 n] 3)).alloc (.cells #[.slice none 0 0] 35)) (.cells #[ptr q] 30)
    simp only [World.size_alloc] at this
    rw [← hw3] at this
    rw [cell_of_row w3 (b + 2) 0 _ _ _ (by rw [← hb]; exact this)]; rfl
  have hb3 : Below b w w3 := by
    rw [hw3]; exact (((Below.refl _ _).alloc (by omega) _).alloc (by simp; omega) _).alloc (by simp; omega) _
  have hQ3 : IIn w3 q G m ps (xs.map (.int .i64)) := h.below (by rw [hb]; exact hb3)
  have hfun : ((w.alloc (.cells #[.int .i64 n] 3)).alloc (.cells #[.slice none 0 0] 35)).heap.size = b + 2 := by simp [hb]
  rw [hfun]
  have HQ := cover hQ3
  clear hw3 hfun h hb hQ3
  gi_wp2_with fail
  have hend : ∀ i, i < xs.length → i ≤ k → ((i : Int) = n ↔ i = k) := fun i h1 h2 => by
    have := HK.out
    split at this <;> omega
  have HEND := cover hend
  clear hend
  have HI := cover hi
  have hfin : ∀ o A, AtAll [b + 1] w3 (b + 1) (b + 10) ((xs.map (.int .i64)).take k) A → A.heap[b + 3]? = some (.deferred (some [])) → ∃ v, (A.putObj (b + 3 + 1) o).cell? ⟨b + 1, 0, none⟩ = some v ∧ (A.putObj (b + 3 + 1) o).heap[b + 3]? = some (.deferred (some [])) ∧
      Hid (AllOut ((xs.map (.int .i64)).take k) w (.returned v) ((A.putObj (b + 3 + 1) o).putObj (b + 3) (.deferred none))) := by
    intro o A hA hd
    have hA2 := hA.turned (turned_put (L := [b + 4, b + 3]) (turned_put (Turned.refl _ _) (l := b + 3 + 1) (by simp) o) (l := b + 3) (by simp) (.deferred none)) (by simp) (by simp; omega)
    have hA1 := hA.turned (turned_put (L := [b + 4, b + 3]) (Turned.refl _ _) (l := b + 3 + 1) (by simp) o) (by simp) (by simp; omega)
    obtain ⟨v, h1, h2⟩ := hA2.row
    have h1' : (A.putObj (b + 3 + 1) o).heap[b + 1]? = some (.cells #[v] 35 (0, 0)) := by rw [World.putObj_heap_other (by omega)] at h1; exact h1
    obtain ⟨A', c', rfl, _⟩ := own_shape h2
    refine ⟨_, by rw [cell_of_row _ _ _ _ _ _ h1']; rfl, (World.putObj_heap_other (by omega)).trans hd, cover ⟨A', c', rfl, own_base h2 (by rw [HB.out]; omega), ?_⟩⟩
    rw [HB.out]
    exact hA2.tur.below hb3 (by simp) (by omega)
  have HFIN := cover hfin
  clear hfin
  refine range_outer rfl (by omega) (gf := 53) (ba := #[]) (lb := #[ptr (b + 2)]) rfl trivial (enters_of Try.func53 (by kernel_rfl) rfl)
    (fun A => AtAll [b + 1] w3 (b + 1) (b + 10) ((xs.map (.int .i64)).take k) A) (fun c A => c = .exit 0 ∧ AtAll [b + 1] w3 (b + 1) (b + 10) ((xs.map (.int .i64)).take k) A) ?hit ?hdone ?hstop
  case hit =>
    intro fn Rc W2 hF hRc hW2
    rw [hsz] at hRc ⊢
    show CallsIn Fence.wide _ _ _ #[.func (.yield (b + 3 + 1)) #[] #[], ptr (b + 2)] _ _
    have hsz2 : W2.heap.size = b + 5 := by rw [hW2]; simp [hsz]
    have hb2 : Below w3.heap.size w3 W2 := by rw [hW2]; exact ((Below.refl _ _).alloc (Nat.le_refl _) _).alloc (by simp) _
    have hdf2 : W2.heap[b + 3]? = some (.deferred (some [])) := by
      rw [hW2, Below.heap_alloc _ _ _ (by simp; omega), ← hsz]; exact World.alloc_heap_new w3 _
    have hrc2 : W2.heap[b + 4]? = some (Rc .ready none) := by
      have := World.alloc_heap_new (w3.alloc (.deferred (some []))) (Rc .ready none)
      rw [World.size_alloc, hsz] at this; rw [hW2]; exact this
    have hQ2 : IIn W2 q G m ps (xs.map (.int .i64)) := HQ.out.below hb2
    have hq2 : W2.cell? ⟨b + 2, 0, none⟩ = some (ptr q) := (hb2.cell (p := ⟨b + 2, 0, none⟩) (by show b + 2 < _; omega)).trans hq3
    have hat2 : AtAll [b + 1] w3 (b + 1) (b + 10) [] W2 := ⟨⟨_, (hb2.block (b + 1) (by omega)).trans ho3, World.ownsRow_nil _ _ _ _⟩, Turned.of_below hb2⟩
    clear hW2
    refine (each1_in (b + 3 + 1) hQ2 hbig hq2 (fun i A => AllRound w3 b k (xs.map (.int .i64)) (Rc .ready none) i A)
      (fun i A => AtAll [b + 1] w3 (b + 1) (b + 10) ((xs.map (.int .i64)).take k) A ∧ A.heap[b + 3]? = some (.deferred (some [])) ∧ A.heap[b + 4]? = some (Rc .done (some (.exit 0)))) ?hst ?hstx ?h0 ?hY).mono ?_
    case hst => rw [hsz2]; exact fun i A A' h hT => h.turned hsz hT
    case hstx =>
      rw [hsz2]
      rintro i A A' ⟨h1, h2, h3⟩ hT
      exact ⟨h1.turned hT (fun hm => by have := List.mem_range'_1.1 hm; omega) (fun i hi => by have := List.mem_range'_1.1 hi; omega), hT.at_ h2 (fun hm => by have := List.mem_range'_1.1 hm; omega), hT.at_ h3 (fun hm => by have := List.mem_range'_1.1 hm; omega)⟩
    case h0 => exact ⟨hat2, hdf2, hrc2, Nat.zero_le _⟩
    case hY =>
      rw [hsz2]
      intro i x A hx hA hsA mm
      refine yield_any (k := 8) ?_ mm
      refine round_own Rc (fun c _ W' => (c = true ∧ AllRound w3 b k (xs.map (.int .i64)) (Rc .ready none) (i + 1) W' ∧ Keeps (b + 5) 5 ps A W') ∨
        (c = false ∧ (AtAll [b + 1] w3 (b + 1) (b + 10) ((xs.map (.int .i64)).take k) W' ∧ W'.heap[b + 3]? = some (.deferred (some [])) ∧ W'.heap[b + 4]? = some (Rc .done (some (.exit 0)))) ∧ Keeps (b + 5) 5 ps A W')) hRc hF hA.rcd rfl ?walk ?conv
      case conv =>
        rintro c _ W' (⟨rfl, h1, h2⟩ | ⟨rfl, h1, h2⟩)
        · exact .inl ⟨rfl, h1, h2⟩
        · exact .inr ⟨rfl, h1, h2⟩
      case walk =>
        have hRcc : ∀ st pe, (Rc st pe).isCells = false := by subst hRc; intro st pe; rfl
        clear hRc
        rw [List.getElem?_map] at hx
        obtain ⟨y, hy, rfl⟩ := Option.map_eq_some_iff.1 hx
        have hil : i < xs.length := (List.getElem?_eq_some_iff.1 hy).1
        have hps : ∀ p ∈ ps, p < b + 3 := fun p hp => by have := HQ.out.inSize (.inr (.inr hp)); omega
        have hsne : ∀ p ∈ ps, p ≠ b + 1 := fun p hp => by
          obtain ⟨z, hz⟩ := HQ.out.cellOf hp
          exact type_ne hz ho3 (by decide)
        gi_wp2
        refine ⟨hA.rcd, ?_⟩
        obtain ⟨A4, hA4⟩ : ∃ A4, A4 = A.putObj (b + 3 + 1) (Rc .busy none) := ⟨_, rfl⟩
        rw [← hA4]
        have hk4 : ∀ k, k ≠ b + 4 → A4.heap[k]? = A.heap[k]? := fun k hk => by rw [hA4, World.putObj_heap_other hk]
        have hs4 : A4.heap.size = A.heap.size := by rw [hA4]; simp
        have hr4 : A4.heap[b + 4]? = some (Rc .busy none) := by rw [hA4]; exact World.putObj_heap_same (by omega)
        have hT4 : Turned [b + 4] A A4 := by rw [hA4]; exact turned_put (Turned.refl _ _) (by simp) _
        have hat4 : AtAll [b + 1] w3 (b + 1) (b + 10) ((xs.map (.int .i64)).take i) A4 := hA.at_.turned hT4 (by simp) (by simp; omega)
        have hdf4 : A4.heap[b + 3]? = some (.deferred (some [])) := hT4.at_ hA.dfr (by simp)
        have hn4 : A4.heap[b]? = some (.cells #[.int .i64 n] 3 (0, 0)) := hat4.tur.at_ hn3 (by simp)
        obtain ⟨v, hbox, hown⟩ := hat4.row
        have hcn : A4.cell? ⟨b, 0, none⟩ = some (.int .i64 n) := by rw [cell_of_row _ _ _ _ _ _ hn4]; rfl
        have hcb : A4.cell? ⟨b + 1, 0, none⟩ = some v := by rw [cell_of_row _ _ _ _ _ _ hbox]; rfl
        have hfb : A4.frozen? ⟨b + 1, 0, none⟩ = false := by simp [World.frozen?, hbox]
        have hle := hA.le
        have HS4 := cover hs4
        have hsA4 : b + 10 ≤ A4.heap.size := by omega
        have HA := cover (And.intro hA hA4)
        have HAT := cover hat4
        have HT := cover hT4
        have HN := cover (And.intro hn3 ho3)
        have HBX := cover (And.intro hbox hr4)
        have HD := cover hdf4
        have HK4 := cover hk4
        have HPS := cover (And.intro hps hsne)
        clear hs4 hA hA4 hat4 hT4 hn3 ho3 hn4 hbox hr4 hdf4 hk4 hps hsne hb2 hdf2 hrc2 hQ2 hq2 hat2 hq3 hb3 hx
        by_cases hik : i = k
        · have hni : (i : Int) = n := (HEND.out i hil hle).2 hik
          have HFin : Hid (A4.heap[b + 4]? = some (Rc .busy none) ∧ (AtAll [b + 1] w3 (b + 1) (b + 10) ((xs.map (.int .i64)).take k) (A4.putObj (b + 3 + 1) (Rc .done (some (.exit 0)))) ∧ (A4.putObj (b + 3 + 1) (Rc .done (some (.exit 0)))).heap[b + 3]? = some (.deferred (some [])) ∧ (A4.putObj (b + 3 + 1) (Rc .done (some (.exit 0)))).heap[b + 4]? = some (Rc .done (some (.exit 0)))) ∧ Keeps (b + 5) 5 ps A (A4.putObj (b + 3 + 1) (Rc .done (some (.exit 0))))) := by
            have h0 := HAT.out
            rw [hik] at h0
            refine cover ⟨HBX.out.2, ⟨h0.turned (turned_put (L := [b + 4]) (Turned.refl _ _) (by simp) _) (by simp) (by simp; omega), (World.putObj_heap_other (by omega)).trans HD.out, World.putObj_heap_same (by omega)⟩, ⟨by simp [HS4.out], ?_⟩⟩
            intro j hj
            have : j ≠ b + 4 := by
              rcases hj with hj | hj
              · omega
              · have := HPS.out.1 j hj; omega
            rw [World.putObj_heap_other this, HK4.out j this]
          clear HA HAT HT HN HBX HD HK4 HPS hown hcb hfb
          gi_wp2
          exact ⟨HFin.out.1, .inr ⟨rfl, HFin.out.2⟩⟩
        · have hni : ¬ (i : Int) = n := fun e => hik ((HEND.out i hil hle).1 e)
          have hil' : ((xs.map (Value.int .i64)).take i).length = i := by simp; omega
          rw [hil'] at hown
          gi_wp2_with (gi_at_builtin; refine wpListIn_append_own _ rfl _ _ 35 rfl (b + 10) 3 i0 (.int .i64 0) 1 8 Try.underlying35 HI.out hz0 hz1 hz2 rfl (by decide) _ _ _ rfl (hown.alloc _) ⟨A4.heap.size, 0, none⟩ 1 1 [.int .i64 y] rfl rfl ?c1 ?c2 ?c3 ?c4 ?c5 ?_)
          case c1 => exact cell_one_new _ _ _
          case c2 => intro u hu; simp at hu; subst hu; rfl
          case c3 => unfold maxLen; have := HQ.out.len; simp at this; omega
          case c4 => have := HQ.out.len; simp at this; omega
          case c5 => simp; omega
          intro v' w5 hown' hgrow _
          obtain ⟨g', cap', rfl⟩ := ownsRow_succ hown'
          obtain ⟨hat5, hs5, hk5⟩ := AtAll.app HBX.out.1 hown HAT.out.tur (by simp) (by omega) (by omega) (by simp [hil']) hown' hgrow
          have hbx5 : w5.heap[b + 1]? = some (.cells #[v] 35 (0, 0)) := by
            have hlt := block_lt HBX.out.1
            exact (hgrow.block (b + 1) (by simp; omega) (fun e => by have := (hown.lt _ e.symm).1; omega)).trans ((Below.heap_alloc _ _ _ hlt).trans HBX.out.1)
          have hcb5 : w5.cell? ⟨b + 1, 0, none⟩ = some v := by rw [cell_of_row _ _ _ _ _ _ hbx5]; rfl
          have hfb5 : w5.frozen? ⟨b + 1, 0, none⟩ = false := by simp [World.frozen?, hbx5]
          rw [show (xs.map (Value.int .i64)).take i ++ [.int .i64 y] = (xs.map (.int .i64)).take (i + 1) by rw [List.take_add_one, List.getElem?_map, hy]; rfl] at hat5
          have H5 := cover (And.intro hat5 (And.intro hs5 hk5))
          clear hat5 hs5 hk5 hown' hgrow hown hcb hfb hbx5
          gi_wp2
          have hr5 := (H5.out.2.2 (b + 4) (by omega) (by omega) (.inl (by omega))).trans HBX.out.2
          refine ⟨hr5, .inl ⟨rfl, ⟨H5.out.1.turned (turned_put (L := [b + 4]) (Turned.refl _ _) (by simp) _) (by simp) (by simp; omega), ?_, World.putObj_heap_same (block_lt hr5), by omega⟩, ⟨?_, ?_⟩⟩⟩
          · rw [World.putObj_heap_other (by omega), H5.out.2.2 (b + 3) (by omega) (by omega) (.inl (by omega))]; exact HD.out
          · have := H5.out.2.1; have := HS4.out; simp only [World.putObj_size]; omega
          · intro j hj
            have hj4 : j ≠ b + 4 ∧ j < b + 10 ∧ j ≠ b + 1 := by
              rcases hj with hj | hj
              · omega
              · have := HPS.out.1 j hj; have := HPS.out.2 j hj; omega
            rw [World.putObj_heap_other hj4.1, H5.out.2.2 j (by omega) hj4.2.2 (.inl hj4.2.1), HK4.out j hj4.1]
    rintro e W' ⟨⟨v, rfl⟩, hA | ⟨i, h1, h2, h3⟩⟩
    · refine ⟨⟨v, rfl⟩, hA.dfr, .inl ⟨hA.rcd, ?_⟩⟩
      have hle := hA.le
      have hpl := HQ.out.len
      simp at hpl
      have := hA.at_
      rwa [show ps.length = k by omega] at this
    · exact ⟨⟨v, rfl⟩, h2, .inr ⟨_, h3, rfl, h1⟩⟩
  case hdone =>
    intro o A hA hd
    rw [hsz] at hd ⊢
    obtain ⟨v, hcv, hd2, HO⟩ := HFIN.out o A hA hd
    clear hd hA
    gi_wp2
    refine ⟨by simp, .inl ⟨_, _, rfl, run_takeDeferred hd2, ?_⟩⟩
    exact ⟨_, results_tmp (t := 4) rfl _ _ _, HO.out⟩
  case hstop =>
    rintro o c A ⟨rfl, hA⟩ hd
    rw [hsz] at hd ⊢
    obtain ⟨v, hcv, hd2, HO⟩ := HFIN.out o A hA hd
    clear hd hA
    gi_wp2
    refine ⟨by simp, .inl ⟨_, _, rfl, run_takeDeferred hd2, ?_⟩⟩
    exact ⟨_, results_tmp (t := 4) rfl _ _ _, HO.out⟩
end Go.Proofs.Ythfmkhjafkhpdaa
