/- The walk that Each hands out: places and items. -/
import Derived.Shelf.RegionOpen
import Derived.Test.YtjidhpmjdhjciaaFEach
import Derived.Test.YtjidhpmjdhjciaaFFoot
namespace Go.Proofs.Ytjidhpmjdhjciaa
open Go.RowKit Go.Shelf
set_option linter.unusedVariables false
attribute [local go_sem] Oper.semAt_some

theorem keeps_of_put {s k : Nat} {ks : List Nat} {a b c : World} {l : Nat} {o o' : Obj} (h : Keeps s k ks (a.putObj l o) b) (hc : c = b.putObj l o') (hl : ∀ i, (s ≤ i ∧ i < s + k) ∨ i ∈ ks → i ≠ l) : Keeps s k ks a c :=
  ⟨by subst hc; simpa using h.size, fun i hi => by subst hc; rw [World.putObj_heap_other (hl i hi), h.block i hi, World.putObj_heap_other (hl i hi)]⟩
theorem turned_one {a : World} {l : Nat} (o : Obj) : Turned [l] a (a.putObj l o) := turned_put (Turned.refl _ _) (by simp) o

theorem bool_of {e : Ending} {p r : Prop} (h : (e = .returned (.bool true) ∧ p) ∨ (e = .returned (.bool false) ∧ r)) : ∃ b : Bool, e = .returned (.bool b) ∧ Hid ((b = true ∧ p) ∨ (b = false ∧ r)) := by
  rcases h with ⟨e, h⟩ | ⟨e, h⟩
  · exact ⟨true, e, .inl ⟨rfl, h⟩⟩
  · exact ⟨false, e, .inr ⟨rfl, h⟩⟩
/-- at the head of a round of the inner loop -/
structure AtEach (J : Nat → World → Prop) (W : World) (ps : List Nat) (yb : Value) (Rc : Obj) (s i : Nat) (A : World) : Prop where
  j : J i A
  box : A.heap[s]? = some (.cells #[yb] 79 (0, 0))
  dfr : A.heap[s + 1]? = some (.deferred (some []))
  rcd : A.heap[s + 2]? = some Rc
  cel : ∀ p ∈ ps, A.heap[p]? = W.heap[p]?

set_option maxRecDepth 100000 in
set_option maxHeartbeats 1600000 in
/-- Each's walk, for every body that keeps its blocks and the cells -/
theorem each1_in {n : Nat} (l : Nat) {W : World} {q bq : Nat} {G : Option Nat} {m : Int} {ps : List Nat} {vs : List FV} (h : FIn W q G m ps (vs.map FV.item)) (hbig : ps.length ≤ 1000000) (hq : W.cell? ⟨bq, 0, none⟩ = some (ptr q)) (J Jx : Nat → World → Prop)
    (hst : ∀ i A A', J i A → Turned (List.range' W.heap.size 5) A A' → J i A') (hstx : ∀ i A A', Jx i A → Turned (List.range' W.heap.size 5) A A' → Jx i A')
    (h0 : J 0 W)
    (hY : ∀ i x W1, vs[i]? = some x → J i W1 → W.heap.size + 5 ≤ W1.heap.size → ∀ m, YieldAt Fence.wide m Try.prog l #[.int .i64 i, .agg #[.slice x.A x.l.length x.c, .int .i64 x.born]] W1 fun e W' =>
      (e = .returned (.bool true) ∧ J (i + 1) W' ∧ Keeps W.heap.size 5 ps W1 W') ∨ (e = .returned (.bool false) ∧ Jx (i + 1) W' ∧ Keeps W.heap.size 5 ps W1 W')) :
    CallsIn Fence.wide n Try.prog 61 #[.func (.yield l) #[] #[], ptr bq] W fun e W' => (∃ v, e = .returned v) ∧ (J ps.length W' ∨ ∃ i, Jx i W') := by
  have hfn : ∀ w : World, (binOp .eql 79 (.func (.yield l) #[] #[]) Value.nilFunc).run Try.prog w = .ok (.bool false) w := fun _ => by kernel_rfl
  have hmf : ∀ (fn : Fn) (first cap : Array Value) (w : World), (Instr.makeFunc fn first cap).run Try.prog w = .ok (.func fn first cap) w := fun _ _ _ _ => rfl
  obtain ⟨w1, hw1⟩ : ∃ w1, w1 = W.alloc (.cells #[.func (.yield l) #[] #[]] 79) := ⟨_, rfl⟩
  have hbox : w1.heap[W.heap.size]? = some (.cells #[.func (.yield l) #[] #[]] 79 (0, 0)) := by rw [hw1]; exact heap_alloc_new _ _
  have hs1 : w1.heap.size = W.heap.size + 1 := by rw [hw1]; simp
  have hb1 : Below W.heap.size W w1 := by rw [hw1]; exact (Below.refl _ _).alloc (Nat.le_refl _) _
  have hql : bq < W.heap.size := by
    unfold World.cell? at hq
    rcases Nat.lt_or_ge bq W.heap.size with h1 | h1
    · exact h1
    · rw [Array.getElem?_eq_none h1] at hq; simp at hq
  have HQ := cover h
  clear h
  refine callsIn_wide.2 ((callsIn_wide (n := 9)).1 ?_)
  refine callsIn_of_wp_marks Try.func61 rfl trivial ?_ rfl
  simp only [Try.ntmps61, List.size_toArray, List.length_cons, List.length_nil, Nat.reduceAdd, Nat.reduceSub, Array.replicate_succ, Array.replicate_zero, List.push_toArray, List.append_toArray, List.nil_append, List.cons_append]
  gi_wp2
  rw [← hw1]
  obtain ⟨s, hs⟩ : ∃ s, W.heap.size = s := ⟨_, rfl⟩
  have HS := cover hs
  rw [hs] at hst hstx hY hbox hs1 hb1 hql ⊢
  clear hs hw1 hfn hq
  refine range_outer rfl (by omega) (gf := 62) (ba := #[ptr q]) (lb := #[]) rfl trivial (enters_of Try.func62 (by kernel_rfl) rfl)
    (fun A => J ps.length A) (fun c A => c = .ret ∧ ∃ i, Jx i A) ?hit ?hdone ?hstop
  case hit =>
    intro fn Rc W2 hF hRc hW2
    rw [hs1] at hRc ⊢
    show CallsIn Fence.wide _ _ _ #[ptr q, .func (.yield (s + 1 + 1)) #[] #[]] _ _
    have hsz2 : W2.heap.size = s + 3 := by rw [hW2]; simp [hs1]
    have hbx2 : W2.heap[s]? = some (.cells #[.func (.yield l) #[] #[]] 79 (0, 0)) := by
      rw [hW2, Below.heap_alloc _ _ _ (by simp; omega), Below.heap_alloc _ _ _ (by omega)]; exact hbox
    have hdf2 : W2.heap[s + 1]? = some (.deferred (some [])) := by
      rw [hW2, Below.heap_alloc _ _ _ (by simp; omega), ← hs1]; exact World.alloc_heap_new w1 _
    have hrc2 : W2.heap[s + 2]? = some (Rc .ready none) := by
      have := World.alloc_heap_new (w1.alloc (.deferred (some []))) (Rc .ready none)
      rw [World.size_alloc, hs1] at this; rw [hW2]; exact this
    have hb2 : Below s W W2 := by rw [hW2]; exact (hb1.alloc (by omega) _).alloc (by simp; omega) _
    have hQ2 : FIn W2 q G m ps (vs.map FV.item) := HQ.out.below (by rw [HS.out]; exact hb2)
    clear hW2 hb1 hs1 hbox
    refine (eachCell_in (s + 1 + 1) hQ2 hbig (AtEach J W ps (.func (.yield l) #[] #[]) (Rc .ready none) s) (fun i A => Jx i A ∧ A.heap[s + 1]? = some (.deferred (some [])) ∧ A.heap[s + 2]? = some (Rc .done (some .ret))) ?h0 ?hY).mono ?_
    case h0 =>
      intro W3 hb3
      rw [hsz2] at hb3
      have hb03 : Below s W W3 := hb2.trans (hb3.mono (by omega))
      exact ⟨hst 0 W W3 h0 (Turned.mono (Turned.of_below (L := []) (by rw [HS.out]; exact hb03)) (by simp)), (hb3.block s (by omega)).trans hbx2, (hb3.block (s + 1) (by omega)).trans hdf2, (hb3.block (s + 2) (by omega)).trans hrc2,
        fun p hp => hb03.block p (by have := HQ.out.inSize (.inr (.inr hp)); have := HS.out; omega)⟩
    case hY =>
      intro i p W3 hp hA hsz m
      rw [hsz2] at hsz ⊢
      refine yield_any (k := 8) ?_ m
      have hil : i < ps.length := (List.getElem?_eq_some_iff.1 hp).1
      obtain ⟨x, hx⟩ : ∃ x, vs[i]? = some x := ⟨_, List.getElem?_eq_getElem (by have := HQ.out.len; simp at this; omega)⟩
      have hpm := List.mem_of_getElem? hp
      have hcell := HQ.out.cells i p (FV.item x) hp (by rw [List.getElem?_map, hx]; rfl)
      refine round_own Rc (fun b c W' => (b = true ∧ AtEach J W ps (.func (.yield l) #[] #[]) (Rc .ready none) s (i + 1) W' ∧ Keeps (s + 3) 2 [] W3 W') ∨ (b = false ∧ Jx (i + 1) W' ∧ W'.heap[s + 1]? = some (.deferred (some [])) ∧ W'.heap[s + 2]? = some (Rc .done (some .ret)))) hRc hF hA.rcd rfl ?walk ?conv
      case conv =>
        rintro b c W' (⟨rfl, h1, h2⟩ | ⟨rfl, h1⟩)
        · exact .inl ⟨rfl, h1, h2⟩
        · exact .inr ⟨rfl, h1⟩
      case walk =>
        clear hRc
        gi_wp2
        refine ⟨hA.rcd, ?_⟩
        obtain ⟨W4, hW4⟩ : ∃ W4, W4 = W3.putObj (s + 1 + 1) (Rc .busy none) := ⟨_, rfl⟩
        rw [← hW4]
        have hp2 : p ≠ s + 1 + 1 := by have := HQ.out.inSize (.inr (.inr hpm)); have := HS.out; omega
        have h4s : W4.cell? ⟨s, 0, none⟩ = some (.func (.yield l) #[] #[]) := by
          rw [cell_of_row W4 s 0 _ _ _ (by rw [hW4, World.putObj_heap_other (by omega)]; exact hA.box)]; rfl
        have h4p : W4.cell? ⟨p, 0, none⟩ = some (.slice x.A x.l.length x.c) := by
          rw [cell_of_row W4 p 0 _ _ _ (by rw [hW4, World.putObj_heap_other hp2, hA.cel p hpm]; exact hcell)]; rfl
        have h4p1 : W4.cell? ⟨p, 1, none⟩ = some (.int .i64 x.born) := by
          rw [cell_of_row W4 p 1 _ _ _ (by rw [hW4, World.putObj_heap_other hp2, hA.cel p hpm]; exact hcell)]; rfl
        have hT4 : Turned (List.range' s 5) W3 W4.drew := by rw [hW4]; exact (turned_put (Turned.refl _ _) (List.mem_range'_1.2 (by omega)) _).drew
        have hs4 : s + 5 ≤ W4.drew.heap.size := by
          have : W4.heap.size = W3.heap.size := by rw [hW4]; simp
          have h2 : W4.drew.heap.size = W4.heap.size := rfl
          omega
        obtain ⟨fn', tmps', assign', body', hy, hR⟩ := hY i x W4.drew hx (hst i _ _ hA.j hT4) hs4 7
        have HW4 := cover hW4
        have HR := cover hR
        have HX := cover hx
        have HC := cover hcell
        have HST := cover hst
        have HSTX := cover hstx
        clear hW4 hR hT4 hY hst hstx h0 hcell hx
        gi_wp2_with fail
        refine wpIn_mono (Q := fun e a W5 => e = .normal ∧ ∃ b : Bool, a = { tmps := #[.func (.yield l) #[] #[], ptr bq, ptr s, .int .i64 i, ptr p, .func (.yield l) #[] #[], .bool false, ptr q, .func (.func 62) #[ptr q] #[], .int .i64 i, ptr p, .func (.yield l) #[] #[], .int .i64 i, ptr p, ptr p, ptr p, .agg #[.slice x.A x.l.length x.c, .int .i64 x.born], .bool b, .bool (!b)], defers := [] } ∧
          Hid ((b = true ∧ J (i + 1) W5 ∧ Keeps s 5 ps W4.drew W5) ∨ (b = false ∧ Jx (i + 1) W5 ∧ Keeps s 5 ps W4.drew W5))) ?region ?rest
        case region =>
          have mixed : Try.prog.follows .mixedOrders = true := by kernel_rfl
          gi_region_with_o (refine HR.out.mono ?_; rintro e W5 hd; obtain ⟨b, rfl, HD⟩ := bool_of hd; clear hd)
          all_goals exact ⟨rfl, b, rfl, HD⟩
        case rest =>
          clear h4s h4p h4p1 hy HR HX
          rintro e a W5 ⟨rfl, b, rfl, HD⟩
          have hkeep : ∀ k, Keeps s 5 ps W4.drew W5 → ((s ≤ k ∧ k < s + 5) ∨ k ∈ ps) → W5.heap[k]? = W4.heap[k]? := fun k hk h => hk.block k h
          have h4 : ∀ k, k ≠ s + 1 + 1 → W4.heap[k]? = W3.heap[k]? := fun k hk => by rw [HW4.out, World.putObj_heap_other hk]
          have h4l : W4.heap[s + 1 + 1]? = some (Rc .busy none) := by
            rw [HW4.out]; exact World.putObj_heap_same (by omega)
          have hps : ∀ k ∈ ps, k < s := fun k hk => by have := HQ.out.inSize (.inr (.inr hk)); have := HS.out; omega
          cases b with
          | true =>
            obtain ⟨hj, hk⟩ : J (i + 1) W5 ∧ Keeps s 5 ps W4.drew W5 := by
              rcases HD.out with ⟨_, h1, h2⟩ | ⟨h1, _⟩
              · exact ⟨h1, h2⟩
              · cases h1
            have HFin : Hid (W5.heap[s + 1 + 1]? = some (Rc .busy none) ∧ AtEach J W ps (.func (.yield l) #[] #[]) (Rc .ready none) s (i + 1) (W5.putObj (s + 1 + 1) (Rc .ready none)) ∧ Keeps (s + 3) 2 [] W3 (W5.putObj (s + 1 + 1) (Rc .ready none))) := by
              have h5l : W5.heap[s + 1 + 1]? = some (Rc .busy none) := (hkeep _ hk (.inl (by omega))).trans h4l
              refine cover ⟨h5l, ⟨HST.out _ _ _ hj (turned_put (Turned.refl _ _) (List.mem_range'_1.2 (by omega)) _), ?_, ?_, World.putObj_heap_same (block_lt h5l), ?_⟩, ⟨?_, ?_⟩⟩
              · rw [World.putObj_heap_other (by omega), hkeep _ hk (.inl (by omega)), h4 _ (by omega)]; exact hA.box
              · rw [World.putObj_heap_other (by omega), hkeep _ hk (.inl (by omega)), h4 _ (by omega)]; exact hA.dfr
              · intro k hkp
                have := hps k hkp
                rw [World.putObj_heap_other (by omega), hkeep _ hk (.inr hkp), h4 _ (by omega)]; exact hA.cel k hkp
              · have h2 : W4.drew.heap.size = W4.heap.size := rfl
                have h3 : W4.heap.size = W3.heap.size := by rw [HW4.out]; simp
                have := hk.size
                simp only [World.putObj_size]; omega
              · intro k hkk
                rcases hkk with hkk | hkk
                · rw [World.putObj_heap_other (by omega), hkeep _ hk (.inl (by omega)), h4 _ (by omega)]
                · cases hkk
            clear hkeep h4 h4l hps hj hk HD
            gi_wp2
            exact ⟨HFin.out.1, .inl ⟨rfl, HFin.out.2⟩⟩
          | false =>
            obtain ⟨hj, hk⟩ : Jx (i + 1) W5 ∧ Keeps s 5 ps W4.drew W5 := by
              rcases HD.out with ⟨h1, _⟩ | ⟨_, h1, h2⟩
              · cases h1
              · exact ⟨h1, h2⟩
            have HFin : Hid (W5.heap[s + 1 + 1]? = some (Rc .busy none) ∧ Jx (i + 1) (W5.putObj (s + 1 + 1) (Rc .done (some .ret))) ∧ (W5.putObj (s + 1 + 1) (Rc .done (some .ret))).heap[s + 1]? = some (.deferred (some [])) ∧ (W5.putObj (s + 1 + 1) (Rc .done (some .ret))).heap[s + 2]? = some (Rc .done (some .ret))) := by
              have h5l : W5.heap[s + 1 + 1]? = some (Rc .busy none) := (hkeep _ hk (.inl (by omega))).trans h4l
              refine cover ⟨h5l, HSTX.out _ _ _ hj (turned_put (Turned.refl _ _) (List.mem_range'_1.2 (by omega)) _), ?_, World.putObj_heap_same (block_lt h5l)⟩
              rw [World.putObj_heap_other (by omega), hkeep _ hk (.inl (by omega)), h4 _ (by omega)]; exact hA.dfr
            clear hkeep h4 h4l hps hj hk HD
            gi_wp2
            exact ⟨HFin.out.1, .inr ⟨rfl, HFin.out.2⟩⟩
    rintro e W' ⟨⟨v, rfl⟩, hA | ⟨i, hx, hd, hr⟩⟩
    · exact ⟨⟨v, rfl⟩, hA.dfr, .inl ⟨hA.rcd, hA.j⟩⟩
    · exact ⟨⟨v, rfl⟩, hd, .inr ⟨.ret, hr, rfl, i, hx⟩⟩
  case hdone =>
    intro o W' hj hd
    have HD := cover hd
    rw [hs1] at hd ⊢
    have HJ : Hid (J ps.length ((W'.putObj (s + 1 + 1) o).putObj (s + 1) (.deferred none))) := cover (hst _ _ _ hj (turned_put (turned_put (Turned.refl _ _) (List.mem_range'_1.2 (by omega)) _) (List.mem_range'_1.2 (by omega)) _))
    have hd2 : (W'.putObj (s + 1 + 1) o).heap[s + 1]? = some (.deferred (some [])) := (World.putObj_heap_other (by omega)).trans hd
    clear hst hstx hY h0 hj
    gi_wp2
    refine ⟨by simp, .inl ⟨_, _, rfl, run_takeDeferred hd2, ?_⟩⟩
    exact ⟨_, results_none rfl _ _ _, ⟨_, rfl⟩, .inl HJ.out⟩
  case hstop =>
    rintro o c W' ⟨rfl, i, hj⟩ hd
    rw [hs1] at hd ⊢
    have HJ : Hid (Jx i ((W'.putObj (s + 1 + 1) o).putObj (s + 1) (.deferred none))) := cover (hstx _ _ _ hj (turned_put (turned_put (Turned.refl _ _) (List.mem_range'_1.2 (by omega)) _) (List.mem_range'_1.2 (by omega)) _))
    have hd2 : (W'.putObj (s + 1 + 1) o).heap[s + 1]? = some (.deferred (some [])) := (World.putObj_heap_other (by omega)).trans hd
    clear hst hstx hY h0 hj
    gi_wp2
    refine ⟨by simp, .inl ⟨_, _, rfl, run_takeDeferred hd2, ?_⟩⟩
    exact ⟨_, results_none rfl _ _ _, ⟨_, rfl⟩, .inr ⟨i, HJ.out⟩⟩
end Go.Proofs.Ytjidhpmjdhjciaa
