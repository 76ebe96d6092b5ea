/- The law's own question on numbers; the cells of which it says no. -/
import Derived.RangeFuncBox
import Derived.Shelf.RegionOpen
import Derived.Defers
import Derived.DefersIn
import Derived.RecoverIn
import Derived.Test.YtjidhpmjdhjciaaFEach
import Derived.Test.YtjidhpmjdhjciaaFSpoil
namespace Go.Proofs.Ytjidhpmjdhjciaa
open Go.RowKit Go.Shelf
set_option linter.unusedVariables false
attribute [local go_sem] Oper.semAt_some

theorem catch_idle {n : Nat} (p : Addr) (w : World) :
    CallsDIn Fence.wide n Try.prog 70 #[.pointer (some p)] .returning w fun e u' w' => e = .returned (.tuple #[]) ∧ u' = .returning ∧ w' = w := by
  refine callsDIn_of_wpSIn Try.func70 rfl trivial fun c₀ cs hu => ?_
  apply wpSIn_seq
  apply wpSIn_region
  simp [wpOpsSIn, go_sem, recoverD, hu, Try.ntmps70, Exit.thenS]
  refine wpSIn_cond (t := false) (by simp [Act.eval, Array.replicate]) ?_
  simp only [Bool.false_eq_true, if_false]
  refine wpSIn_of_wpIn rfl (wpIn_skip ?_)
  cases c₀
  simp_all [bodyPostS, results, Try.results70]

/-- the cells of which the question says no -/
def refd (p : FV → Bool) (zs : List (Nat × FV)) : List Nat := (zs.filter fun z => !p z.2).map Prod.fst
/-- a list of pointers that the call has gathered, in its variable -/
structure AtRef (L : List Nat) (W : World) (b base : Nat) (ps : List Nat) (A : World) : Prop where
  row : ∃ v, A.heap[b]? = some (.cells #[v] 90 (0, 0)) ∧ A.ownsRow base 95 1 v ps.length (ps.map ptr)
  tur : Turned L W A
theorem own_turned' {L : List Nat} {a b : World} {base e n : Nat} {v : Value} {xs : List Value} (h : a.ownsRow base e 1 v n xs) (hT : Turned L a b) (hL : ∀ g, v.ownBlock = some g → g ∉ L) : b.ownsRow base e 1 v n xs := by
  refine ⟨h.1, ?_⟩
  rcases h.2 with h0 | ⟨g, cap, cur, rfl, hg, hh, hr⟩
  · exact .inl h0
  · exact .inr ⟨g, cap, cur, rfl, hg, hT.at_ hh (hL g rfl), hr⟩
theorem AtRef.turned {L M : List Nat} {W A A' : World} {b base : Nat} {ps : List Nat} (h : AtRef L W b base ps A) (hT : Turned M A A') (hb : b ∉ M) (hM : ∀ i ∈ M, W.heap.size ≤ i ∧ i < base) : AtRef L W b base ps A' := by
  obtain ⟨v, h1, h2⟩ := h.row
  exact ⟨⟨v, hT.at_ h1 hb, own_turned' h2 hT (fun g hg hm => by have := (h2.lt g hg).1; have := hM g hm; omega)⟩, h.tur.trans hT (fun i hi => .inr (hM i hi).1)⟩
theorem AtRef.app {L : List Nat} {W A w1 : World} {b base n : Nat} {v v' : Value} {ps : List Nat} {y : Nat} {o : Obj} (h1 : A.heap[b]? = some (.cells #[v] 90 (0, 0))) (h2 : A.ownsRow base 95 1 v n (ps.map ptr)) (tur : Turned L W A) (hb : b ∈ L) (hbb : b < base) (hl : (ps ++ [y]).length = n + 1)
    (hown' : w1.ownsRow base 95 1 v' (n + 1) (ps.map ptr ++ [ptr y])) (hgrow : (A.alloc o).grownBy w1 v.ownBlock) (hW : W.heap.size ≤ base) :
    AtRef L W b base (ps ++ [y]) (w1.setCell ⟨b, 0, none⟩ v') ∧ A.heap.size ≤ (w1.setCell ⟨b, 0, none⟩ v').heap.size ∧ ∀ k, k < A.heap.size → k ≠ b → k < base → (w1.setCell ⟨b, 0, none⟩ v').heap[k]? = A.heap[k]? := by
  have hlt := block_lt h1
  have hsz := hgrow.size
  simp at hsz
  have hbase : ∀ g, v.ownBlock = some g → base ≤ g := fun g hg => (h2.lt g hg).1
  have hk1 : ∀ k, k < A.heap.size → v.ownBlock ≠ some k → w1.heap[k]? = A.heap[k]? := fun k hk hn => (hgrow.block k (by simp; omega) (fun e => hn e.symm)).trans (Below.heap_alloc _ _ _ hk)
  have hb1 : w1.heap[b]? = some (.cells #[v] 90 (0, 0)) := (hk1 b hlt (fun e => by have := hbase b e; omega)).trans h1
  refine ⟨⟨⟨v', by rw [set_block hb1]; rfl, ?_⟩, ?_⟩, by rw [set_size]; omega, ?_⟩
  · rw [hl, List.map_append]
    exact ownsRow_setCell_other hown' (fun e => by have := (hown'.lt b e).1; omega) _
  · refine Turned.setCell ⟨hgrow.os.trans tur.os, hgrow.tape.trans tur.tape, hgrow.output.trans tur.output, by have := tur.size; omega, fun k hk hn => ?_⟩ (.inl hb) _ _
    have := tur.size
    exact (hk1 k (by omega) (fun e => by have := hbase k e; omega)).trans (tur.block k hk hn)
  · intro k hk hne hor
    rw [set_other _ _ hne]
    exact hk1 k hk (fun e => by have := hbase k e; omega)
/-- at the head of a round -/
structure RefRound (w3 : World) (b : Nat) (x : FV → Bool) (zs : List (Nat × FV)) (Rc : Obj) (i : Nat) (A : World) : Prop where
  at_ : AtRef [b + 1] w3 (b + 1) (b + 6) (refd x (zs.take i)) A
  dfr : A.heap[b + 2]? = some (.deferred (some []))
  rcd : A.heap[b + 3]? = some Rc
/-- what 'refused' hands back -/
def RefOut (rs : List Nat) (w : World) (e : Ending) (w' : World) : Prop :=
  ∃ A c, e = .returned (.slice A rs.length c) ∧ w'.ownsRow w.heap.size 95 1 (.slice A rs.length c) rs.length (rs.map ptr) ∧ Below w.heap.size w w'

set_option maxRecDepth 100000 in
set_option maxHeartbeats 1600000 in
theorem refused_any {w : World} {q l : Nat} {G : Option Nat} {m : Int} (x : FV → Bool) (zs : List (Nat × FV)) (h : FIn w q G m (zs.map Prod.fst) ((zs.map Prod.snd).map FV.item)) (hbig : zs.length ≤ 1000000)
    (HL : ∀ W', Below w.heap.size w W' → ∀ v ∈ zs.map Prod.snd, Calls Try.prog 51 #[ptr l, .agg #[.slice v.A v.l.length v.c, .int .i64 v.born]] W' fun e w' => e = .returned (.bool (x v)) ∧ Below W'.heap.size W' w') :
    Calls Try.prog 63 #[ptr q, .func (.func 51) #[ptr l] #[]] w (RefOut (refd x zs) w) := by
  obtain ⟨i0, hi, hz0, hz1, hz2⟩ := info_parts F_info
  have hmf : ∀ (fn : Fn) (first cap : Array Value) (w : World), (Instr.makeFunc fn first cap).run Try.prog w = .ok (.func fn first cap) w := fun _ _ _ _ => rfl
  obtain ⟨b, hb⟩ : ∃ b, w.heap.size = b := ⟨_, rfl⟩
  have HB := cover hb
  have HLV := cover HL
  obtain ⟨v0, hv0⟩ : ∃ v0, v0 = (w.alloc (.cells #[.func (.func 51) #[ptr l] #[]] 75)).alloc (.cells #[.slice none 0 0] 90) := ⟨_, rfl⟩
  have hs0 : v0.heap.size = b + 2 := by rw [hv0]; simp [hb]
  have hk0 : v0.heap[b]? = some (.cells #[.func (.func 51) #[ptr l] #[]] 75 (0, 0)) := by
    rw [hv0, Below.heap_alloc _ _ _ (by simp; omega), ← hb]; exact heap_alloc_new w _
  have ho0 : v0.heap[b + 1]? = some (.cells #[.slice none 0 0] 90 (0, 0)) := by
    rw [hv0, ← hb]
    have := heap_alloc_new (w.alloc (.cells #[.func (.func 51) #[ptr l] #[]] 75)) (.cells #[.slice none 0 0] 90)
    rw [World.size_alloc] at this; exact this
  have hb0 : Below b w v0 := by rw [hv0]; exact ((Below.refl _ _).alloc (by omega) _).alloc (by simp; omega) _
  have hQ0 : FIn v0 q G m (zs.map Prod.fst) ((zs.map Prod.snd).map FV.item) := h.below (by rw [hb]; exact hb0)
  refine (callsIn_wide (n := 9)).1 ?_
  refine callsIn_of_wp_marks Try.func63 rfl trivial ?_ rfl
  simp only [Try.ntmps63, List.size_toArray, List.length_cons, List.length_nil, Nat.reduceAdd, Nat.reduceSub, Array.replicate_succ, Array.replicate_zero, List.push_toArray, List.append_toArray, List.nil_append, List.cons_append]
  clear h HL
  gi_wp2_with fail
  rw [← hv0]
  have HQ := cover hQ0
  have HI := cover hi
  clear hv0 hb hQ0 hi hmf
  have hfin : ∀ o A, AtRef [b + 1] v0 (b + 1) (b + 6) (refd x zs) A → A.heap[b + 2]? = some (.deferred (some [])) → ∃ g c, (A.putObj (b + 2 + 1) o).cell? ⟨b + 1, 0, none⟩ = some (.slice g (refd x zs).length c) ∧ (A.putObj (b + 2 + 1) o).frozen? ⟨b + 1, 0, none⟩ = false ∧
      ((A.putObj (b + 2 + 1) o).setCell ⟨b + 1, 0, none⟩ (.slice g (refd x zs).length c)).heap[b + 2]? = some (.deferred (some [])) ∧
      Hid ((((A.putObj (b + 2 + 1) o).setCell ⟨b + 1, 0, none⟩ (.slice g (refd x zs).length c)).putObj (b + 2) (.deferred none)).cell? ⟨b + 1, 0, none⟩ = some (.slice g (refd x zs).length c) ∧
        RefOut (refd x zs) w (.returned (.slice g (refd x zs).length c)) (((A.putObj (b + 2 + 1) o).setCell ⟨b + 1, 0, none⟩ (.slice g (refd x zs).length c)).putObj (b + 2) (.deferred none))) := by
    intro o A hA hd
    have hA1 := hA.turned (turned_put (L := [b + 3, b + 2]) (Turned.refl _ _) (l := b + 2 + 1) (by simp) o) (by simp) (by simp; omega)
    obtain ⟨v, h1, h2⟩ := hA1.row
    obtain ⟨g, c, rfl, _⟩ := own_shape h2
    have h3 := set_block h1 0 (.slice g (refd x zs).length c)
    have h4 := ownsRow_setCell_other (a := ⟨b + 1, 0, none⟩) h2 (fun e => by have h8 := (h2.lt _ e).1; change b + 6 ≤ b + 1 at h8; omega) (.slice g (refd x zs).length c)
    have h5 : AtRef [b + 1] v0 (b + 1) (b + 6) (refd x zs) ((A.putObj (b + 2 + 1) o).setCell ⟨b + 1, 0, none⟩ (.slice g (refd x zs).length c)) := ⟨⟨_, by rw [h3]; rfl, h4⟩, hA1.tur.setCell (.inl (by simp)) _ _⟩
    have h6 := h5.turned (turned_put (L := [b + 3, b + 2]) (Turned.refl _ _) (l := b + 2) (by simp) (.deferred none)) (by simp) (by simp; omega)
    have h7 : (((A.putObj (b + 2 + 1) o).setCell ⟨b + 1, 0, none⟩ (.slice g (refd x zs).length c)).putObj (b + 2) (.deferred none)).heap[b + 1]? = some (.cells #[.slice g (refd x zs).length c] 90 (0, 0)) := by
      rw [World.putObj_heap_other (by omega), h3]; rfl
    refine ⟨g, c, by rw [cell_of_row _ _ _ _ _ _ h1]; rfl, by simp [World.frozen?, h1], ?_, cover ⟨by rw [cell_of_row _ _ _ _ _ _ h7]; rfl, g, c, rfl, ?_, ?_⟩⟩
    · rw [set_other _ _ (by omega), World.putObj_heap_other (by omega)]; exact hd
    · obtain ⟨v', h8, h9⟩ := h6.row
      rw [h7] at h8
      have : v' = .slice g (refd x zs).length c := by simp at h8; exact h8.symm
      subst this
      exact own_base h9 (by rw [HB.out]; omega)
    · rw [HB.out]; exact h6.tur.below hb0 (by simp) (by omega)
  have HFIN := cover hfin
  clear hfin
  refine range_outer rfl (by omega) (gf := 62) (ba := #[ptr q]) (lb := #[]) rfl trivial (enters_of Try.func62 (by kernel_rfl) rfl)
    (fun A => AtRef [b + 1] v0 (b + 1) (b + 6) (refd x zs) A) (fun _ _ => False) ?hit ?hdone ?hstop
  case hit =>
    intro fn Rc W2 hF hRc hW2
    rw [hs0] at hRc ⊢
    show CallsIn Fence.wide _ _ _ #[ptr q, .func (.yield (b + 2 + 1)) #[] #[]] _ _
    have hsz2 : W2.heap.size = b + 4 := by rw [hW2]; simp [hs0]
    have hb2 : Below v0.heap.size v0 W2 := by rw [hW2]; exact ((Below.refl _ _).alloc (Nat.le_refl _) _).alloc (by simp) _
    have hdf2 : W2.heap[b + 2]? = some (.deferred (some [])) := by
      rw [hW2, Below.heap_alloc _ _ _ (by simp; omega), ← hs0]; exact World.alloc_heap_new v0 _
    have hrc2 : W2.heap[b + 3]? = some (Rc .ready none) := by
      have := World.alloc_heap_new (v0.alloc (.deferred (some []))) (Rc .ready none)
      rw [World.size_alloc, hs0] at this; rw [hW2]; exact this
    have hQ2 : FIn W2 q G m (zs.map Prod.fst) ((zs.map Prod.snd).map FV.item) := HQ.out.below hb2
    clear hW2
    refine (eachCell_in (b + 2 + 1) hQ2 (by simpa using hbig) (fun i A => RefRound v0 b x zs (Rc .ready none) i A) (fun _ _ => False) ?h0 ?hY).mono ?_
    case h0 =>
      intro W3 hb3
      rw [hsz2] at hb3
      exact ⟨⟨⟨_, (hb3.block (b + 1) (by omega)).trans ((hb2.block (b + 1) (by omega)).trans ho0), World.ownsRow_nil _ _ _ _⟩, Turned.of_below (hb2.trans (hb3.mono (by omega)))⟩, (hb3.block (b + 2) (by omega)).trans hdf2, (hb3.block (b + 3) (by omega)).trans hrc2⟩
    case hY =>
      rw [hsz2]
      intro i p A hp hA hsA mm
      refine yield_any (k := 8) ?_ mm
      refine round_own Rc (fun c _ W' => c = true ∧ RefRound v0 b x zs (Rc .ready none) (i + 1) W' ∧ Keeps (b + 4) 2 [] A W') hRc hF hA.rcd rfl ?walk ?conv
      case conv =>
        rintro c _ W' ⟨rfl, h1, h2⟩
        exact .inl ⟨rfl, h1, h2⟩
      case walk =>
        clear hRc
        rw [List.getElem?_map] at hp
        obtain ⟨⟨p', y⟩, hz, rfl⟩ := Option.map_eq_some_iff.1 hp
        have hym : y ∈ zs.map Prod.snd := List.mem_map.2 ⟨(p', y), List.mem_of_getElem? hz, rfl⟩
        have hpc := HQ.out.cells i p' (FV.item y) (by simp [hz]) (by simp [hz])
        have hpn : p' < b + 2 := by have := block_lt hpc; omega
        gi_wp2
        refine ⟨hA.rcd, ?_⟩
        obtain ⟨A4, hA4⟩ : ∃ A4, A4 = A.putObj (b + 2 + 1) (Rc .busy none) := ⟨_, rfl⟩
        rw [← hA4]
        have hs4 : A4.heap.size = A.heap.size := by rw [hA4]; simp
        have hT4 : Turned [b + 3] A A4 := by rw [hA4]; exact turned_put (Turned.refl _ _) (by simp) _
        have hr4 : A4.heap[b + 3]? = some (Rc .busy none) := by rw [hA4]; exact World.putObj_heap_same (by omega)
        have hat4 : AtRef [b + 1] v0 (b + 1) (b + 6) (refd x (zs.take i)) A4 := hA.at_.turned hT4 (by simp) (by simp; omega)
        have hdf4 : A4.heap[b + 2]? = some (.deferred (some [])) := hT4.at_ hA.dfr (by simp)
        have hc12 : A4.cell? ⟨b, 0, none⟩ = some (.func (.func 51) #[ptr l] #[]) := by
          rw [cell_of_row _ _ _ _ _ _ (hat4.tur.at_ hk0 (by simp))]; rfl
        have hcp : A4.cell? ⟨p', 0, none⟩ = some (.slice y.A y.l.length y.c) := by
          rw [cell_of_row _ _ _ _ _ _ (hat4.tur.at_ hpc (by simp; exact type_ne hpc ho0 (by decide)))]; rfl
        have hcp1 : A4.cell? ⟨p', 1, none⟩ = some (.int .i64 y.born) := by
          rw [cell_of_row _ _ _ _ _ _ (hat4.tur.at_ hpc (by simp; exact type_ne hpc ho0 (by decide)))]; rfl
        have hk4 : ∀ k, k ≠ b + 3 → A4.heap[k]? = A.heap[k]? := fun k hk => by rw [hA4, World.putObj_heap_other hk]
        have HU := fun d => HLV.out (A4.drewN d) (below_drewN (by rw [HB.out]; exact hat4.tur.below hb0 (by simp) (by omega)) d) y hym
        have HA := cover hA
        have HZ := cover hz
        have H4 := cover (And.intro hs4 (And.intro hr4 (And.intro hat4 (And.intro hdf4 hk4))))
        have hsA4 : b + 6 ≤ A4.heap.size := by omega
        clear hA hA4 hs4 hT4 hr4 hat4 hdf4 hk4 hp hz hpc hb2 hdf2 hrc2 hQ2 hk0 hym
        gi_wp2_with fail
        refine wpIn_mono (Q := fun e a W5 => e = .normal ∧ Below A4.heap.size A4 W5 ∧ a = { tmps := #[ptr q, .func (.func 51) #[ptr l] #[], undef, ptr b, ptr (b + 1), undef, ptr p', .func (.func 70) #[] #[ptr (b + 1)], ptr q, .func (.func 62) #[ptr q] #[], .int .i64 i, ptr p', .func (.func 51) #[ptr l] #[], ptr p', ptr p', ptr p', .agg #[.slice y.A y.l.length y.c, .int .i64 y.born], .bool (x y), .bool (!(x y)), undef, undef, undef, undef, undef], defers := [] }) ?region ?rest
        case region =>
          have mixed : Try.prog.follows .mixedOrders = true := by kernel_rfl
          have HU1 := HU 1
          clear HU
          gi_region_with_o (refine ⟨trivial, ?_⟩; gi_at_call 51; refine (CallsIn.inRound (b + 2 + 1) (callsIn_wide.2 HU1)).mono ?_; rintro e w' ⟨rfl, hbW⟩)
          all_goals exact ⟨rfl, (Below.refl _ _).drew.trans hbW, rfl⟩
        case rest =>
          rintro e a A5 ⟨rfl, hb5, rfl⟩
          have hs45 := hb5.size
          have hpre : ∀ A5, AtRef [b + 1] v0 (b + 1) (b + 6) (refd x (zs.take (i + 1))) A5 → A4.heap.size ≤ A5.heap.size → (∀ k, k < b + 6 → k ≠ b + 1 → A5.heap[k]? = A4.heap[k]?) → A5.heap[b + 2 + 1]? = some (Rc .busy none) ∧ RefRound v0 b x zs (Rc .ready none) (i + 1) (A5.putObj (b + 2 + 1) (Rc .ready none)) ∧ Keeps (b + 4) 2 [] A (A5.putObj (b + 2 + 1) (Rc .ready none)) := fun A5 h5 hs5 hk5 => by
            have h6 : A5.heap[b + 3]? = some (Rc .busy none) := (hk5 (b + 3) (by omega) (by omega)).trans H4.out.2.1
            refine ⟨h6, ⟨h5.turned (turned_put (L := [b + 3]) (Turned.refl _ _) (by simp) _) (by simp) (by simp; omega), ?_, World.putObj_heap_same (block_lt h6)⟩, ⟨?_, ?_⟩⟩
            · rw [World.putObj_heap_other (by omega), hk5 (b + 2) (by omega) (by omega)]; exact H4.out.2.2.2.1
            · have := H4.out.1; simp only [World.putObj_size]; omega
            · intro j hj
              rcases hj with hj | hj
              · rw [World.putObj_heap_other (by omega), hk5 j (by omega) (by omega), H4.out.2.2.2.2 j (by omega)]
              · cases hj
          have HPRE := cover hpre
          clear hpre HU hcp hcp1 hc12
          obtain ⟨r, hr⟩ : ∃ r, r = x y := ⟨_, rfl⟩
          rw [← hr]
          cases r with
          | true =>
            have HN := cover (HPRE.out A5 (by
              have h7 : refd x (zs.take (i + 1)) = refd x (zs.take i) := by
                unfold refd; rw [List.take_add_one, HZ.out]; simp [← hr]
              rw [h7]; exact H4.out.2.2.1.turned (Turned.of_below (L := []) hb5) (by simp) (fun i hi => by cases hi)) hs45 (fun k hk _ => hb5.block k (by omega)))
            clear hr hb5
            gi_wp2
            exact ⟨HN.out.1, rfl, HN.out.2⟩
          | false =>
            have hbe : x y = false := hr.symm
            obtain ⟨v, hbox, hown⟩ := H4.out.2.2.1.row
            have hrl : (refd x (zs.take i)).length ≤ 1000000 := by
              unfold refd
              rw [List.length_map]
              exact Nat.le_trans (List.length_filter_le _ _) (by rw [List.length_take]; omega)
            obtain ⟨k0, hk0⟩ : ∃ k0, k0 = (refd x (zs.take i)).length := ⟨_, rfl⟩
            rw [← hk0] at hown hrl
            have hbox5 : A5.heap[b + 1]? = some (.cells #[v] 90 (0, 0)) := (hb5.block _ (block_lt hbox)).trans hbox
            have hown5 : A5.ownsRow (b + 6) 95 1 v k0 ((refd x (zs.take i)).map ptr) := own_turned' hown (Turned.of_below (L := []) hb5) (fun g hg hm => by cases hm)
            have hcb5 : A5.cell? ⟨b + 1, 0, none⟩ = some v := by rw [cell_of_row _ _ _ _ _ _ hbox5]; rfl
            have hfb5 : A5.frozen? ⟨b + 1, 0, none⟩ = false := by simp [World.frozen?, hbox5]
            have hs5 : b + 6 ≤ A5.heap.size := by omega
            have H5 := cover (show A4.heap.size ≤ A5.heap.size ∧ (∀ k : Nat, k < A4.heap.size → A5.heap[k]? = A4.heap[k]?) ∧ Turned [b + 1] v0 A5 ∧ A5.heap[b + 1]? = some (.cells #[v] 90 (0, 0)) from ⟨hs45, fun k hk => hb5.block k hk, (H4.out.2.2.1.turned (Turned.of_below (L := []) hb5) (by simp) (fun i hi => by cases hi)).tur, hbox5⟩)
            have HK0 := cover hk0
            clear hr hbox hown hk0 hbox5 hb5
            gi_wp2_with (gi_at_builtin; refine wpListIn_append_own _ rfl _ _ 90 rfl (b + 6) 95 i0 (.pointer none) 1 8 Try.underlying90 HI.out hz0 hz1 hz2 rfl (by decide) _ _ _ rfl (hown5.alloc _) ⟨A5.heap.size, 0, none⟩ 1 1 [ptr p'] rfl rfl ?c1 ?c2 ?c3 ?c4 ?c5 ?_)
            all_goals try (case c1 => exact cell_one_new _ _ _)
            case c2 => first | rfl | (intro u hu; simp at hu; subst hu; rfl)
            case c3 => unfold maxLen; omega
            case c4 => omega
            case c5 => first | omega | (simp; omega)
            intro v' w5 hown' hgrow _
            obtain ⟨g', cap', rfl⟩ := ownsRow_succ hown'
            obtain ⟨hat5, hs6, hk5⟩ := AtRef.app H5.out.2.2.2 hown5 H5.out.2.2.1 (by simp) (by omega) (by rw [HK0.out]; simp) hown' hgrow (by omega)
            have hbx5 : w5.heap[b + 1]? = some (.cells #[v] 90 (0, 0)) := by
              have hlt := block_lt H5.out.2.2.2
              exact (hgrow.block (b + 1) (by simp; omega) (fun e => by have := (hown5.lt _ e.symm).1; omega)).trans ((Below.heap_alloc _ _ _ hlt).trans H5.out.2.2.2)
            have hcb6 : w5.cell? ⟨b + 1, 0, none⟩ = some v := by rw [cell_of_row _ _ _ _ _ _ hbx5]; rfl
            have hfb6 : w5.frozen? ⟨b + 1, 0, none⟩ = false := by simp [World.frozen?, hbx5]
            have HN := cover (HPRE.out _ (by
              have h7 : refd x (zs.take (i + 1)) = refd x (zs.take i) ++ [p'] := by
                unfold refd; rw [List.take_add_one, HZ.out]; simp [hbe]
              rw [h7]; exact hat5) (by have := H5.out.1; omega) (fun k h1 h2 => (hk5 k (by omega) h2 h1).trans (H5.out.2.1 k (by omega))))
            clear hat5 hs6 hk5 hown' hgrow hown5 hcb5 hfb5 hbx5 hbe
            gi_wp2
            exact ⟨HN.out.1, rfl, HN.out.2⟩
    rintro e W' ⟨⟨v, rfl⟩, hA | ⟨i, h1⟩⟩
    · refine ⟨⟨v, rfl⟩, hA.dfr, .inl ⟨hA.rcd, ?_⟩⟩
      have := hA.at_
      rwa [List.length_map, List.take_length] at this
    · exact h1.elim
  case hdone =>
    intro o A hA hd
    rw [hs0] at hd ⊢
    obtain ⟨g, c, hcv, hfv, hd2, HO⟩ := HFIN.out o A hA hd
    clear hd hA
    gi_wp2
    refine ⟨by simp, .inl ⟨_, _, rfl, run_takeDeferred hd2, ?_⟩⟩
    refine ⟨by simp, .inr ⟨fun _ => by omega, _, _, 70, #[.pointer (some ⟨b + 1, 0, none⟩)], rfl, by simp [go_sem], fun _ _ => trivial, ?_⟩⟩
    refine (catch_idle ⟨b + 1, 0, none⟩ _).mono ?_
    rintro e u' w'' ⟨rfl, rfl, rfl⟩
    have hcc := HO.out.1
    exact ⟨.slice g (refd x zs).length c, by simp [results, Try.results63, go_sem, hcc], HO.out.2⟩
  case hstop =>
    rintro o c A h
    exact h.elim
end Go.Proofs.Ytjidhpmjdhjciaa
