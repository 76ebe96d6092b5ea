/- What Tick does. -/
import Derived.Test.YtodiocioldakjaaKBox
import Derived.Test.YtodiocioldakjaaKIEach
import Derived.Test.YtodiocioldakjaaKIDel
namespace Go.Proofs.Ytodiocioldakjaa
open Go.RowKit Go.Shelf
set_option linter.unusedVariables false
attribute [local go_sem] Oper.semAt_some

theorem keyI_info : (Try.prog.info? 3).map (fun i => (i.zero, i.size, i.bytes)) = some (some (.int .i64 0), 1, 8) := by kernel_rfl
/-- what is left one tick later, of all of them -/
def decK {α : Type} (l : List (α × Int)) : List (α × Int) := l.map fun x => (x.1, x.2 - 1)
theorem decK_len {α : Type} (l : List (α × Int)) : (decK l).length = l.length := by simp [decK]
theorem ends_dec {α : Type} (now : Nat) (l : List (α × Int)) : endsK (now + 1) (decK l) = endsK now l := by
  unfold endsK decK
  rw [List.map_map]
  apply List.map_congr_left
  intro x _
  show (x.1, ((now + 1 : Nat) : Int) + (x.2 - 1)) = (x.1, (now : Int) + x.2)
  congr 1; omega
theorem told_dec {α : Type} (l : List (α × Int)) : ((decK l).filter (fun x => x.2 == 0)).map (·.1) = toldK l := by
  unfold decK toldK
  induction l with
  | nil => rfl
  | cons x l ih =>
    rw [List.map_cons, List.filter_cons, List.filter_cons]
    by_cases h : x.2 = 1
    · rw [if_pos (by simp [h]), if_pos (by simp [h]), List.map_cons, List.map_cons, ih]
    · rw [if_neg (by simp; omega), if_neg (by simp [h]), ih]
theorem tick_rows {α : Type} (now : Nat) (l : List (α × Int)) : (endsK (now + 1) (decK l)).filter (fun x => x.2 != ((now : Int) + 1)) = endsK (now + 1) (tickK l) := by
  unfold endsK decK tickK
  induction l with
  | nil => rfl
  | cons x l ih =>
    rw [List.map_cons, List.map_cons, List.filter_cons, List.filter_cons]
    by_cases h : x.2 = 1
    · rw [if_neg (by simp [h]), if_neg (by simp [h]), ih]
    · rw [if_pos (by simp; omega), if_pos (by simp [h]), List.map_cons, List.map_cons, ih]
/-- those of the first i that are over -/
def tlI (l : List (Int × Int)) (i : Nat) : List Value := ((l.take i).filter (fun x => x.2 == 0)).map (fun x => .int .i64 x.1)
theorem tlI_yes {l : List (Int × Int)} {i : Nat} {x : Int × Int} (h : l[i]? = some x) (h0 : x.2 = 0) : tlI l (i + 1) = tlI l i ++ [.int .i64 x.1] := by
  unfold tlI; rw [List.take_add_one, h]; simp [h0]
theorem tlI_no {l : List (Int × Int)} {i : Nat} {x : Int × Int} (h : l[i]? = some x) (h0 : x.2 ≠ 0) : tlI l (i + 1) = tlI l i := by
  unfold tlI; rw [List.take_add_one, h]; simp [h0]
theorem tlI_le (l : List (Int × Int)) (i : Nat) : (tlI l i).length ≤ l.length := by
  unfold tlI; rw [List.length_map]; exact Nat.le_trans (List.length_filter_le _ _) (by rw [List.length_take]; omega)
/-- at the head of a round of Tick -/
structure TickIAt (w3 : World) (b kb : Nat) (l : List (Int × Int)) (Rc : Obj) (i : Nat) (A : World) : Prop where
  at_ : AtK 41 3 1 [b] w3 b (kb + 1) (tlI l i).length (tlI l i) A
  dfr : A.heap[b + 2]? = some (.deferred (some []))
  rcd : A.heap[b + 3]? = some Rc
/-- what Tick hands back and leaves behind -/
def TickI (S : Foot) (c m now : Nat) (l : List (Int × Int)) (w : World) (e : Ending) (w' : World) : Prop :=
  ∃ A cp, e = .returned (.slice A (toldK l).length cp) ∧ Hid (w'.ownsRow w.heap.size 3 1 (.slice A (toldK l).length cp) (toldK l).length ((toldK l).map (fun k => .int .i64 k)) ∧ ∃ V', CIIn w' c V' m (now + 1) (tickK l) ∧ Moves S (cfoot c V') w w' ∧ ∀ k, (Value.slice A (toldK l).length cp).ownBlock = some k → ¬ cfoot c V' k)
set_option maxRecDepth 100000 in
set_option maxHeartbeats 1600000 in
theorem tickI_any {w : World} {c : Nat} {V : Value} {m now : Nat} {l : List (Int × Int)} (h : CIIn w c V m now l) (hn : now < 1000000000) :
    Calls Try.prog 20 #[ptr c] w (TickI (cfoot c V) c m now l w) := by
  obtain ⟨i0, hi, hz0, hz1, hz2⟩ := info_parts keyI_info
  obtain ⟨b, hb⟩ : ∃ b, w.heap.size = b := ⟨_, rfl⟩
  have HB := cover hb
  obtain ⟨d0, d1, d2⟩ := h.cells
  have hf1 := h.thaw 1
  have hcl := block_lt h.hd
  have HH := cover h
  have hVb : ∀ k, V.ownBlock = some k → k < b ∧ k ≠ c := fun k hk => ⟨by rw [← hb]; exact h.lt (.inr hk), fun e => h.apart (by rw [hk, e])⟩
  have hw1 : IntKind.i64.wrap ((now : Int) + 1) = (now : Int) + 1 := by have := h.nb; rw [IntKind.wrap_i64]; omega
  have HM := cover (And.intro h.mb h.len)
  have hmf : ∀ (fn : Fn) (first cap : Array Value) (w : World), (Instr.makeFunc fn first cap).run Try.prog w = .ok (.func fn first cap) w := fun _ _ _ _ => rfl
  clear h
  refine (callsIn_wide (n := 9)).1 ?_
  refine callsIn_of_wp_marks Try.func20 rfl trivial ?_ rfl
  simp only [Try.ntmps20, List.size_toArray, List.length_cons, List.length_nil, Nat.reduceAdd, Nat.reduceSub, Array.replicate_succ, Array.replicate_zero, List.push_toArray, List.append_toArray, List.nil_append, List.cons_append]
  gi_wp2_with fail
  refine ⟨trivial, (callsIn_wide.2 (eachI_any c _)).mono ?_⟩
  rintro e w3 ⟨rfl, hw3⟩
  obtain ⟨wA, hwA⟩ : ∃ wA, wA = w.setCell ⟨c, 1, none⟩ (.int .i64 ((now : Int) + 1)) := ⟨_, rfl⟩
  have hraw : CIRaw wA c V m (now + 1) (decK l) := by
    have h0 := HH.out
    refine ⟨by rw [hwA, set_block h0.hd]; rfl, by rw [ends_dec]; exact row_keeps h0.row (fun i hi => by rw [hwA]; exact set_other _ _ (hVb i hi).2), by rw [decK_len]; exact h0.len, fun x hx => ?_, h0.mb, by omega⟩
    unfold decK at hx
    obtain ⟨y, hy, rfl⟩ := List.mem_map.1 hx
    have := h0.ok.left y hy
    show 0 ≤ y.2 - 1 ∧ y.2 - 1 ≤ 10000
    omega
  have hsA : wA.heap.size = b := by rw [hwA, set_size]; exact hb
  have hmA : ∀ k, k ≠ c → wA.heap[k]? = w.heap[k]? := fun k hk => by rw [hwA]; exact set_other _ _ hk
  have hoA : wA.os = w.os ∧ wA.tape = w.tape ∧ wA.output = w.output := by rw [hwA]; exact ⟨rfl, rfl, rfl⟩
  rw [← hwA] at hw3
  rw [← hwA]
  have hsz : w3.heap.size = b + 2 := by rw [hw3]; simp [hsA]
  have ho3 : w3.heap[b]? = some (.cells #[.slice none 0 0] 41 (0, 0)) := by
    rw [hw3, Below.heap_alloc _ _ _ (by simp; omega), ← hsA]; exact heap_alloc_new wA _
  have hq3 : w3.cell? ⟨b + 1, 0, none⟩ = some (ptr c) := by
    have := heap_alloc_new (wA.alloc (.cells #[.slice none 0 0] 41)) (.cells #[ptr c] 30)
    simp only [World.size_alloc] at this
    rw [← hw3, hsA] at this
    rw [cell_of_row w3 (b + 1) 0 _ _ _ this]; rfl
  have hb3 : Below b wA w3 := by
    rw [hw3]; exact ((Below.refl _ _).alloc (by omega) _).alloc (by simp; omega) _
  have hraw3 : CIRaw w3 c V m (now + 1) (decK l) := hraw.below (by rw [hsA]; exact hb3)
  have hfun : (wA.alloc (.cells #[.slice none 0 0] 41)).heap.size = b + 1 := by simp [hsA]
  rw [hfun]
  have HA := cover (And.intro hmA (And.intro hoA hsA))
  have HR := cover hraw3
  have HV := cover hVb
  have hcb : c < b := by rw [← hb]; exact hcl
  clear hw3 hfun hraw hmA hoA hwA d0 d1 d2 hf1 hcl hVb hb
  gi_wp2_with fail
  have hlen : (decK l).length ≤ 100000 := by rw [decK_len]; exact HM.out.2
  have HI := cover hi
  refine range_outer rfl (by omega) (gf := 45) (ba := #[]) (lb := #[ptr (b + 1)]) rfl trivial (enters_of Try.func45 (by kernel_rfl) rfl)
    (fun A => ∃ kb, b + 4 ≤ kb ∧ AtK 41 3 1 [b] w3 b (kb + 1) (tlI (decK l) l.length).length (tlI (decK l) l.length) A) (fun _ _ => False) ?hit ?hdone ?hstop
  case hit =>
    intro fn Rc W2 hF hRc hW2
    rw [hsz] at hRc ⊢
    show CallsIn Fence.wide _ _ _ #[.func (.yield (b + 2 + 1)) #[] #[], ptr (b + 1)] _ _
    have hsz2 : W2.heap.size = b + 4 := by rw [hW2]; simp [hsz]
    have hb2 : Below w3.heap.size w3 W2 := by rw [hW2]; exact ((Below.refl _ _).alloc (Nat.le_refl _) _).alloc (by simp) _
    have hdf2 : W2.heap[b + 2]? = some (.deferred (some [])) := by
      rw [hW2, Below.heap_alloc _ _ _ (by simp; omega), ← hsz]; exact World.alloc_heap_new w3 _
    have hrc2 : W2.heap[b + 3]? = some (Rc .ready none) := by
      have := World.alloc_heap_new (w3.alloc (.deferred (some []))) (Rc .ready none)
      rw [World.size_alloc, hsz] at this; rw [hW2]; exact this
    have hraw2 : CIRaw W2 c V m (now + 1) (decK l) := HR.out.below hb2
    have hq2 : W2.cell? ⟨b + 1, 0, none⟩ = some (ptr c) := (hb2.cell (p := ⟨b + 1, 0, none⟩) (by show b + 1 < _; omega)).trans hq3
    have hat2 : ∀ kb, AtK 41 3 1 [b] w3 b (kb + 1) (tlI (decK l) 0).length (tlI (decK l) 0) W2 := fun kb => ⟨⟨_, (hb2.block b (by omega)).trans ho3, World.ownsRow_nil _ _ _ _⟩, Turned.of_below hb2⟩
    clear hW2
    refine (each1I_in (b + 2 + 1) hraw2 hq2 (fun kb i A => b + 4 ≤ kb ∧ TickIAt w3 b kb (decK l) (Rc .ready none) i A) (fun _ _ => False) ?hst ?h0 ?hY).mono ?_
    case hst => exact fun kb i A A' h hB => ⟨h.1, h.2.at_.below hB, (hB.block _ (block_lt h.2.dfr)).trans h.2.dfr, (hB.block _ (block_lt h.2.rcd)).trans h.2.rcd⟩
    case h0 => exact fun kb hkb => ⟨by omega, hat2 kb, hdf2, hrc2⟩
    case hY =>
      rw [hsz2]
      intro kb i x A hx hA hkb hkA mm
      replace hA := hA.2
      refine yield_any (k := 8) ?_ mm
      refine round_own Rc (fun c _ W' => c = true ∧ (b + 4 ≤ kb ∧ TickIAt w3 b kb (decK l) (Rc .ready none) (i + 1) W') ∧ A.heap.size ≤ W'.heap.size ∧ W'.heap[kb]? = A.heap[kb]?) hRc hF hA.rcd rfl ?walk ?conv
      case conv =>
        rintro c _ W' ⟨rfl, h1, h2⟩
        exact .inl ⟨rfl, h1, h2⟩
      case walk =>
        have hRcc : ∀ st pe, (Rc st pe).isCells = false := by subst hRc; intro st pe; rfl
        clear hRc
        obtain ⟨x1, x2⟩ := x
        gi_wp2
        refine ⟨hA.rcd, ?_⟩
        obtain ⟨A4, hA4⟩ : ∃ A4, A4 = A.putObj (b + 2 + 1) (Rc .busy none) := ⟨_, rfl⟩
        rw [← hA4]
        have hk4 : ∀ k, k ≠ b + 3 → A4.heap[k]? = A.heap[k]? := fun k hk => by rw [hA4, World.putObj_heap_other hk]
        have hs4 : A4.heap.size = A.heap.size := by rw [hA4]; simp
        have hr4 : A4.heap[b + 3]? = some (Rc .busy none) := by rw [hA4]; exact World.putObj_heap_same (by omega)
        have hT4 : Turned [b + 3] A A4 := by rw [hA4]; exact turned_put (Turned.refl _ _) (by simp) _
        have hat4 : AtK 41 3 1 [b] w3 b (kb + 1) (tlI (decK l) i).length (tlI (decK l) i) A4 := hA.at_.turned hT4 (by simp) (by simp; omega)
        have hdf4 : A4.heap[b + 2]? = some (.deferred (some [])) := hT4.at_ hA.dfr (by simp)
        obtain ⟨v, hbox, hown⟩ := hat4.row
        have hcb : A4.cell? ⟨b, 0, none⟩ = some v := by rw [cell_of_row _ _ _ _ _ _ hbox]; rfl
        have hfb : A4.frozen? ⟨b, 0, none⟩ = false := by simp [World.frozen?, hbox]
        have HS4 := cover hs4
        have HAT := cover hat4
        have HBX := cover (And.intro hbox hr4)
        have HD := cover hdf4
        have HK4 := cover hk4
        have HX := cover hx
        clear hs4 hA hA4 hat4 hT4 ho3 hbox hr4 hdf4 hk4 hb2 hdf2 hrc2 hraw2 hq2 hat2 hq3 hb3 hx
        by_cases hx0 : x2 = 0
        · have htl := tlI_yes HX.out hx0
          have hle := tlI_le (decK l) i
          obtain ⟨k0, hk0⟩ : ∃ k0, k0 = (tlI (decK l) i).length := ⟨_, rfl⟩
          rw [← hk0] at hown hle
          have HK0 := cover hk0
          have HTL := cover htl
          have hx2 : (x2 == 0) = true := by rw [beq_iff_eq]; exact hx0
          clear htl hk0 hx0
          gi_wp2_with (gi_at_builtin; refine wpListIn_append_own _ rfl _ _ 41 rfl (kb + 1) 3 i0 (.int .i64 0) 1 8 Try.underlying41 HI.out hz0 hz1 hz2 rfl (by decide) _ _ _ rfl (hown.alloc _) ⟨A4.heap.size, 0, none⟩ 1 1 [.int .i64 x1] rfl rfl ?c1 ?c2 ?c3 ?c4 ?c5 ?_)
          all_goals try (case c1 => exact cell_one_new _ _ _)
          case c2 => first | rfl | (intro u hu; simp at hu; subst hu; rfl)
          case c3 => unfold maxLen; omega
          case c4 => omega
          case c5 => (have := HS4.out; first | omega | (simp; omega))
          intro v' w5 hown' hgrow _
          obtain ⟨g', cap', rfl⟩ := ownsRow_succ hown'
          obtain ⟨hat5, hs5, hbx5, hk5⟩ := AtK.app HBX.out.1 hown HAT.out.tur (by simp) (by omega) (by omega) hown' hgrow
          have hcb5 : w5.cell? ⟨b, 0, none⟩ = some v := by rw [cell_of_row _ _ _ _ _ _ hbx5]; rfl
          have hfb5 : w5.frozen? ⟨b, 0, none⟩ = false := by simp [World.frozen?, hbx5]
          have e7 : (tlI (decK l) (i + 1)).length = k0 + 1 := by rw [HTL.out, List.length_append, HK0.out]; rfl
          have H5 := cover (show AtK 41 3 1 [b] w3 b (kb + 1) (tlI (decK l) (i + 1)).length (tlI (decK l) (i + 1)) _ ∧ _ ∧ _ from And.intro (by rw [e7, HTL.out]; exact hat5) (And.intro hs5 hk5))
          clear hat5 hs5 hk5 hown' hgrow hown hcb hfb hbx5 e7
          gi_wp2
          have hr5 := (H5.out.2.2 (b + 3) (by have := block_lt HBX.out.2; omega) (by omega) (by omega)).trans HBX.out.2
          refine ⟨hr5, rfl, ⟨hkb, H5.out.1.turned (turned_put (L := [b + 3]) (Turned.refl _ _) (by simp) _) (by simp) (by simp; omega), ?_, World.putObj_heap_same (block_lt hr5)⟩, ?_, ?_⟩
          · rw [World.putObj_heap_other (by omega), H5.out.2.2 (b + 2) (by have := block_lt HD.out; omega) (by omega) (by omega)]; exact HD.out
          · have := H5.out.2.1; have := HS4.out; simp only [World.putObj_size]; omega
          · rw [World.putObj_heap_other (by omega), H5.out.2.2 kb (by have := HS4.out; omega) (by omega) (by omega), HK4.out kb (by omega)]
        · have htl := cover (tlI_no HX.out hx0)
          have hx2 : (x2 == 0) = false := by rw [beq_eq_false_iff_ne]; exact hx0
          clear hown hcb hfb hx0
          gi_wp2
          refine ⟨HBX.out.2, rfl, ⟨hkb, by rw [htl.out]; exact HAT.out.turned (turned_put (L := [b + 3]) (Turned.refl _ _) (by simp) _) (by simp) (by simp; omega), ?_, World.putObj_heap_same (block_lt HBX.out.2)⟩, ?_, ?_⟩
          · rw [World.putObj_heap_other (by omega)]; exact HD.out
          · have := HS4.out; simp only [World.putObj_size]; omega
          · rw [World.putObj_heap_other (by omega), HK4.out kb (by omega)]
    rintro e W' ⟨⟨v, rfl⟩, ⟨kb, hkb, hA⟩ | ⟨i, h1⟩⟩
    · refine ⟨⟨v, rfl⟩, hA.dfr, .inl ⟨hA.rcd, kb, hkb, ?_⟩⟩
      have := hA.at_
      rwa [decK_len] at this
    · exact h1.elim
  case hdone =>
    intro o A hA hd
    rw [hsz] at hd ⊢
    obtain ⟨kb, hkb, hAt⟩ := hA
    obtain ⟨v, hbox, hown⟩ := hAt.row
    obtain ⟨A1, hA1⟩ : ∃ A1, A1 = A.putObj (b + 2 + 1) o := ⟨_, rfl⟩
    have hk1 : ∀ i, i < b → A1.heap[i]? = w3.heap[i]? := fun i hi => by
      rw [hA1, World.putObj_heap_other (by omega)]; exact hAt.tur.block i (by omega) (by simp; omega)
    have hcV : ∀ i, cfoot c V i → i < b := fun i hi => hi.elim (fun e => by rw [e]; exact hcb) (fun e => (HV.out i e).1)
    have hraw1 : CIRaw A1 c V m (now + 1) (decK l) := HR.out.keep fun i hi => hk1 i (hcV i hi)
    have hbx1 : A1.heap[b]? = some (.cells #[v] 41 (0, 0)) := by rw [hA1, World.putObj_heap_other (by omega)]; exact hbox
    have hd1 : A1.heap[b + 2]? = some (.deferred (some [])) := by rw [hA1, World.putObj_heap_other (by omega)]; exact hd
    have hs3 := hAt.tur.size
    have hs1 : A1.heap.size = A.heap.size := by rw [hA1]; simp
    have ho1 : A1.os = w3.os ∧ A1.tape = w3.tape ∧ A1.output = w3.output := by rw [hA1]; exact ⟨hAt.tur.os, hAt.tur.tape, hAt.tur.output⟩
    have hown1 : A1.ownsRow (kb + 1) 3 1 v (tlI (decK l) l.length).length (tlI (decK l) l.length) := ownK_turned (L := [b + 3]) hown (by rw [hA1]; exact turned_put (Turned.refl _ _) (by simp) _) (fun g hg hm => by have := (hown.lt g hg).1; simp at hm; omega)
    have htl : tlI (decK l) l.length = (toldK l).map (fun k => .int .i64 k) := by
      unfold tlI
      rw [List.take_of_length_le (by rw [decK_len]; exact Nat.le_refl _), ← told_dec, List.map_map]; rfl
    have htn : (tlI (decK l) l.length).length = (toldK l).length := by rw [htl, List.length_map]
    rw [htn, htl] at hown1
    obtain ⟨Av, cv, hv, _⟩ := own_shape hown1
    rw [← hA1]
    obtain ⟨AV, cpV, hV⟩ := hraw1.shape
    rw [decK_len] at hV
    have HR1 := cover hraw1
    have HO1 := cover (And.intro hk1 (And.intro ho1 (And.intro hown1 (And.intro hs1 hs3))))
    have hc1 := hraw1.cells.2.1
    have hc2 := hraw1.cells.2.2
    have hD := delI_any ((now : Int) + 1) (hV ▸ hraw1.row) (by rw [endsK_len, decK_len]) HM.out.2 hc1 (hV ▸ hraw1.apart)
    have HVV := cover hV
    have HCV := cover hcV
    rw [hV] at hc2
    clear hA1 hAt hbox hown hd hk1 hraw1 ho1 hown1 hs1 hs3 htl htn hcV hc1 HI hi hV
    have HBX := cover (And.intro hbx1 hd1)
    clear hbx1 hd1
    subst hv
    gi_wp2_with fail
    refine ⟨trivial, (callsIn_wide.2 hD).mono ?_⟩
    clear hD
    rintro e w5 ⟨V', rfl, ⟨A', c', hV'⟩, HO⟩
    have hmv : Moves (fun k => V.ownBlock = some k) (fun k => V'.ownBlock = some k) A1 w5 := by rw [HVV.out]; exact HO.out.2
    have hrw : OwnI 72 w5 V' (endsK (now + 1) (tickK l)) := by rw [← tick_rows]; exact HO.out.1
    obtain ⟨k1, k2⟩ := HR1.out.turn hmv hrw HH.out.ok.tick
    have hbn : V.ownBlock ≠ some b ∧ V.ownBlock ≠ some (b + 2) := ⟨fun e => by have := (HV.out b e).1; omega, fun e => by have := (HV.out _ e).1; omega⟩
    have hbx5 := hmv.at_ HBX.out.1 hbn.1
    have hd5 := hmv.at_ HBX.out.2 hbn.2
    have hcd5 := hmv.at_ HR1.out.hd HR1.out.apart
    have g1 : w5.frozen? ⟨c, 2, none⟩ = false := by simp [World.frozen?, hcd5]
    have g2 : w5.cell? ⟨c, 2, none⟩ = some (.slice AV l.length cpV) := by rw [cell_of_row _ _ _ _ _ _ hcd5, HVV.out]; rfl
    have g3 : (w5.setCell ⟨c, 2, none⟩ V').cell? ⟨b, 0, none⟩ = some (.slice Av (toldK l).length cv) := by
      rw [cell_of_row _ _ _ _ _ _ ((set_other _ _ (by omega)).trans hbx5)]; rfl
    have hd6 : (w5.setCell ⟨c, 2, none⟩ V').heap[b + 2]? = some (.deferred (some [])) := (set_other _ _ (by omega)).trans hd5
    have HF : Hid (TickI (cfoot c V) c m now l w (.returned (.slice Av (toldK l).length cv)) ((w5.setCell ⟨c, 2, none⟩ V').putObj (b + 2) (.deferred none))) := by
      obtain ⟨q1, ⟨q2, q3, q4⟩, q5, q6, q7⟩ := HO1.out
      have hsz5 := hmv.size
      have hlt : ∀ i, cfoot c V' i → i < b ∨ A1.heap.size ≤ i := fun i hi => (k2.own i hi).imp (HCV.out i) id
      refine cover ⟨Av, cv, rfl, cover ⟨?_, V', k1.keep (fun i hi => World.putObj_heap_other (fun e => by have := hlt i hi; have := block_lt HBX.out.2; omega)), ?_, ?_⟩⟩
      · rw [HB.out]
        refine own_base (base := kb + 1) ?_ (by omega)
        refine row_keeps q5 (fun i hi => ?_)
        have hi1 := q5.lt i hi
        have hn1 : i ≠ b + 2 := by omega
        have hn2 : i ≠ c := by omega
        rw [World.putObj_heap_other hn1, set_other _ _ hn2]
        exact hmv.block i hi1.2 (fun e => by have := (HV.out i e).1; omega)
      · obtain ⟨p1, ⟨p2, p3, p4⟩, p5⟩ := HA.out
        refine ⟨k2.os.trans (q2.trans (hb3.os.trans p2)), k2.tape.trans (q3.trans (hb3.tape.trans p3)), k2.output.trans (q4.trans (hb3.output.trans p4)), ?_, fun i hi hn' => ?_, fun i hi => ?_⟩
        · have := k2.size; simp only [World.putObj_size]; have := HB.out; omega
        · have hib : i < b := by rw [← HB.out]; exact hi
          have hic : i ≠ c := fun e => hn' (.inl e)
          rw [World.putObj_heap_other (by omega), k2.block i (by omega) hn', q1 i hib, hb3.block i hib, p1 i hic]
        · rcases k2.own i hi with h1 | h1
          · exact .inl h1
          · exact .inr (by have := HB.out; omega)
      · intro i hi hf
        have hi1 := q5.lt i hi
        have := hlt i hf
        omega
    subst hV'
    clear HO hmv hrw k1 k2 hbn hbx5 hd5 hcd5 HO1 HBX
    gi_wp2
    refine ⟨by simp, .inl ⟨_, _, rfl, run_takeDeferred hd6, ?_⟩⟩
    exact ⟨_, results_tmp (t := 2) rfl _ _ _, HF.out⟩
  case hstop =>
    rintro o c A h
    exact h.elim
end Go.Proofs.Ytodiocioldakjaa
