/- What a walk tells: the law's own 'runs', the first n of it. -/
import Derived.WalkSmall
import Derived.Test.YtodiocioldakjaaKBox
import Derived.Test.YtodiocioldakjaaKIEach
namespace Go.Proofs.Ytodiocioldakjaa
open Go.RowKit Go.Shelf
set_option linter.unusedVariables false
attribute [local go_sem] Oper.semAt_some

theorem run_info : (Try.prog.info? 54).map (fun i => (i.zero, i.size, i.bytes)) = some (some (.agg #[.int .i64 0, .int .i64 0]), 2, 16) := by kernel_rfl
/-- what 'runs' hands back -/
def RunsOut (ys : List (Int × Int)) (w : World) (e : Ending) (w' : World) : Prop :=
  ∃ A c, e = .returned (.slice A ys.length c) ∧ Hid (OwnI 54 w' (.slice A ys.length c) ys ∧ Below w.heap.size w w')
/-- at the head of a round of 'runs' -/
structure RunsAt (w3 : World) (b kb k : Nat) (l : List (Int × Int)) (Rc : Obj) (i : Nat) (A : World) : Prop where
  at_ : AtK 33 54 2 [b + 1] w3 (b + 1) (kb + 1) i (flatI (l.take i)) A
  dfr : A.heap[b + 3]? = some (.deferred (some []))
  rcd : A.heap[b + 4]? = some Rc
  le : i ≤ k
set_option maxRecDepth 100000 in
set_option maxHeartbeats 1600000 in
theorem runs_any {w : World} {c : Nat} {V : Value} {m now : Nat} {l : List (Int × Int)} (h : CIIn w c V m now l) (n : Int) (k : Nat) (hk : k = if 0 ≤ n ∧ n < l.length then n.toNat else l.length) :
    Calls Try.prog 27 #[ptr c, .int .i64 n] w (RunsOut (l.take k) w) := by
  obtain ⟨i0, hi, hz0, hz1, hz2⟩ := info_parts run_info
  have HK := cover hk
  have hkl : k ≤ l.length := by rw [hk]; split <;> omega
  clear hk
  obtain ⟨b, hb⟩ : ∃ b, w.heap.size = b := ⟨_, rfl⟩
  have HB := cover hb
  have hlen := h.len
  refine (callsIn_wide (n := 9)).1 ?_
  refine callsIn_of_wp_marks Try.func27 rfl trivial ?_ rfl
  simp only [Try.ntmps27, List.size_toArray, List.length_cons, List.length_nil, Nat.reduceAdd, Nat.reduceSub, Array.replicate_succ, Array.replicate_zero, List.push_toArray, List.append_toArray, List.nil_append, List.cons_append]
  gi_wp2_with fail
  refine ⟨trivial, (callsIn_wide.2 (eachI_any c _)).mono ?_⟩
  rintro e w3 ⟨rfl, hw3⟩
  have hsz : w3.heap.size = b + 3 := by rw [hw3]; simp [hb]
  have hn3 : w3.heap[b]? = some (.cells #[.int .i64 n] 3 (0, 0)) := by
    rw [hw3, Below.heap_alloc _ _ _ (by simp; omega), Below.heap_alloc _ _ _ (by simp; omega), ← hb]; exact heap_alloc_new w _
  have ho3 : w3.heap[b + 1]? = some (.cells #[.slice none 0 0] 33 (0, 0)) := by
    rw [hw3, Below.heap_alloc _ _ _ (by simp; omega), ← hb]
    have := heap_alloc_new (w.alloc (.cells #[.int .i64 n] 3)) (.cells #[.slice none 0 0] 33)
    rw [World.size_alloc] at this; exact this
  have hq3 : w3.cell? ⟨b + 2, 0, none⟩ = some (ptr c) := by
    have := heap_alloc_new ((w.alloc (.cells #[.int .i64 n] 3)).alloc (.cells #[.slice none 0 0] 33)) (.cells #[ptr c] 30)
    simp only [World.size_alloc] at this
    rw [← hw3] at this
    rw [cell_of_row w3 (b + 2) 0 _ _ _ (by rw [← hb]; exact this)]; rfl
  have hb3 : Below b w w3 := by
    rw [hw3]; exact (((Below.refl _ _).alloc (by omega) _).alloc (by simp; omega) _).alloc (by simp; omega) _
  have hQ3 : CIRaw w3 c V m now l := h.raw.below (by rw [hb]; exact hb3)
  have hfun : ((w.alloc (.cells #[.int .i64 n] 3)).alloc (.cells #[.slice none 0 0] 33)).heap.size = b + 2 := by simp [hb]
  rw [hfun]
  have HQ := cover hQ3
  clear hw3 hfun h hb hQ3
  gi_wp2_with fail
  have hend : ∀ i, i < l.length → i ≤ k → ((i : Int) = n ↔ i = k) := fun i h1 h2 => by
    have := HK.out
    split at this <;> omega
  have HEND := cover hend
  clear hend
  have HI := cover hi
  have hfin : ∀ o A, (∃ kb, b + 5 ≤ kb ∧ AtK 33 54 2 [b + 1] w3 (b + 1) (kb + 1) k (flatI (l.take k)) A) → A.heap[b + 3]? = some (.deferred (some [])) → ∃ v, (A.putObj (b + 3 + 1) o).cell? ⟨b + 1, 0, none⟩ = some v ∧ (A.putObj (b + 3 + 1) o).heap[b + 3]? = some (.deferred (some [])) ∧
      Hid (RunsOut (l.take k) w (.returned v) ((A.putObj (b + 3 + 1) o).putObj (b + 3) (.deferred none))) := by
    rintro o A ⟨kb, hkb, hA⟩ hd
    have hA2 := hA.turned (turned_put (L := [b + 4, b + 3]) (turned_put (Turned.refl _ _) (l := b + 3 + 1) (by simp) o) (l := b + 3) (by simp) (.deferred none)) (by simp) (by simp; omega)
    have hA1 := hA.turned (turned_put (L := [b + 4, b + 3]) (Turned.refl _ _) (l := b + 3 + 1) (by simp) o) (by simp) (by simp; omega)
    obtain ⟨v, h1, h2⟩ := hA2.row
    have h1' : (A.putObj (b + 3 + 1) o).heap[b + 1]? = some (.cells #[v] 33 (0, 0)) := by rw [World.putObj_heap_other (by omega)] at h1; exact h1
    obtain ⟨A', c', rfl, _⟩ := own_shape h2
    have hkk : (l.take k).length = k := by rw [List.length_take]; omega
    refine ⟨_, by rw [cell_of_row _ _ _ _ _ _ h1']; rfl, (World.putObj_heap_other (by omega)).trans hd, cover ⟨A', c', by rw [hkk]; rfl, cover ⟨?_, ?_⟩⟩⟩
    · rw [hkk]
      have h3 := own_base (base' := 0) h2 (Nat.zero_le _)
      show World.ownsRow _ 0 _ 2 _ (l.take k).length _
      rw [hkk]; exact h3
    · rw [HB.out]
      exact hA2.tur.below hb3 (by simp) (by omega)
  have HFIN := cover hfin
  clear hfin
  refine range_outer rfl (by omega) (gf := 45) (ba := #[]) (lb := #[ptr (b + 2)]) rfl trivial (enters_of Try.func45 (by kernel_rfl) rfl)
    (fun A => ∃ kb, b + 5 ≤ kb ∧ AtK 33 54 2 [b + 1] w3 (b + 1) (kb + 1) k (flatI (l.take k)) A) (fun cd A => cd = .exit 0 ∧ ∃ kb, b + 5 ≤ kb ∧ AtK 33 54 2 [b + 1] w3 (b + 1) (kb + 1) k (flatI (l.take k)) A) ?hit ?hdone ?hstop
  case hit =>
    intro fn Rc W2 hF hRc hW2
    rw [hsz] at hRc ⊢
    show CallsIn Fence.wide _ _ _ #[.func (.yield (b + 3 + 1)) #[] #[], ptr (b + 2)] _ _
    have hsz2 : W2.heap.size = b + 5 := by rw [hW2]; simp [hsz]
    have hb2 : Below w3.heap.size w3 W2 := by rw [hW2]; exact ((Below.refl _ _).alloc (Nat.le_refl _) _).alloc (by simp) _
    have hdf2 : W2.heap[b + 3]? = some (.deferred (some [])) := by
      rw [hW2, Below.heap_alloc _ _ _ (by simp; omega), ← hsz]; exact World.alloc_heap_new w3 _
    have hrc2 : W2.heap[b + 4]? = some (Rc .ready none) := by
      have := World.alloc_heap_new (w3.alloc (.deferred (some []))) (Rc .ready none)
      rw [World.size_alloc, hsz] at this; rw [hW2]; exact this
    have hQ2 : CIRaw W2 c V m now l := HQ.out.below hb2
    have hq2 : W2.cell? ⟨b + 2, 0, none⟩ = some (ptr c) := (hb2.cell (p := ⟨b + 2, 0, none⟩) (by show b + 2 < _; omega)).trans hq3
    have hat2 : ∀ kb, AtK 33 54 2 [b + 1] w3 (b + 1) (kb + 1) 0 (flatI (l.take 0)) W2 := fun kb => ⟨⟨_, (hb2.block (b + 1) (by omega)).trans ho3, World.ownsRow_nil _ _ _ _⟩, Turned.of_below hb2⟩
    clear hW2
    refine (each1I_in (b + 3 + 1) hQ2 hq2 (fun kb i A => b + 5 ≤ kb ∧ RunsAt w3 b kb k l (Rc .ready none) i A)
      (fun i A => (∃ kb, b + 5 ≤ kb ∧ AtK 33 54 2 [b + 1] w3 (b + 1) (kb + 1) k (flatI (l.take k)) A) ∧ A.heap[b + 3]? = some (.deferred (some [])) ∧ A.heap[b + 4]? = some (Rc .done (some (.exit 0)))) ?hst ?h0 ?hY).mono ?_
    case hst => exact fun kb i A A' h hB => ⟨h.1, h.2.at_.below hB, (hB.block _ (block_lt h.2.dfr)).trans h.2.dfr, (hB.block _ (block_lt h.2.rcd)).trans h.2.rcd, h.2.le⟩
    case h0 => exact fun kb hkb => ⟨by omega, hat2 kb, hdf2, hrc2, Nat.zero_le _⟩
    case hY =>
      rw [hsz2]
      intro kb i x A hx hA hkb hkA mm
      replace hA := hA.2
      refine yield_any (k := 8) ?_ mm
      refine round_own Rc (fun c _ W' => (c = true ∧ (b + 5 ≤ kb ∧ RunsAt w3 b kb k l (Rc .ready none) (i + 1) W') ∧ A.heap.size ≤ W'.heap.size ∧ W'.heap[kb]? = A.heap[kb]?) ∨
        (c = false ∧ ((∃ kb, b + 5 ≤ kb ∧ AtK 33 54 2 [b + 1] w3 (b + 1) (kb + 1) k (flatI (l.take k)) W') ∧ W'.heap[b + 3]? = some (.deferred (some [])) ∧ W'.heap[b + 4]? = some (Rc .done (some (.exit 0)))))) hRc hF hA.rcd rfl ?walk ?conv
      case conv =>
        rintro c _ W' (⟨rfl, h1, h2⟩ | ⟨rfl, h1⟩)
        · exact .inl ⟨rfl, h1, h2⟩
        · exact .inr ⟨rfl, h1⟩
      case walk =>
        clear hRc
        have hil : i < l.length := (List.getElem?_eq_some_iff.1 hx).1
        obtain ⟨x1, x2⟩ := x
        gi_wp2
        refine ⟨hA.rcd, ?_⟩
        obtain ⟨A4, hA4⟩ : ∃ A4, A4 = A.putObj (b + 3 + 1) (Rc .busy none) := ⟨_, rfl⟩
        rw [← hA4]
        have hk4 : ∀ k, k ≠ b + 4 → A4.heap[k]? = A.heap[k]? := fun k hk => by rw [hA4, World.putObj_heap_other hk]
        have hs4 : A4.heap.size = A.heap.size := by rw [hA4]; simp
        have hr4 : A4.heap[b + 4]? = some (Rc .busy none) := by rw [hA4]; exact World.putObj_heap_same (by omega)
        have hT4 : Turned [b + 4] A A4 := by rw [hA4]; exact turned_put (Turned.refl _ _) (by simp) _
        have hat4 : AtK 33 54 2 [b + 1] w3 (b + 1) (kb + 1) i (flatI (l.take i)) A4 := hA.at_.turned hT4 (by simp) (by simp; omega)
        have hdf4 : A4.heap[b + 3]? = some (.deferred (some [])) := hT4.at_ hA.dfr (by simp)
        have hn4 : A4.heap[b]? = some (.cells #[.int .i64 n] 3 (0, 0)) := hat4.tur.at_ hn3 (by simp)
        obtain ⟨v, hbox, hown⟩ := hat4.row
        have hcn : A4.cell? ⟨b, 0, none⟩ = some (.int .i64 n) := by rw [cell_of_row _ _ _ _ _ _ hn4]; rfl
        have hcb : A4.cell? ⟨b + 1, 0, none⟩ = some v := by rw [cell_of_row _ _ _ _ _ _ hbox]; rfl
        have hfb : A4.frozen? ⟨b + 1, 0, none⟩ = false := by simp [World.frozen?, hbox]
        have hle := hA.le
        obtain ⟨Av, cv, rfl, _⟩ := own_shape hown
        have HS4 := cover hs4
        have HAT := cover hat4
        have HBX := cover (And.intro hbox hr4)
        have HD := cover hdf4
        have HK4 := cover hk4
        have HX := cover hx
        clear hs4 hA hA4 hat4 hT4 hn3 ho3 hn4 hbox hr4 hdf4 hk4 hb2 hdf2 hrc2 hQ2 hq2 hat2 hq3 hb3 hx
        by_cases hik : i = k
        · have hni : (i : Int) = n := (HEND.out i hil hle).2 hik
          have HFin : Hid (A4.heap[b + 4]? = some (Rc .busy none) ∧ (∃ kb, b + 5 ≤ kb ∧ AtK 33 54 2 [b + 1] w3 (b + 1) (kb + 1) k (flatI (l.take k)) (A4.putObj (b + 3 + 1) (Rc .done (some (.exit 0))))) ∧ (A4.putObj (b + 3 + 1) (Rc .done (some (.exit 0)))).heap[b + 3]? = some (.deferred (some [])) ∧ (A4.putObj (b + 3 + 1) (Rc .done (some (.exit 0)))).heap[b + 4]? = some (Rc .done (some (.exit 0)))) := by
            have h0 := HAT.out
            rw [hik] at h0
            exact cover ⟨HBX.out.2, ⟨kb, by omega, h0.turned (turned_put (L := [b + 4]) (Turned.refl _ _) (by simp) _) (by simp) (by simp; omega)⟩, (World.putObj_heap_other (by omega)).trans HD.out, World.putObj_heap_same (block_lt HBX.out.2)⟩
          clear HAT HBX HD HK4 hown hfb
          gi_wp2
          exact ⟨HFin.out.1, .inr ⟨rfl, HFin.out.2⟩⟩
        · have hni : ¬ (i : Int) = n := fun e => hik ((HEND.out i hil hle).1 e)
          gi_wp2_with (gi_at_builtin; refine wpListIn_append_own _ rfl _ _ 33 rfl (kb + 1) 54 i0 (.agg #[.int .i64 0, .int .i64 0]) 2 16 Try.underlying33 HI.out hz0 hz1 hz2 rfl (by decide) _ _ _ rfl (hown.alloc _) ⟨A4.heap.size, 0, none⟩ 1 1 [.int .i64 x1, .int .i64 x2] rfl rfl ?c1 ?c2 ?c3 ?c4 ?c5 ?_)
          all_goals try (case c1 => exact cell_two_new _ _ _ _)
          case c2 => first | rfl | (intro u hu; simp at hu; rcases hu with rfl | rfl <;> rfl)
          case c3 => unfold maxLen; omega
          case c4 => omega
          case c5 => (have := HS4.out; first | omega | (simp; omega))
          intro v' w5 hown' hgrow _
          obtain ⟨g', cap', rfl⟩ := ownsRow_succ hown'
          obtain ⟨hat5, hs5, hbx5, hk5⟩ := AtK.app HBX.out.1 hown HAT.out.tur (by simp) (by omega) (by omega) hown' hgrow
          have hcb5 : w5.cell? ⟨b + 1, 0, none⟩ = some (.slice Av i cv) := by rw [cell_of_row _ _ _ _ _ _ hbx5]; rfl
          have hfb5 : w5.frozen? ⟨b + 1, 0, none⟩ = false := by simp [World.frozen?, hbx5]
          have e7 : flatI (l.take i) ++ [.int .i64 x1, .int .i64 x2] = flatI (l.take (i + 1)) := by
            rw [List.take_add_one, HX.out, flatI_app]; rfl
          rw [e7] at hat5
          have H5 := cover (And.intro hat5 (And.intro hs5 hk5))
          clear hat5 hs5 hk5 hown' hgrow hown hcb hfb hbx5 e7
          gi_wp2
          have hr5 := (H5.out.2.2 (b + 4) (by have := block_lt HBX.out.2; omega) (by omega) (by omega)).trans HBX.out.2
          refine ⟨hr5, .inl ⟨rfl, ⟨hkb, H5.out.1.turned (turned_put (L := [b + 4]) (Turned.refl _ _) (by simp) _) (by simp) (by simp; omega), ?_, World.putObj_heap_same (block_lt hr5), by omega⟩, ?_, ?_⟩⟩
          · rw [World.putObj_heap_other (by omega), H5.out.2.2 (b + 3) (by have := block_lt HD.out; omega) (by omega) (by omega)]; exact HD.out
          · have := H5.out.2.1; have := HS4.out; simp only [World.putObj_size]; omega
          · rw [World.putObj_heap_other (by omega), H5.out.2.2 kb (by have := HS4.out; omega) (by omega) (by omega), HK4.out kb (by omega)]
    rintro e W' ⟨⟨v, rfl⟩, ⟨kb, hkb, hA⟩ | ⟨i, h1, h2, h3⟩⟩
    · refine ⟨⟨v, rfl⟩, hA.dfr, .inl ⟨hA.rcd, kb, hkb, ?_⟩⟩
      have hle := hA.le
      have := hA.at_
      rwa [show l.length = k by omega] at this
    · exact ⟨⟨v, rfl⟩, h2, .inr ⟨_, h3, rfl, h1⟩⟩
  case hdone =>
    intro o A hA hd
    rw [hsz] at hd ⊢
    obtain ⟨v, hcv, hd2, HO⟩ := HFIN.out o A hA hd
    clear hd hA
    gi_wp2
    refine ⟨by simp, .inl ⟨_, _, rfl, run_takeDeferred hd2, ?_⟩⟩
    exact ⟨_, results_tmp (t := 4) rfl _ _ _, HO.out⟩
  case hstop =>
    rintro o c A ⟨rfl, hA⟩ hd
    rw [hsz] at hd ⊢
    obtain ⟨v, hcv, hd2, HO⟩ := HFIN.out o A hA hd
    clear hd hA
    gi_wp2
    refine ⟨by simp, .inl ⟨_, _, rfl, run_takeDeferred hd2, ?_⟩⟩
    exact ⟨_, results_tmp (t := 4) rfl _ _ _, HO.out⟩
end Go.Proofs.Ytodiocioldakjaa
