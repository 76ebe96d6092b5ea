/- slices.AppendSeq and slices.Collect of such a walk: a new row that holds each key once. -/
import Derived.WalkSmall
import Derived.Test.YtjkgiepfglimcaaKBox
import Derived.Test.YtjkgiepfglimcaaEKeys
import Derived.Test.YtjkgiepfglimcaaECmp
namespace Go.Proofs.Ytjkgiepfglimcaa
open Go.RowKit Go.Shelf
set_option linter.unusedVariables false
attribute [local go_sem] Oper.semAt_some

/-- keys, cell by cell -/
def flatE (ks : List EK) : List Value := ks.flatMap fun k => cellsE k
theorem flatE_app (ks : List EK) (k : EK) : flatE (ks ++ [k]) = flatE ks ++ cellsE k := by simp [flatE]
theorem flatE_len (ks : List EK) : (flatE ks).length = ks.length * 8 := by
  induction ks with
  | nil => rfl
  | cons k ks ih =>
    have : flatE (k :: ks) = cellsE k ++ flatE ks := rfl
    rw [this, List.length_append, ih, show (cellsE k).length = 8 from rfl, show (k :: ks).length = ks.length + 1 from rfl]
    omega
theorem tkey_info : (Try.prog.info? 28).map (fun i => (i.zero, i.size, i.bytes)) = some (some (.agg #[.int .u8 0, .int .u8 0, .int .u8 0, .int .u8 0, .int .u8 0, .int .u8 0, .int .i64 0, .int .i64 0]), 8, 24) := by kernel_rfl
theorem cells_new (w : World) (cs : List Value) (t : TypeId) : ∀ j u, cs[j]? = some u → (w.alloc (.cells cs.toArray t)).cell? ((⟨w.heap.size, 0, none⟩ : Addr).add j) = some u := by
  intro j u hj
  rw [add_off, Nat.zero_add, cell_of_row _ _ _ _ _ _ (heap_alloc_new _ _)]
  simpa using hj
theorem cellsE_one (k : EK) : ∀ u ∈ cellsE k, u.oneCell' = true := by
  intro u hu
  simp at hu
  rcases hu with rfl | rfl | rfl | rfl | rfl | rfl | rfl | rfl <;> rfl
/-- at the head of a round -/
structure AppAt (w1 : World) (b kb : Nat) (Rc : Obj) (ss : List EK) (A : World) : Prop where
  at_ : AtK 74 28 8 [b] w1 b (kb + 1) ss.length (flatE ss) A
  dfr : A.heap[b + 1]? = some (.deferred (some []))
  rcd : A.heap[b + 2]? = some Rc
/-- behind a round -/
def AppNext (w1 : World) (b kb mb : Nat) (Rc : Obj) (ss : List EK) (A A' : World) : Prop := AppAt w1 b kb Rc ss A' ∧ A.heap.size ≤ A'.heap.size ∧ A'.heap[kb]? = A.heap[kb]? ∧ A'.heap[mb]? = A.heap[mb]?
theorem grown_below {A A' : World} (h : A.grownBy A' none) : Below A.heap.size A A' := ⟨h.os, h.tape, h.output, h.size, fun k hk => h.block k hk (by simp)⟩
theorem grown_turned {A A' : World} {k : Nat} (h : A.grownBy A' (some k)) : Turned [k] A A' := ⟨h.os, h.tape, h.output, h.size, fun i hi hn => h.block i hi (fun e => hn (by cases e; simp))⟩
set_option maxRecDepth 100000 in
set_option maxHeartbeats 1600000 in
theorem appseq_any {w : World} {mb bq nn : Nat} {D0 : DU} (hown : w.ownsMap Try.prog 28 elI.R mb nn D0) (hq : w.cell? ⟨bq, 0, none⟩ = some (.map (some mb))) (hbig : Maps.size D0 ≤ 100000) :
    Calls Try.prog 40 #[.slice none 0 0, .func (.func 39) #[] #[ptr bq]] w fun e w' =>
      ∃ A c ss, e = .returned (.slice A ss.length c) ∧ Hid (GotE D0 (fun _ => false) ss ∧ w'.ownsRow w.heap.size 28 8 (.slice A ss.length c) ss.length (flatE ss) ∧ Below w.heap.size w w') := by
  obtain ⟨i0, hi, hz0, hz1, hz2⟩ := info_parts tkey_info
  obtain ⟨b, hb⟩ : ∃ b, w.heap.size = b := ⟨_, rfl⟩
  have hmb : mb < b := by rw [← hb]; exact hown.lt
  have hqb : bq < b := by rw [← hb]; exact cell_in hq
  rw [hb]
  have HB := cover hb
  refine (callsIn_wide (n := 9)).1 ?_
  refine callsIn_of_wp_marks Try.func40 rfl trivial ?_ rfl
  simp only [Try.ntmps40, List.size_toArray, List.length_cons, List.length_nil, Nat.reduceAdd, Nat.reduceSub, Array.replicate_succ, Array.replicate_zero, List.push_toArray, List.append_toArray, List.nil_append, List.cons_append]
  obtain ⟨w1, hw1⟩ : ∃ w1, w1 = w.alloc (.cells #[.slice none 0 0] 74) := ⟨_, rfl⟩
  have hb1 : Below b w w1 := by rw [hw1]; exact (Below.refl _ _).alloc (by omega) _
  have hs1 : w1.heap.size = b + 1 := by rw [hw1]; simp [hb]
  have ho1 : w1.heap[b]? = some (.cells #[.slice none 0 0] 74 (0, 0)) := by rw [hw1, ← hb]; exact heap_alloc_new _ _
  have hown1 : w1.ownsMap Try.prog 28 elI.R mb nn D0 := own_kept hown (hb1.block mb hmb)
  have hq1 : w1.cell? ⟨bq, 0, none⟩ = some (.map (some mb)) := (hb1.cell (p := ⟨bq, 0, none⟩) hqb).trans hq
  have HO := cover (And.intro hown1 hq1)
  have HI := cover hi
  clear hown hq hown1 hq1 hi
  gi_wp2_with fail
  rw [← hw1]
  clear hw1 hb
  have hfin : ∀ o A kb ss, b + 3 ≤ kb → GotE D0 (fun _ => false) ss → AtK 74 28 8 [b] w1 b (kb + 1) ss.length (flatE ss) A → A.heap[b + 1]? = some (.deferred (some [])) →
      ∃ v, (A.putObj (b + 1 + 1) o).cell? ⟨b, 0, none⟩ = some v ∧ (A.putObj (b + 1 + 1) o).heap[b + 1]? = some (.deferred (some [])) ∧
        Hid (∃ A' c ss', v = .slice A' ss'.length c ∧ Hid (GotE D0 (fun _ => false) ss' ∧ ((A.putObj (b + 1 + 1) o).putObj (b + 1) (.deferred none)).ownsRow b 28 8 (.slice A' ss'.length c) ss'.length (flatE ss') ∧ Below b w ((A.putObj (b + 1 + 1) o).putObj (b + 1) (.deferred none)))) := by
    intro o A kb ss hkb hG hA hd
    have hA2 := hA.turned (turned_put (L := [b + 2, b + 1]) (turned_put (Turned.refl _ _) (l := b + 1 + 1) (by simp) o) (l := b + 1) (by simp) (.deferred none)) (by simp) (by simp; omega)
    obtain ⟨v, h1, h2⟩ := hA2.row
    have h1' : (A.putObj (b + 1 + 1) o).heap[b]? = some (.cells #[v] 74 (0, 0)) := by rw [World.putObj_heap_other (by omega)] at h1; exact h1
    obtain ⟨A', c', rfl, _⟩ := own_shape h2
    refine ⟨_, by rw [cell_of_row _ _ _ _ _ _ h1']; rfl, (World.putObj_heap_other (by omega)).trans hd, cover ⟨A', c', ss, rfl, cover ⟨hG, own_base h2 (by omega), ?_⟩⟩⟩
    exact hA2.tur.below hb1 (by simp) (by omega)
  have HFIN := cover hfin
  clear hfin
  refine range_outer rfl (by omega) (gf := 39) (ba := #[]) (lb := #[ptr bq]) rfl trivial (enters_of Try.func39 (by kernel_rfl) rfl)
    (fun A => ∃ kb ss, b + 3 ≤ kb ∧ GotE D0 (fun _ => false) ss ∧ AtK 74 28 8 [b] w1 b (kb + 1) ss.length (flatE ss) A) (fun _ _ => False) ?hit ?hdone ?hstop
  case hit =>
    intro fn Rc W2 hF hRc hW2
    rw [hs1] at hRc ⊢
    show CallsIn Fence.wide _ _ _ #[.func (.yield (b + 1 + 1)) #[] #[], ptr bq] _ _
    have hsz2 : W2.heap.size = b + 3 := by rw [hW2]; simp [hs1]
    have hb2 : Below w1.heap.size w1 W2 := by rw [hW2]; exact ((Below.refl _ _).alloc (Nat.le_refl _) _).alloc (by simp) _
    have hdf2 : W2.heap[b + 1]? = some (.deferred (some [])) := by
      rw [hW2, Below.heap_alloc _ _ _ (by simp; omega), ← hs1]; exact World.alloc_heap_new w1 _
    have hrc2 : W2.heap[b + 2]? = some (Rc .ready none) := by
      have := World.alloc_heap_new (w1.alloc (.deferred (some []))) (Rc .ready none)
      rw [World.size_alloc, hs1] at this; rw [hW2]; exact this
    have hown2 : W2.ownsMap Try.prog 28 elI.R mb nn D0 := own_kept HO.out.1 (hb2.block mb (by omega))
    have hq2 : W2.cell? ⟨bq, 0, none⟩ = some (.map (some mb)) := (hb2.cell (p := ⟨bq, 0, none⟩) (by show bq < _; omega)).trans HO.out.2
    have hat2 : ∀ kb, AtK 74 28 8 [b] w1 b (kb + 1) 0 (flatE []) W2 := fun kb => ⟨⟨_, (hb2.block b (by omega)).trans ho1, World.ownsRow_nil _ _ _ _⟩, Turned.of_below hb2⟩
    clear hW2
    refine (keys1_in (b + 1 + 1) hown2 hq2 (fun kb ss A => b + 3 ≤ kb ∧ AppAt w1 b kb (Rc .ready none) ss A) ?hst ?hit ?h0 ?hY).mono ?_
    case hst =>
      intro kb ss A A' h hg
      have hB := grown_below hg
      exact ⟨h.1, h.2.at_.below hB, (hB.block _ (block_lt h.2.dfr)).trans h.2.dfr, (hB.block _ (block_lt h.2.rcd)).trans h.2.rcd⟩
    case hit =>
      intro kb ss A A' hkb h hg
      have hT := grown_turned hg
      exact ⟨h.1, h.2.at_.turned hT (by simp; omega) (by simp; omega), hT.at_ h.2.dfr (by simp; omega), hT.at_ h.2.rcd (by simp; omega)⟩
    case h0 => exact fun kb hkb => ⟨by omega, hat2 kb, hdf2, hrc2⟩
    case hY =>
      rw [hsz2]
      intro kb ss k A hk hA hkb hkA hmbA hlen mm
      replace hA := hA.2
      refine yield_any (k := 8) ?_ mm
      refine round_own Rc (fun c _ W' => c = true ∧ AppNext w1 b kb mb (Rc .ready none) (ss ++ [k]) A W') hRc hF hA.rcd rfl ?walk ?conv
      case conv =>
        rintro c _ W' ⟨rfl, h1, h2, h3, h4⟩
        exact ⟨rfl, ⟨by omega, h1⟩, h2, h3, h4⟩
      case walk =>
        clear hRc
        obtain ⟨A1, hA1⟩ : ∃ A1, A1 = A.alloc (.cells #[.int .u8 k.a0, .int .u8 k.a1, .int .u8 k.a2, .int .u8 k.a3, .int .u8 k.a4, .int .u8 k.a5, .int .i64 k.near, .int .i64 k.there_] 28) := ⟨_, rfl⟩
        have hbA1 : Below A.heap.size A A1 := by rw [hA1]; exact (Below.refl _ _).alloc (Nat.le_refl _) _
        have hcA1 : A1.heap[A.heap.size]? = some (.cells #[.int .u8 k.a0, .int .u8 k.a1, .int .u8 k.a2, .int .u8 k.a3, .int .u8 k.a4, .int .u8 k.a5, .int .i64 k.near, .int .i64 k.there_] 28 (0, 0)) := by rw [hA1]; exact heap_alloc_new _ _
        have hrc1 : A1.heap[b + 2]? = some (Rc .ready none) := (hbA1.block _ (block_lt hA.rcd)).trans hA.rcd
        gi_wp2
        rw [← hA1]
        refine ⟨hrc1, ?_⟩
        obtain ⟨A4, hA4⟩ : ∃ A4, A4 = A1.putObj (b + 1 + 1) (Rc .busy none) := ⟨_, rfl⟩
        rw [← hA4]
        have hlt2 := block_lt hA.rcd
        have hs4 : A4.heap.size = A1.heap.size := by rw [hA4]; simp
        have hs41 : A1.heap.size = A.heap.size + 1 := by rw [hA1]; simp
        have hr4 : A4.heap[b + 2]? = some (Rc .busy none) := by rw [hA4]; exact World.putObj_heap_same (block_lt hrc1)
        have hk4 : ∀ i, i ≠ b + 2 → A4.heap[i]? = A1.heap[i]? := fun i hi => by rw [hA4, World.putObj_heap_other hi]
        have hT4 : Turned [b + 2] A1 A4 := by rw [hA4]; exact turned_put (Turned.refl _ _) (by simp) _
        have hat4 : AtK 74 28 8 [b] w1 b (kb + 1) ss.length (flatE ss) A4 := (hA.at_.below hbA1).turned hT4 (by simp) (by simp; omega)
        have hdf4 : A4.heap[b + 1]? = some (.deferred (some [])) := (hk4 _ (by omega)).trans ((hbA1.block _ (block_lt hA.dfr)).trans hA.dfr)
        obtain ⟨c0, c1, c2, c3, c4, c5, c6, c7⟩ : CellsK A4 A.heap.size k := cells_of_key ((hk4 _ (by omega)).trans hcA1)
        obtain ⟨v, hbox, hownr⟩ := hat4.row
        have hcb : A4.cell? ⟨b, 0, none⟩ = some v := by rw [cell_of_row _ _ _ _ _ _ hbox]; rfl
        have hfb : A4.frozen? ⟨b, 0, none⟩ = false := by simp [World.frozen?, hbox]
        obtain ⟨Av, cv, rfl, _⟩ := own_shape hownr
        have HS4 : Hid (A4.heap.size = A.heap.size + 1) := cover (by omega)
        have HAT := cover hat4
        have HBX := cover (And.intro hbox hr4)
        have HD := cover hdf4
        have HK4 : Hid (∀ i, i < A.heap.size → i ≠ b + 2 → A4.heap[i]? = A.heap[i]?) := cover fun i hi hne => (hk4 i hne).trans (hbA1.block i hi)
        have HM : Hid (mb < b ∧ mb < A.heap.size ∧ b + 3 ≤ kb ∧ kb < A.heap.size) := cover ⟨by omega, by omega, by omega, hkA⟩
        have HSS : Hid (ss.length ≤ 100000) := cover (by omega)
        clear hkA hmbA hs4 hs41 hA hA1 hA4 hat4 hT4 ho1 hbox hr4 hdf4 hk4 hb2 hdf2 hrc2 hown2 hq2 hat2 hbA1 hcA1 hrc1 hlen
        gi_wp2_with (gi_at_builtin; refine wpListIn_append_own _ rfl _ _ 74 rfl (kb + 1) 28 i0 (.agg #[.int .u8 0, .int .u8 0, .int .u8 0, .int .u8 0, .int .u8 0, .int .u8 0, .int .i64 0, .int .i64 0]) 8 24 Try.underlying74 HI.out hz0 hz1 hz2 rfl (by decide) _ _ _ rfl (hownr.alloc _) ⟨A4.heap.size, 0, none⟩ 1 1 (cellsE k) rfl rfl ?c1 ?c2 ?c3 ?c4 ?c5 ?_)
        case c1 => exact cells_new A4 (cellsE k) _
        case c2 => exact cellsE_one k
        case c3 => have := HSS.out; unfold maxLen; omega
        case c4 => have := HSS.out; omega
        case c5 => have := HS4.out; have := HM.out; simp only [World.size_alloc]; omega
        intro v' w5 hown' hgrow _
        obtain ⟨g', cap', rfl⟩ := ownsRow_succ hown'
        obtain ⟨hat5, hs5, hbx5, hk5⟩ := AtK.app HBX.out.1 hownr HAT.out.tur (by simp) (by have := HM.out; omega) (by have := HM.out; omega) hown' hgrow
        have hcb5 : w5.cell? ⟨b, 0, none⟩ = some (.slice Av ss.length cv) := by rw [cell_of_row _ _ _ _ _ _ hbx5]; rfl
        have hfb5 : w5.frozen? ⟨b, 0, none⟩ = false := by simp [World.frozen?, hbx5]
        rw [← flatE_app, show ss.length + 1 = (ss ++ [k]).length by simp] at hat5
        have HAT5 := cover hat5
        have HS5 := cover hs5
        have HK5 := cover hk5
        clear hat5 hs5 hk5 hown' hgrow hownr hcb hfb hbx5
        gi_wp2
        have hr5 := (HK5.out (b + 2) (by have := block_lt HBX.out.2; omega) (by omega) (by have := HM.out; omega)).trans HBX.out.2
        refine ⟨hr5, rfl, ⟨?_, ?_, World.putObj_heap_same (block_lt hr5)⟩, ?_, ?_, ?_⟩
        · have := HAT5.out
          simp only [List.length_append, List.length_cons, List.length_nil, Nat.zero_add] at this ⊢
          exact this.turned (turned_put (L := [b + 2]) (Turned.refl _ _) (l := b + 1 + 1) (by simp) _) (by simp) (by have := HM.out; simp; omega)
        · rw [World.putObj_heap_other (by omega), HK5.out (b + 1) (by have := block_lt HD.out; omega) (by omega) (by have := HM.out; omega)]; exact HD.out
        · have := HS5.out; have := HS4.out; simp only [World.putObj_size]; omega
        · have := HM.out
          rw [World.putObj_heap_other (by omega), HK5.out kb (by have := HS4.out; omega) (by omega) (by omega), HK4.out kb (by omega) (by omega)]
        · have := HM.out
          rw [World.putObj_heap_other (by omega), HK5.out mb (by have := HS4.out; omega) (by omega) (by omega), HK4.out mb (by omega) (by omega)]
    rintro e W' ⟨⟨v, rfl⟩, kb, ss, hkb, hG, hkb3, hA⟩
    exact ⟨⟨v, rfl⟩, hA.dfr, .inl ⟨hA.rcd, kb, ss, hkb3, hG, hA.at_⟩⟩
  case hdone =>
    rintro o A ⟨kb, ss, hkb, hG, hA⟩ hd
    rw [hs1] at hd ⊢
    obtain ⟨v, hcv, hd2, HO⟩ := HFIN.out o A kb ss hkb hG hA hd
    clear hd hA
    gi_wp2
    refine ⟨by simp, .inl ⟨_, _, rfl, run_takeDeferred hd2, ?_⟩⟩
    obtain ⟨A', c, ss', rfl, hh⟩ := HO.out
    exact ⟨_, results_tmp (t := 4) rfl _ _ _, A', c, ss', rfl, hh⟩
  case hstop =>
    rintro o c A hA hd
    exact hA.elim
end Go.Proofs.Ytjkgiepfglimcaa
