/- What a walk tells: the law's own 'walk', the first n of it. -/
import Derived.WalkSmall
import Derived.Test.YtjkgiepfglimcaaKBox
import Derived.Test.YtjkgiepfglimcaaEEach
namespace Go.Proofs.Ytjkgiepfglimcaa
open Go.RowKit Go.Shelf
set_option linter.unusedVariables false
attribute [local go_sem] Oper.semAt_some

/-- rows of a key and what it has, cell by cell -/
abbrev cellsR (x : EK × Int) : List Value := [.int .u8 x.1.a0, .int .u8 x.1.a1, .int .u8 x.1.a2, .int .u8 x.1.a3, .int .u8 x.1.a4, .int .u8 x.1.a5, .int .i64 x.1.near, .int .i64 x.1.there_, .int .i64 x.2]
def flatR (l : List (EK × Int)) : List Value := l.flatMap fun x => cellsR x
theorem flatR_app (l : List (EK × Int)) (x : EK × Int) : flatR (l ++ [x]) = flatR l ++ cellsR x := by simp [flatR]
theorem flatR_len (l : List (EK × Int)) : (flatR l).length = l.length * 9 := by
  induction l with
  | nil => rfl
  | cons k l ih =>
    have : flatR (k :: l) = cellsR k ++ flatR l := rfl
    rw [this, List.length_append, ih, show (cellsR k).length = 9 from rfl, show (k :: l).length = l.length + 1 from rfl]
    omega
theorem flatR_get : ∀ (l : List (EK × Int)) (i j : Nat), j < 9 → (flatR l)[i * 9 + j]? = (l[i]?).bind fun k => (cellsR k)[j]?
  | [], i, j, _ => by simp [flatR]
  | k :: ks, 0, j, hj => by
    have e : flatR (k :: ks) = cellsR k ++ flatR ks := rfl
    rw [e, List.getElem?_append_left (by show 0 * 9 + j < 9; omega)]
    simp
  | k :: ks, i + 1, j, hj => by
    have e : flatR (k :: ks) = cellsR k ++ flatR ks := rfl
    have hl : (cellsR k).length = 9 := rfl
    rw [e, List.getElem?_append_right (by rw [hl]; omega), hl, show (i + 1) * 9 + j - 9 = i * 9 + j by omega, flatR_get ks i j hj]
    simp
theorem row_info : (Try.prog.info? 44).map (fun i => (i.zero, i.size, i.bytes)) = some (some (.agg #[.int .u8 0, .int .u8 0, .int .u8 0, .int .u8 0, .int .u8 0, .int .u8 0, .int .i64 0, .int .i64 0, .int .i64 0]), 9, 32) := by kernel_rfl
theorem cellsR_one (x : EK × Int) : ∀ u ∈ cellsR x, u.oneCell' = true := by
  intro u hu
  simp at hu
  rcases hu with rfl | rfl | rfl | rfl | rfl | rfl | rfl | rfl | rfl <;> rfl
/-- what 'walk' hands back -/
def WalkOut (ys : List (EK × Int)) (w : World) (e : Ending) (w' : World) : Prop :=
  ∃ A c, e = .returned (.slice A ys.length c) ∧ Hid (w'.ownsRow w.heap.size 44 9 (.slice A ys.length c) ys.length (flatR ys) ∧ Below w.heap.size w w')
/-- a list of such rows that the call has gathered, in its variable at block o -/
abbrev GatR (L : List Nat) (w3 : World) (o K i : Nat) (l : List (EK × Int)) (A : World) : Prop := AtK 39 44 9 L w3 o K i (flatR (l.take i)) A
/-- at the head of a round of 'walk' -/
structure WalkAt (w3 : World) (b K k : Nat) (l : List (EK × Int)) (Rc : Obj) (i : Nat) (A : World) : Prop where
  at_ : GatR [b + 1] w3 (b + 1) K i l A
  dfr : A.heap[b + 3]? = some (.deferred (some []))
  rcd : A.heap[b + 4]? = some Rc
  le : i ≤ k
  kb : b + 5 ≤ K
/-- behind the last round -/
def WalkX (w3 : World) (b k : Nat) (l : List (EK × Int)) (Rc : Obj) (A : World) : Prop := (∃ K, b + 5 ≤ K ∧ GatR [b + 1] w3 (b + 1) K k l A) ∧ A.heap[b + 3]? = some (.deferred (some [])) ∧ A.heap[b + 4]? = some Rc
/-- behind a round -/
def WalkR (w3 : World) (b K k v : Nat) (l : List (EK × Int)) (Rc Rd : Obj) (i : Nat) (A : World) (c : Bool) (A' : World) : Prop :=
  ((c = true ∧ WalkAt w3 b K k l Rc (i + 1) A' ∧ A.heap.size ≤ A'.heap.size) ∨ (c = false ∧ WalkX w3 b k l Rd A')) ∧ ∀ j, b + 5 ≤ j → (j < K ∨ j = v) → A'.heap[j]? = A.heap[j]?
set_option maxRecDepth 100000 in
set_option maxHeartbeats 1600000 in
theorem walk_any {w : World} {t mb m : Nat} {l : List (EK × Int)} (h : TabI w t mb m l) (n : Int) (k : Nat) (hk : k = if 0 ≤ n ∧ n < l.length then n.toNat else l.length) :
    Calls Try.prog 23 #[ptr t, .int .i64 n] w (WalkOut (l.take k) w) := by
  obtain ⟨i0, hi, hz0, hz1, hz2⟩ := info_parts row_info
  have HK := cover hk
  have hkl : k ≤ l.length := by rw [hk]; split <;> omega
  clear hk
  obtain ⟨b, hb⟩ : ∃ b, w.heap.size = b := ⟨_, rfl⟩
  have HB := cover hb
  have hlen : l.length ≤ 1000 := Nat.le_trans h.most h.room
  refine (callsIn_wide (n := 9)).1 ?_
  refine callsIn_of_wp_marks Try.func23 rfl trivial ?_ rfl
  simp only [Try.ntmps23, List.size_toArray, List.length_cons, List.length_nil, Nat.reduceAdd, Nat.reduceSub, Array.replicate_succ, Array.replicate_zero, List.push_toArray, List.append_toArray, List.nil_append, List.cons_append]
  gi_wp2_with fail
  refine ⟨trivial, (callsIn_wide.2 (each_any t _)).mono ?_⟩
  rintro e w3 ⟨rfl, hw3⟩
  have hsz : w3.heap.size = b + 3 := by rw [hw3]; simp [hb]
  have hn3 : w3.heap[b]? = some (.cells #[.int .i64 n] 3 (0, 0)) := by
    rw [hw3, Below.heap_alloc _ _ _ (by simp; omega), Below.heap_alloc _ _ _ (by simp; omega), ← hb]; exact heap_alloc_new w _
  have ho3 : w3.heap[b + 1]? = some (.cells #[.slice none 0 0] 39 (0, 0)) := by
    rw [hw3, Below.heap_alloc _ _ _ (by simp; omega), ← hb]
    have := heap_alloc_new (w.alloc (.cells #[.int .i64 n] 3)) (.cells #[.slice none 0 0] 39)
    rw [World.size_alloc] at this; exact this
  have hq3 : w3.cell? ⟨b + 2, 0, none⟩ = some (ptr t) := by
    have := heap_alloc_new ((w.alloc (.cells #[.int .i64 n] 3)).alloc (.cells #[.slice none 0 0] 39)) (.cells #[ptr t] 37)
    simp only [World.size_alloc] at this
    rw [← hw3] at this
    rw [cell_of_row w3 (b + 2) 0 _ _ _ (by rw [← hb]; exact this)]; rfl
  have hb3 : Below b w w3 := by
    rw [hw3]; exact (((Below.refl _ _).alloc (by omega) _).alloc (by simp; omega) _).alloc (by simp; omega) _
  have hQ3 : TabI w3 t mb m l := h.below (by rw [hb]; exact hb3)
  have hfun : ((w.alloc (.cells #[.int .i64 n] 3)).alloc (.cells #[.slice none 0 0] 39)).heap.size = b + 2 := by simp [hb]
  rw [hfun]
  have HQ := cover hQ3
  clear hw3 hfun h hb hQ3
  gi_wp2_with fail
  have hend : ∀ i, i < l.length → i ≤ k → ((i : Int) = n ↔ i = k) := fun i h1 h2 => by
    have := HK.out
    split at this <;> omega
  have HEND := cover hend
  clear hend
  have HI := cover hi
  have hfin : ∀ o A, (∃ K, b + 5 ≤ K ∧ GatR [b + 1] w3 (b + 1) K k l A) → A.heap[b + 3]? = some (.deferred (some [])) → ∃ v, (A.putObj (b + 3 + 1) o).cell? ⟨b + 1, 0, none⟩ = some v ∧ (A.putObj (b + 3 + 1) o).heap[b + 3]? = some (.deferred (some [])) ∧
      Hid (WalkOut (l.take k) w (.returned v) ((A.putObj (b + 3 + 1) o).putObj (b + 3) (.deferred none))) := by
    rintro o A ⟨K, hK, hA⟩ hd
    have hA2 := hA.turned (turned_put (L := [b + 4, b + 3]) (turned_put (Turned.refl _ _) (l := b + 3 + 1) (by simp) o) (l := b + 3) (by simp) (.deferred none)) (by simp) (by simp; omega)
    obtain ⟨v, h1, h2⟩ := hA2.row
    have h1' : (A.putObj (b + 3 + 1) o).heap[b + 1]? = some (.cells #[v] 39 (0, 0)) := by rw [World.putObj_heap_other (by omega)] at h1; exact h1
    obtain ⟨A', c', rfl, _⟩ := own_shape h2
    have hkk : (l.take k).length = k := by rw [List.length_take]; omega
    refine ⟨_, by rw [cell_of_row _ _ _ _ _ _ h1']; rfl, (World.putObj_heap_other (by omega)).trans hd, cover ⟨A', c', by rw [hkk]; rfl, cover ⟨?_, ?_⟩⟩⟩
    · rw [hkk]
      exact own_base h2 (by rw [HB.out]; omega)
    · rw [HB.out]
      exact hA2.tur.below hb3 (by simp) (by omega)
  have HFIN := cover hfin
  clear hfin
  refine range_outer rfl (by omega) (gf := 30) (ba := #[]) (lb := #[ptr (b + 2)]) rfl trivial (enters_of Try.func30 (by kernel_rfl) rfl)
    (fun A => ∃ K, b + 5 ≤ K ∧ GatR [b + 1] w3 (b + 1) K k l A) (fun cd A => cd = .exit 0 ∧ ∃ K, b + 5 ≤ K ∧ GatR [b + 1] w3 (b + 1) K k l A) ?hit ?hdone ?hstop
  case hit =>
    intro fn Rc W2 hF hRc hW2
    rw [hsz] at hRc ⊢
    show CallsIn Fence.wide _ _ _ #[.func (.yield (b + 3 + 1)) #[] #[], ptr (b + 2)] _ _
    have hsz2 : W2.heap.size = b + 5 := by rw [hW2]; simp [hsz]
    have hb2 : Below w3.heap.size w3 W2 := by rw [hW2]; exact ((Below.refl _ _).alloc (Nat.le_refl _) _).alloc (by simp) _
    have hdf2 : W2.heap[b + 3]? = some (.deferred (some [])) := by
      rw [hW2, Below.heap_alloc _ _ _ (by simp; omega), ← hsz]; exact World.alloc_heap_new w3 _
    have hrc2 : W2.heap[b + 4]? = some (Rc .ready none) := by
      have := World.alloc_heap_new (w3.alloc (.deferred (some []))) (Rc .ready none)
      rw [World.size_alloc, hsz] at this; rw [hW2]; exact this
    have hQ2 : TabI W2 t mb m l := HQ.out.below hb2
    have hq2 : W2.cell? ⟨b + 2, 0, none⟩ = some (ptr t) := (hb2.cell (p := ⟨b + 2, 0, none⟩) (by show b + 2 < _; omega)).trans hq3
    have hat2 : ∀ K, GatR [b + 1] w3 (b + 1) K 0 l W2 := fun K => ⟨⟨_, (hb2.block (b + 1) (by omega)).trans ho3, World.ownsRow_nil _ _ _ _⟩, Turned.of_below hb2⟩
    clear hW2
    refine (each1_in (b + 3 + 1) hQ2 hq2 (fun K i A => WalkAt w3 b K k l (Rc .ready none) i A) (fun i A => WalkX w3 b k l (Rc .done (some (.exit 0))) A) ?hst ?h0 ?hY).mono ?_
    case hst => exact fun K i A A' h hB => ⟨h.at_.below hB, (hB.block _ (block_lt h.dfr)).trans h.dfr, (hB.block _ (block_lt h.rcd)).trans h.rcd, h.le, h.kb⟩
    case h0 => exact fun K hK => ⟨hat2 K, hdf2, hrc2, Nat.zero_le _, by omega⟩
    case hY =>
      rw [hsz2]
      intro K i x wr A hx hok hwr hbel hvl hWK hKw mm
      refine yield_any (k := 8) ?_ mm
      have hrcA : A.heap[b + 4]? = some (Rc .ready none) := (hbel.block _ (block_lt hwr.rcd)).trans hwr.rcd
      refine round_own Rc (fun c _ W' => WalkR w3 b K k wr.heap.size l (Rc .ready none) (Rc .done (some (.exit 0))) i A c W') hRc hF hrcA rfl ?walk ?conv
      case conv =>
        rintro c _ W' ⟨⟨rfl, h1, h2⟩ | ⟨rfl, h1⟩, h3⟩
        · exact ⟨.inl ⟨rfl, h1, h2⟩, h3⟩
        · exact ⟨.inr ⟨rfl, h1⟩, h3⟩
      case walk =>
        clear hRc
        have hil : i < l.length := (List.getElem?_eq_some_iff.1 hx).1
        obtain ⟨x1, x2⟩ := x
        obtain ⟨A1, hA1⟩ : ∃ A1, A1 = A.alloc (.cells #[.int .u8 x1.a0, .int .u8 x1.a1, .int .u8 x1.a2, .int .u8 x1.a3, .int .u8 x1.a4, .int .u8 x1.a5, .int .i64 x1.near, .int .i64 x1.there_] 28) := ⟨_, rfl⟩
        have hbA1 : Below A.heap.size A A1 := by rw [hA1]; exact (Below.refl _ _).alloc (Nat.le_refl _) _
        have hcA1 : A1.heap[A.heap.size]? = some (.cells #[.int .u8 x1.a0, .int .u8 x1.a1, .int .u8 x1.a2, .int .u8 x1.a3, .int .u8 x1.a4, .int .u8 x1.a5, .int .i64 x1.near, .int .i64 x1.there_] 28 (0, 0)) := by rw [hA1]; exact heap_alloc_new _ _
        have hrc1 : A1.heap[b + 4]? = some (Rc .ready none) := (hbA1.block _ (block_lt hrcA)).trans hrcA
        gi_wp2
        rw [← hA1]
        refine ⟨hrc1, ?_⟩
        obtain ⟨A4, hA4⟩ : ∃ A4, A4 = A1.putObj (b + 3 + 1) (Rc .busy none) := ⟨_, rfl⟩
        rw [← hA4]
        have hltA := hbel.size
        have hlt2 := block_lt hrcA
        have hs4 : A4.heap.size = A1.heap.size := by rw [hA4]; simp
        have hs41 : A1.heap.size = A.heap.size + 1 := by rw [hA1]; simp
        have hr4 : A4.heap[b + 4]? = some (Rc .busy none) := by rw [hA4]; exact World.putObj_heap_same (block_lt hrc1)
        have hk4 : ∀ i, i ≠ b + 4 → A4.heap[i]? = A1.heap[i]? := fun i hi => by rw [hA4, World.putObj_heap_other hi]
        have hT4 : Turned [b + 4] A1 A4 := by rw [hA4]; exact turned_put (Turned.refl _ _) (by simp) _
        have hkb := hwr.kb
        have hle := hwr.le
        have hat4 : GatR [b + 1] w3 (b + 1) K i l A4 := ((hwr.at_.below hbel).below hbA1).turned hT4 (by simp) (by simp; omega)
        have hdfA := (hbel.block _ (block_lt hwr.dfr)).trans hwr.dfr
        have hdf4 : A4.heap[b + 3]? = some (.deferred (some [])) := (hk4 _ (by omega)).trans ((hbA1.block _ (block_lt hdfA)).trans hdfA)
        have hn4 : A4.heap[b]? = some (.cells #[.int .i64 n] 3 (0, 0)) := hat4.tur.at_ hn3 (by simp)
        obtain ⟨c0, c1, c2, c3, c4, c5, c6, c7⟩ : CellsK A4 A.heap.size x1 := cells_of_key ((hk4 _ (by omega)).trans hcA1)
        obtain ⟨v, hbox, hown⟩ := hat4.row
        -- its row lay there ahead of the walk's own variable
        have hvr : ∀ g, v.ownBlock = some g → g < wr.heap.size := by
          obtain ⟨v', hbox', hown'⟩ := hwr.at_.row
          have e1 : A4.heap[b + 1]? = wr.heap[b + 1]? := by
            have q1 := block_lt hbox'
            rw [hk4 _ (by omega), hbA1.block _ (by omega), hbel.block _ q1]
          rw [e1, hbox'] at hbox
          have : v' = v := by
            injection hbox with hbox; injection hbox with hbox; injection hbox with hbox; injection hbox
          rw [← this]
          exact fun g hg => (hown'.lt g hg).2
        have hcn : A4.cell? ⟨b, 0, none⟩ = some (.int .i64 n) := by rw [cell_of_row _ _ _ _ _ _ hn4]; rfl
        have hcb : A4.cell? ⟨b + 1, 0, none⟩ = some v := by rw [cell_of_row _ _ _ _ _ _ hbox]; rfl
        have hfb : A4.frozen? ⟨b + 1, 0, none⟩ = false := by simp [World.frozen?, hbox]
        obtain ⟨Av, cv, rfl, _⟩ := own_shape hown
        have HS4 : Hid (A4.heap.size = A.heap.size + 1 ∧ wr.heap.size < A.heap.size ∧ K ≤ wr.heap.size ∧ b + 5 ≤ K) := cover ⟨by omega, hvl, hKw, hkb⟩
        have HAT := cover hat4
        have HBX := cover (And.intro hbox hr4)
        have HD := cover hdf4
        have HVR := cover hvr
        have HK4 : Hid (∀ j, j < A.heap.size → j ≠ b + 4 → A4.heap[j]? = A.heap[j]?) := cover fun j hj hne => (hk4 j hne).trans (hbA1.block j hj)
        have HX := cover hx
        clear hs4 hs41 hA1 hA4 hat4 hT4 hn3 ho3 hn4 hbox hr4 hdf4 hk4 hb2 hdf2 hrc2 hQ2 hq2 hat2 hq3 hx hbA1 hcA1 hrc1 hwr hbel hrcA hdfA hvr hvl hKw hkb hltA hlt2 hok
        by_cases hik : i = k
        · have hni : (i : Int) = n := (HEND.out i hil hle).2 hik
          have HFin : Hid (A4.heap[b + 4]? = some (Rc .busy none) ∧ WalkR w3 b K k wr.heap.size l (Rc .ready none) (Rc .done (some (.exit 0))) i A false (A4.putObj (b + 3 + 1) (Rc .done (some (.exit 0))))) := by
            have h0 := HAT.out
            have hz := HS4.out
            rw [hik] at h0
            refine cover ⟨HBX.out.2, .inr ⟨rfl, ⟨K, hz.2.2.2, h0.turned (turned_put (L := [b + 4]) (Turned.refl _ _) (by simp) _) (by simp) (by simp; omega)⟩, (World.putObj_heap_other (by omega)).trans HD.out, World.putObj_heap_same (block_lt HBX.out.2)⟩, fun j hj1 hj2 => ?_⟩
            rw [World.putObj_heap_other (by omega)]
            exact HK4.out j (by omega) (by omega)
          clear HAT HBX HD HK4 hown hfb
          gi_wp2
          exact ⟨HFin.out.1, HFin.out.2⟩
        · have hni : ¬ (i : Int) = n := fun e => hik ((HEND.out i hil hle).1 e)
          gi_wp2_with (gi_at_builtin; refine wpListIn_append_own _ rfl _ _ 39 rfl K 44 i0 (.agg #[.int .u8 0, .int .u8 0, .int .u8 0, .int .u8 0, .int .u8 0, .int .u8 0, .int .i64 0, .int .i64 0, .int .i64 0]) 9 32 Try.underlying39 HI.out hz0 hz1 hz2 rfl (by decide) _ _ _ rfl (hown.alloc _) ⟨A4.heap.size, 0, none⟩ 1 1 (cellsR (x1, x2)) rfl rfl ?c1 ?c2 ?c3 ?c4 ?c5 ?_)
          case c1 => exact cells_new A4 (cellsR (x1, x2)) _
          case c2 => exact cellsR_one (x1, x2)
          case c3 => unfold maxLen; omega
          case c4 => omega
          case c5 => have := HS4.out; simp only [World.size_alloc]; omega
          intro v' w5 hown' hgrow _
          obtain ⟨g', cap', rfl⟩ := ownsRow_succ hown'
          have hz := HS4.out
          obtain ⟨hat5, hs5, hbx5, hk5⟩ := AtK.app HBX.out.1 hown HAT.out.tur (by simp) (by omega) (by omega) hown' hgrow
          have hkv : ∀ j, j < A4.heap.size → j ≠ b + 1 → (Value.slice Av i cv).ownBlock ≠ some j → (w5.setCell ⟨b + 1, 0, none⟩ (.slice (some ⟨g', 0, none⟩) (i + 1) cap')).heap[j]? = A4.heap[j]? := fun j hj h1 h2 => by
            rw [set_other _ _ h1]
            exact (hgrow.block j (by simp; omega) (fun e => h2 e.symm)).trans (Below.heap_alloc _ _ _ hj)
          have hcb5 : w5.cell? ⟨b + 1, 0, none⟩ = some (.slice Av i cv) := by rw [cell_of_row _ _ _ _ _ _ hbx5]; rfl
          have hfb5 : w5.frozen? ⟨b + 1, 0, none⟩ = false := by simp [World.frozen?, hbx5]
          have e7 : flatR (l.take i) ++ cellsR (x1, x2) = flatR (l.take (i + 1)) := by
            rw [List.take_add_one, HX.out]; exact (flatR_app _ _).symm
          rw [e7] at hat5
          have H5 := cover (And.intro hat5 (And.intro hs5 (And.intro hk5 hkv)))
          clear hat5 hs5 hk5 hkv hown' hgrow hcb hfb hbx5 e7
          have HVR2 : Hid (∀ g, (Value.slice Av i cv).ownBlock = some g → g < wr.heap.size ∧ K ≤ g) := cover fun g hg => ⟨HVR.out g hg, (hown.lt g hg).1⟩
          clear hown hz
          gi_wp2
          have hz := HS4.out
          have hr5 := (H5.out.2.2.1 (b + 4) (by have := block_lt HBX.out.2; omega) (by omega) (by omega)).trans HBX.out.2
          refine ⟨hr5, .inl ⟨rfl, ⟨H5.out.1.turned (turned_put (L := [b + 4]) (Turned.refl _ _) (by simp) _) (by simp) (by simp; omega), ?_, World.putObj_heap_same (block_lt hr5), by omega, hz.2.2.2⟩, ?_⟩, fun j hj1 hj2 => ?_⟩
          · rw [World.putObj_heap_other (by omega), H5.out.2.2.1 (b + 3) (by have := block_lt HD.out; omega) (by omega) (by omega)]; exact HD.out
          · have := H5.out.2.1; simp only [World.putObj_size]; omega
          · rw [World.putObj_heap_other (by omega), H5.out.2.2.2 j (by omega) (by omega) (fun e => by have := HVR2.out j e; omega)]
            exact HK4.out j (by omega) (by omega)
    rintro e W' ⟨⟨v, rfl⟩, ⟨K, hK, hA⟩ | ⟨i, h1, h2, h3⟩⟩
    · refine ⟨⟨v, rfl⟩, hA.dfr, .inl ⟨hA.rcd, K, hA.kb, ?_⟩⟩
      have hle := hA.le
      have := hA.at_
      rwa [show l.length = k by omega] at this
    · exact ⟨⟨v, rfl⟩, h2, .inr ⟨_, h3, rfl, h1⟩⟩
  case hdone =>
    intro o A hA hd
    rw [hsz] at hd ⊢
    obtain ⟨v, hcv, hd2, HO⟩ := HFIN.out o A hA hd
    clear hd hA
    gi_wp2
    refine ⟨by simp, .inl ⟨_, _, rfl, run_takeDeferred hd2, ?_⟩⟩
    exact ⟨_, results_tmp (t := 4) rfl _ _ _, HO.out⟩
  case hstop =>
    rintro o c A ⟨rfl, hA⟩ hd
    rw [hsz] at hd ⊢
    obtain ⟨v, hcv, hd2, HO⟩ := HFIN.out o A hA hd
    clear hd hA
    gi_wp2
    refine ⟨by simp, .inl ⟨_, _, rfl, run_takeDeferred hd2, ?_⟩⟩
    exact ⟨_, results_tmp (t := 4) rfl _ _ _, HO.out⟩
end Go.Proofs.Ytjkgiepfglimcaa
