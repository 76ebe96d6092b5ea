/- A walk in which the table is changed: the law's own 'changing'. -/
import Derived.Test.YtjkgiepfglimcaaEWalk
namespace Go.Proofs.Ytjkgiepfglimcaa
open Go.RowKit Go.Shelf
set_option linter.unusedVariables false
attribute [local go_sem] Oper.semAt_some

theorem AtK.turnedV {TB e sz : Nat} {L M : List Nat} {W A A' : World} {b base n : Nat} {xs : List Value} (h : AtK TB e sz L W b base n xs A) (hT : Turned M A A') (hb : b ∉ M) (hM : ∀ i ∈ M, i ∈ L ∨ W.heap.size ≤ i) (hr : ∀ v g, A.heap[b]? = some (.cells #[v] TB (0, 0)) → v.ownBlock = some g → g ∉ M) : AtK TB e sz L W b base n xs A' := by
  obtain ⟨v, h1, h2⟩ := h.row
  exact ⟨⟨v, hT.at_ h1 hb, ownK_turned h2 hT (fun g hg => hr v g h1 hg)⟩, h.tur.trans hT hM⟩
theorem moves_turned_t {t b : Nat} {w w' : World} (h : Moves (tfoot t b) (tfoot t b) w w') : Turned [t, b] w w' := ⟨h.os, h.tape, h.output, h.size, fun k hk hn => h.block k hk (fun hf => hn (by rcases hf with rfl | rfl <;> simp))⟩
/-- at the head of a round -/
structure ChaAt (w3 : World) (b t mb m K k : Nat) (l : List (EK × Int)) (Rc : Obj) (i : Nat) (A : World) : Prop where
  at_ : GatR [b + 3, t, mb] w3 (b + 3) K i l A
  dfr : A.heap[b + 5]? = some (.deferred (some []))
  rcd : A.heap[b + 6]? = some Rc
  le : i ≤ k
  kb : b + 7 ≤ K
  tab : ∃ l', TabI A t mb m l'
/-- behind the last round -/
def ChaX (w3 : World) (b t mb k : Nat) (l : List (EK × Int)) (Rc : Obj) (A : World) : Prop := (∃ K, b + 7 ≤ K ∧ GatR [b + 3, t, mb] w3 (b + 3) K k l A) ∧ A.heap[b + 5]? = some (.deferred (some [])) ∧ A.heap[b + 6]? = some Rc
/-- behind a round -/
def ChaR (w3 : World) (b t mb m K k v : Nat) (l : List (EK × Int)) (Rc Rd : Obj) (i : Nat) (A : World) (c : Bool) (A' : World) : Prop :=
  ((c = true ∧ ChaAt w3 b t mb m K k l Rc (i + 1) A' ∧ A.heap.size ≤ A'.heap.size) ∨ (c = false ∧ ChaX w3 b t mb k l Rd A')) ∧ ∀ j, b + 7 ≤ j → (j < K ∨ j = v) → A'.heap[j]? = A.heap[j]?
/-- what 'changing' hands back -/
def ChaOut (t mb : Nat) (ys : List (EK × Int)) (w : World) (e : Ending) (w' : World) : Prop :=
  ∃ A c, e = .returned (.slice A ys.length c) ∧ Hid (w'.ownsRow w.heap.size 44 9 (.slice A ys.length c) ys.length (flatR ys) ∧ Turned [t, mb] w w')
/-- behind the append of a round, ahead of what is done to the table -/
structure ChaMid (w3 : World) (b t mb m K k v kv : Nat) (c : Int) (l : List (EK × Int)) (Rc : Obj) (i : Nat) (A W : World) : Prop where
  at_ : GatR [b + 3, t, mb] w3 (b + 3) K (i + 1) l W
  dfr : W.heap[b + 5]? = some (.deferred (some []))
  rcd : W.heap[b + 6]? = some Rc
  le : i + 1 ≤ k
  kb : b + 7 ≤ K
  tab : ∃ l', TabI W t mb m l'
  size : A.heap.size < W.heap.size
  keep : ∀ j, b + 7 ≤ j → (j < K ∨ j = v) → W.heap[j]? = A.heap[j]?
  row : ∀ u g, W.heap[b + 3]? = some (.cells #[u] 39 (0, 0)) → u.ownBlock = some g → g ≠ kv ∧ K ≤ g
  lt : t < b ∧ mb < b
  kv : K ≤ kv ∧ v < kv ∧ A.heap.size = kv
  w3s : w3.heap.size = b + 5
  tb : W.heap[b]? = some (.cells #[ptr t] 37 (0, 0))
  ch : W.heap[b + 2]? = some (.cells #[.int .i64 c] 3 (0, 0))
section
variable {w3 A W W' : World} {b t mb m K k v kv i : Nat} {c : Int} {l : List (EK × Int)} {Rc Ry Rd : Obj}
theorem ChaMid.below (h : ChaMid w3 b t mb m K k v kv c l Rc i A W) (hB : Below W.heap.size W W') (hvk : v < A.heap.size) (hkA : K ≤ A.heap.size) : ChaMid w3 b t mb m K k v kv c l Rc i A W' := by
  have hs := h.size
  refine ⟨h.at_.below hB, (hB.block _ (block_lt h.dfr)).trans h.dfr, (hB.block _ (block_lt h.rcd)).trans h.rcd, h.le, h.kb, ?_, Nat.lt_of_lt_of_le hs hB.size, fun j h1 h2 => ?_, fun u g hu hg => ?_, h.lt, h.kv, h.w3s, (hB.block _ (block_lt h.tb)).trans h.tb, (hB.block _ (block_lt h.ch)).trans h.ch⟩
  · obtain ⟨l', h1⟩ := h.tab; exact ⟨l', h1.below hB⟩
  · rw [hB.block j (by omega)]; exact h.keep j h1 h2
  · obtain ⟨u', hu', _⟩ := h.at_.row
    rw [hB.block _ (block_lt hu')] at hu
    exact h.row u g hu hg
/-- the round is over -/
theorem ChaMid.done (h : ChaMid w3 b t mb m K k v kv c l Ry i A W) (o : Obj) : ChaR w3 b t mb m K k v l o Rd i A true (W.putObj (b + 5 + 1) o) := by
  have hkb := h.kb
  have hlt := h.lt
  have hw3 := h.w3s
  have hT : Turned [b + 6] W (W.putObj (b + 5 + 1) o) := turned_put (L := [b + 6]) (Turned.refl _ _) (l := b + 5 + 1) (by simp) _
  refine ⟨.inl ⟨rfl, ⟨h.at_.turned hT (by simp) (by simp; omega), (World.putObj_heap_other (by omega)).trans h.dfr, World.putObj_heap_same (block_lt h.rcd), h.le, hkb, ?_⟩, ?_⟩, fun j h1 h2 => ?_⟩
  · obtain ⟨l', h1⟩ := h.tab
    exact ⟨l', h1.keep fun i hi => hT.block i (h1.lt hi) (by rcases hi with rfl | rfl <;> (simp; omega))⟩
  · have := h.size; simp only [World.putObj_size]; omega
  · rw [World.putObj_heap_other (by omega)]; exact h.keep j h1 h2
/-- what is done to the table alone -/
theorem ChaMid.table (h : ChaMid w3 b t mb m K k v kv c l Ry i A W) {l' : List (EK × Int)} (hN : TNowI t mb m l' W W') : ChaMid w3 b t mb m K k v kv c l Ry i A W' := by
  have hkb := h.kb
  have hlt := h.lt
  have hw3 := h.w3s
  have hs := h.size
  have hkv := h.kv
  have hT := moves_turned_t hN.2
  have hbox : W'.heap[b + 3]? = W.heap[b + 3]? := by
    obtain ⟨u', hu', _⟩ := h.at_.row
    exact hT.block _ (block_lt hu') (by simp; omega)
  refine ⟨h.at_.turnedV hT (by simp; omega) (fun i hi => .inl (by simp at hi; rcases hi with rfl | rfl <;> simp)) (fun u g hu hg hm => ?_), hT.at_ h.dfr (by simp; omega), hT.at_ h.rcd (by simp; omega), h.le, hkb, ⟨l', hN.1⟩, Nat.lt_of_lt_of_le hs hT.size, fun j h1 h2 => ?_, fun u g hu hg => ?_, hlt, hkv, hw3, hT.at_ h.tb (by simp; omega), hT.at_ h.ch (by simp; omega)⟩
  · have := (h.row u g hu hg).2
    simp at hm
    omega
  · rw [hT.block j (by omega) (by simp; omega)]; exact h.keep j h1 h2
  · rw [hbox] at hu; exact h.row u g hu hg
/-- the walk's own variable has another cell -/
theorem ChaMid.own (h : ChaMid w3 b t mb m K k v kv c l Ry i A W) (o : Nat) (x : Value) : ChaMid w3 b t mb m K k v kv c l Ry i A (W.setCell ⟨kv, o, none⟩ x) := by
  have hkb := h.kb
  have hlt := h.lt
  have hw3 := h.w3s
  have hs := h.size
  have hkv := h.kv
  have hT : Turned [kv] W (W.setCell ⟨kv, o, none⟩ x) := (Turned.refl [kv] W).setCell (.inl (by simp)) _ _
  have hbox : (W.setCell ⟨kv, o, none⟩ x).heap[b + 3]? = W.heap[b + 3]? := set_other _ _ (by omega)
  refine ⟨h.at_.turnedV hT (by simp; omega) (fun i hi => .inr (by simp at hi; omega)) (fun u g hu hg hm => ?_), hT.at_ h.dfr (by simp; omega), hT.at_ h.rcd (by simp; omega), h.le, hkb, ?_, by rw [set_size]; exact hs, fun j h1 h2 => ?_, fun u g hu hg => ?_, hlt, hkv, hw3, hT.at_ h.tb (by simp; omega), hT.at_ h.ch (by simp; omega)⟩
  · have := (h.row u g hu hg).1
    simp at hm
    exact this hm
  · obtain ⟨l', h1⟩ := h.tab
    exact ⟨l', h1.keep fun i hi => hT.block i (h1.lt hi) (by rcases hi with rfl | rfl <;> (simp; omega))⟩
  · rw [set_other _ _ (by omega)]; exact h.keep j h1 h2
  · rw [hbox] at hu; exact h.row u g hu hg
end
set_option maxRecDepth 100000 in
set_option maxHeartbeats 3200000 in
theorem changing_any {w : World} {t mb m : Nat} {l : List (EK × Int)} (h : TabI w t mb m l) (n : Nat) (c : Int) (k : Nat) (hk : k = min l.length n) :
    Calls Try.prog 24 #[ptr t, .int .i64 n, .int .i64 c] w (ChaOut t mb (l.take k) w) := by
  obtain ⟨i0, hi, hz0, hz1, hz2⟩ := info_parts row_info
  have HK := cover hk
  have hkl : k ≤ l.length := by omega
  clear hk
  obtain ⟨b, hb⟩ : ∃ b, w.heap.size = b := ⟨_, rfl⟩
  have HB := cover hb
  have hlen : l.length ≤ 1000 := Nat.le_trans h.most h.room
  have htm : t < b ∧ mb < b := by rw [← hb]; exact ⟨h.lt (.inl rfl), h.lt (.inr rfl)⟩
  refine (callsIn_wide (n := 9)).1 ?_
  refine callsIn_of_wp_marks Try.func24 rfl trivial ?_ rfl
  simp only [Try.ntmps24, List.size_toArray, List.length_cons, List.length_nil, Nat.reduceAdd, Nat.reduceSub, Array.replicate_succ, Array.replicate_zero, List.push_toArray, List.append_toArray, List.nil_append, List.cons_append]
  obtain ⟨w0, hw0⟩ : ∃ w0, w0 = (((w.alloc (.cells #[ptr t] 37)).alloc (.cells #[.int .i64 n] 3)).alloc (.cells #[.int .i64 c] 3)).alloc (.cells #[.slice none 0 0] 39) := ⟨_, rfl⟩
  have hsz0 : w0.heap.size = b + 4 := by rw [hw0]; simp [hb]
  have ht0 : w0.heap[b]? = some (.cells #[ptr t] 37 (0, 0)) := by
    rw [hw0, Below.heap_alloc _ _ _ (by simp; omega), Below.heap_alloc _ _ _ (by simp; omega), Below.heap_alloc _ _ _ (by simp; omega), ← hb]; exact heap_alloc_new w _
  have hn0 : w0.heap[b + 1]? = some (.cells #[.int .i64 n] 3 (0, 0)) := by
    rw [hw0, Below.heap_alloc _ _ _ (by simp; omega), Below.heap_alloc _ _ _ (by simp; omega), ← hb]
    have := heap_alloc_new (w.alloc (.cells #[ptr t] 37)) (.cells #[.int .i64 n] 3)
    rw [World.size_alloc] at this; exact this
  have hc0 : w0.heap[b + 2]? = some (.cells #[.int .i64 c] 3 (0, 0)) := by
    rw [hw0, Below.heap_alloc _ _ _ (by simp; omega), ← hb]
    have := heap_alloc_new ((w.alloc (.cells #[ptr t] 37)).alloc (.cells #[.int .i64 n] 3)) (.cells #[.int .i64 c] 3)
    simp only [World.size_alloc] at this; exact this
  have ho0 : w0.heap[b + 3]? = some (.cells #[.slice none 0 0] 39 (0, 0)) := by
    rw [hw0, ← hb]
    have := heap_alloc_new (((w.alloc (.cells #[ptr t] 37)).alloc (.cells #[.int .i64 n] 3)).alloc (.cells #[.int .i64 c] 3)) (.cells #[.slice none 0 0] 39)
    simp only [World.size_alloc] at this; exact this
  have hb0 : Below b w w0 := by
    rw [hw0]; exact ((((Below.refl _ _).alloc (by omega) _).alloc (by simp; omega) _).alloc (by simp; omega) _).alloc (by simp; omega) _
  have hct0 : w0.cell? ⟨b, 0, none⟩ = some (ptr t) := by rw [cell_of_row _ _ _ _ _ _ ht0]; rfl
  have hE := each_any t w0
  have HQ0 : Hid (TabI w0 t mb m l) := cover (h.below (by rw [hb]; exact hb0))
  have H0 := cover (And.intro ht0 (And.intro hn0 (And.intro hc0 (And.intro ho0 hb0))))
  have HS0 := cover hsz0
  clear h ht0 hn0 hc0 ho0 hb0
  gi_wp2_with fail
  rw [← hw0]
  clear hw0
  refine ⟨trivial, (callsIn_wide.2 hE).mono ?_⟩
  rintro e w3 ⟨rfl, hw3⟩
  rw [hsz0]
  clear hE
  have hsz : w3.heap.size = b + 5 := by rw [hw3]; simp [hsz0]
  have hq3 : w3.cell? ⟨b + 4, 0, none⟩ = some (ptr t) := by
    have := heap_alloc_new w0 (.cells #[ptr t] 37)
    rw [hsz0, ← hw3] at this
    rw [cell_of_row w3 (b + 4) 0 _ _ _ this]; rfl
  have hb03 : Below w0.heap.size w0 w3 := by rw [hw3]; exact (Below.refl _ _).alloc (by omega) _
  have H3 : Hid (w3.heap[b]? = some (.cells #[ptr t] 37 (0, 0)) ∧ w3.heap[b + 1]? = some (.cells #[.int .i64 n] 3 (0, 0)) ∧ w3.heap[b + 2]? = some (.cells #[.int .i64 c] 3 (0, 0)) ∧ w3.heap[b + 3]? = some (.cells #[.slice none 0 0] 39 (0, 0)) ∧ Below b w w3) :=
    cover ⟨(hb03.block _ (by omega)).trans H0.out.1, (hb03.block _ (by omega)).trans H0.out.2.1, (hb03.block _ (by omega)).trans H0.out.2.2.1, (hb03.block _ (by omega)).trans H0.out.2.2.2.1, H0.out.2.2.2.2.trans (hb03.mono (by omega))⟩
  have HQ : Hid (TabI w3 t mb m l) := cover (HQ0.out.below hb03)
  have HTM := cover htm
  clear hw3 hb hb03 H0 HQ0 hct0 hsz0 HS0 htm
  gi_wp2_with fail
  have HI := cover hi
  have hfin : ∀ o A, (∃ K, b + 7 ≤ K ∧ GatR [b + 3, t, mb] w3 (b + 3) K k l A) → A.heap[b + 5]? = some (.deferred (some [])) → ∃ v, (A.putObj (b + 5 + 1) o).cell? ⟨b + 1 + 1 + 1, 0, none⟩ = some v ∧ (A.putObj (b + 5 + 1) o).heap[b + 5]? = some (.deferred (some [])) ∧
      Hid (ChaOut t mb (l.take k) w (.returned v) ((A.putObj (b + 5 + 1) o).putObj (b + 5) (.deferred none))) := by
    rintro o A ⟨K, hK, hA⟩ hd
    have hA2 := hA.turned (turned_put (L := [b + 6, b + 5]) (turned_put (Turned.refl _ _) (l := b + 5 + 1) (by simp) o) (l := b + 5) (by simp) (.deferred none)) (by simp) (by simp; omega)
    obtain ⟨v, h1, h2⟩ := hA2.row
    have h1' : (A.putObj (b + 5 + 1) o).heap[b + 3]? = some (.cells #[v] 39 (0, 0)) := by rw [World.putObj_heap_other (by omega)] at h1; exact h1
    obtain ⟨A', c', rfl, _⟩ := own_shape h2
    have hkk : (l.take k).length = k := by rw [List.length_take]; omega
    refine ⟨_, by show (A.putObj (b + 5 + 1) o).cell? ⟨b + 3, 0, none⟩ = _; rw [cell_of_row _ _ _ _ _ _ h1']; rfl, (World.putObj_heap_other (by omega)).trans hd, cover ⟨A', c', by rw [hkk]; rfl, cover ⟨?_, ?_⟩⟩⟩
    · rw [hkk]
      exact own_base h2 (by rw [HB.out]; omega)
    · have hT := hA2.tur
      have hBB := H3.out.2.2.2.2
      have htm := HTM.out
      have hbw := HB.out
      refine ⟨hT.os.trans hBB.os, hT.tape.trans hBB.tape, hT.output.trans hBB.output, by have := hT.size; have := hBB.size; omega, fun i hi hn => ?_⟩
      have h3 := hBB.block i (by omega)
      have := hBB.size
      rw [hT.block i (by omega) (by simp at hn ⊢; omega)]
      exact h3
  have HFIN := cover hfin
  clear hfin
  refine range_outer rfl (by omega) (gf := 30) (ba := #[]) (lb := #[ptr (b + 4)]) rfl trivial (enters_of Try.func30 (by kernel_rfl) rfl)
    (fun A => ∃ K, b + 7 ≤ K ∧ GatR [b + 3, t, mb] w3 (b + 3) K k l A) (fun cd A => cd = .exit 0 ∧ ∃ K, b + 7 ≤ K ∧ GatR [b + 3, t, mb] w3 (b + 3) K k l A) ?hit ?hdone ?hstop
  case hit =>
    intro fn Rc W2 hF hRc hW2
    rw [hsz] at hRc ⊢
    show CallsIn Fence.wide _ _ _ #[.func (.yield (b + 5 + 1)) #[] #[], ptr (b + 4)] _ _
    have hsz2 : W2.heap.size = b + 7 := by rw [hW2]; simp [hsz]
    have hb2 : Below w3.heap.size w3 W2 := by rw [hW2]; exact ((Below.refl _ _).alloc (Nat.le_refl _) _).alloc (by simp) _
    have hdf2 : W2.heap[b + 5]? = some (.deferred (some [])) := by
      rw [hW2, Below.heap_alloc _ _ _ (by simp; omega), ← hsz]; exact World.alloc_heap_new w3 _
    have hrc2 : W2.heap[b + 6]? = some (Rc .ready none) := by
      have := World.alloc_heap_new (w3.alloc (.deferred (some []))) (Rc .ready none)
      rw [World.size_alloc, hsz] at this; rw [hW2]; exact this
    have hQ2 : TabI W2 t mb m l := HQ.out.below hb2
    have hq2 : W2.cell? ⟨b + 4, 0, none⟩ = some (ptr t) := (hb2.cell (p := ⟨b + 4, 0, none⟩) (by show b + 4 < _; omega)).trans hq3
    have hat2 : ∀ K, GatR [b + 3, t, mb] w3 (b + 3) K 0 l W2 := fun K => ⟨⟨_, (hb2.block (b + 3) (by omega)).trans H3.out.2.2.2.1, World.ownsRow_nil _ _ _ _⟩, Turned.of_below hb2⟩
    clear hW2
    refine (each1_in (b + 5 + 1) hQ2 hq2 (fun K i A => ChaAt w3 b t mb m K k l (Rc .ready none) i A) (fun i A => ChaX w3 b t mb k l (Rc .done (some (.exit 0))) A) ?hst ?h0 ?hY).mono ?_
    case hst => exact fun K i A A' h hB => ⟨h.at_.below hB, (hB.block _ (block_lt h.dfr)).trans h.dfr, (hB.block _ (block_lt h.rcd)).trans h.rcd, h.le, h.kb, by obtain ⟨l', h1⟩ := h.tab; exact ⟨l', h1.below hB⟩⟩
    case h0 => exact fun K hK => ⟨hat2 K, hdf2, hrc2, Nat.zero_le _, by omega, l, hQ2⟩
    case hY =>
      rw [hsz2]
      intro K i x wr A hx hok hwr hbel hvl hWK hKw mm
      refine yield_any (k := 8) ?_ mm
      have hrcA : A.heap[b + 6]? = some (Rc .ready none) := (hbel.block _ (block_lt hwr.rcd)).trans hwr.rcd
      refine round_own Rc (fun c _ W' => ChaR w3 b t mb m K k wr.heap.size l (Rc .ready none) (Rc .done (some (.exit 0))) i A c W') hRc hF hrcA rfl ?walk ?conv
      case conv =>
        rintro c _ W' ⟨⟨rfl, h1, h2⟩ | ⟨rfl, h1⟩, h3⟩
        · exact ⟨.inl ⟨rfl, h1, h2⟩, h3⟩
        · exact ⟨.inr ⟨rfl, h1⟩, h3⟩
      case walk =>
        clear hRc
        have hil : i < l.length := (List.getElem?_eq_some_iff.1 hx).1
        obtain ⟨x1, x2⟩ := x
        obtain ⟨A1, hA1⟩ : ∃ A1, A1 = A.alloc (.cells #[.int .u8 x1.a0, .int .u8 x1.a1, .int .u8 x1.a2, .int .u8 x1.a3, .int .u8 x1.a4, .int .u8 x1.a5, .int .i64 x1.near, .int .i64 x1.there_] 28) := ⟨_, rfl⟩
        have hbA1 : Below A.heap.size A A1 := by rw [hA1]; exact (Below.refl _ _).alloc (Nat.le_refl _) _
        have hcA1 : A1.heap[A.heap.size]? = some (.cells #[.int .u8 x1.a0, .int .u8 x1.a1, .int .u8 x1.a2, .int .u8 x1.a3, .int .u8 x1.a4, .int .u8 x1.a5, .int .i64 x1.near, .int .i64 x1.there_] 28 (0, 0)) := by rw [hA1]; exact heap_alloc_new _ _
        have hrc1 : A1.heap[b + 6]? = some (Rc .ready none) := (hbA1.block _ (block_lt hrcA)).trans hrcA
        gi_wp2
        rw [← hA1]
        refine ⟨hrc1, ?_⟩
        obtain ⟨kv, hkvE⟩ : ∃ kv, kv = A.heap.size := ⟨_, rfl⟩
        rw [← hkvE] at hcA1 ⊢
        obtain ⟨A4, hA4⟩ : ∃ A4, A4 = A1.putObj (b + 5 + 1) (Rc .busy none) := ⟨_, rfl⟩
        rw [← hA4]
        have hltA := hbel.size
        have hlt2 := block_lt hrcA
        have hs4 : A4.heap.size = A1.heap.size := by rw [hA4]; simp
        have hs41 : A1.heap.size = A.heap.size + 1 := by rw [hA1]; simp
        have hr4 : A4.heap[b + 6]? = some (Rc .busy none) := by rw [hA4]; exact World.putObj_heap_same (block_lt hrc1)
        have hk4 : ∀ i, i ≠ b + 6 → A4.heap[i]? = A1.heap[i]? := fun i hi => by rw [hA4, World.putObj_heap_other hi]
        have hT4 : Turned [b + 6] A1 A4 := by rw [hA4]; exact turned_put (Turned.refl _ _) (by simp) _
        have hkb := hwr.kb
        have hle := hwr.le
        have htm := HTM.out
        have hat4 : GatR [b + 3, t, mb] w3 (b + 3) K i l A4 := ((hwr.at_.below hbel).below hbA1).turned hT4 (by simp) (by simp; omega)
        have hdfA := (hbel.block _ (block_lt hwr.dfr)).trans hwr.dfr
        have hdf4 : A4.heap[b + 5]? = some (.deferred (some [])) := (hk4 _ (by omega)).trans ((hbA1.block _ (block_lt hdfA)).trans hdfA)
        have htb4 : A4.heap[b]? = some (.cells #[ptr t] 37 (0, 0)) := hat4.tur.at_ H3.out.1 (by simp; omega)
        have hn4 : A4.heap[b + 1]? = some (.cells #[.int .i64 n] 3 (0, 0)) := hat4.tur.at_ H3.out.2.1 (by simp; omega)
        have hc4 : A4.heap[b + 2]? = some (.cells #[.int .i64 c] 3 (0, 0)) := hat4.tur.at_ H3.out.2.2.1 (by simp; omega)
        have hcv4 : A4.heap[kv]? = some (.cells #[.int .u8 x1.a0, .int .u8 x1.a1, .int .u8 x1.a2, .int .u8 x1.a3, .int .u8 x1.a4, .int .u8 x1.a5, .int .i64 x1.near, .int .i64 x1.there_] 28 (0, 0)) := (hk4 _ (by omega)).trans hcA1
        have htab4 : ∃ l', TabI A4 t mb m l' := by
          obtain ⟨l', q1⟩ := hwr.tab
          have q2 := (q1.below hbel).below hbA1
          exact ⟨l', q2.keep fun i hi => hT4.block i (q2.lt hi) (by rcases hi with rfl | rfl <;> (simp; omega))⟩
        obtain ⟨c0, c1, c2, c3, c4, c5, c6, c7⟩ : CellsK A4 kv x1 := cells_of_key hcv4
        obtain ⟨v, hbox, hown⟩ := hat4.row
        have hvr : ∀ g, v.ownBlock = some g → g < wr.heap.size := by
          obtain ⟨v', hbox', hown'⟩ := hwr.at_.row
          have e1 : A4.heap[b + 3]? = wr.heap[b + 3]? := by
            have q1 := block_lt hbox'
            rw [hk4 _ (by omega), hbA1.block _ (by omega), hbel.block _ q1]
          rw [e1, hbox'] at hbox
          have : v' = v := by
            injection hbox with hbox; injection hbox with hbox; injection hbox with hbox; injection hbox
          rw [← this]
          exact fun g hg => (hown'.lt g hg).2
        have hcn : A4.cell? ⟨b + 1, 0, none⟩ = some (.int .i64 n) := by rw [cell_of_row _ _ _ _ _ _ hn4]; rfl
        have hcb : A4.cell? ⟨b + 1 + 1 + 1, 0, none⟩ = some v := by show A4.cell? ⟨b + 3, 0, none⟩ = _; rw [cell_of_row _ _ _ _ _ _ hbox]; rfl
        have hfb : A4.frozen? ⟨b + 1 + 1 + 1, 0, none⟩ = false := by show A4.frozen? ⟨b + 3, 0, none⟩ = _; simp [World.frozen?, hbox]
        obtain ⟨Av, cv, rfl, _⟩ := own_shape hown
        have HS4 : Hid (A4.heap.size = kv + 1 ∧ A.heap.size = kv ∧ wr.heap.size < kv ∧ K ≤ wr.heap.size ∧ b + 7 ≤ K) := cover ⟨by omega, by omega, by omega, hKw, hkb⟩
        have HAT := cover hat4
        have HBX := cover (And.intro hbox hr4)
        have HD := cover hdf4
        have HVR := cover hvr
        have HK4 : Hid (∀ j, j < A.heap.size → j ≠ b + 6 → A4.heap[j]? = A.heap[j]?) := cover fun j hj hne => (hk4 j hne).trans (hbA1.block j hj)
        have HX := cover hx
        have HTB := cover htab4
        have HV4 := cover (And.intro htb4 (And.intro hc4 hcv4))
        have HSZ3 := cover hsz
        have HOK := cover hok
        clear hs4 hs41 hA1 hA4 hat4 hT4 hn4 hbox hr4 hdf4 hk4 hb2 hdf2 hrc2 hQ2 hq2 hat2 hq3 hx hbA1 hcA1 hrc1 hwr hbel hrcA hdfA hvr hvl hKw hkb hltA hlt2 hok htb4 hc4 hcv4 htab4 htm hkvE
        by_cases hik : i = k
        · have hni : ((n : Nat) : Int) ≤ (i : Int) := by have := HK.out; omega
          have hni2 : (i : Int) ≥ ((n : Nat) : Int) := hni
          have HFin : Hid (A4.heap[b + 6]? = some (Rc .busy none) ∧ ChaR w3 b t mb m K k wr.heap.size l (Rc .ready none) (Rc .done (some (.exit 0))) i A false (A4.putObj (b + 5 + 1) (Rc .done (some (.exit 0))))) := by
            have h0 := HAT.out
            have hz := HS4.out
            have hw3 := HSZ3.out
            rw [hik] at h0
            refine cover ⟨HBX.out.2, .inr ⟨rfl, ⟨K, hz.2.2.2.2, h0.turned (turned_put (L := [b + 6]) (Turned.refl _ _) (by simp) _) (by simp) (by simp; omega)⟩, (World.putObj_heap_other (by omega)).trans HD.out, World.putObj_heap_same (block_lt HBX.out.2)⟩, fun j hj1 hj2 => ?_⟩
            rw [World.putObj_heap_other (by omega)]
            exact HK4.out j (by omega) (by omega)
          clear HAT HBX HD HK4 hown hfb hni
          gi_wp2
          exact ⟨HFin.out.1, HFin.out.2⟩
        · have hni : ¬ ((n : Nat) : Int) ≤ (i : Int) := by have := HK.out; omega
          have hni2 : ¬ (i : Int) ≥ ((n : Nat) : Int) := hni
          gi_wp2_with (gi_at_builtin; refine wpListIn_append_own _ rfl _ _ 39 rfl K 44 i0 (.agg #[.int .u8 0, .int .u8 0, .int .u8 0, .int .u8 0, .int .u8 0, .int .u8 0, .int .i64 0, .int .i64 0, .int .i64 0]) 9 32 Try.underlying39 HI.out hz0 hz1 hz2 rfl (by decide) _ _ _ rfl (hown.alloc _) ⟨A4.heap.size, 0, none⟩ 1 1 (cellsR (x1, x2)) rfl rfl ?c1 ?c2 ?c3 ?c4 ?c5 ?_)
          all_goals try (case c1 => exact cells_new A4 (cellsR (x1, x2)) _)
          case c2 => first | exact cellsR_one (x1, x2) | exact ⟨rfl, rfl, rfl, rfl, rfl, rfl, rfl, rfl, rfl⟩
          case c3 => unfold maxLen; omega
          case c4 => omega
          case c5 => have := HS4.out; first | omega | (simp only [World.size_alloc]; omega)
          intro v' w5 hown' hgrow _
          obtain ⟨g', cap', rfl⟩ := ownsRow_succ hown'
          have hz := HS4.out
          have htm := HTM.out
          have hw3 := HSZ3.out
          obtain ⟨hat5, hs5, hbx5, hk5⟩ := AtK.app HBX.out.1 hown HAT.out.tur (by simp) (by omega) (by omega) hown' hgrow
          obtain ⟨w6, hw6⟩ : ∃ w6, w6 = w5.setCell ⟨b + 3, 0, none⟩ (.slice (some ⟨g', 0, none⟩) (i + 1) cap') := ⟨_, rfl⟩
          have hw6' : w5.setCell ⟨b + 1 + 1 + 1, 0, none⟩ (.slice (some ⟨g', 0, none⟩) (i + 1) cap') = w6 := hw6.symm
          rw [← hw6] at hat5 hs5 hk5
          have hkv6 : ∀ j, j < A4.heap.size → j ≠ b + 3 → (Value.slice Av i cv).ownBlock ≠ some j → w6.heap[j]? = A4.heap[j]? := fun j hj h1 h2 => by
            rw [hw6, set_other _ _ h1]
            exact (hgrow.block j (by simp; omega) (fun e => h2 e.symm)).trans (Below.heap_alloc _ _ _ hj)
          have hcb5 : w5.cell? ⟨b + 1 + 1 + 1, 0, none⟩ = some (.slice Av i cv) := by show w5.cell? ⟨b + 3, 0, none⟩ = _; rw [cell_of_row _ _ _ _ _ _ hbx5]; rfl
          have hfb5 : w5.frozen? ⟨b + 1 + 1 + 1, 0, none⟩ = false := by show w5.frozen? ⟨b + 3, 0, none⟩ = _; simp [World.frozen?, hbx5]
          have e7 : flatR (l.take i) ++ cellsR (x1, x2) = flatR (l.take (i + 1)) := by
            rw [List.take_add_one, HX.out]; exact (flatR_app _ _).symm
          rw [e7] at hat5
          have hHV := HV4.out
          have hkvo : ∀ g, (Value.slice Av i cv).ownBlock = some g → g < wr.heap.size ∧ K ≤ g := fun g hg => ⟨HVR.out g hg, (hown.lt g hg).1⟩
          have hv6 : w6.heap[kv]? = some (.cells #[.int .u8 x1.a0, .int .u8 x1.a1, .int .u8 x1.a2, .int .u8 x1.a3, .int .u8 x1.a4, .int .u8 x1.a5, .int .i64 x1.near, .int .i64 x1.there_] 28 (0, 0)) :=
            (hkv6 kv (by omega) (by omega) (fun e => by have := hkvo kv e; omega)).trans hHV.2.2
          have hx6 : w6.heap[b + 3]? = some (.cells #[.slice (some ⟨g', 0, none⟩) (i + 1) cap'] 39 (0, 0)) := by rw [hw6, set_block hbx5]; rfl
          have hgk : g' ≠ kv := fun e => by
            obtain ⟨cur, hcur⟩ := row_type (w := w5) hown' (i := g') rfl
            have : w6.heap[g']? = w5.heap[g']? := by rw [hw6, set_other _ _ (by have := (hown'.lt g' rfl).1; omega)]
            rw [hcur, e, hv6] at this
            injection this with this; injection this with _ this; exact absurd this (by decide)
          have hgK : K ≤ g' := (hown'.lt g' rfl).1
          have H6 : Hid (ChaMid w3 b t mb m K k wr.heap.size kv c l (Rc .busy none) i A w6) := by
            refine cover ⟨hat5, (hk5 (b + 5) (by have := block_lt HD.out; omega) (by omega) (by omega)).trans HD.out, (hk5 (b + 6) (by have := block_lt HBX.out.2; omega) (by omega) (by omega)).trans HBX.out.2, by omega, hz.2.2.2.2, ?_, by omega, fun j h1 h2 => ?_, fun u g hu hg => ?_, htm, ⟨by omega, by omega, hz.2.1⟩, hw3, (hk5 b (by omega) (by omega) (by omega)).trans hHV.1, (hk5 (b + 2) (by omega) (by omega) (by omega)).trans hHV.2.1⟩
            · obtain ⟨l', q1⟩ := HTB.out
              exact ⟨l', q1.keep fun j hj => hk5 j (q1.lt hj) (by rcases hj with rfl | rfl <;> omega) (by rcases hj with rfl | rfl <;> omega)⟩
            · rw [hkv6 j (by omega) (by omega) (fun e => by have := hkvo j e; omega)]
              exact HK4.out j (by omega) (by omega)
            · rw [hx6] at hu
              have : u = .slice (some ⟨g', 0, none⟩) (i + 1) cap' := by
                injection hu with hu; injection hu with hu; injection hu with hu; injection hu with hu; exact hu.symm
              rw [this] at hg
              have : g' = g := by simpa [Value.ownBlock] using hg
              rw [← this]
              exact ⟨hgk, hgK⟩
          have HV6 := cover hv6
          have hct6 : w6.cell? ⟨b, 0, none⟩ = some (ptr t) := by rw [cell_of_row _ _ _ _ _ _ H6.out.tb]; rfl
          have hcc6 : w6.cell? ⟨b + 1 + 1, 0, none⟩ = some (.int .i64 c) := by show w6.cell? ⟨b + 2, 0, none⟩ = _; rw [cell_of_row _ _ _ _ _ _ H6.out.ch]; rfl
          obtain ⟨c0, c1, c2, c3, c4, c5, c6, c7⟩ : CellsK w6 kv x1 := cells_of_key hv6
          clear hat5 hs5 hk5 hkv6 hbx5 e7 hkvo hx6 hgk hgK hv6 hHV hw6 hown' hgrow hcb hfb hown hz htm hw3 hcn
          clear HAT HBX HVR HK4 HX HTB HV4 HS4 HD
          by_cases hc1 : c = 1
          · subst hc1
            obtain ⟨y, hy⟩ : ∃ y, IntKind.i64.wrap (x1.near + 1000) = y := ⟨_, rfl⟩
            have hy6 : I64 y := by rw [← hy]; exact wf_wrap _ _
            have hf6 : w6.frozen? ⟨kv, 6, none⟩ = false := by simp [World.frozen?, HV6.out]
            obtain ⟨w7, hw7⟩ : ∃ w7, w7 = w6.setCell ⟨kv, 6, none⟩ (.int .i64 y) := ⟨_, rfl⟩
            have hw7' : w6.setCell ⟨kv, 6, none⟩ (.int .i64 y) = w7 := hw7.symm
            have H7 : Hid (ChaMid w3 b t mb m K k wr.heap.size kv 1 l (Rc .busy none) i A w7) := cover (by rw [hw7]; exact H6.out.own 6 _)
            have hv7 : w7.heap[kv]? = some (.cells #[.int .u8 x1.a0, .int .u8 x1.a1, .int .u8 x1.a2, .int .u8 x1.a3, .int .u8 x1.a4, .int .u8 x1.a5, .int .i64 y, .int .i64 x1.there_] 28 (0, 0)) := by rw [hw7, set_block HV6.out]; rfl
            obtain ⟨l7, ht7⟩ := H7.out.tab
            have hP := putI_any ht7 (k := { x1 with near := y }) ⟨HOK.out.b0, HOK.out.b1, HOK.out.b2, HOK.out.b3, HOK.out.b4, HOK.out.b5, hy6, HOK.out.t⟩ (-1)
            generalize (if fullT m l7 { x1 with near := y } = true then (6 : Int) else 0) = pr at hP
            have hct7 : w7.cell? ⟨b, 0, none⟩ = some (ptr t) := by rw [cell_of_row _ _ _ _ _ _ H7.out.tb]; rfl
            obtain ⟨d0, d1, d2, d3, d4, d5, d6, d7⟩ : CellsK w7 kv { x1 with near := y } := cells_of_key (k := { x1 with near := y }) hv7
            clear hw7 hv7 ht7 hy6
            gi_wp2_with fail
            refine ⟨trivial, (callsIn_wide.2 hP).mono ?_⟩
            rintro e w8 ⟨rfl, hN⟩
            have H8 := cover (H7.out.table hN.out)
            have hcc8 : w8.cell? ⟨b + 1 + 1, 0, none⟩ = some (.int .i64 1) := by show w8.cell? ⟨b + 2, 0, none⟩ = _; rw [cell_of_row _ _ _ _ _ _ H8.out.ch]; rfl
            clear hP hN hct7 d0 d1 d2 d3 d4 d5 d6 d7 hw7' H7
            gi_wp2
            exact ⟨H8.out.rcd, H8.out.done _⟩
          · by_cases hc2 : c = 2
            · subst hc2
              obtain ⟨l7, ht7⟩ := H6.out.tab
              have hP := delI_any ht7 HOK.out
              generalize hasT l7 x1 = pr at hP
              clear ht7
              gi_wp2_with fail
              refine ⟨trivial, (callsIn_wide.2 hP).mono ?_⟩
              rintro e w8 ⟨rfl, hN⟩
              have H8 := cover (H6.out.table hN.out)
              clear hP hN
              gi_wp2
              exact ⟨H8.out.rcd, H8.out.done _⟩
            · have hb1 : (c == 1) = false := by rw [beq_eq_false_iff_ne]; exact hc1
              have hb2 : (c == 2) = false := by rw [beq_eq_false_iff_ne]; exact hc2
              gi_wp2
              exact ⟨H6.out.rcd, H6.out.done _⟩
    rintro e W' ⟨⟨v, rfl⟩, ⟨K, hK, hA⟩ | ⟨i, h1, h2, h3⟩⟩
    · refine ⟨⟨v, rfl⟩, hA.dfr, .inl ⟨hA.rcd, K, hA.kb, ?_⟩⟩
      have hle := hA.le
      have := hA.at_
      rwa [show l.length = k by omega] at this
    · exact ⟨⟨v, rfl⟩, h2, .inr ⟨_, h3, rfl, h1⟩⟩
  case hdone =>
    intro o A hA hd
    rw [hsz] at hd ⊢
    obtain ⟨v, hcv, hd2, HO⟩ := HFIN.out o A hA hd
    clear hd hA
    gi_wp2
    refine ⟨by simp, .inl ⟨_, _, rfl, run_takeDeferred hd2, ?_⟩⟩
    exact ⟨_, results_tmp (t := 6) rfl _ _ _, HO.out⟩
  case hstop =>
    rintro o c A ⟨rfl, hA⟩ hd
    rw [hsz] at hd ⊢
    obtain ⟨v, hcv, hd2, HO⟩ := HFIN.out o A hA hd
    clear hd hA
    gi_wp2
    refine ⟨by simp, .inl ⟨_, _, rfl, run_takeDeferred hd2, ?_⟩⟩
    exact ⟨_, results_tmp (t := 6) rfl _ _ _, HO.out⟩
end Go.Proofs.Ytjkgiepfglimcaa
