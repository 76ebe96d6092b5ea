/- A queue of frames that owns their bytes: what its functions do. -/
import Derived.Test.YtjidhpmjdhjciaaFFoot
import Derived.Test.YtjidhpmjdhjciaaFMid
namespace Go.Proofs.Ytjidhpmjdhjciaa
open Go.RowKit
set_option linter.unusedVariables false

/-- a queue at block q that holds these frames, each with its bytes in a block of its own; all that it owns is S -/
structure FQ (S : Foot) (w : World) (q : Nat) (m : Int) (fs : List (List Int × Int)) : Prop where
  ex : ∃ G ps vs, FIn w q G m ps (vs.map FV.item) ∧ vs.map (fun v => (v.l, v.born)) = fs ∧ (∀ v ∈ vs, OwnB w 0 v.val v.l) ∧ (vs.filterMap FV.blk).Nodup ∧ S = qfoot q G ps vs
section
variable {S : Foot} {w w' : World} {q : Nat} {m : Int} {fs : List (List Int × Int)} {G : Option Nat} {ps : List Nat} {vs : List FV}
theorem foot_lt (h : FIn w q G m ps (vs.map FV.item)) (ho : ∀ v ∈ vs, OwnB w 0 v.val v.l) : ∀ k, qfoot q G ps vs k → k < w.heap.size := by
  rintro k (hk | hk | hk | ⟨v, hv, hk⟩)
  · exact h.inSize (.inl hk)
  · exact h.inSize (.inr (.inl hk))
  · exact h.inSize (.inr (.inr hk))
  · obtain ⟨_, cur, hc⟩ := own_blk (ho v hv) hk; exact block_lt hc
theorem FQ.lt (h : FQ S w q m fs) : ∀ k, S k → k < w.heap.size := by
  obtain ⟨G, ps, vs, h1, _, h3, _, rfl⟩ := h.ex; exact foot_lt h1 h3
theorem FQ.q_in (h : FQ S w q m fs) : S q := by obtain ⟨G, ps, vs, _, _, _, _, rfl⟩ := h.ex; exact .inl rfl
theorem FQ.keep (h : FQ S w q m fs) (hk : ∀ k, S k → w'.heap[k]? = w.heap[k]?) : FQ S w' q m fs := by
  obtain ⟨G, ps, vs, h1, h2, h3, h4, rfl⟩ := h.ex
  refine ⟨G, ps, vs, h1.keep fun k hk' => hk k ?_, h2, fun v hv => own_keep (h3 v hv) fun g hg => hk g (.inr (.inr (.inr ⟨v, hv, hg⟩))), h4, rfl⟩
  rcases hk' with h | h | h
  · exact .inl h
  · exact .inr (.inl h)
  · exact .inr (.inr (.inl h))
theorem FQ.below (h : FQ S w q m fs) (hb : Below w.heap.size w w') : FQ S w' q m fs := h.keep fun k hk => hb.block k (h.lt k hk)
theorem FQ.apart {T T' : Foot} (h : FQ S w q m fs) (hm : Moves T T' w w') (hd : ∀ k, S k → ¬ T k) : FQ S w' q m fs := h.keep fun k hk => hm.block k (h.lt k hk) (hd k hk)

theorem new_q (n : Int) (w : World) (hn : 0 < n) : Calls Try.prog 32 #[.int .i64 n] w fun e w' => e = .returned (ptr w.heap.size) ∧ Hid (FQ (qfoot w.heap.size none [] []) w' w.heap.size n [] ∧ Below w.heap.size w w') := by
  refine (newF_pos n w hn).mono ?_
  rintro e w' ⟨rfl, H⟩
  exact ⟨rfl, cover ⟨⟨none, [], [], H.out.1, rfl, fun v hv => (by cases hv), List.nodup_nil, rfl⟩, H.out.2⟩⟩
theorem len_q (h : FQ S w q m fs) : Calls Try.prog 57 #[ptr q] w fun e w' => e = .returned (.int .i64 fs.length) ∧ w = w' := by
  obtain ⟨G, ps, vs, h1, rfl, _⟩ := h.ex
  have := lenF_any h1
  rw [h1.len] at this
  simpa using this
theorem peek_q {x : List Int × Int} (h : FQ S w q m fs) (i : Nat) (hx : fs[i]? = some x) : ∃ A c, OwnB w 0 (.slice A x.1.length c) x.1 ∧
    Calls Try.prog 36 #[ptr q, .int .i64 i] w fun e w' => e = .returned (.tuple #[.agg (fl A x.1.length c x.2), .bool true]) ∧ Below w.heap.size w w' := by
  obtain ⟨G, ps, vs, h1, rfl, h3, h4, rfl⟩ := h.ex
  rw [List.getElem?_map] at hx
  obtain ⟨v, hv, rfl⟩ := Option.map_eq_some_iff.1 hx
  exact ⟨v.A, v.c, h3 v (List.mem_of_getElem? hv), peekF_yes h1 i v.A v.l.length v.c v.born (by rw [List.getElem?_map, hv]; rfl)⟩
theorem peek_q_no (h : FQ S w q m fs) (i : Int) (hi : i < 0 ∨ (fs.length : Int) ≤ i) :
    Calls Try.prog 36 #[ptr q, .int .i64 i] w fun e w' => e = .returned (.tuple #[.agg (fl none 0 0 0), .bool false]) ∧ Below w.heap.size w w' := by
  obtain ⟨G, ps, vs, h1, rfl, h3, h4, rfl⟩ := h.ex
  exact peekF_no h1 i (by rw [h1.len]; simpa using hi)
theorem blk_lt {B : Nat} {v : FV} (h : OwnB w B v.val v.l) {g : Nat} (hg : v.blk = some g) : g < w.heap.size := by
  obtain ⟨_, cur, hc⟩ := own_blk h hg; exact block_lt hc
theorem nodup_blk_add {v : FV} (h : (vs.filterMap FV.blk).Nodup) (hn : ∀ g, v.blk = some g → ∀ u ∈ vs, u.blk ≠ some g) (i : Nat) : ((vs.take i ++ v :: vs.drop i).filterMap FV.blk).Nodup := by
  rw [← List.take_append_drop i vs, List.filterMap_append] at h
  rw [List.filterMap_append, List.filterMap_cons]
  rcases hb : v.blk with _ | g
  · simpa [hb] using h
  · have hg := hn g hb
    rw [List.nodup_append] at h ⊢
    have hin : ∀ l : List FV, (∀ u ∈ l, u ∈ vs) → g ∉ l.filterMap FV.blk := fun l hl hm => by
      obtain ⟨u, hu, he⟩ := List.mem_filterMap.1 hm
      exact hg u (hl u hu) he
    refine ⟨h.1, List.nodup_cons.2 ⟨hin _ (fun u hu => List.mem_of_mem_drop hu), h.2.1⟩, fun a ha b hb' => ?_⟩
    rcases List.mem_cons.1 hb' with rfl | hb'
    · exact fun e => hin _ (fun u hu => List.mem_of_mem_take hu) (by rw [← e]; exact ha)
    · exact h.2.2 a ha b hb'
/-- what a queue owns is told apart from a row of bytes by its type -/
theorem FIn_ne (h : FIn w q G m ps (vs.map FV.item)) {g : Nat} {cur : Array Value} (hg : w.heap[g]? = some (.cells cur 5 (0, 0))) : g ≠ q ∧ G ≠ some g ∧ g ∉ ps := by
  obtain ⟨A, c, hh, hr⟩ := h.ex
  refine ⟨type_ne hg hh (by decide), fun e => ?_, fun hm => ?_⟩
  · obtain ⟨cur', hc⟩ := hr.lt e; exact type_ne hg hc (by decide) rfl
  · obtain ⟨x, hx⟩ := h.cellOf hm; exact type_ne hg hx (by decide) rfl
theorem own_turn (h : FIn w q G m ps (vs.map FV.item)) (hT : Turned (q :: G.toList) w w') {B : Nat} {v : FV} (ho : OwnB w B v.val v.l) : OwnB w' B v.val v.l :=
  own_keep ho fun g hg => by
    obtain ⟨_, cur, hc⟩ := own_blk ho hg
    obtain ⟨h1, h2, h3⟩ := FIn_ne h hc
    exact hT.block g (block_lt hc) (by simp only [List.mem_cons, Option.mem_toList, not_or]; exact ⟨h1, fun e => h2 e⟩)
theorem insert_moves {p : Nat} {G' : Option Nat} {v : FV} {B : Nat} (h : FIn w q G m ps (vs.map FV.item)) (hT : Turned (q :: G.toList) w w') (hN : Next w G G') (hp : w.heap.size ≤ p) (ho : OwnB w B v.val v.l) (hB : B ≤ w.heap.size) (i : Nat) :
    Moves (fun k => qfoot q G ps vs k ∨ B ≤ k) (qfoot q G' (ps.take i ++ p :: ps.drop i) (vs.take i ++ v :: vs.drop i)) w w' := by
  refine Moves.of_turned hT (fun k hk => ?_) (fun k hk => ?_)
  · simp at hk
    rcases hk with hk | hk
    · exact .inl (.inl hk)
    · exact .inl (.inr (.inl hk))
  · rcases hk with hk | hk | hk | ⟨u, hu, hk⟩
    · exact .inl (.inl (.inl hk))
    · rcases hN with e | ⟨g, e, hg⟩
      · exact .inl (.inl (.inr (.inl (by rw [← e]; exact hk))))
      · rw [e] at hk; injection hk with hk; exact .inr (by omega)
    · rcases List.mem_append.1 hk with hk | hk
      · exact .inl (.inl (.inr (.inr (.inl (List.mem_of_mem_take hk)))))
      · rcases List.mem_cons.1 hk with rfl | hk
        · exact .inr hp
        · exact .inl (.inl (.inr (.inr (.inl (List.mem_of_mem_drop hk)))))
    · rcases List.mem_append.1 hu with hu | hu
      · exact .inl (.inl (.inr (.inr (.inr ⟨u, List.mem_of_mem_take hu, hk⟩))))
      · rcases List.mem_cons.1 hu with rfl | hu
        · exact .inl (.inr (own_blk ho hk).1)
        · exact .inl (.inl (.inr (.inr (.inr ⟨u, List.mem_of_mem_drop hu, hk⟩))))
/-- what a queue says when one more is in it at place i -/
def AddQ (S : Foot) (B i : Nat) (x : List Int × Int) (q : Nat) (m : Int) (fs : List (List Int × Int)) (w w' : World) : Prop :=
  ∃ S', FQ S' w' q m (fs.take i ++ x :: fs.drop i) ∧ Moves (fun k => S k ∨ B ≤ k) S' w w'
theorem put_q {B : Nat} {A : Option Addr} {c : Nat} {l : List Int} (h : FQ S w q m fs) (n : Int) (hm : (fs.length : Int) < m) (hbig : fs.length ≤ 1000000) (ho : OwnB w B (.slice A l.length c) l) (hB : B ≤ w.heap.size) (hn : ∀ k, S k → k < B) :
    Calls Try.prog 34 #[ptr q, .agg (fl A l.length c n)] w fun e w' => e = .returned (.bool true) ∧ Hid (AddQ S B fs.length (l, n) q m fs w w') := by
  obtain ⟨G, ps, vs, h1, rfl, h3, h4, rfl⟩ := h.ex
  have hl := h1.len
  simp at hl hm hbig
  refine (putF_yes h1 A l.length c n (by omega) (by omega)).mono ?_
  rintro e w' ⟨rfl, H⟩
  obtain ⟨G', p, k1, k2, k3, k4⟩ := H.out
  have hM := insert_moves (v := ⟨A, c, l, n⟩) h1 k2 k3 k4 ho hB vs.length
  have et : ps.take vs.length ++ p :: ps.drop vs.length = ps ++ [p] := by rw [List.take_of_length_le (by omega), List.drop_of_length_le (by omega)]
  have ev : vs.take vs.length ++ (⟨A, c, l, n⟩ : FV) :: vs.drop vs.length = vs ++ [⟨A, c, l, n⟩] := by rw [List.take_of_length_le (Nat.le_refl _), List.drop_of_length_le (Nat.le_refl _)]
  rw [et, ev] at hM
  refine ⟨rfl, cover ⟨_, ⟨G', _, vs ++ [⟨A, c, l, n⟩], by simpa using k1, by rw [List.take_length, List.drop_length, List.map_append]; rfl, fun v hv => ?_, ?_, rfl⟩, hM⟩⟩
  · rcases List.mem_append.1 hv with hv | hv
    · exact own_turn h1 k2 (h3 v hv)
    · simp at hv; subst hv; exact own_turn (v := ⟨A, c, l, n⟩) h1 k2 (OwnB.mono ho (Nat.zero_le _))
  · rw [← ev]
    refine nodup_blk_add h4 (fun g hg u hu e => ?_) _
    have := (own_blk (v := ⟨A, c, l, n⟩) ho hg).1
    have := hn g (.inr (.inr (.inr ⟨u, hu, e⟩)))
    omega
theorem put_q_no {A : Option Addr} {c k : Nat} (h : FQ S w q m fs) (n : Int) (hm : m ≤ (fs.length : Int)) :
    Calls Try.prog 34 #[ptr q, .agg (fl A k c n)] w fun e w' => e = .returned (.bool false) ∧ Below w.heap.size w w' := by
  obtain ⟨G, ps, vs, h1, rfl, h3, h4, rfl⟩ := h.ex
  exact putF_no h1 A k c n (by rw [h1.len]; simpa using hm)
theorem ins_q {B i : Nat} {A : Option Addr} {c : Nat} {l : List Int} (h : FQ S w q m fs) (n : Int) (hi : i ≤ fs.length) (hm : (fs.length : Int) < m) (hbig : fs.length ≤ 100000) (ho : OwnB w B (.slice A l.length c) l) (hB : B ≤ w.heap.size) (hn : ∀ k, S k → k < B) :
    Calls Try.prog 37 #[ptr q, .int .i64 i, .agg (fl A l.length c n)] w fun e w' => e = .returned (.bool true) ∧ Hid (AddQ S B i (l, n) q m fs w w') := by
  obtain ⟨G, ps, vs, h1, rfl, h3, h4, rfl⟩ := h.ex
  have hl := h1.len
  simp at hl hm hbig hi
  have hown : ∀ w', Turned (q :: G.toList) w w' → ∀ v ∈ vs.take i ++ (⟨A, c, l, n⟩ : FV) :: vs.drop i, OwnB w' 0 v.val v.l := fun w' hT v hv => by
    rcases List.mem_append.1 hv with hv | hv
    · exact own_turn h1 hT (h3 v (List.mem_of_mem_take hv))
    · rcases List.mem_cons.1 hv with rfl | hv
      · exact own_turn (v := ⟨A, c, l, n⟩) h1 hT (OwnB.mono ho (Nat.zero_le _))
      · exact own_turn h1 hT (h3 v (List.mem_of_mem_drop hv))
  have hnd := nodup_blk_add (v := ⟨A, c, l, n⟩) h4 (fun g hg u hu e => by
    have := (own_blk (v := ⟨A, c, l, n⟩) ho hg).1
    have := hn g (.inr (.inr (.inr ⟨u, hu, e⟩)))
    omega) i
  by_cases hie : i = vs.length
  · have et : ∀ p, ps.take vs.length ++ p :: ps.drop vs.length = ps ++ [p] := fun p => by rw [List.take_of_length_le (by omega), List.drop_of_length_le (by omega)]
    subst hie
    rw [← hl]
    refine (insertF_end h1 A l.length c n (by omega) (by omega)).mono ?_
    rintro e w' ⟨rfl, H⟩
    obtain ⟨G', p, k1, k2, k3, k4⟩ := H.out
    have hM := insert_moves (v := ⟨A, c, l, n⟩) h1 k2 k3 k4 ho hB vs.length
    refine ⟨rfl, cover ⟨_, ⟨G', _, vs.take vs.length ++ ⟨A, c, l, n⟩ :: vs.drop vs.length, ?_, by simp only [List.map_append, List.map_cons, List.map_take, List.map_drop, hl], hown _ k2, hnd, rfl⟩, hM⟩⟩
    rw [et]
    simpa using k1
  · refine (insertF_mid h1 i A l.length c n (by omega) (by omega) (by omega)).mono ?_
    rintro e w' ⟨rfl, H⟩
    obtain ⟨G', p, k1, k2, k3, k4⟩ := H.out
    have hM := insert_moves (v := ⟨A, c, l, n⟩) h1 k2 k3 k4 ho hB i
    refine ⟨rfl, cover ⟨_, ⟨G', _, vs.take i ++ ⟨A, c, l, n⟩ :: vs.drop i, ?_, by simp, hown _ k2, hnd, rfl⟩, hM⟩⟩
    simpa [List.map_take, List.map_drop] using k1
theorem ins_q_no {A : Option Addr} {c k : Nat} (h : FQ S w q m fs) (i n : Int) (hm : m ≤ (fs.length : Int) ∨ i < 0 ∨ (fs.length : Int) < i) :
    Calls Try.prog 37 #[ptr q, .int .i64 i, .agg (fl A k c n)] w fun e w' => e = .returned (.bool false) ∧ Below w.heap.size w w' := by
  obtain ⟨G, ps, vs, h1, rfl, h3, h4, rfl⟩ := h.ex
  exact insertF_no h1 i A k c n (by rw [h1.len]; simpa using hm)
/-- the first k are gone -/
def CutQ (S : Foot) (k q : Nat) (m : Int) (fs : List (List Int × Int)) (w w' : World) : Prop := ∃ S', FQ S' w' q m (fs.drop k) ∧ Moves S S' w w'
theorem cut_moves (k : Nat) (h : FIn w q G m ps (vs.map FV.item)) (h3 : ∀ v ∈ vs, OwnB w 0 v.val v.l) (h4 : (vs.filterMap FV.blk).Nodup) (k1 : FIn w' q G m (ps.drop k) ((vs.map FV.item).drop k)) (hT : Turned (q :: G.toList) w w') :
    CutQ (qfoot q G ps vs) k q m (vs.map fun v => (v.l, v.born)) w w' := by
  refine ⟨_, ⟨G, ps.drop k, vs.drop k, by rw [List.map_drop]; exact k1, by rw [List.map_drop], fun v hv => own_turn h hT (h3 v (List.mem_of_mem_drop hv)), h4.sublist ((List.drop_sublist _ _).filterMap _), rfl⟩, ?_⟩
  refine Moves.of_turned hT (fun i hi => ?_) (fun i hi => ?_)
  · simp at hi
    rcases hi with hi | hi
    · exact .inl hi
    · exact .inr (.inl hi)
  · rcases hi with hi | hi | hi | ⟨u, hu, hi⟩
    · exact .inl (.inl hi)
    · exact .inl (.inr (.inl hi))
    · exact .inl (.inr (.inr (.inl (List.mem_of_mem_drop hi))))
    · exact .inl (.inr (.inr (.inr ⟨u, List.mem_of_mem_drop hu, hi⟩)))
theorem cut_q (h : FQ S w q m fs) (n k : Nat) (h1 : 1 ≤ k) (hk : k = min n fs.length) (hn63 : n ≤ 9223372036854775807) :
    Calls Try.prog 49 #[ptr q, .int .i64 n] w fun e w' => e = .returned (.int .i64 k) ∧ Hid (CutQ S k q m fs w w') := by
  obtain ⟨G, ps, vs, h0, rfl, h3, h4, rfl⟩ := h.ex
  refine (cutF_some h0 n k h1 (by rw [h0.len]; simpa using hk) hn63).mono ?_
  rintro e w' ⟨rfl, H⟩
  exact ⟨rfl, cover (cut_moves k h0 h3 h4 H.out.1 H.out.2)⟩
theorem cut_q_no (h : FQ S w q m fs) (n : Int) (hn : n < 1 ∨ fs.length = 0) : Calls Try.prog 49 #[ptr q, .int .i64 n] w fun e w' => e = .returned (.int .i64 0) ∧ w = w' := by
  obtain ⟨G, ps, vs, h1, rfl, _⟩ := h.ex
  exact cutF_none h1 n (by rw [h1.len]; simpa using hn)
theorem take_q {x : List Int × Int} {r : List (List Int × Int)} (h : FQ S w q m (x :: r)) : ∃ A c, OwnB w 0 (.slice A x.1.length c) x.1 ∧ (∀ g, (Value.slice A x.1.length c).ownBlock = some g → S g) ∧
    Calls Try.prog 38 #[ptr q] w fun e w' => e = .returned (.tuple #[.agg (fl A x.1.length c x.2), .bool true]) ∧ Hid ((∃ S', FQ S' w' q m r ∧ Moves S S' w w' ∧ ∀ g, (Value.slice A x.1.length c).ownBlock = some g → ¬ S' g) ∧ OwnB w' 0 (.slice A x.1.length c) x.1) := by
  obtain ⟨G, ps, vs, h0, h2, h3, h4, rfl⟩ := h.ex
  rcases vs with _ | ⟨v, vs⟩
  · cases h2
  have hx : x = (v.l, v.born) := by simp at h2; exact h2.1.symm
  have hrr : vs.map (fun v => (v.l, v.born)) = r := by simp at h2; exact h2.2
  subst hx
  have hov := h3 v (by simp)
  refine ⟨v.A, v.c, hov, fun g hg => .inr (.inr (.inr ⟨v, by simp, hg⟩)), ?_⟩
  refine (takeF_yes h0 v.A v.l.length v.c v.born rfl).mono ?_
  rintro e w' ⟨rfl, H⟩
  obtain ⟨k1, hT⟩ := H.out
  have k1' : FIn w' q G m (ps.drop 1) (vs.map FV.item) := k1
  refine ⟨rfl, cover ⟨⟨qfoot q G (ps.drop 1) vs, ⟨G, ps.drop 1, vs, k1', hrr, fun u hu => own_turn h0 hT (h3 u (List.mem_cons_of_mem _ hu)), h4.sublist ((List.sublist_cons_self _ _).filterMap _), rfl⟩, ?_, fun g hg => ?_⟩, own_turn h0 hT hov⟩⟩
  · refine Moves.of_turned hT (fun i hi => ?_) (fun i hi => ?_)
    · simp at hi
      rcases hi with hi | hi
      · exact .inl hi
      · exact .inr (.inl hi)
    · rcases hi with hi | hi | hi | ⟨u, hu, hi⟩
      · exact .inl (.inl hi)
      · exact .inl (.inr (.inl hi))
      · exact .inl (.inr (.inr (.inl (List.mem_of_mem_drop hi))))
      · exact .inl (.inr (.inr (.inr ⟨u, List.mem_cons_of_mem _ hu, hi⟩)))
  · have hg' : v.blk = some g := hg
    obtain ⟨_, cur, hc⟩ := own_blk hov hg'
    obtain ⟨n1, n2, n3⟩ := FIn_ne h0 hc
    rintro (hi | hi | hi | ⟨u, hu, hi⟩)
    · exact n1 hi
    · exact n2 hi
    · exact n3 (List.mem_of_mem_drop hi)
    · rw [List.filterMap_cons, hg'] at h4
      exact (List.nodup_cons.1 h4).1 (List.mem_filterMap.2 ⟨u, hu, hi⟩)
theorem take_q_no (h : FQ S w q m []) : Calls Try.prog 38 #[ptr q] w fun e w' => e = .returned (.tuple #[.agg (fl none 0 0 0), .bool false]) ∧ Below w.heap.size w w' := by
  obtain ⟨G, ps, vs, h0, h2, h3, h4, rfl⟩ := h.ex
  have hv : vs = [] := by simpa using h2
  subst hv
  have hp : ps = [] := by have := h0.len; simpa using this
  subst hp
  exact takeF_no h0
end

/-- no queue at all -/
theorem len_nil (w : World) : Calls Try.prog 57 #[.pointer none] w fun e w' => e = .returned (.int .i64 0) ∧ w = w' := by
  go_enter Try.func57, Try.ntmps57
  go_wp2
  go_ret
  exact ⟨rfl, rfl⟩
theorem cut_nil (n : Int) (w : World) : Calls Try.prog 49 #[.pointer none, .int .i64 n] w fun e w' => e = .returned (.int .i64 0) ∧ w = w' := by
  by_cases hk : (0 : Int) < n
  · go_enter Try.func49, Try.ntmps49
    go_wp2_with (go_at_call 57; refine (len_nil _).mono ?_; rintro e w' ⟨rfl, rfl⟩)
    go_ret
    exact ⟨rfl, rfl⟩
  · have h1 : n < 1 := by omega
    go_enter Try.func49, Try.ntmps49
    go_wp2_with (go_at_call 57; refine (len_nil _).mono ?_; rintro e w' ⟨rfl, rfl⟩)
    go_ret
    exact ⟨rfl, rfl⟩
theorem peek_nil (w : World) : Calls Try.prog 36 #[.pointer none, .int .i64 0] w fun e w' => e = .returned (.tuple #[.agg (fl none 0 0 0), .bool false]) ∧ Below w.heap.size w w' := by
  go_enter Try.func36, Try.ntmps36
  go_wp2_with (go_at_call 57; refine (len_nil _).mono ?_; rintro e w' ⟨rfl, rfl⟩)
  exact bodyPost_ret (v := .tuple #[.agg (fl none 0 0 0), .bool false]) (by simp [results, Try.results36, go_sem]) rfl ⟨rfl, ((Below.refl _ _).alloc (Nat.le_refl _) _).alloc (by simp) _⟩
set_option maxRecDepth 100000 in
theorem take_nil (w : World) :
    Calls Try.prog 38 #[.pointer none] w fun e w' => e = .returned (.tuple #[.agg (fl none 0 0 0), .bool false]) ∧ Below w.heap.size w w' := by
  have HP := fun v => peek_nil (w.alloc v)
  go_enter Try.func38, Try.ntmps38
  go_wp2_with fail
  refine (HP _).mono ?_
  rintro e w1 ⟨rfl, hb1⟩
  have hl1 : w1.heap[w.heap.size]? = some (.cells (fl none 0 0 0) 73 (0, 0)) := by
    rw [hb1.block _ (by simp)]; exact heap_alloc_new _ _
  have hb2 : Below w.heap.size w w1 := ((Below.refl _ _).alloc (Nat.le_refl _) _).trans (hb1.mono (by simp))
  have hs1 : w.heap.size + 1 ≤ w1.heap.size := by have := hb1.size; simpa using this
  have HC := cut_nil 1 (w1.alloc (.cells (fl none 0 0 0) 73))
  obtain ⟨w2, hw2⟩ : ∃ w2, w2 = w1.alloc (.cells (fl none 0 0 0) 73) := ⟨_, rfl⟩
  obtain ⟨z, hz⟩ : ∃ z, z = w1.heap.size := ⟨_, rfl⟩
  rw [← hw2] at HC
  have hb3 : Below w.heap.size w w2 := by rw [hw2]; exact hb2.alloc (by omega) _
  have hbl : w2.heap[w.heap.size]? = some (.cells (fl none 0 0 0) 73 (0, 0)) := by rw [hw2, Below.heap_alloc _ _ _ (by omega)]; exact hl1
  have hzl : w2.heap[z]? = some (.cells (fl none 0 0 0) 73 (0, 0)) := by rw [hw2, hz]; exact heap_alloc_new _ _
  clear HP hb1 hb2 hl1
  go_wp2_with fail
  have e2 : w1.alloc (.cells #[.slice none 0 0, .int .i64 0] 73) = w2 := hw2.symm
  rw [← hz, e2]
  clear hz hw2 e2
  refine HC.mono ?_
  rintro e w3 ⟨rfl, rfl⟩
  have c0 := cell_of_row w2 z 0 _ _ _ hzl
  have c1 := cell_of_row w2 z 1 _ _ _ hzl
  have c2 := cell_of_row w2 w.heap.size 0 _ _ _ hbl
  have c3 := cell_of_row w2 w.heap.size 1 _ _ _ hbl
  have f2 : w2.frozen? ⟨w.heap.size, 0, none⟩ = false := by simp [World.frozen?, hbl]
  have f3 : w2.frozen? ⟨w.heap.size, 1, none⟩ = false := by simp [World.frozen?, hbl]
  simp at c0 c1 c2 c3
  have HF : Hid (Below w.heap.size w ((w2.setCell ⟨w.heap.size, 0, none⟩ (.slice none 0 0)).setCell ⟨w.heap.size, 1, none⟩ (.int .i64 0))) := cover ((hb3.setCell (Nat.le_refl _) _).setCell (Nat.le_refl _) _)
  have HH : Hid (((w2.setCell ⟨w.heap.size, 0, none⟩ (.slice none 0 0)).setCell ⟨w.heap.size, 1, none⟩ (.int .i64 0)).heap[w.heap.size]? = some (.cells (fl none 0 0 0) 73 (0, 0))) := by
    refine cover ?_
    rw [set_block (set_block hbl 0 _)]
    simp
  clear hzl hbl hb3 HC
  go_wp2_with fail
  exact bodyPost_ret (v := .tuple #[.agg (fl none 0 0 0), .bool false]) (results_two (by rfl) _ _ w.heap.size _ (fl none 0 0 0) (0, 0) _ (.bool false) rfl HH.out rfl Try.underlying73 rfl flight_size) rfl ⟨rfl, HF.out⟩
end Go.Proofs.Ytjidhpmjdhjciaa
