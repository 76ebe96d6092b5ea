/- What Insert does in the midst, at frames. -/
import Derived.Test.YtjidhpmjdhjciaaFIns
namespace Go.Proofs.Ytjidhpmjdhjciaa
open Go.RowKit

/-- one is put in the midst -/
def FPutAt (x : Array Value) (i q : Nat) (G : Option Nat) (m : Int) (ps : List Nat) (xs : List (Array Value)) (w w' : World) : Prop :=
  ∃ G' p, FIn w' q G' m (ps.take i ++ p :: ps.drop i) (xs.take i ++ x :: xs.drop i) ∧ Turned (q :: G.toList) w w' ∧ Next w G G' ∧ w.heap.size ≤ p
section
variable {w : World} {q : Nat} {G : Option Nat} {m : Int} {ps : List Nat} {xs : List (Array Value)}
set_option maxRecDepth 100000 in
set_option maxHeartbeats 4000000 in
theorem insertF_mid (h : FIn w q G m ps xs) (j : Nat) (B : Option Addr) (k d : Nat) (n : Int) (hi : j < ps.length) (hm : (ps.length : Int) < m) (hbig : ps.length ≤ 1000000) :
    Calls Try.prog 37 #[ptr q, .int .i64 j, .agg (fl B k d n)] w fun e w' => e = .returned (.bool true) ∧ Hid (FPutAt (fl B k d n) j q G m ps xs w w') := by
  obtain ⟨w0, hw0⟩ : ∃ w0, w0 = w.alloc (.cells (fl B k d n) 73) := ⟨_, rfl⟩
  have hb0 : Below w.heap.size w w0 := by rw [hw0]; exact (Below.refl _ _).alloc (Nat.le_refl _) _
  have hs0 : w0.heap.size = w.heap.size + 1 := by rw [hw0]; simp
  have hx : w0.heap[w.heap.size]? = some (.cells (fl B k d n) 73 (0, 0)) := by rw [hw0]; exact heap_alloc_new _ _
  obtain ⟨bx, hbx⟩ : ∃ bx, bx = w.heap.size := ⟨_, rfl⟩
  rw [← hbx] at hx
  have h' := h.below hb0
  have HL := lenF_any h'
  have HM := mostF_any h'
  obtain ⟨A, c, hh, hr⟩ := h'.ex
  have h0 := cell_of_row w0 q 0 _ _ _ hh
  have h1 := cell_of_row w0 q 1 _ _ _ hh
  have h2 := cell_of_row w0 bx 0 _ _ _ hx
  have h3 := cell_of_row w0 bx 1 _ _ _ hx
  simp at h0 h1 h2 h3
  have hql := h'.lt
  have hqs : bx < w0.heap.size := by rw [hs0, hbx]; omega
  have hrow : ∀ W', Below w0.heap.size w0 W' → PRow 95 W' G A c ps := fun W' hb => hr.keep fun g hg => by
    obtain ⟨cur, hc⟩ := hr.lt hg
    exact hb.block g (block_lt hc)
  have HI : Hid (∀ z, z = w0.heap.size → Calls Try.prog 59 #[.slice A ps.length c, .int .i64 j, .slice (some ⟨z + 1, 0, none⟩) 1 1] (((w0.alloc (.cells #[.slice B k d, .int .i64 n, .bool false] 94)).alloc (.cells #[ptr z] 95)).drew) (FMid ps j z G (((w0.alloc (.cells #[.slice B k d, .int .i64 n, .bool false] 94)).alloc (.cells #[ptr z] 95)).drew))) := by
    refine cover fun z hz => ?_
    refine insMid_any (hrow _ (((Below.refl _ _).alloc (Nat.le_refl _) _).alloc (by simp) _).drew) hi hbig ?_ ?_
    · have := heap_alloc_new (w0.alloc (.cells #[.slice B k d, .int .i64 n, .bool false] 94)) (.cells #[ptr z] 95)
      rw [World.size_alloc] at this
      subst hz
      exact this
    · intro e
      obtain ⟨cur, hc⟩ := hr.lt e
      have := block_lt hc; omega
  have HF : Hid (∀ z, z = w0.heap.size → ∀ A' c' G' w2, PRow 95 w2 G' A' c' (ps.take j ++ z :: ps.drop j) → Turned G.toList (((w0.alloc (.cells #[.slice B k d, .int .i64 n, .bool false] 94)).alloc (.cells #[ptr z] 95)).drew) w2 → Next (((w0.alloc (.cells #[.slice B k d, .int .i64 n, .bool false] 94)).alloc (.cells #[ptr z] 95)).drew) G G' →
      (w2.cell? ⟨q, 1, none⟩ = some (.slice A ps.length c) ∧ w2.cell? ⟨bx, 0, none⟩ = some (.slice B k d) ∧ w2.cell? ⟨bx, 1, none⟩ = some (.int .i64 n) ∧ w2.frozen? ⟨q, 1, none⟩ = false) ∧ Hid (FPutAt (fl B k d n) j q G m ps xs w (w2.setCell ⟨q, 1, none⟩ (.slice A' (ps.length + 1) c')))) := by
    refine cover fun z hz A' c' G' w2 hp hT hN => ?_
    have hTw : Turned G.toList w0 w2 := (Turned.of_below (((Below.refl _ _).alloc (Nat.le_refl _) _).alloc (by simp) _).drew).trans hT (fun i hi => .inl hi)
    have hT2 : Turned G.toList w w2 := (Turned.of_below hb0).trans hTw (fun i hi => .inl hi)
    have hqG : ∀ j (cs : Array Value) (T : TypeId), w0.heap[j]? = some (.cells cs T (0, 0)) → T ≠ 95 → j ∉ G.toList := by
      intro j cs T hj hne hm; simp at hm
      obtain ⟨cur, hc⟩ := hr.lt hm
      exact type_ne hj hc hne rfl
    have hq2 := hTw.at_ hh (hqG _ _ _ hh (by decide))
    have hx2 := hTw.at_ hx (hqG _ _ _ hx (by decide))
    have hzc : w2.heap[z]? = some (.cells #[.slice B k d, .int .i64 n, .bool false] 94 (0, 0)) := by
      refine hT.at_ (o := .cells #[.slice B k d, .int .i64 n, .bool false] 94 (0, 0)) ?_ ?_
      · show ((w0.alloc _).alloc _).heap[z]? = _
        rw [Below.heap_alloc _ _ _ (by simp; omega), hz]; exact heap_alloc_new w0 _
      · intro hm; simp at hm
        obtain ⟨cur, hc⟩ := hr.lt hm
        have := block_lt hc; omega
    have hN2 : Next w G G' := by
      rcases hN with e | ⟨g, e, hg⟩
      · exact .inl e
      · exact .inr ⟨g, e, by have : w0.heap.size + 1 + 1 ≤ g := by simpa using hg
                             omega⟩
    have hlm : (ps.take j ++ z :: ps.drop j).length = ps.length + 1 := by simp; omega
    have hxl := h.len
    have hi' : j ≤ xs.length := by omega
    refine ⟨⟨by rw [cell_of_row w2 q _ _ _ _ hq2]; rfl, by rw [cell_of_row w2 bx _ _ _ _ hx2]; rfl, by rw [cell_of_row w2 bx _ _ _ _ hx2]; rfl, by simp [World.frozen?, hq2]⟩, cover ⟨G', z, ⟨⟨A', c', ?_, ?_⟩, by simp; omega, ?_, ?_⟩, (hT2.mono (fun i hi => List.mem_cons_of_mem _ hi)).setCell (.inl (by simp)) _ _, hN2, by omega⟩⟩
    · rw [set_block hq2, hlm]; simp
    · exact hp.keep fun g hg => by
        obtain ⟨cur, hc⟩ := hp.lt hg
        exact set_other _ _ (type_ne hc hq2 (by decide))
    · intro l p y hk hy
      have hold : ∀ i, ps[i]? = some p → xs[i]? = some y → (w2.setCell ⟨q, 1, none⟩ (.slice A' (ps.length + 1) c')).heap[p]? = some (.cells (y.push (.bool false)) 94 (0, 0)) := fun i h3 h4 => by
        have hpc := h'.cells i p y h3 h4
        rw [set_other _ _ (type_ne hpc hh (by decide))]
        exact hTw.at_ hpc (hqG _ _ _ hpc (by decide))
      have hxt : (xs.take j).length = j := by rw [List.length_take]; omega
      rcases mid_at (by omega) hk with ⟨h4, h5⟩ | ⟨rfl, rfl⟩ | ⟨h4, h5⟩
      · rw [List.getElem?_append_left (by omega), List.getElem?_take, if_pos h4] at hy
        exact hold l h5 hy
      · rw [List.getElem?_append_right (by omega), hxt] at hy
        simp at hy; subst hy
        rw [set_other _ _ (by omega)]
        exact hzc
      · rw [List.getElem?_append_right (by omega), hxt] at hy
        obtain ⟨i, hj⟩ : ∃ i, l - j = i + 1 := ⟨l - j - 1, by omega⟩
        rw [hj, List.getElem?_cons_succ, List.getElem?_drop, show j + i = l - 1 by omega] at hy
        exact hold _ h5 hy
    · have hnd := h.nd
      rw [← List.take_append_drop j ps] at hnd
      have hzn : z ∉ ps := fun hm => by have := h'.inSize (.inr (.inr hm)); omega
      rw [List.nodup_append] at hnd ⊢
      refine ⟨hnd.1, List.nodup_cons.2 ⟨fun hm => hzn (List.mem_of_mem_drop hm), hnd.2.1⟩, fun a ha b hb => ?_⟩
      rcases List.mem_cons.1 hb with rfl | hb
      · exact fun e => hzn (by rw [← e]; exact List.mem_of_mem_take ha)
      · exact hnd.2.2 a ha b hb
  have HA1 := cover (held_alloc3 (a := ⟨q, 1, none⟩) (b := ⟨bx, 0, none⟩) (c := ⟨bx, 1, none⟩) hql hqs hqs ⟨h1, h2, h3⟩ (.cells #[.slice B k d, .int .i64 n, .bool false] 94))
  have HA2 := fun z => cover (held_alloc3 (a := ⟨q, 1, none⟩) (b := ⟨bx, 0, none⟩) (c := ⟨bx, 1, none⟩) (by simp; omega) (by simp; omega) (by simp; omega) HA1.out (.cells #[ptr z] 95))
  have hi1 : ¬ ((j : Int) > (ps.length : Int)) := by omega
  clear hh hr hrow
  go_enter Try.func37, Try.ntmps37
  go_wp2_with fail
  rw [← hw0, ← hbx]
  have HQ := cover h
  have HX := cover (And.intro hbx (And.intro hs0 (And.intro hb0 hx)))
  clear hw0 hbx h h' hx hs0
  go_wp2_with (first | (go_at_call 57; refine HL.mono ?_; rintro e w' ⟨rfl, rfl⟩) | (go_at_call 58; refine HM.mono ?_; rintro e w' ⟨rfl, rfl⟩))
  have hI := HI.out _ rfl
  have HA2 := HA2 w0.heap.size
  have hF := HF.out _ rfl
  have k1 := fun v => World.cell?_alloc_lt w0 v ⟨q, 1, none⟩ hql
  have k2 := fun u v => (World.cell?_alloc_lt (w0.alloc u) v ⟨q, 1, none⟩ (by simp; omega)).trans (k1 u)
  clear HA1 HA2 hb0 hqs
  go_region_with
    ((go_at_call 59; refine hI.mono ?_; rintro e w2 ⟨A', c', G', rfl, hp2, hT2, hN2⟩; obtain ⟨⟨hc1, hc2, hc3, hf1⟩, hP⟩ := hF _ _ _ _ hp2 hT2 hN2; clear hp2 hT2 hN2))
  all_goals (go_wp2; go_ret; exact ⟨rfl, hP⟩)
end
end Go.Proofs.Ytjidhpmjdhjciaa
