/- What the queue's functions do, at frames: Cut, and Insert and Put behind the last one, Take. -/
import Derived.Deep.RegionWith
import Derived.Test.YtjidhpmjdhjciaaFOps1
namespace Go.Proofs.Ytjidhpmjdhjciaa
open Go.RowKit

section
variable {w : World} {q : Nat} {G : Option Nat} {m : Int} {ps : List Nat} {xs : List (Array Value)}
theorem cutF_none (h : FIn w q G m ps xs) (n : Int) (hn : n < 1 ∨ ps.length = 0) : Calls Try.prog 49 #[ptr q, .int .i64 n] w fun e w' => e = .returned (.int .i64 0) ∧ w = w' := by
  have HL := lenF_any h
  clear h
  generalize ps.length = k at HL hn
  by_cases hk : (k : Int) < n
  · have h0 : k = 0 := by omega
    subst h0
    clear hn
    go_enter Try.func49, Try.ntmps49
    go_wp2_with (go_at_call 57; refine HL.mono ?_; rintro e w' ⟨rfl, rfl⟩)
    go_ret
    exact ⟨rfl, rfl⟩
  · have h1 : n < 1 := by omega
    clear hn
    go_enter Try.func49, Try.ntmps49
    go_wp2_with (go_at_call 57; refine HL.mono ?_; rintro e w' ⟨rfl, rfl⟩)
    go_ret
    exact ⟨rfl, rfl⟩
theorem cutF_some (h : FIn w q G m ps xs) (n k : Nat) (h1 : 1 ≤ k) (hk : k = min n ps.length) (hn63 : n ≤ 9223372036854775807) : Calls Try.prog 49 #[ptr q, .int .i64 n] w fun e w' => e = .returned (.int .i64 k) ∧ Hid (FIn w' q G m (ps.drop k) (xs.drop k) ∧ Turned (q :: G.toList) w w') := by
  have HL := lenF_any h
  obtain ⟨A, c, hh, hr⟩ := h.ex
  rcases hr.ex with ⟨_, _, _, rfl⟩ | ⟨g, o, cur, rfl, rfl, hcur, hsz, hle, hat⟩
  · simp at hk; omega
  have hkl : k ≤ ps.length := by rw [hk]; exact Nat.min_le_right _ _
  have hgq : g ≠ q := type_ne hcur hh (by decide)
  have h0 := cell_of_row w q 0 _ _ _ hh
  have h1' := cell_of_row w q 1 _ _ _ hh
  simp at h0 h1'
  have hzv : ∀ w, (zeroValue 95).run Try.prog w = .ok (.pointer none) w := Try.zeroValue95
  have hcc : ∀ j, j < k → (w.cell? ⟨g, o + j, none⟩).isSome = true := fun j hj => by
    rw [cell_of_row w g _ _ _ _ hcur, Array.getElem?_eq_getElem (by omega)]; rfl
  have hcf : ∀ j, j < k → w.frozen? ⟨g, o + j, none⟩ = false := fun j _ => by simp [World.frozen?, hcur]
  have hclear : ∀ ty cp, (Builtin.clear_ #[90] ty #[.slice (some ⟨g, o, none⟩) k cp]).run Try.prog w = _ := fun ty cp =>
    Lib.run_clear_slice w 90 95 ty (.pointer none) Try.underlying90 hzv rfl rfl g o k cp (by omega) hcc hcf
  obtain ⟨w1, hw1⟩ : ∃ w1, w.setCells g o (List.replicate k (.pointer none)) = w1 := ⟨_, rfl⟩
  rw [hw1] at hclear
  have hq1 : w1.heap[q]? = w.heap[q]? := by rw [← hw1]; exact setCells_other (fun e => hgq e.symm) _ _ _
  have hc0 : w1.cell? ⟨q, 0, none⟩ = some (.int .i64 m) := by rw [← h0]; exact World.cell?_of_block hq1
  have hc1 : w1.cell? ⟨q, 1, none⟩ = some (.slice (some ⟨g, o, none⟩) ps.length c) := by rw [← h1']; exact World.cell?_of_block hq1
  have hf1 : w1.frozen? ⟨q, 1, none⟩ = false := by simp [World.frozen?, hq1, hh]
  have hfin : ∀ v, v = Value.slice (if c = k then some ⟨g, o, none⟩ else some ((⟨g, o, none⟩ : Addr).add k)) (ps.length - k) (c - k) → Hid (FIn (w1.setCell ⟨q, 1, none⟩ v) q (some g) m (ps.drop k) (xs.drop k) ∧ Turned (q :: (some g).toList) w (w1.setCell ⟨q, 1, none⟩ v)) := by
    intro v hv
    have hT1 : Turned [g] w w1 := by rw [← hw1]; exact (Turned.refl _ _).setCells (.inl (by simp)) _ _
    refine cover ⟨⟨⟨_, c - k, ?_, ⟨.inr ⟨g, if c = k then o else o + k, setAll cur o (List.replicate k (.pointer none)), rfl, rfl, ?_, ?_, ?_, ?_⟩⟩⟩, by simp [h.len], ?_, h.nd.sublist (List.drop_sublist _ _)⟩, (hT1.mono (by simp)).setCell (.inl (by simp)) _ _⟩
    · rw [set_block (hq1.trans hh)]
      rw [hv, add_off, List.length_drop]
      by_cases hck : c = k <;> simp [hck]
    · rw [set_other _ _ hgq, ← hw1]; exact setCells_block _ _ _ _ hcur
    · rw [setAll_size]; split <;> omega
    · rw [List.length_drop]; omega
    · intro j p hj
      rw [List.getElem?_drop] at hj
      obtain ⟨hlt, _⟩ := List.getElem?_eq_some_iff.1 hj
      rw [if_neg (show ¬ c = k by omega), setAll_out _ _ _ _ (by simp), Nat.add_assoc]
      exact hat _ p hj
    · intro j p x hp hx
      rw [List.getElem?_drop] at hp hx
      have hpc := h.cells _ p x hp hx
      rw [set_other _ _ (type_ne hpc hh (by decide))]
      exact hT1.at_ hpc (by simpa using type_ne hpc hcur (by decide))
  have HF := cover hfin
  clear hfin hcc hcf hh hr hat hcur h hzv hq1 hw1
  obtain rfl | hnk : n = k ∨ k < n := by omega
  · have hnl : ¬ ((ps.length : Int) < (n : Int)) := by omega
    clear hk
    go_enter Try.func49, Try.ntmps49
    go_wp2_with (first | (go_at_call 57; refine HL.mono ?_; rintro e w' ⟨rfl, rfl⟩) | (at_builtin; refine run_to rfl _ _ (by simp [execOp, resolve, invoke, builtin, hclear, Act.eval, Act.put]) ?_))
    all_goals (go_ret; exact ⟨rfl, HF.out _ (by first | rfl | (simp [show c = n by assumption]; done) | (simp [show ¬ c = n by assumption, add_off]; done))⟩)
  · have hkp : k = ps.length := by omega
    have hnl : (ps.length : Int) < (n : Int) := by omega
    rw [← hkp] at hnl
    have hkc : k ≤ c := by omega
    rw [← hkp] at HL h1' hc1 HF
    clear hk hkp hkl hle
    go_enter Try.func49, Try.ntmps49
    go_wp2_with (first | (go_at_call 57; refine HL.mono ?_; rintro e w' ⟨rfl, rfl⟩) | (at_builtin; refine run_to rfl _ _ (by simp [execOp, resolve, invoke, builtin, hclear, Act.eval, Act.put]) ?_))
    all_goals (go_ret; exact ⟨rfl, HF.out _ (by first | rfl | (simp [show c = k by assumption]; done) | (simp [show ¬ c = k by assumption, add_off]; done))⟩)
/-- one more behind the row -/
def FEnd (ps : List Nat) (p : Nat) (G : Option Nat) (w : World) (e : Ending) (w' : World) : Prop :=
  ∃ A' c' G', e = .returned (.slice A' (ps.length + 1) c') ∧ PRow 95 w' G' A' c' (ps ++ [p]) ∧ Turned G.toList w w' ∧ Next w G G'
theorem insEndF {A : Option Addr} {c v p : Nat} (h : PRow 95 w G A c ps) (hv : w.cell? ⟨v, 0, none⟩ = some (ptr p)) (hbig : (ps.length + 1) * 8 ≤ 140737488355328) :
    Calls Try.prog 59 #[.slice A ps.length c, .int .i64 ps.length, .slice (some ⟨v, 0, none⟩) 1 1] w (FEnd ps p G w) := by
  obtain ⟨i0, hi, hz0, hz1, hz2⟩ := info_parts F_info
  obtain ⟨A', c', G', w1, hrun, hp, hT, hN⟩ := append_prow (P := Try.prog) (TS := 90) Try.underlying90 hi hz0 hz1 hz2 h hv hbig
  have H : Hid (PRow 95 w1 G' A' c' (ps ++ [p]) ∧ Turned G.toList w w1 ∧ Next w G G') := cover ⟨hp, hT, hN⟩
  have hc := h.cap
  have HE : ∀ w', w' = w1 → Hid (FEnd ps p G w (.returned (.slice A' (ps.length + 1) c')) w') := fun w' e => by subst e; exact cover ⟨A', c', G', rfl, H.out⟩
  clear hi hz0 hz1 hz2 hp hT hN h hv H
  generalize hEnd : FEnd ps p G w = Post at HE ⊢
  clear hEnd
  generalize ps.length = n at hrun hc hbig HE ⊢
  go_enter Try.func59, Try.ntmps59
  rcases A with _ | ⟨ab, ao, asp⟩
  all_goals (go_wp2_with (at_builtin; refine Lib.wpList_append_run _ rfl _ _ _ _ rfl _ _ rfl rfl _ _ (hrun _) ?_))
  all_goals (exact (HE _ rfl).out)
theorem held_alloc3 {w : World} {a b c : Addr} {x y z : Option Value} (ha : a.block < w.heap.size) (hb : b.block < w.heap.size) (hc : c.block < w.heap.size) (h : w.cell? a = x ∧ w.cell? b = y ∧ w.cell? c = z) (o : Obj) :
    (w.alloc o).cell? a = x ∧ (w.alloc o).cell? b = y ∧ (w.alloc o).cell? c = z :=
  ⟨(World.cell?_alloc_lt w o a ha).trans h.1, (World.cell?_alloc_lt w o b hb).trans h.2.1, (World.cell?_alloc_lt w o c hc).trans h.2.2⟩
/-- one is put behind the last -/
def FPut (x : Array Value) (q : Nat) (G : Option Nat) (m : Int) (ps : List Nat) (xs : List (Array Value)) (w w' : World) : Prop :=
  ∃ G' p, FIn w' q G' m (ps ++ [p]) (xs ++ [x]) ∧ Turned (q :: G.toList) w w' ∧ Next w G G' ∧ w.heap.size ≤ p
set_option maxRecDepth 100000 in
set_option maxHeartbeats 4000000 in
theorem insertF_end (h : FIn w q G m ps xs) (B : Option Addr) (k d : Nat) (n : Int) (hm : (ps.length : Int) < m) (hbig : (ps.length + 1) * 8 ≤ 140737488355328) :
    Calls Try.prog 37 #[ptr q, .int .i64 ps.length, .agg (fl B k d n)] w fun e w' => e = .returned (.bool true) ∧ Hid (FPut (fl B k d n) q G m ps xs w w') := by
  obtain ⟨w0, hw0⟩ : ∃ w0, w0 = w.alloc (.cells (fl B k d n) 73) := ⟨_, rfl⟩
  have hb0 : Below w.heap.size w w0 := by rw [hw0]; exact (Below.refl _ _).alloc (Nat.le_refl _) _
  have hs0 : w0.heap.size = w.heap.size + 1 := by rw [hw0]; simp
  have hx : w0.heap[w.heap.size]? = some (.cells (fl B k d n) 73 (0, 0)) := by rw [hw0]; exact heap_alloc_new _ _
  obtain ⟨bx, hbx⟩ : ∃ bx, bx = w.heap.size := ⟨_, rfl⟩
  rw [← hbx] at hx
  have h' := h.below hb0
  have HL := lenF_any h'
  have HM := mostF_any h'
  obtain ⟨A, c, hh, hr⟩ := h'.ex
  have h0 := cell_of_row w0 q 0 _ _ _ hh
  have h1 := cell_of_row w0 q 1 _ _ _ hh
  have h2 := cell_of_row w0 bx 0 _ _ _ hx
  have h3 := cell_of_row w0 bx 1 _ _ _ hx
  simp at h0 h1 h2 h3
  have hql := h'.lt
  have hqs : bx < w0.heap.size := by rw [hs0, hbx]; omega
  have hrow : ∀ W', Below w0.heap.size w0 W' → PRow 95 W' G A c ps := fun W' hb => hr.keep fun g hg => by
    obtain ⟨cur, hc⟩ := hr.lt hg
    exact hb.block g (block_lt hc)
  have HI : Hid (∀ z, z = w0.heap.size → Calls Try.prog 59 #[.slice A ps.length c, .int .i64 ps.length, .slice (some ⟨z + 1, 0, none⟩) 1 1] (((w0.alloc (.cells #[.slice B k d, .int .i64 n, .bool false] 94)).alloc (.cells #[ptr z] 95)).drew) (FEnd ps z G (((w0.alloc (.cells #[.slice B k d, .int .i64 n, .bool false] 94)).alloc (.cells #[ptr z] 95)).drew))) := by
    refine cover fun z hz => ?_
    refine insEndF (hrow _ (((Below.refl _ _).alloc (Nat.le_refl _) _).alloc (by simp) _).drew) ?_ hbig
    have := cell_one_new (w0.alloc (.cells #[.slice B k d, .int .i64 n, .bool false] 94)) (ptr z) 95 0 (ptr z) rfl
    rw [World.size_alloc] at this
    subst hz
    exact this
  have HF : Hid (∀ z, z = w0.heap.size → ∀ A' c' G' w2, PRow 95 w2 G' A' c' (ps ++ [z]) → Turned G.toList (((w0.alloc (.cells #[.slice B k d, .int .i64 n, .bool false] 94)).alloc (.cells #[ptr z] 95)).drew) w2 → Next (((w0.alloc (.cells #[.slice B k d, .int .i64 n, .bool false] 94)).alloc (.cells #[ptr z] 95)).drew) G G' →
      (w2.cell? ⟨q, 1, none⟩ = some (.slice A ps.length c) ∧ w2.cell? ⟨bx, 0, none⟩ = some (.slice B k d) ∧ w2.cell? ⟨bx, 1, none⟩ = some (.int .i64 n) ∧ w2.frozen? ⟨q, 1, none⟩ = false) ∧ Hid (FPut (fl B k d n) q G m ps xs w (w2.setCell ⟨q, 1, none⟩ (.slice A' (ps.length + 1) c')))) := by
    refine cover fun z hz A' c' G' w2 hp hT hN => ?_
    have hTw : Turned G.toList w0 w2 := (Turned.of_below (((Below.refl _ _).alloc (Nat.le_refl _) _).alloc (by simp) _).drew).trans hT (fun i hi => .inl hi)
    have hT2 : Turned G.toList w w2 := (Turned.of_below hb0).trans hTw (fun i hi => .inl hi)
    have hqG : ∀ j (cs : Array Value) (T : TypeId), w0.heap[j]? = some (.cells cs T (0, 0)) → T ≠ 95 → j ∉ G.toList := by
      intro j cs T hj hne hm; simp at hm
      obtain ⟨cur, hc⟩ := hr.lt hm
      exact type_ne hj hc hne rfl
    have hq2 := hTw.at_ hh (hqG _ _ _ hh (by decide))
    have hx2 := hTw.at_ hx (hqG _ _ _ hx (by decide))
    have hzc : w2.heap[z]? = some (.cells #[.slice B k d, .int .i64 n, .bool false] 94 (0, 0)) := by
      refine hT.at_ (o := .cells #[.slice B k d, .int .i64 n, .bool false] 94 (0, 0)) ?_ ?_
      · show ((w0.alloc _).alloc _).heap[z]? = _
        rw [Below.heap_alloc _ _ _ (by simp; omega), hz]; exact heap_alloc_new w0 _
      · intro hm; simp at hm
        obtain ⟨cur, hc⟩ := hr.lt hm
        have := block_lt hc; omega
    have hN2 : Next w G G' := by
      rcases hN with e | ⟨g, e, hg⟩
      · exact .inl e
      · exact .inr ⟨g, e, by have : w0.heap.size + 1 + 1 ≤ g := by simpa using hg
                             omega⟩
    refine ⟨⟨by rw [cell_of_row w2 q _ _ _ _ hq2]; rfl, by rw [cell_of_row w2 bx _ _ _ _ hx2]; rfl, by rw [cell_of_row w2 bx _ _ _ _ hx2]; rfl, by simp [World.frozen?, hq2]⟩, cover ⟨G', z, ⟨⟨A', c', ?_, ?_⟩, by simp [h.len], ?_, ?_⟩, (hT2.mono (fun i hi => List.mem_cons_of_mem _ hi)).setCell (.inl (by simp)) _ _, hN2, by omega⟩⟩
    · rw [set_block hq2]; simp
    · exact hp.keep fun g hg => by
        obtain ⟨cur, hc⟩ := hp.lt hg
        exact set_other _ _ (type_ne hc hq2 (by decide))
    · intro i p y hk hy
      by_cases hkl : i < ps.length
      · rw [List.getElem?_append_left hkl] at hk
        rw [List.getElem?_append_left (by rw [← h.len]; exact hkl)] at hy
        have hpc := h'.cells i p y hk hy
        rw [set_other _ _ (type_ne hpc hh (by decide))]
        exact hTw.at_ hpc (hqG _ _ _ hpc (by decide))
      · rw [List.getElem?_append_right (by omega)] at hk
        rw [List.getElem?_append_right (by rw [← h.len]; omega)] at hy
        obtain ⟨hlt, _⟩ := List.getElem?_eq_some_iff.1 hk
        have hk0 : i - ps.length = 0 := by simp at hlt; omega
        rw [hk0] at hk
        rw [show i - xs.length = 0 by rw [← h.len]; omega] at hy
        simp at hk hy
        subst hk hy
        rw [set_other _ _ (by omega)]
        exact hzc
    · refine List.nodup_append.2 ⟨h.nd, by simp, ?_⟩
      intro a ha b hb
      simp at hb
      have := h'.inSize (.inr (.inr ha))
      omega
  have HA1 := cover (held_alloc3 (a := ⟨q, 1, none⟩) (b := ⟨bx, 0, none⟩) (c := ⟨bx, 1, none⟩) hql hqs hqs ⟨h1, h2, h3⟩ (.cells #[.slice B k d, .int .i64 n, .bool false] 94))
  have HA2 := fun z => cover (held_alloc3 (a := ⟨q, 1, none⟩) (b := ⟨bx, 0, none⟩) (c := ⟨bx, 1, none⟩) (by simp; omega) (by simp; omega) (by simp; omega) HA1.out (.cells #[ptr z] 95))
  clear hh hr hrow
  go_enter Try.func37, Try.ntmps37
  go_wp2_with fail
  rw [← hw0, ← hbx]
  have HQ := cover h
  have HX := cover (And.intro hbx (And.intro hs0 (And.intro hb0 hx)))
  clear hw0 hbx h h' hx hs0
  go_wp2_with (first | (go_at_call 57; refine HL.mono ?_; rintro e w' ⟨rfl, rfl⟩) | (go_at_call 58; refine HM.mono ?_; rintro e w' ⟨rfl, rfl⟩))
  have hI := HI.out _ rfl
  have HA2 := HA2 w0.heap.size
  have hF := HF.out _ rfl
  have k1 := fun v => World.cell?_alloc_lt w0 v ⟨q, 1, none⟩ hql
  have k2 := fun u v => (World.cell?_alloc_lt (w0.alloc u) v ⟨q, 1, none⟩ (by simp; omega)).trans (k1 u)
  clear HA1 HA2 hb0 hqs
  go_region_with
    ((go_at_call 59; refine hI.mono ?_; rintro e w2 ⟨A', c', G', rfl, hp2, hT2, hN2⟩; obtain ⟨⟨hc1, hc2, hc3, hf1⟩, hP⟩ := hF _ _ _ _ hp2 hT2 hN2; clear hp2 hT2 hN2))
  all_goals (go_wp2; go_ret; exact ⟨rfl, hP⟩)
theorem insertF_no (h : FIn w q G m ps xs) (i : Int) (B : Option Addr) (k d : Nat) (n : Int) (hi : m ≤ (ps.length : Int) ∨ i < 0 ∨ (ps.length : Int) < i) :
    Calls Try.prog 37 #[ptr q, .int .i64 i, .agg (fl B k d n)] w fun e w' => e = .returned (.bool false) ∧ Below w.heap.size w w' := by
  have HL := fun v => lenF_any (h.below ((Below.refl w.heap.size w).alloc (Nat.le_refl _) v))
  have HM := fun v => mostF_any (h.below ((Below.refl w.heap.size w).alloc (Nat.le_refl _) v))
  clear h
  generalize ps.length = l at HL hi
  by_cases h1 : m ≤ (l : Int)
  · clear hi
    go_enter Try.func37, Try.ntmps37
    go_wp2_with (first | (go_at_call 57; refine (HL _).mono ?_; rintro e w' ⟨rfl, rfl⟩) | (go_at_call 58; refine (HM _).mono ?_; rintro e w' ⟨rfl, rfl⟩))
    go_ret
    exact ⟨rfl, (Below.refl _ _).alloc (Nat.le_refl _) _⟩
  · by_cases h2 : i < 0
    · clear hi
      go_enter Try.func37, Try.ntmps37
      go_wp2_with (first | (go_at_call 57; refine (HL _).mono ?_; rintro e w' ⟨rfl, rfl⟩) | (go_at_call 58; refine (HM _).mono ?_; rintro e w' ⟨rfl, rfl⟩))
      go_ret
      exact ⟨rfl, (Below.refl _ _).alloc (Nat.le_refl _) _⟩
    · have h3 : (l : Int) < i := by omega
      clear hi
      go_enter Try.func37, Try.ntmps37
      go_wp2_with (first | (go_at_call 57; refine (HL _).mono ?_; rintro e w' ⟨rfl, rfl⟩) | (go_at_call 58; refine (HM _).mono ?_; rintro e w' ⟨rfl, rfl⟩))
      go_ret
      exact ⟨rfl, (Below.refl _ _).alloc (Nat.le_refl _) _⟩
end
end Go.Proofs.Ytjidhpmjdhjciaa
