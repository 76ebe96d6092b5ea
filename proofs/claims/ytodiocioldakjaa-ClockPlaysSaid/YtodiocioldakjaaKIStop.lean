/- What slices.Delete does with one pair of a row; what Stop does. -/
import Derived.Lib.SliceRun
import Derived.Test.YtodiocioldakjaaFHeld
import Derived.Test.YtodiocioldakjaaKIFind
namespace Go.Proofs.Ytodiocioldakjaa
open Go.RowKit
set_option linter.unusedVariables false

/-- 'clear(s)', s a slice of n > 0 elements of several cells each: its cells are noughts now; nothing else turns -/
theorem run_clear_wide {P : Program} (w : World) (t e ty : TypeId) (z : Value) (ht : P.underlying t = some (.slice e)) (hv : ∀ w, (zeroValue e).run P w = .ok z w) (b o n c : Nat) (hn : 0 < n)
    (h1 : ∀ u ∈ (Builtin.zeroCells z.cells n).toList, u.oneCell' = true) (hc : ∀ j, j < n * z.cells.size → (w.cell? ⟨b, o + j, none⟩).isSome = true) (hf : ∀ j, j < n * z.cells.size → w.frozen? ⟨b, o + j, none⟩ = false) :
    (Builtin.clear_ #[t] ty #[.slice (some ⟨b, o, none⟩) n c]).run P w = .ok (.tuple #[]) (w.setCells b o (Builtin.zeroCells z.cells n).toList) := by
  have hl : (Builtin.zeroCells z.cells n).toList.length = n * z.cells.size := by simp [Builtin.zeroCells]
  have hst := run_storeCells_cells (P := P) b o (Builtin.zeroCells z.cells n).toList 0 w (by rw [hl]; simpa using hc) (by rw [hl]; simpa using hf) h1
  simp only [Nat.add_zero] at hst
  obtain ⟨m, rfl⟩ : ∃ m, n = m + 1 := ⟨n - 1, by omega⟩
  simp [Builtin.clear_, run_underlying ht, hv, hst]
theorem zerosI_one (n : Nat) : ∀ u ∈ (Builtin.zeroCells (#[.int .i64 0, .int .i64 0] : Array Value) n).toList, u.oneCell' = true := by
  intro u hu
  simp only [Builtin.zeroCells, Array.toList_map, List.mem_map] at hu
  obtain ⟨i, _, rfl⟩ := hu
  have : i % 2 = 0 ∨ i % 2 = 1 := by omega
  rcases this with h | h <;> simp [h] <;> rfl
/-- a row that is shorter now: its beginning lies in the same block -/
theorem OwnI.first {TT : TypeId} {w : World} {g c n : Nat} {cur : Array Value} {l : List (Int × Int)} (hh : w.heap[g]? = some (.cells cur TT (0, 0))) (hn : n ≤ c) (hm : c ≤ maxLen) (hs : cur.size = c * 2) (hl : l.length = n)
    (hat : ∀ j, j < n * 2 → cur[j]? = (flatI l)[j]?) : OwnI TT w (.slice (some ⟨g, 0, none⟩) n c) l := by
  subst hl
  refine ⟨flatI_len l, .inr ⟨g, c, cur, rfl, Nat.zero_le _, hh, hn, hm, hs, ?_⟩⟩
  apply List.ext_getElem?
  intro j
  rw [List.getElem?_take]
  by_cases hj : j < l.length * 2
  · rw [if_pos hj, Array.getElem?_toList, hat j hj]
  · rw [if_neg hj, List.getElem?_eq_none (by rw [flatI_len]; omega)]
/-- one pair is out -/
def cut1I (l : List (Int × Int)) (i : Nat) : List (Int × Int) := l.take i ++ l.drop (i + 1)
/-- what Delete hands back -/
def DelOneI (l : List (Int × Int)) (i : Nat) (V : Value) (w : World) (e : Ending) (w' : World) : Prop :=
  ∃ V', e = .returned V' ∧ (∃ A c, V' = .slice A (l.length - 1) c) ∧ Hid (OwnI 72 w' V' (cut1I l i) ∧ Moves (fun k => V.ownBlock = some k) (fun k => V'.ownBlock = some k) w w')
set_option maxRecDepth 100000 in
set_option maxHeartbeats 1600000 in
theorem deleteI_any {w : World} {g n cp : Nat} {l : List (Int × Int)} (h : OwnI 72 w (.slice (some ⟨g, 0, none⟩) n cp) l) (hn : l.length = n) (hbig : n ≤ 100000) (i : Nat) (hi : i < n) :
    Calls Try.prog 36 #[.slice (some ⟨g, 0, none⟩) n cp, .int .i64 i, .int .i64 ((i : Int) + 1)] w (DelOneI l i (.slice (some ⟨g, 0, none⟩) n cp) w) := by
  obtain ⟨n1, hn1⟩ : ∃ n1, n1 + 1 = n := ⟨n - 1, by omega⟩
  obtain ⟨i0, hi0, hz0, hz1, hz2⟩ := info_parts timerI_info
  have hzv : ∀ w, (zeroValue 72).run Try.prog w = .ok (.agg #[.int .i64 0, .int .i64 0]) w := Try.zeroValue72
  rcases h.2 with ⟨_, h0⟩ | ⟨g', cp', cur, hv, _, hh, hnc, hcm, hcs, htk⟩
  · omega
  injection hv with hv1 hv3 hv2
  injection hv1 with hv1
  injection hv1 with hv1
  subst hv1
  subst hv2
  obtain ⟨tv, htv⟩ : ∃ tv, tv = Value.slice (if cp = i + 1 then some ⟨g, 0, none⟩ else some ⟨g, (i + 1) * 2, none⟩) (n - (i + 1)) (cp - (i + 1)) := ⟨_, rfl⟩
  have hfl : (flatI l).length = n * 2 := by rw [flatI_len, hn]
  have hcell : ∀ j u, (flatI l)[j]? = some u → w.cell? ⟨g, j, none⟩ = some u := fun j u hj => by
    rw [World.ownsRow.cellAt (hn ▸ h) j (by have := (List.getElem?_eq_some_iff.1 hj).1; omega)]; exact hj
  obtain ⟨news, hnews⟩ : ∃ news, news = flatI (l.drop (i + 1)) := ⟨_, rfl⟩
  have hnl : news.length = (n - (i + 1)) * 2 := by rw [hnews, flatI_len, List.length_drop, hn]
  have hnc2 : ∀ j u, news[j]? = some u → w.drew.cell? ((⟨g, (i + 1) * 2, none⟩ : Addr).add j) = some u := fun j u hj => by
    rw [add_off]
    rw [hnews, flatI_drop, List.getElem?_drop] at hj
    exact hcell _ _ hj
  have hone : ∀ u ∈ news, u.oneCell' = true := fun u hu => by rw [hnews] at hu; exact flatI_one hu
  obtain ⟨w5, hw5⟩ : ∃ w5, w5 = w.drew.setRow g (cur.toList.take (i * 2) ++ news ++ cur.toList.drop (i * 2 + news.length)).toArray := ⟨_, rfl⟩
  have hrun : ∀ ty, (Builtin.append_ #[68, 68] ty #[.slice (some ⟨g, 0, none⟩) i cp, tv]).run Try.prog w.drew = .ok (.slice (some ⟨g, 0, none⟩) n1 cp) w5 := fun ty => by
    have e1 : i + (n - (i + 1)) = n1 := by omega
    rw [htv, hw5]
    by_cases hc : cp = i + 1
    · have hn0 : n - (i + 1) = 0 := by omega
      have hnn : news = [] := List.eq_nil_of_length_eq_zero (by omega)
      have := run_append_room (P := Try.prog) w.drew 68 ty 72 i0 Try.underlying68 hi0 g i cp cur hh ⟨g, 0, none⟩ (n - (i + 1)) (cp - (i + 1)) news (by rw [hz1]; exact hnl) (fun j u hj => by rw [hnn] at hj; simp at hj) hone (by omega) (by rw [hz1]; omega)
      rw [if_pos hc, this, hz1, e1]
    · have := run_append_room (P := Try.prog) w.drew 68 ty 72 i0 Try.underlying68 hi0 g i cp cur hh ⟨g, (i + 1) * 2, none⟩ (n - (i + 1)) (cp - (i + 1)) news (by rw [hz1]; exact hnl) hnc2 hone (by omega) (by rw [hz1]; omega)
      rw [if_neg hc, this, hz1, e1]
  obtain ⟨cur5, hcur5⟩ : ∃ cur5, cur5 = (cur.toList.take (i * 2) ++ news ++ cur.toList.drop (i * 2 + news.length)).toArray := ⟨_, rfl⟩
  have hh5 : w5.heap[g]? = some (.cells cur5 72 (0, 0)) := by rw [hw5, hcur5]; exact setRow_heap w.drew g cur _ _ _ hh
  have hs5 : cur5.size = cp * 2 := by
    rw [hcur5]; simp only [List.size_toArray, List.length_append, List.length_take, List.length_drop, Array.length_toList]; omega
  have hat5 : ∀ j, j < n1 * 2 → cur5[j]? = (flatI (cut1I l i))[j]? := fun j hj => by
    have e1 : cur.toList.take (i * 2) = flatI (l.take i) := by
      rw [flatI_take, ← htk, List.take_take, Nat.min_eq_left (by omega)]
    unfold cut1I
    rw [hcur5, e1, flatI_app, ← hnews, List.getElem?_toArray, List.getElem?_append_left (by rw [List.length_append, hnl, flatI_len, List.length_take]; omega)]
  have hs5w : w5.heap.size = w.heap.size := by rw [hw5]; simp
  have ho5 : ∀ k, k ≠ g → w5.heap[k]? = w.heap[k]? := fun k hk => by rw [hw5]; exact setRow_other w.drew g k _ hk
  have hos : w5.os = w.os ∧ w5.tape = w.tape ∧ w5.output = w.output := by rw [hw5]; exact ⟨rfl, rfl, rfl⟩
  obtain ⟨w6, hw6⟩ : ∃ w6, w6 = w5.setCells g (n1 * 2) (Builtin.zeroCells (Value.agg #[.int .i64 0, .int .i64 0]).cells (n - n1)).toList := ⟨_, rfl⟩
  have hclear : ∀ ty c', (Builtin.clear_ #[68] ty #[.slice (some ⟨g, n1 * 2, none⟩) (n - n1) c']).run Try.prog w5 = .ok (.tuple #[]) w6 := fun ty c' => by
    rw [hw6]
    refine run_clear_wide w5 68 72 ty _ Try.underlying68 hzv g (n1 * 2) (n - n1) c' (by omega) (zerosI_one _) (fun j hj => ?_) (fun j hj => by simp [World.frozen?, hh5])
    have hj' : j < (n - n1) * 2 := hj
    rw [cell_of_row _ _ _ _ _ _ hh5, Array.getElem?_eq_getElem (by omega)]; rfl
  have HF : Hid (DelOneI l i (.slice (some ⟨g, 0, none⟩) n cp) w (.returned (.slice (some ⟨g, 0, none⟩) n1 cp)) w6) := by
    have hh6 := setCells_block (Builtin.zeroCells (Value.agg #[.int .i64 0, .int .i64 0]).cells (n - n1)).toList _ _ (n1 * 2) hh5
    rw [← hw6] at hh6
    have hlen6 : (cut1I l i).length = n1 := by unfold cut1I; rw [List.length_append, List.length_take, List.length_drop]; omega
    refine cover ⟨_, rfl, ⟨_, cp, by rw [hn]; congr 1; omega⟩, cover ⟨?_, ?_⟩⟩
    · exact OwnI.first hh6 (by omega) hcm (by rw [setAll_size]; exact hs5) hlen6 (fun j hj => by rw [setAll_out _ _ _ _ (.inl hj)]; exact hat5 j hj)
    · refine ⟨by rw [hw6, (setCells_os _ _ _).1]; exact hos.1, by rw [hw6, (setCells_os _ _ _).2.1]; exact hos.2.1, by rw [hw6, (setCells_os _ _ _).2.2]; exact hos.2.2, by rw [hw6, setCells_size, hs5w]; exact Nat.le_refl _, fun k hk hn' => ?_, fun k hk => .inl hk⟩
      have hkg : k ≠ g := fun e => hn' (by rw [e]; rfl)
      rw [hw6, setCells_other hkg, ho5 k hkg]
  have hrun5 := cover hrun
  have hb1 : ((i : Int) == (i : Int) + 1) = false := by rw [beq_eq_false_iff_ne]; omega
  have hcn1 : ¬ (cp = n1) := by omega
  have hin : (i : Int) + 1 ≤ (n : Int) := by omega
  have hnn1 : (n1 : Int) ≤ (n : Int) := by omega
  have hncI : (n : Int) ≤ (cp : Int) := by omega
  have hic : i ≤ cp := by omega
  have hin' : i + 1 ≤ n := by omega
  have hnc' : n ≤ cp := by omega
  have hp0 : ¬ ((i : Int) + 1 < 0) := by omega
  clear hv3 hnc
  generalize DelOneI l i (.slice (some ⟨g, 0, none⟩) n cp) w = Post at HF ⊢
  clear hw6 hw5 hrun hh5 hs5 hat5 hs5w ho5 hos hcur5 hnews hnl hnc2 hone hcell hfl htk hcs hh h hzv hi0 hz0 hz1 hz2 hn hcm
  go_enter Try.func36, Try.ntmps36
  go_wp2_with fail
  have mixed : Try.prog.follows .mixedOrders = true := by kernel_rfl
  refine (wpIn_wide (n := 0)).1 ?_
  refine held_begin (fun W' : World => True) 99 mixed ?_
  have HS : (fun W' : World => True) w.drew := trivial
  refine hold_take 0 _ rfl (by kernel_rfl) (by kernel_rfl) (by kernel_rfl) (by kernel_rfl) (by kernel_rfl) (fun _ _ _ h => h) (by rfl) (fun _ => rfl) HS (fun w' hS => by go_simp; rfl) ?_
  simp only [Act.put, List.setIfInBounds_toArray, List.set_cons_zero, List.set_cons_succ]
  refine hold_take 1 _ rfl (by kernel_rfl) (by kernel_rfl) (by kernel_rfl) (by kernel_rfl) (by kernel_rfl) (fun _ _ _ h => h) (by rfl) (fun _ => rfl) HS (fun w' hS => by go_simp; rfl) ?_
  simp only [Act.put, List.setIfInBounds_toArray, List.set_cons_zero, List.set_cons_succ]
  refine hold_take 2 _ rfl (by kernel_rfl) (by kernel_rfl) (by kernel_rfl) (by kernel_rfl) (by kernel_rfl) (fun _ _ _ h => h) (by rfl) (fun _ => rfl) HS (fun w' hS => by go_simp; rfl) ?_
  simp only [Act.put, List.setIfInBounds_toArray, List.set_cons_zero, List.set_cons_succ]
  refine hold_take 3 _ rfl (by kernel_rfl) (by kernel_rfl) (by kernel_rfl) (by kernel_rfl) (by kernel_rfl) (fun _ _ _ h => h) (by rfl) (fun _ => rfl) HS (fun w' hS => by go_simp; rfl) ?_
  simp only [Act.put, List.setIfInBounds_toArray, List.set_cons_zero, List.set_cons_succ]
  refine hold_take 4 _ rfl (by kernel_rfl) (by kernel_rfl) (by kernel_rfl) (by kernel_rfl) (by kernel_rfl) (fun _ _ _ h => h) (by rfl) (fun _ => rfl) HS (fun w' hS => by go_simp; rfl) ?_
  simp only [Act.put, List.setIfInBounds_toArray, List.set_cons_zero, List.set_cons_succ]
  refine hold_take 5 tv rfl (by kernel_rfl) (by kernel_rfl) (by kernel_rfl) (by kernel_rfl) (by kernel_rfl) (fun _ _ _ h => h) (by rfl) (fun _ => rfl) HS (fun w' hS => by go_simp; skip) ?_
  simp only [Act.put, List.setIfInBounds_toArray, List.set_cons_zero, List.set_cons_succ]
  refine hold_one 6 (by kernel_rfl) rfl (by rfl) fun K hK => ?_
  refine run_in (fun c h => by cases h) (fun _ _ => trivial) (v := .slice (some ⟨g, 0, none⟩) n1 cp) (w' := w5) (appends_exec _ _ _ _ rfl (.slice (some ⟨g, 0, none⟩) i cp) tv (by go_simp) (by go_simp) (hrun5.out _)) ?_
  refine hK _ _ (.inr trivial) ?_
  clear hK K
  clear htv hrun5
  refine hold_take 7 _ rfl (by kernel_rfl) (by kernel_rfl) (by kernel_rfl) (by kernel_rfl) (by kernel_rfl) (fun _ _ _ h => h) (by rfl) (fun _ => rfl) trivial (fun w' hS => by go_simp; rfl) ?_
  simp only [Act.put, List.setIfInBounds_toArray, List.set_cons_zero, List.set_cons_succ]
  refine held_done (by kernel_rfl) ?_ _
  skip
  go_wp2_with (at_builtin; refine run_to rfl _ _ (by simp [execOp, resolve, invoke, builtin, hclear, Act.eval, Act.put]) ?_)
  all_goals exact HF.out
theorem cut1I_is {l : List (Int × Int)} {k : Int} {i : Nat} {x : Int} (hi : l[i]? = some (k, x)) (hd : (l.map (·.1)).Nodup) (now : Nat) : cut1I (endsK now l) i = endsK now (stopK l k) := by
  have e : stopK l k = l.take i ++ l.drop (i + 1) := by
    induction l generalizing i with
    | nil => simp at hi
    | cons y l ih =>
      rw [List.map_cons, List.nodup_cons] at hd
      cases i with
      | zero =>
        simp at hi; subst hi
        have hno : hasK l k = false := by
          cases hh : hasK l k
          · rfl
          · exact absurd (hasK_iff.1 hh) hd.1
        have : stopK ((k, x) :: l) k = stopK l k := by unfold stopK; rw [List.filter_cons, if_neg (by simp)]
        rw [this, stopK_no hno]; rfl
      | succ i =>
        have h' : l[i]? = some (k, x) := by simpa using hi
        have hne : y.1 ≠ k := fun e => hd.1 (List.mem_map.2 ⟨(k, x), List.mem_of_getElem? h', e.symm⟩)
        have : stopK (y :: l) k = y :: stopK l k := by unfold stopK; rw [List.filter_cons, if_pos (by simp [hne])]
        rw [this, ih h' hd.2]; rfl
  unfold cut1I endsK
  rw [e, List.map_append, List.map_take, List.map_drop]
set_option maxHeartbeats 800000 in
theorem stopI_none {w : World} {c : Nat} {V : Value} {m now : Nat} {l : List (Int × Int)} (h : CIIn w c V m now l) (k : Int) (hk : hasK l k = false) :
    Calls Try.prog 17 #[ptr c, .int .i64 k] w fun e w' => e = .returned (.bool false) ∧ Below w.heap.size w w' := by
  have HF := findI_none h k hk
  clear h hk
  go_enter Try.func17, Try.ntmps17
  go_wp2_with fail
  refine HF.mono ?_
  rintro e w1 ⟨rfl, hb⟩
  go_wp2
  go_ret
  exact ⟨rfl, hb⟩
set_option maxHeartbeats 800000 in
theorem stopI_at {w : World} {c : Nat} {V : Value} {m now : Nat} {l : List (Int × Int)} (h : CIIn w c V m now l) (k : Int) (hk : hasK l k = true) :
    Calls Try.prog 17 #[ptr c, .int .i64 k] w fun e w' => e = .returned (.bool true) ∧ Hid (CINow (cfoot c V) c m now (stopK l k) w w') := by
  obtain ⟨i, x, hi, hno⟩ := placeI_ex hk
  have HF := findI_at h k i x hi hno
  have hxe : (endsK now l)[i]? = some (k, (now : Int) + x) := by rw [endsK_get, hi]; rfl
  have hil := (List.getElem?_eq_some_iff.1 hi).1
  have hlen := h.len
  have hcl := block_lt h.hd
  have HH := cover (And.intro h hi)
  obtain ⟨g, cp, hv, _, _, _, _, _⟩ := h.row.cell hxe
  rw [endsK_len] at hv
  clear h hk hno hi hxe
  subst hv
  go_enter Try.func17, Try.ntmps17
  go_wp2_with fail
  refine HF.mono ?_
  rintro e w1 ⟨rfl, hb⟩
  have h1 := HH.out.1.below hb
  have e2 := h1.cells.2.2
  have e3 := h1.thaw 2
  have hcl1 := block_lt h1.hd
  have H1 := cover (And.intro h1 hb)
  have hD := deleteI_any h1.row (endsK_len now l) hlen i hil
  clear h1 hb HF
  go_wp2_with fail
  refine hD.mono ?_
  rintro e w2 ⟨V', rfl, ⟨A', c', hV'⟩, HO⟩
  have hsh := hV'
  have hne : ∀ o, w2.frozen? ⟨c, o, none⟩ = false := fun o => by
    have : w2.heap[c]? = _ := HO.out.2.at_ H1.out.1.hd H1.out.1.apart
    simp [World.frozen?, this]
  have e4 := hne 2
  have e5 : w2.cell? ⟨c, 2, none⟩ = some (.slice (some ⟨g, 0, none⟩) l.length cp) := by
    have : w2.heap[c]? = _ := HO.out.2.at_ H1.out.1.hd H1.out.1.apart
    rw [cell_of_row _ _ _ _ _ _ this]; rfl
  have HT : Hid (CINow (cfoot c (.slice (some ⟨g, 0, none⟩) l.length cp)) c m now (stopK l k) w (w2.setCell ⟨c, 2, none⟩ V')) := by
    obtain ⟨ho, hm⟩ := HO.out
    rw [cut1I_is HH.out.2 HH.out.1.ok.once] at ho
    obtain ⟨k1, k2⟩ := H1.out.1.raw.turn hm ho HH.out.1.ok.stop
    exact cover ⟨V', k1, Moves.after H1.out.2 k2⟩
  subst hV'
  clear hD e2 e3 HO hne
  go_wp2
  go_ret
  exact ⟨rfl, HT⟩
end Go.Proofs.Ytodiocioldakjaa
