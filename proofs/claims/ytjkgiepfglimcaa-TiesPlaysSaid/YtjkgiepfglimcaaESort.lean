/- slices.SortedFunc of a map's keys: a new row, each key once, in order. -/
import Derived.Test.YtjkgiepfglimcaaELay
import Derived.Test.YtjkgiepfglimcaaECol
namespace Go.Proofs.Ytjkgiepfglimcaa
open Go.RowKit Go.Shelf Go.Sort
set_option linter.unusedVariables false

/-- keys that may be -/
abbrev WK := { k : EK // OkE k }
instance : Inhabited WK := ⟨⟨⟨0, 0, 0, 0, 0, 0, 0, 0⟩, by constructor <;> decide⟩⟩
theorem sort_agg (w : World) : (isAgg (sortF_ren.t 24)).run Try.prog w = .ok true w := Try.isAgg28 w
theorem sort_size (w : World) : (Go.sizeOf (sortF_ren.t 24)).run Try.prog w = .ok 8 w := Try.sizeOf28 w
theorem cmp_ltOf : ltOf (fun x y : WK => cmpE x.1 y.1) = fun x y => ltE x.1 y.1 := by
  funext x y
  unfold ltOf
  exact cmpE_lt x.1 y.1
theorem cmp_swo : SWO (ltOf fun x y : WK => cmpE x.1 y.1) := by
  rw [cmp_ltOf]
  refine ⟨fun x => ltE_ord.irr _, fun x y z => ltE_ord.trans _ _ _, fun x y z h1 h2 => ?_⟩
  cases h : ltE x.1 z.1
  · rfl
  · by_cases e : y.1 = z.1
    · rw [e] at h1; rw [h] at h1; cases h1
    · rcases ltE_ord.tot _ _ e with h3 | h3
      · rw [h2] at h3; cases h3
      · have := ltE_ord.trans _ _ _ h h3; rw [h1] at this; cases this
theorem cmp_tot (x y : WK) (h1 : ltOf (fun x y : WK => cmpE x.1 y.1) x y = false) (h2 : ltOf (fun x y : WK => cmpE x.1 y.1) y x = false) : x = y := by
  rw [cmp_ltOf] at h1 h2
  replace h1 : ltE x.1 y.1 = false := h1
  replace h2 : ltE y.1 x.1 = false := h2
  apply Subtype.ext
  by_cases e : x.1 = y.1
  · exact e
  · rcases ltE_ord.tot _ _ e with h3 | h3
    · rw [h1] at h3; cases h3
    · rw [h2] at h3; cases h3
theorem wk_ord : Ord (fun x y : WK => ltE x.1 y.1) := ⟨fun a => ltE_ord.irr _, fun a b c => ltE_ord.trans _ _ _, fun a b h => ltE_ord.tot _ _ (fun e => h (Subtype.ext e))⟩
def wks (ks : List EK) (h : ∀ k ∈ ks, OkE k) : List WK := ks.pmap Subtype.mk h
theorem wks_val (ks : List EK) (h : ∀ k ∈ ks, OkE k) : (wks ks h).map (·.1) = ks := by
  unfold wks
  rw [List.map_pmap]
  simp
theorem wks_len (ks : List EK) (h : ∀ k ∈ ks, OkE k) : (wks ks h).length = ks.length := by unfold wks; simp
abbrev encW (x : WK) : List Value := cellsE x.1
theorem flatE_get : ∀ (ks : List EK) (i j : Nat), j < 8 → (flatE ks)[i * 8 + j]? = (ks[i]?).bind fun k => (cellsE k)[j]?
  | [], i, j, _ => by simp [flatE]
  | k :: ks, 0, j, hj => by
    have e : flatE (k :: ks) = cellsE k ++ flatE ks := rfl
    rw [e, List.getElem?_append_left (by show 0 * 8 + j < 8; omega)]
    simp
  | k :: ks, i + 1, j, hj => by
    have e : flatE (k :: ks) = cellsE k ++ flatE ks := rfl
    have hl : (cellsE k).length = 8 := rfl
    rw [e, List.getElem?_append_right (by rw [hl]; omega), hl, show (i + 1) * 8 + j - 8 = i * 8 + j by omega, flatE_get ks i j hj]
    simp
theorem flat_wks (xs : List WK) : flatK encW 8 xs.toArray = (flatE (xs.map (·.1))).toArray := by
  refine ext_get! (by simp [flatE_len]) fun t ht => ?_
  have ht' : t < xs.length * 8 := by simpa using ht
  rw [get_flatK encW 8 _ t (by simpa using ht')]
  have h8 : t % 8 < 8 := Nat.mod_lt _ (by omega)
  have hq : t / 8 < xs.length := by omega
  have h1 := flatE_get (xs.map (·.1)) (t / 8) (t % 8) h8
  rw [show t / 8 * 8 + t % 8 = t by omega, List.getElem?_map, List.getElem?_eq_getElem hq] at h1
  have h2 : (cellsE (xs[t / 8]).1)[t % 8]? = some ((cellsE (xs[t / 8]).1)[t % 8]'(by show _ < 8; exact h8)) := List.getElem?_eq_getElem _
  simp only [Option.map_some, Option.bind_some, h2] at h1
  have e1 : (xs.toArray)[t / 8]! = xs[t / 8] := by simp [hq]
  rw [e1, getElem!_pos (encW xs[t / 8]) (t % 8) (by show _ < 8; exact h8)]
  have e2 : ((flatE (xs.map (·.1))).toArray)[t]? = some ((cellsE (xs[t / 8]).1)[t % 8]'(by show _ < 8; exact h8)) := by simpa using h1
  rw [getElem!_def, e2]
theorem holds_v {w : World} {g : Nat} {cur : Array Value} {e : TypeId} {ts : List Value} (hb : w.heap[g]? = some (.cells cur e (0, 0))) (ht : cur.toList.take ts.length = ts) : Holds id w g 0 ts.toArray := by
  intro j hj
  have hj' : j < ts.length := by simpa using hj
  refine ⟨?_, by simp [World.frozen?, hb]⟩
  have h1 : (cur.toList.take ts.length)[j]? = ts[j]? := by rw [ht]
  rw [List.getElem?_take_of_lt hj'] at h1
  simp only [World.cell?, hb, Nat.zero_add]
  simp only [Option.isSome_none, Bool.false_eq_true, if_false]
  rw [← Array.getElem?_toList, h1]
  simp [hj']
theorem heap_sorted_v {w : World} {g n : Nat} {os : Array Obj} {cur : Array Value} {e : TypeId} {fr : Nat × Nat} (d : Array Value) (hb : w.heap[g]? = some (.cells cur e fr)) :
    (grow (putRow id (Sort.ahead w n) g 0 d) os).heap[g]? = some (.cells (putCells id 0 d cur) e fr) := by
  have hg : g < w.heap.size := (Array.getElem?_eq_some_iff.1 hb).1
  rw [heap_grow_old _ _ (by simpa using hg)]
  simp [putRow, mapBlock, Sort.ahead, Array.getElem?_modify, hb, onCells]
theorem grownBy_sorted_v {w : World} {g n : Nat} {os : Array Obj} (d : Array Value) : w.grownBy (grow (putRow id (Sort.ahead w n) g 0 d) os) (some g) := by
  refine ⟨rfl, rfl, rfl, by simp, fun k hk hne => ?_⟩
  rw [heap_grow_old _ _ (by simpa using hk)]
  have : g ≠ k := fun e => hne (by rw [e])
  simp [putRow, mapBlock, Sort.ahead, Array.getElem?_modify, this]
theorem take_putCells_v (cur : Array Value) (ts : List Value) (h : ts.length ≤ cur.size) : (putCells id 0 ts.toArray cur).toList.take ts.length = ts := by
  apply List.ext_getElem?
  intro j
  by_cases hj : j < ts.length
  · rw [List.getElem?_take_of_lt hj, Array.getElem?_toList]
    simp [putCells, hj, show j < cur.size by omega]
  · rw [List.getElem?_take_eq_none (by omega), List.getElem?_eq_none (by omega)]
theorem sortfunc_any {W : World} {base c : Nat} {A : Option Addr} {ss T : List EK} (hown : W.ownsRow base 28 8 (.slice A ss.length c) ss.length (flatE ss)) (hok : ∀ k ∈ ss, OkE k) (hT : T.Pairwise fun a b => ltE a b = true) (hp : ss.Perm T) (hbig : ss.length ≤ 100000) :
    Calls Try.prog 38 #[.slice A ss.length c, .func (.func 25) #[] #[]] W fun e w' => e = .returned (.tuple #[]) ∧ w'.ownsRow base 28 8 (.slice A ss.length c) ss.length (flatE T) ∧ W.grownBy w' (Value.slice A ss.length c).ownBlock := by
  rcases hown.2 with ⟨hv, h0⟩ | ⟨g, cp, cur, hv, hbase, hgb, r1, r2, r3, r4⟩
  · have hss : ss = [] := List.eq_nil_of_length_eq_zero h0
    subst hss
    obtain rfl : T = [] := hp.symm.eq_nil
    refine (AnyF.slices_SortFunc_none sortF A c (.func (.func 25) #[] #[]) W).mono ?_
    rintro e w' ⟨rfl, rfl⟩
    exact ⟨rfl, hown, rfl, rfl, rfl, Nat.le_refl _, fun _ _ _ => rfl⟩
  · obtain ⟨rfl, rfl⟩ : A = some ⟨g, 0, none⟩ ∧ c = cp := by
      injection hv with h1 h2 h3
      exact ⟨h1, h3⟩
    have hTok : ∀ k ∈ T, OkE k := fun k hk => hok k (hp.mem_iff.2 hk)
    have hgl : g < W.heap.size := (Array.getElem?_eq_some_iff.1 hgb).1
    have hH : HoldsK encW 8 W g 0 (wks ss hok).toArray := by
      unfold HoldsK
      rw [flat_wks, wks_val]
      exact holds_v hgb (by rw [flatE_len]; exact r4)
    have hcmp : CmpLays Try.prog 25 #[] encW 8 (fun x y : WK => cmpE x.1 y.1) g 0 (wks ss hok).toArray.size W := fun m os dk _ x y => by
      have := compare_any x.2 y.2 (sortWorldK encW 8 W g 0 m dk os)
      exact this
    have hsz : (wks ss hok).toArray.size = ss.length := by simp [wks_len]
    have hmain := AnyQ.slices_SortFunc_total sortF 8 sort_agg sort_size encW (fun _ => rfl) (fun x v hv => cellsE_one x.1 v hv) (fun x y : WK => cmpE x.1 y.1) cmp_swo 25 #[] g 0 c (wks ss hok).toArray W (enters_of Try.func25 (by kernel_rfl) rfl) hcmp hH hgl (by rw [hsz]; omega) cmp_tot
    rw [hsz] at hmain
    have hsorted : ((wks ss hok).toArray.toList.mergeSort fun x y => !(ltOf fun x y : WK => cmpE x.1 y.1) y x) = wks T hTok := by
      rw [cmp_ltOf]
      refine sort_keys wk_ord ?_ ?_
      · have : ((wks T hTok).map (·.1)).Pairwise fun a b => ltE a b = true := by rw [wks_val]; exact hT
        exact List.pairwise_map.1 this
      · show (wks ss hok).Perm (wks T hTok)
        exact hp.pmap _
    rw [hsorted] at hmain
    refine hmain.mono ?_
    rintro e w' ⟨rfl, n, os, rfl⟩
    unfold sortWorldK putRowK
    rw [flat_wks, wks_val]
    have hlT : (flatE T).length = (flatE ss).length := by rw [flatE_len, flatE_len, hp.length_eq]
    refine ⟨rfl, ⟨by rw [hlT]; exact hown.1, .inr ⟨g, c, _, rfl, hbase, heap_sorted_v _ hgb, r1, r2, by simp [putCells, r3], ?_⟩⟩, grownBy_sorted_v _⟩
    have := take_putCells_v cur (flatE T) (by rw [hlT, flatE_len, r3]; omega)
    rw [hlT, flatE_len] at this
    exact this
set_option maxHeartbeats 800000 in
theorem collect_any {w : World} {mb bq nn : Nat} {D0 : DU} (hown : w.ownsMap Try.prog 28 elI.R mb nn D0) (hq : w.cell? ⟨bq, 0, none⟩ = some (.map (some mb))) (hbig : Maps.size D0 ≤ 100000) :
    Calls Try.prog 37 #[.func (.func 39) #[] #[ptr bq]] w fun e w' =>
      ∃ A c ss, e = .returned (.slice A ss.length c) ∧ Hid (GotE D0 (fun _ => false) ss ∧ w'.ownsRow w.heap.size 28 8 (.slice A ss.length c) ss.length (flatE ss) ∧ Below w.heap.size w w') := by
  have h1 := appseq_any hown hq hbig
  clear hown hq
  go_enter Try.func37, Try.ntmps37
  go_wp2_with fail
  refine h1.mono ?_
  rintro e w' ⟨A, c, ss, rfl, hh⟩
  go_wp2
  go_ret
  exact ⟨A, c, ss, rfl, hh⟩
set_option maxHeartbeats 1600000 in
/-- the keys of a map, in order -/
theorem sorted_any {w : World} {mb bq : Nat} {l : List (EK × Int)} (held : HeldIn elI w mb l) (hq : w.cell? ⟨bq, 0, none⟩ = some (.map (some mb))) (hbig : l.length ≤ 100000) :
    Calls Try.prog 32 #[.func (.func 39) #[] #[ptr bq], .func (.func 25) #[] #[]] w fun e w' =>
      ∃ A c, e = .returned (.slice A l.length c) ∧ Hid (w'.ownsRow w.heap.size 28 8 (.slice A l.length c) l.length (flatE (l.map (·.1))) ∧ Below w.heap.size w w') := by
  obtain ⟨D, h1, h2⟩ := held.ex
  have hC := collect_any h1 hq (by rw [held_size h1 h2 held.ok held.rise]; exact hbig)
  have HL := cover (And.intro h2 (And.intro held.ok held.rise))
  clear held h1 h2 hq
  go_enter Try.func32, Try.ntmps32
  go_wp2_with fail
  refine hC.mono ?_
  rintro e w1 ⟨A, c, ss, rfl, hh⟩
  have hperm := hh.out.1.perm (fun _ => rfl) HL.out.1 HL.out.2.1 HL.out.2.2
  have hlen : ss.length = l.length := by rw [hperm.length_eq, List.length_map]
  have hrise : (l.map (·.1)).Pairwise fun a b => ltE a b = true := List.pairwise_map.2 HL.out.2.2
  have hS := sortfunc_any hh.out.2.1 hh.out.1.2.1 hrise hperm (by omega)
  have HB := cover (And.intro hh.out.2.2 (And.intro hh.out.2.1 hlen))
  have hlE : ((ss.length : Nat) : Int) = ((l.length : Nat) : Int) := by omega
  clear hC hh hperm hrise
  rw [hlen] at hS ⊢
  clear hlen hlE
  go_wp2_with fail
  refine hS.mono ?_
  rintro e w2 ⟨rfl, hown2, hg2⟩
  have HF : Hid (w2.ownsRow w.heap.size 28 8 (.slice A l.length c) l.length (flatE (l.map (·.1))) ∧ Below w.heap.size w w2) := cover ⟨hown2, HB.out.1.grown hg2 HB.out.1.size (fun i hi => (hown2.lt i hi).1)⟩
  clear hown2 hg2 hS HB
  go_wp2
  go_ret
  exact ⟨A, c, rfl, HF⟩
end Go.Proofs.Ytjkgiepfglimcaa
