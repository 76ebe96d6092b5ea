/- The rows of a state: slices.Contains, what lay and share do. -/
import Derived.Deep.CutBlock
import Derived.Deep.DeepCutAuto
import Derived.Test.YtlffhnplcgmhlaaJRules
namespace Go.Proofs.Ytlffhnplcgmhlaa
open Go.RowKit
set_option linter.unusedVariables false
set_option linter.unusedSimpArgs false

theorem index_any (A : Option Addr) (n c B : Nat) (l : List Int) (x : Int) (w : World) (hr : RowK .i64 w B A n l) (hmax : n ≤ 1000) :
    Calls Try.prog 42 #[.slice A n c, .int .i64 x] w fun e w' => ∃ k : Int, e = .returned (.int .i64 k) ∧ decide (k ≥ 0) = l.contains x ∧ w' = w := by
  have HL := cover hr.len
  go_enter Try.func42, Try.ntmps42
  go_wp2
  go_loopw [8] (fun i wr => ∃ k : Nat, k ≤ n ∧ i = .int .i64 k ∧ Hid ((l.take k).contains x = false) ∧ wr = w) (fun i _ => n - (intOf i).toNat)
  case atStart => exact ⟨0, Nat.zero_le _, rfl, cover rfl, rfl⟩
  case round =>
    obtain ⟨k, hk, rfl, hno, rfl⟩ := hrel
    by_cases hlt : k < n
    · obtain ⟨ad, y, rfl, hb, hc, hy⟩ := hr.at_ hlt
      have HT : Hid ((l.take (k + 1)).contains x = ((l.take k).contains x || x == y)) := cover (by
        obtain ⟨hlt', e⟩ := List.getElem?_eq_some_iff.1 hy.out
        rw [List.take_succ_eq_append_getElem hlt', e]
        by_cases h : x = y <;> simp [h])
      by_cases hxy : x = y
      · subst hxy
        go_wp2
        go_ret
        refine ⟨k, rfl, ?_, rfl⟩
        rw [decide_eq_true (by omega)]
        have h1 := HT.out
        rw [hno.out] at h1
        symm
        rw [List.contains_iff_mem]
        rw [show ((false || x == x) = true) by simp, List.contains_iff_mem] at h1
        exact List.mem_of_mem_take h1
      · have hf : (x == y) = false := by simpa using hxy
        go_wp2
        go_roundw
        case rel => exact ⟨k + 1, by omega, by go_num, cover (by rw [HT.out, hno.out, hf]; rfl), trivial⟩
        case measure => simp [intOf]; omega
    · obtain rfl : k = n := by omega
      go_wp2
      go_ret
      refine ⟨-1, rfl, ?_, rfl⟩
      have h1 := hno.out
      rw [List.take_of_length_le (by rw [HL.out]; omega)] at h1
      rw [h1]; rfl
theorem contains_any (A : Option Addr) (n c B : Nat) (l : List Int) (x : Int) (w : World) (hr : RowK .i64 w B A n l) (hmax : n ≤ 1000) :
    Calls Try.prog 35 #[.slice A n c, .int .i64 x] w fun e w' => e = .returned (.bool (l.contains x)) ∧ w' = w := by
  have h1 := cover (index_any A n c B l x w hr hmax)
  clear hr
  go_enter Try.func35, Try.ntmps35
  go_wp2_with fail
  refine h1.out.mono ?_
  rintro e w1 ⟨k, rfl, hk, rfl⟩
  have HK := cover hk
  clear hk
  go_wp2
  go_ret
  exact ⟨by rw [← HK.out]; rfl, rfl⟩
/-- rows, cell by cell -/
abbrev RowV := List Int × Int × Bool
def tabC : List Value → List RowV → List Value
  | v :: vs, r :: rs => v :: .int .i64 r.2.1 :: .bool r.2.2 :: tabC vs rs
  | _, _ => []
/-- a state's rows in a block -/
def TabAt (w : World) (B g : Nat) (T : List RowV) : Prop :=
  ∃ vs, vs.length = T.length ∧ w.heap[g]? = some (.cells (tabC vs T).toArray 25 (0, 0)) ∧ ∀ i (h : i < T.length) (h' : i < vs.length), IntsAt w B vs[i] T[i].1
theorem rulesC_at (vs : List Value) (rs : List RuleV) (h : vs.length = rs.length) (k : Nat) (hk : k < rs.length) (hk' : k < vs.length) :
    (rulesC vs rs)[k * 3]? = some (.int .i64 rs[k].1) ∧ (rulesC vs rs)[k * 3 + 1]? = some vs[k] ∧ (rulesC vs rs)[k * 3 + 2]? = some (.int .i64 rs[k].2.2) := by
  induction rs generalizing vs k with
  | nil => simp at hk
  | cons r rs ih =>
    rcases vs with _ | ⟨v, vs⟩
    · simp at h
    · rcases k with _ | k
      · simp [rulesC]
      · have := ih vs (by simpa using h) k (by simpa using hk) (by simpa using hk')
        rw [show (k + 1) * 3 = k * 3 + 1 + 1 + 1 by omega]
        simpa [rulesC] using this
theorem tabC_len (vs : List Value) (T : List RowV) (h : vs.length = T.length) : (tabC vs T).length = 3 * T.length := by
  induction T generalizing vs with
  | nil => rcases vs with _ | ⟨v, vs⟩ <;> simp [tabC]
  | cons r T ih =>
    rcases vs with _ | ⟨v, vs⟩
    · simp at h
    · simp only [tabC, List.length_cons, ih vs (by simpa using h)]; omega
theorem tabC_at (vs : List Value) (T : List RowV) (h : vs.length = T.length) (k : Nat) (hk : k < T.length) (hk' : k < vs.length) :
    (tabC vs T)[k * 3]? = some vs[k] ∧ (tabC vs T)[k * 3 + 1]? = some (.int .i64 T[k].2.1) ∧ (tabC vs T)[k * 3 + 2]? = some (.bool T[k].2.2) := by
  induction T generalizing vs k with
  | nil => simp at hk
  | cons r T ih =>
    rcases vs with _ | ⟨v, vs⟩
    · simp at h
    · rcases k with _ | k
      · simp [tabC]
      · have := ih vs (by simpa using h) k (by simpa using hk) (by simpa using hk')
        rw [show (k + 1) * 3 = k * 3 + 1 + 1 + 1 by omega]
        simpa [tabC] using this
/-- a row that is stored -/
theorem tabC_set (vs : List Value) (T : List RowV) (h : vs.length = T.length) (k : Nat) (hk : k < T.length) (v : Value) (r : RowV) :
    (((tabC vs T).set (k * 3) v).set (k * 3 + 1) (.int .i64 r.2.1)).set (k * 3 + 2) (.bool r.2.2) = tabC (vs.set k v) (T.set k r) := by
  induction T generalizing vs k with
  | nil => simp at hk
  | cons r0 T ih =>
    rcases vs with _ | ⟨v0, vs⟩
    · simp at h
    · rcases k with _ | k
      · simp [tabC]
      · have := ih vs (by simpa using h) k (by simpa using hk)
        rw [show (k + 1) * 3 = k * 3 + 1 + 1 + 1 by omega]
        simpa [tabC] using this
theorem tabC_next (vs : List Value) (T : List RowV) (h : vs.length = T.length) (k : Nat) (hk : k < T.length) (n : Int) :
    (tabC vs T).set (k * 3 + 1) (.int .i64 n) = tabC vs (T.set k (T[k].1, n, T[k].2.2)) := by
  induction T generalizing vs k with
  | nil => simp at hk
  | cons r0 T ih =>
    rcases vs with _ | ⟨v0, vs⟩
    · simp at h
    · rcases k with _ | k
      · simp [tabC]
      · have := ih vs (by simpa using h) k (by simpa using hk)
        rw [show (k + 1) * 3 = k * 3 + 1 + 1 + 1 by omega]
        simpa [tabC] using this
/-- what lay makes of a table -/
def layP : List RowV → List RuleV → List RowV
  | T, [] => T
  | T, r :: rs => layP (T.set r.1.toNat (r.2.1, r.2.2, true)) rs
theorem layP_append (T : List RowV) (a b : List RuleV) : layP T (a ++ b) = layP (layP T a) b := by
  induction a generalizing T with
  | nil => rfl
  | cons r a ih => simp only [List.cons_append, layP, ih]
theorem layP_len (T : List RowV) (a : List RuleV) : (layP T a).length = T.length := by
  induction a generalizing T with
  | nil => rfl
  | cons r a ih => simp only [layP, ih, List.length_set]
theorem layP_next (T : List RowV) (rs : List RuleV) (k : Nat) (hk : k < rs.length) : layP T (rs.take (k + 1)) = (layP T (rs.take k)).set rs[k].1.toNat (rs[k].2.1, rs[k].2.2, true) := by
  rw [List.take_succ_eq_append_getElem hk, layP_append]; rfl
theorem IntsAt.only {w w' : World} {B gr : Nat} {v : Value} {l : List Int} {cs : Array Value} {fr : Nat × Nat} (h : IntsAt w B v l) (ho : OnlyB gr w w') (hgr : w.heap[gr]? = some (.cells cs 25 fr)) : IntsAt w' B v l :=
  h.keep fun g hg => ho.block g (block_lt hg) (fun e => type_ne hg hgr (by decide) (by injection e))
theorem cell_ex {w : World} {g : Nat} {cs : Array Value} {T : TypeId} {fr : Nat × Nat} (h : w.heap[g]? = some (.cells cs T fr)) (o : Nat) (ho : o < cs.size) : ∃ x, w.cell? ⟨g, o, none⟩ = some x :=
  ⟨cs[o], by rw [cell_of_row w g o _ _ _ h]; exact Array.getElem?_eq_getElem ho⟩
/-- a row stored whole in a table: the three cells turned -/
theorem TabAt.put {w : World} {B gr : Nat} {T : List RowV} (h : TabAt w B gr T) {j : Nat} (hj : j < T.length) {A : Option Addr} {m : Nat} {l : List Int} (hv : IntsAt w B (.slice A m m) l) (n : Int) (b : Bool) :
    (∃ x, w.cell? ⟨gr, j * 3, none⟩ = some x) ∧ w.frozen? ⟨gr, j * 3, none⟩ = false ∧
    (∃ x, (w.setCell ⟨gr, j * 3, none⟩ (.slice A m m)).cell? ⟨gr, j * 3 + 1, none⟩ = some x) ∧ (w.setCell ⟨gr, j * 3, none⟩ (.slice A m m)).frozen? ⟨gr, j * 3 + 1, none⟩ = false ∧
    (∃ x, ((w.setCell ⟨gr, j * 3, none⟩ (.slice A m m)).setCell ⟨gr, j * 3 + 1, none⟩ (.int .i64 n)).cell? ⟨gr, j * 3 + 2, none⟩ = some x) ∧ ((w.setCell ⟨gr, j * 3, none⟩ (.slice A m m)).setCell ⟨gr, j * 3 + 1, none⟩ (.int .i64 n)).frozen? ⟨gr, j * 3 + 2, none⟩ = false ∧
    TabAt (((w.setCell ⟨gr, j * 3, none⟩ (.slice A m m)).setCell ⟨gr, j * 3 + 1, none⟩ (.int .i64 n)).setCell ⟨gr, j * 3 + 2, none⟩ (.bool b)) B gr (T.set j (l, n, b)) ∧
    OnlyB gr w (((w.setCell ⟨gr, j * 3, none⟩ (.slice A m m)).setCell ⟨gr, j * 3 + 1, none⟩ (.int .i64 n)).setCell ⟨gr, j * 3 + 2, none⟩ (.bool b)) := by
  obtain ⟨vs, hl, hh, hi⟩ := h
  have h1 := set_block hh (j * 3) (.slice A m m)
  have h2 := set_block h1 (j * 3 + 1) (.int .i64 n)
  have h3 := set_block h2 (j * 3 + 2) (.bool b)
  have hlen := tabC_len vs T hl
  have hO := (((OnlyB.refl gr w).setCell (j * 3) (.slice A m m)).setCell (j * 3 + 1) (.int .i64 n)).setCell (j * 3 + 2) (.bool b)
  refine ⟨cell_ex hh _ (by simp; omega), unfrozen hh _, cell_ex h1 _ (by simp; omega), unfrozen h1 _, cell_ex h2 _ (by simp; omega), unfrozen h2 _, ⟨vs.set j (.slice A m m), by simp [hl], ?_, fun i hi1 hi2 => ?_⟩, hO⟩
  · rw [h3, List.setIfInBounds_toArray, List.setIfInBounds_toArray, List.setIfInBounds_toArray]
    rw [tabC_set vs T hl j hj (.slice A m m) (l, n, b)]
  · by_cases hij : j = i
    · subst hij
      simp only [List.getElem_set_self]
      exact hv.only hO hh
    · simp only [List.getElem_set_ne hij]
      exact (hi i (by simpa using hi1) (by simpa using hi2)).only hO hh
theorem TabAt.below {w w' : World} {B gr : Nat} {T : List RowV} (h : TabAt w B gr T) (hb : Below w.heap.size w w') : TabAt w' B gr T := by
  obtain ⟨vs, hl, hh, hi⟩ := h
  exact ⟨vs, hl, (hb.block gr (block_lt hh)).trans hh, fun i h1 h2 => (hi i h1 h2).below hb⟩
theorem rule_size : (Try.prog.info? 44).map (fun x => x.size) = some 3 := by kernel_rfl
theorem rule_one {v : Value} (h : v.oneCell' = true) (a b : Int) : ((#[.int .i64 a, v, .int .i64 b] : Array Value).all fun x => x.oneCell') = true := by
  simp [h]
  exact ⟨rfl, rfl⟩
theorem row_size : (Try.prog.info? 25).map (fun x => x.size) = some 3 := by kernel_rfl
theorem lay_any {w : World} {B g gr tr : Nat} {rs : List RuleV} {T : List RowV} (hR : RulesAt w B g rs) (hp : w.heap[tr]? = some (.cells #[.slice (some ⟨gr, 0, none⟩) 34 34] 29 (0, 0)))
    (hT : TabAt w B gr T) (hl : T.length = 34) (hn : rs.length ≤ 100) (hev : ∀ r ∈ rs, 0 ≤ r.1 ∧ r.1 ≤ 33) (hne : g ≠ gr ∧ tr ≠ gr) :
    Calls Try.prog 33 #[.slice (some ⟨g, 0, none⟩) rs.length rs.length, ptr tr] w fun e w' => e = .returned (.tuple #[]) ∧ Hid (TabAt w' B gr (layP T rs) ∧ OnlyB gr w w') := by
  have HN := cover hn
  have HE := cover hev
  have HG := cover hne
  obtain ⟨n, hnn⟩ : ∃ n, n = rs.length := ⟨_, rfl⟩
  rw [← hnn]
  have HNN := cover hnn
  clear hn hev hnn hne
  go_enter Try.func33, Try.ntmps33
  go_wp2
  go_loopw [7] (fun i wr => ∃ k : Nat, k ≤ n ∧ i = .int .i64 k ∧ Hid (TabAt wr B gr (layP T (rs.take k)) ∧ OnlyB gr w wr)) (fun i _ => n - (intOf i).toNat)
  case atStart => exact ⟨0, Nat.zero_le _, rfl, cover ⟨hT, OnlyB.refl _ _⟩⟩
  case round =>
    obtain ⟨k, hk, rfl, H⟩ := hrel
    by_cases hlt : k < n
    · obtain ⟨HT, HO⟩ := H.out
      obtain ⟨vs, hvs, hg, hvr⟩ := id hR
      have hlt' : k < rs.length := by have := HNN.out; omega
      have hgw : wr.heap[g]? = some (.cells (rulesC vs rs).toArray 44 (0, 0)) := only_keeps hg HO HG.out.1
      obtain ⟨d0, d1, d2⟩ := rulesC_at vs rs hvs k hlt' (by omega)
      obtain ⟨j, hj⟩ : ∃ j : Nat, rs[k].1 = (j : Int) := ⟨rs[k].1.toNat, by have := HE.out rs[k] (List.getElem_mem _); omega⟩
      have HJ : Hid (j < 34) := cover (by have := HE.out rs[k] (List.getElem_mem _); omega)
      obtain ⟨A, m, hv, H1⟩ : ∃ A m, vs[k]'(by omega) = .slice A m m ∧ Hid (IntsAt w B (.slice A m m) rs[k].2.1) := by
        have h1 := hvr k hlt' (by omega)
        obtain ⟨A, e, _⟩ := h1.row
        exact ⟨A, _, e, cover (by rw [← e]; exact h1)⟩
      obtain ⟨nx, hnx⟩ : ∃ nx, rs[k].2.2 = nx := ⟨_, rfl⟩
      rw [hj] at d0
      rw [hv] at d1
      rw [hnx] at d2
      have c0 : wr.cell? ⟨g, k * 3, none⟩ = some (.int .i64 (j : Int)) := by rw [cell_of_row wr g _ _ _ _ hgw]; simpa using d0
      have c1 : wr.cell? ⟨g, k * 3 + 1, none⟩ = some (.slice A m m) := by rw [cell_of_row wr g _ _ _ _ hgw]; simpa using d1
      have c2 : wr.cell? ⟨g, k * 3 + 2, none⟩ = some (.int .i64 nx) := by rw [cell_of_row wr g _ _ _ _ hgw]; simpa using d2
      obtain ⟨b, hb⟩ : ∃ b, b = wr.heap.size := ⟨_, rfl⟩
      obtain ⟨w2, hw2⟩ : ∃ w2, Hid (w2 = wr.alloc (.cells #[.int .i64 (j : Int), .slice A m m, .int .i64 nx] 44)) := ⟨_, cover rfl⟩
      have HX : Hid (rs[k].1 = (j : Int) ∧ rs[k].2.2 = nx) := cover ⟨hj, hnx⟩
      clear hR hv hnx hj d0 d1 d2
      go_upto_region 3 with fail
      rw [← hw2.out, ← hb]
      have hb2 : Below wr.heap.size wr w2 := by rw [hw2.out]; exact (Below.refl _ _).alloc (Nat.le_refl _) _
      have hv2 : w2.heap[b]? = some (.cells #[.int .i64 (j : Int), .slice A m m, .int .i64 nx] 44 (0, 0)) := by rw [hw2.out, hb]; exact heap_alloc_new _ _
      have hp2 : w2.heap[tr]? = some (.cells #[.slice (some ⟨gr, 0, none⟩) 34 34] 29 (0, 0)) := (hb2.block tr (block_lt (only_keeps hp HO HG.out.2))).trans (only_keeps hp HO HG.out.2)
      have p0 : w2.cell? ⟨tr, 0, none⟩ = some (.slice (some ⟨gr, 0, none⟩) 34 34) := by rw [cell_of_row w2 tr 0 _ _ _ hp2]; rfl
      have e0 : w2.cell? ⟨b, 0, none⟩ = some (.int .i64 (j : Int)) := by rw [cell_of_row w2 b 0 _ _ _ hv2]; rfl
      have e1 : w2.cell? ⟨b, 1, none⟩ = some (.slice A m m) := by rw [cell_of_row w2 b 1 _ _ _ hv2]; rfl
      have e2 : w2.cell? ⟨b, 2, none⟩ = some (.int .i64 nx) := by rw [cell_of_row w2 b 2 _ _ _ hv2]; rfl
      have hj' := HJ.out
      have HGw : Hid (∃ cs, w.heap[gr]? = some (.cells cs 25 (0, 0))) := cover (by obtain ⟨_, _, h, _⟩ := hT; exact ⟨_, h⟩)
      obtain ⟨⟨x0, q0⟩, f0, ⟨x1, q1⟩, f1, ⟨x2, q2⟩, f2, HT5, HO5⟩ := (HT.below hb2).put (j := j) (by rw [layP_len, hl]; exact hj') (by obtain ⟨cs, h⟩ := HGw.out; exact (H1.out.only HO h).below hb2) nx true
      obtain ⟨w5, hw5⟩ : ∃ w5, w5 = ((w2.setCell ⟨gr, j * 3, none⟩ (.slice A m m)).setCell ⟨gr, j * 3 + 1, none⟩ (.int .i64 nx)).setCell ⟨gr, j * 3 + 2, none⟩ (.bool true) := ⟨_, rfl⟩
      rw [← hw5] at HT5 HO5
      have H5 : Hid (TabAt w5 B gr (layP T (rs.take (k + 1))) ∧ OnlyB gr w w5) := cover ⟨by
        rw [layP_next T rs k hlt', HX.out.1, HX.out.2]; exact HT5, (HO.trans (OnlyB.of_below hb2)).trans HO5⟩
      have HW5 := cover hw5
      clear hw2 hb hb2 hv2 hp2 HT5 HO5 hw5 HT HO hg hvr hgw hT c0 c1 c2 H1 HX hlt' hl hp
      have HWk : wrap64 ((k : Int) + 1) = (k : Int) + 1 := IntWalk.wrap64_in _ ⟨by omega, by have := HN.out; have := HNN.out; omega⟩
      go_wp2_with (rw [← HW5.out])
      go_roundw
      case rel => exact ⟨k + 1, by omega, by go_num, H5⟩
      case measure =>
        rw [HWk]
        simp only [intOf]
        clear HWk
        omega
    · obtain rfl : k = n := by omega
      go_wp2
      go_end0
      exact ⟨rfl, cover (by have := H.out; rwa [List.take_of_length_le (by have := HNN.out; omega)] at this)⟩
end Go.Proofs.Ytlffhnplcgmhlaa
