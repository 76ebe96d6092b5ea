/- What slices.IndexFunc and slices.DeleteFunc do, asked by the clock's own question: is the timer over? -/
import Derived.BigQuiet
import Derived.Deep.QuietTactic
import Derived.Test.YtodiocioldakjaaKIStop
namespace Go.Proofs.Ytodiocioldakjaa
open Go.RowKit
set_option linter.unusedVariables false

theorem overI_any (c : Nat) (k : Int) (e T : Int) (w : World) (h : w.cell? ⟨c, 1, none⟩ = some (.int .i64 T)) : Calls Try.prog 39 #[ptr c, .agg #[.int .i64 k, .int .i64 e]] w fun r w' => r = .returned (.bool (e == T)) ∧ Below w.heap.size w w' := by
  have hb : Below w.heap.size w (w.alloc (.cells #[.int .i64 k, .int .i64 e] 72)) := (Below.refl _ _).alloc (Nat.le_refl _) _
  have hn : (w.alloc (.cells #[.int .i64 k, .int .i64 e] 72)).heap[w.heap.size]? = some (.cells #[.int .i64 k, .int .i64 e] 72 (0, 0)) := heap_alloc_new _ _
  have h1 : (w.alloc (.cells #[.int .i64 k, .int .i64 e] 72)).cell? ⟨w.heap.size, 1, none⟩ = some (.int .i64 e) := by rw [cell_of_row _ _ _ _ _ _ hn]; rfl
  have h2 : (w.alloc (.cells #[.int .i64 k, .int .i64 e] 72)).cell? ⟨c, 1, none⟩ = some (.int .i64 T) := cell_alloc_lt _ h
  clear h
  go_enter Try.func39, Try.ntmps39
  go_wp2_with fail
  obtain ⟨s, hs⟩ : ∃ s, w.heap.size = s := ⟨_, rfl⟩
  rw [hs] at hb hn h1 ⊢
  generalize w.alloc (.cells #[.int .i64 k, .int .i64 e] 72) = w1 at hb hn h1 h2 ⊢
  go_quiet (fail)
  all_goals (go_wp2)
  all_goals (try go_ret)
  all_goals exact ⟨rfl, by rw [hs]; exact below_drewN hb _⟩
/-- what was there, but for one block, lies as it lay -/
structure Still (g : Nat) (w wr : World) : Prop where
  os : wr.os = w.os
  tape : wr.tape = w.tape
  output : wr.output = w.output
  size : w.heap.size ≤ wr.heap.size
  block : ∀ k, k < w.heap.size → k ≠ g → wr.heap[k]? = w.heap[k]?
theorem Still.refl (g : Nat) (w : World) : Still g w w := ⟨rfl, rfl, rfl, Nat.le_refl _, fun _ _ _ => rfl⟩
theorem Still.below {g : Nat} {a b c : World} (h : Still g a b) (k : Below b.heap.size b c) : Still g a c :=
  ⟨k.os.trans h.os, k.tape.trans h.tape, k.output.trans h.output, Nat.le_trans h.size k.size, fun i hi hn => (k.block i (Nat.lt_of_lt_of_le hi h.size)).trans (h.block i hi hn)⟩
theorem Still.setCell {g : Nat} {a b : World} (h : Still g a b) (o : Nat) (v : Value) : Still g a (b.setCell ⟨g, o, none⟩ v) :=
  ⟨h.os, h.tape, h.output, by rw [set_size]; exact h.size, fun i hi hn => (set_other o v hn).trans (h.block i hi hn)⟩
theorem Still.moves {g : Nat} {a b : World} (h : Still g a b) : Moves (fun k => k = g) (fun k => k = g) a b := ⟨h.os, h.tape, h.output, h.size, fun k hk hn => h.block k hk hn, fun k hk => .inl hk⟩
/-- a row's pairs lie in its block -/
def LiesI (l : List (Int × Int)) (cur : Array Value) : Prop := ∀ k x, l[k]? = some x → cur[k * 2]? = some (.int .i64 x.1) ∧ cur[k * 2 + 1]? = some (.int .i64 x.2)
theorem LiesI.flat {l : List (Int × Int)} {cur : Array Value} (h : LiesI l cur) : ∀ j, j < l.length * 2 → cur[j]? = (flatI l)[j]? := fun j hj => by
  obtain ⟨x, hx⟩ : ∃ x, l[j / 2]? = some x := ⟨_, List.getElem?_eq_getElem (by omega)⟩
  obtain ⟨h0, h1⟩ := h _ x hx
  obtain ⟨f0, f1⟩ := flatI_get l _ x hx
  have : j = j / 2 * 2 ∨ j = j / 2 * 2 + 1 := by omega
  rcases this with e | e
  · rw [e, h0, f0]
  · rw [e, h1, f1]
theorem OwnI.lies {TT : TypeId} {w : World} {g n c : Nat} {l : List (Int × Int)} (h : OwnI TT w (.slice (some ⟨g, 0, none⟩) n c) l) : ∃ cur, w.heap[g]? = some (.cells cur TT (0, 0)) ∧ cur.size = c * 2 ∧ c ≤ maxLen ∧ l.length = n ∧ n ≤ c ∧ LiesI l cur := by
  rcases h.2 with ⟨hv, _⟩ | ⟨g', cp', cur, hv, _, hh, hnc, hcm, hcs, htk⟩
  · cases hv
  · injection hv with hv1 hv3 hv2
    injection hv1 with hv1
    injection hv1 with hv1
    subst hv1
    subst hv2
    subst hv3
    refine ⟨cur, hh, hcs, hcm, rfl, hnc, fun k x hx => ?_⟩
    obtain ⟨f0, f1⟩ := flatI_get l k x hx
    have hl := (List.getElem?_eq_some_iff.1 hx).1
    rw [← htk, List.getElem?_take, if_pos (by omega), Array.getElem?_toList] at f0 f1
    exact ⟨f0, f1⟩
/-- the first that is over, or none -/
def IdxI (l : List (Int × Int)) (T : Int) (w : World) (e : Ending) (w' : World) : Prop :=
  (e = .returned (.int .i64 (-1)) ∧ Below w.heap.size w w' ∧ Hid (∀ x ∈ l, x.2 ≠ T)) ∨ ∃ (k : Nat) (x : Int × Int), e = .returned (.int .i64 k) ∧ k < l.length ∧ Below w.heap.size w w' ∧ Hid (l[k]? = some x ∧ x.2 = T ∧ ∀ y ∈ l.take k, y.2 ≠ T)
set_option maxRecDepth 100000 in
set_option maxHeartbeats 1600000 in
theorem indexI_any {w : World} {A : Option Addr} {cp c n : Nat} {l : List (Int × Int)} (T : Int) (h : OwnI 72 w (.slice A n cp) l) (hn : l.length = n) (hbig : n ≤ 100000) (hc : w.cell? ⟨c, 1, none⟩ = some (.int .i64 T)) :
    Calls Try.prog 47 #[.slice A n cp, .func (.func 39) #[ptr c] #[]] w (IdxI l T w) := by
  have HP := cover h
  have HC := cover hc
  have HNL := cover hn
  have hcl : c < w.heap.size := by
    rcases Nat.lt_or_ge c w.heap.size with h1 | h1
    · exact h1
    · unfold World.cell? at hc; rw [Array.getElem?_eq_none h1] at hc; simp at hc
  clear h hn hc
  generalize hE : IdxI l T w = Post
  have HE := cover hE
  clear hE
  go_enter Try.func47, Try.ntmps47
  go_wp2_with fail
  go_loopw [8] (fun i wr => ∃ k : Nat, k ≤ n ∧ i = .int .i64 k ∧ Hid (∀ y ∈ l.take k, y.2 ≠ T) ∧ Hid (Below w.heap.size w wr)) (fun i _ => n - (intOf i).toNat)
  case atStart => exact ⟨0, Nat.zero_le _, rfl, cover (by simp), cover (Below.refl _ _)⟩
  case round =>
    obtain ⟨k, hk, rfl, hall, hbel⟩ := hrel
    by_cases hlt : k < n
    · obtain ⟨x, hx⟩ : ∃ x, l[k]? = some x := ⟨_, List.getElem?_eq_getElem (by rw [HNL.out]; exact hlt)⟩
      obtain ⟨g, c2, hv, _, hgl, e0, e1, _⟩ := HP.out.cell hx
      have hA : A = some ⟨g, 0, none⟩ := by injection hv
      subst hA
      have f0 := (hbel.out.cell (p := ⟨g, k * 2, none⟩) hgl).trans e0
      have f1 := (hbel.out.cell (p := ⟨g, k * 2 + 1, none⟩) hgl).trans e1
      have f2 := (hbel.out.cell (p := ⟨c, 1, none⟩) hcl).trans HC.out
      have HX := cover hx
      obtain ⟨x1, x2⟩ := x
      have f0' : wr.cell? ⟨g, k * 2, none⟩ = some (.int .i64 x1) := f0
      have f1' : wr.cell? ⟨g, k * 2 + 1, none⟩ = some (.int .i64 x2) := f1
      have hO := overI_any c x1 x2 T wr f2
      clear hx hv e0 e1 f0 f1
      go_wp2_with fail
      refine hO.mono ?_
      rintro e w' ⟨rfl, hb'⟩
      clear hO f0' f1' f2
      have HB' : Hid (Below w.heap.size w w') := cover (hbel.out.trans (hb'.mono hbel.out.size))
      by_cases hq : x2 = T
      · have HN : Hid (Post (.returned (.int .i64 k)) w') := cover (by rw [← HE.out]; exact .inr ⟨k, (x1, x2), rfl, by rw [HNL.out]; exact hlt, HB'.out, cover ⟨HX.out, hq, hall.out⟩⟩)
        have hqb : (x2 == T) = true := by rw [beq_iff_eq]; exact hq
        rw [hqb]
        clear hb' hq hqb
        go_wp2
        exact HN.out
      · have HN : Hid (∀ y ∈ l.take (k + 1), y.2 ≠ T) := cover fun y hy => by
          rw [List.take_add_one, HX.out] at hy
          rcases List.mem_append.1 hy with hy | hy
          · exact hall.out y hy
          · simp at hy; rw [hy]; exact hq
        have hqb : (x2 == T) = false := by rw [beq_eq_false_iff_ne]; exact hq
        rw [hqb]
        clear hb' hq hqb
        go_wp2
        go_roundw
        case rel => exact ⟨k + 1, by omega, by go_num, HN, HB'⟩
        case measure => simp [intOf]; omega
    · obtain rfl : k = n := by omega
      have HN : Hid (Post (.returned (.int .i64 (-1))) wr) := cover (by
        rw [← HE.out]; refine .inl ⟨rfl, hbel.out, cover ?_⟩
        have := hall.out; rwa [← HNL.out, List.take_length] at this)
      go_wp2
      exact HN.out

/-- how far DeleteFunc has come: those of the first j that stay lie ahead, the rest where they lay -/
structure DelAtI (g cp : Nat) (T : Int) (l : List (Int × Int)) (w : World) (j : Nat) (wr : World) : Prop where
  row : ∃ cur, wr.heap[g]? = some (.cells cur 72 (0, 0)) ∧ cur.size = cp * 2 ∧ LiesI ((l.take j).filter (fun x => x.2 != T)) cur ∧ (∀ k x, j ≤ k → l[k]? = some x → cur[k * 2]? = some (.int .i64 x.1) ∧ cur[k * 2 + 1]? = some (.int .i64 x.2))
  stl : Still g w wr
theorem keepI_yes {l : List (Int × Int)} {T : Int} {j : Nat} {x : Int × Int} (h : l[j]? = some x) (hf : x.2 = T) : (l.take (j + 1)).filter (fun x => x.2 != T) = (l.take j).filter (fun x => x.2 != T) := by
  rw [List.take_add_one, h]; simp [hf]
theorem keepI_no {l : List (Int × Int)} {T : Int} {j : Nat} {x : Int × Int} (h : l[j]? = some x) (hf : x.2 ≠ T) : (l.take (j + 1)).filter (fun x => x.2 != T) = (l.take j).filter (fun x => x.2 != T) ++ [x] := by
  rw [List.take_add_one, h]; simp [hf]
theorem DelAtI.below {g cp : Nat} {T : Int} {l : List (Int × Int)} {w : World} {j : Nat} {a b : World} (h : DelAtI g cp T l w j a) (hb : Below a.heap.size a b) : DelAtI g cp T l w j b := by
  obtain ⟨cur, h1, h2⟩ := h.row
  exact ⟨⟨cur, (hb.block g (block_lt h1)).trans h1, h2⟩, h.stl.below hb⟩
/-- one that stays is moved to its place -/
theorem DelAtI.move {g cp : Nat} {T : Int} {l : List (Int × Int)} {w : World} {j n : Nat} {wr : World} {x : Int × Int} (h : DelAtI g cp T l w j wr) (hx : l[j]? = some x) (hf : x.2 ≠ T) (hn : ((l.take j).filter (fun x => x.2 != T)).length = n) (hnj : n < j) (hj : j < cp) :
    DelAtI g cp T l w (j + 1) ((wr.setCell ⟨g, n * 2, none⟩ (.int .i64 x.1)).setCell ⟨g, n * 2 + 1, none⟩ (.int .i64 x.2)) := by
  obtain ⟨cur, h1, h2, h3, h4⟩ := h.row
  refine ⟨⟨_, set_block (set_block h1 _ _) _ _, by simpa using h2, fun k y hy => ?_, fun k y hk hy => ?_⟩, (h.stl.setCell _ _).setCell _ _⟩
  · rw [keepI_no hx hf] at hy
    by_cases hkn : k < n
    · rw [List.getElem?_append_left (by omega)] at hy
      rw [Array.getElem?_setIfInBounds_ne (by omega), Array.getElem?_setIfInBounds_ne (by omega), Array.getElem?_setIfInBounds_ne (by omega), Array.getElem?_setIfInBounds_ne (by omega)]
      exact h3 k y hy
    · rw [List.getElem?_append_right (by omega), hn] at hy
      have hlt2 := (List.getElem?_eq_some_iff.1 hy).1
      have hk0 : k = n := by simp at hlt2; omega
      subst hk0
      simp at hy; subst hy
      rw [Array.getElem?_setIfInBounds_ne (by omega), Array.getElem?_setIfInBounds_self_of_lt (by omega), Array.getElem?_setIfInBounds_self_of_lt (by simp; omega)]
      exact ⟨rfl, rfl⟩
  · rw [Array.getElem?_setIfInBounds_ne (by omega), Array.getElem?_setIfInBounds_ne (by omega), Array.getElem?_setIfInBounds_ne (by omega), Array.getElem?_setIfInBounds_ne (by omega)]
    exact h4 k y (by omega) hy
/-- what DeleteFunc hands back -/
def DelOutI (l : List (Int × Int)) (T : Int) (V : Value) (w : World) (e : Ending) (w' : World) : Prop :=
  ∃ V', e = .returned V' ∧ (∃ A c, V' = .slice A (l.filter (fun x => x.2 != T)).length c) ∧ Hid (OwnI 72 w' V' (l.filter (fun x => x.2 != T)) ∧ Moves (fun k => V.ownBlock = some k) (fun k => V'.ownBlock = some k) w w')
set_option maxRecDepth 100000 in
set_option maxHeartbeats 1600000 in
theorem delI_any {w : World} {A : Option Addr} {cp c n : Nat} {l : List (Int × Int)} (T : Int) (h : OwnI 72 w (.slice A n cp) l) (hn : l.length = n) (hbig : n ≤ 100000) (hc : w.cell? ⟨c, 1, none⟩ = some (.int .i64 T)) (hne : (Value.slice A n cp).ownBlock ≠ some c) :
    Calls Try.prog 38 #[.slice A n cp, .func (.func 39) #[ptr c] #[]] w (DelOutI l T (.slice A n cp) w) := by
  have HI := indexI_any T h hn hbig hc
  have HC := cover hc
  have HNL := cover hn
  have hcl : c < w.heap.size := by
    rcases Nat.lt_or_ge c w.heap.size with h1 | h1
    · exact h1
    · unfold World.cell? at hc; rw [Array.getElem?_eq_none h1] at hc; simp at hc
  have HP := cover h
  have hncp := own_cap (hn ▸ h)
  clear h hc hn
  generalize hE : DelOutI l T (.slice A n cp) w = Post
  have HE := cover hE
  clear hE
  go_enter Try.func38, Try.ntmps38
  go_wp2_with fail
  refine HI.mono ?_
  clear HI
  rintro e w1 (⟨rfl, hb1, hall⟩ | ⟨i, x, rfl, hil, hb1, hx⟩)
  · have hflt : l.filter (fun x => x.2 != T) = l := List.filter_eq_self.2 (fun x hx => by simpa using hall.out x hx)
    have HN : Hid (Post (.returned (.slice A n cp)) w1) := cover (by
      rw [← HE.out]; unfold DelOutI
      rw [hflt, HNL.out]
      exact ⟨_, rfl, ⟨A, cp, rfl⟩, cover ⟨row_keeps HP.out (fun i hi => hb1.block i (HP.out.lt i hi).2), Moves.of_below _ hb1⟩⟩)
    clear hall hflt hb1
    go_wp2
    exact HN.out
  · rcases A with _ | ⟨g, o, sp⟩
    · have : n = 0 := by
        rcases HP.out.2 with ⟨_, h0⟩ | ⟨g', c', cur, hv, _⟩
        · rw [HNL.out] at h0; exact h0
        · cases hv
      have := HNL.out; omega
    obtain ⟨rfl, rfl⟩ : o = 0 ∧ sp = none := by
      rcases HP.out.2 with ⟨hv, _⟩ | ⟨g', c', cur, hv, _⟩
      · cases hv
      · injection hv with hv; injection hv with hv; injection hv with _ h1 h2; exact ⟨h1, h2⟩
    obtain ⟨cur, hcur, hsz, hcm, _, hncp', hlies⟩ := HP.out.lies
    have hgc : g ≠ c := fun e => hne (by rw [← e]; rfl)
    have hti : (l.take i).filter (fun x => x.2 != T) = l.take i := List.filter_eq_self.2 (fun y hy => by simpa using hx.out.2.2 y hy)
    have HST : Hid (DelAtI g cp T l w (i + 1) w1 ∧ ((l.take (i + 1)).filter (fun x => x.2 != T)).length = i) := by
      have e1 := keepI_yes hx.out.1 hx.out.2.1
      refine cover ⟨⟨⟨cur, (hb1.block g (block_lt hcur)).trans hcur, hsz, fun k y hk => ?_, fun k y _ hk => hlies k y hk⟩, (Still.refl g w).below hb1⟩, by rw [e1, hti, List.length_take]; omega⟩
      rw [e1, hti, List.getElem?_take] at hk
      split at hk
      · exact hlies k y hk
      · cases hk
    have HSZ := cover (And.intro hsz hcm)
    have hin : i < n := by rw [← HNL.out]; exact hil
    have hi1 : ((i : Int) == -1) = false := by rw [beq_eq_false_iff_ne]; omega
    clear hcur hsz hcm hlies hti hx hil
    go_wp2_with fail
    go_loopw [5, 6, 7] (fun a b _ wr => ∃ ni j : Nat, j ≤ n ∧ ni < j ∧ a = .int .i64 ni ∧ b = .int .i64 j ∧ Hid (DelAtI g cp T l w j wr ∧ ((l.take j).filter (fun x => x.2 != T)).length = ni)) (fun _ b _ _ => n - (intOf b).toNat)
    case atStart => exact ⟨i, i + 1, by omega, by omega, rfl, by go_num, HST⟩
    case round =>
      obtain ⟨ni, j, hj, hni, rfl, rfl, hrel⟩ := hrel
      by_cases hlt : j < n
      · obtain ⟨x, hx⟩ : ∃ x, l[j]? = some x := ⟨_, List.getElem?_eq_getElem (by rw [HNL.out]; exact hlt)⟩
        obtain ⟨cur', hcur', hsz', hk1, hk2⟩ := hrel.out.1.row
        obtain ⟨e0, e1⟩ := hk2 j x (Nat.le_refl _) hx
        obtain ⟨x1, x2⟩ := x
        have HX := cover hx
        have hgl := block_lt hcur'
        have f0 : wr.cell? ⟨g, j * 2, none⟩ = some (.int .i64 x1) := by rw [cell_of_row _ _ _ _ _ _ hcur']; exact e0
        have f1 : wr.cell? ⟨g, j * 2 + 1, none⟩ = some (.int .i64 x2) := by rw [cell_of_row _ _ _ _ _ _ hcur']; exact e1
        have hss := hrel.out.1.stl.size
        obtain ⟨w2, hw2⟩ : ∃ w2, w2 = wr.alloc (.cells #[.int .i64 x1, .int .i64 x2] 72) := ⟨_, rfl⟩
        have hb2 : Below wr.heap.size wr w2 := by rw [hw2]; exact (Below.refl _ _).alloc (Nat.le_refl _) _
        have hcT : w2.cell? ⟨c, 1, none⟩ = some (.int .i64 T) := by
          rw [hb2.cell (p := ⟨c, 1, none⟩) (by show c < _; omega), World.cell?_of_block (hrel.out.1.stl.block c hcl (fun e => hgc e.symm))]; exact HC.out
        have hO := overI_any c x1 x2 T w2 hcT
        obtain ⟨y, hy⟩ : ∃ y, y = wr.heap.size := ⟨_, rfl⟩
        have hn2 : w2.heap[y]? = some (.cells #[.int .i64 x1, .int .i64 x2] 72 (0, 0)) := by rw [hw2, hy]; exact heap_alloc_new _ _
        have HD2 := cover (And.intro (hrel.out.1.below hb2) (And.intro hrel.out.2 hn2))
        have hO' := hO
        rw [hw2] at hO'
        clear hcur' hsz' hk1 hk2 hx e0 e1 hrel hcT hO
        have HW2 := cover (And.intro hw2 hy)
        clear hw2 hb2 hn2 hy
        go_wp2_with fail
        refine hO'.mono ?_
        rintro e w3 ⟨rfl, hb3⟩
        rw [← HW2.out.1] at hb3
        have hy3 : w3.heap[y]? = _ := (hb3.block y (block_lt HD2.out.2.2)).trans HD2.out.2.2
        have g0 : w3.cell? ⟨y, 0, none⟩ = some (.int .i64 x1) := by rw [cell_of_row _ _ _ _ _ _ hy3]; rfl
        have g1 : w3.cell? ⟨y, 1, none⟩ = some (.int .i64 x2) := by rw [cell_of_row _ _ _ _ _ _ hy3]; rfl
        have HD3 := cover (And.intro (HD2.out.1.below hb3) HD2.out.2.1)
        have HY := HW2.out.2
        by_cases hq : x2 = T
        · have HN : Hid (DelAtI g cp T l w (j + 1) w3 ∧ ((l.take (j + 1)).filter (fun x => x.2 != T)).length = ni) := by
            have e1 := keepI_yes HX.out hq
            obtain ⟨q1, q2⟩ := HD3.out
            obtain ⟨cu, r1, r2, r3, r4⟩ := q1.row
            exact cover ⟨⟨⟨cu, r1, r2, by rw [e1]; exact r3, fun k z hk hz => r4 k z (by omega) hz⟩, q1.stl⟩, by rw [e1]; exact q2⟩
          have hqb : (x2 == T) = true := by rw [beq_iff_eq]; exact hq
          rw [hqb]
          clear hb3 hy3 g0 g1 f0 f1 hq hqb hO' HW2 HY
          go_wp2
          go_roundw
          case rel => exact ⟨ni, j + 1, by omega, by omega, rfl, by go_num, HN⟩
          case measure => simp [intOf]; omega
        · have hqb : (x2 == T) = false := by rw [beq_eq_false_iff_ne]; exact hq
          have HN : Hid (DelAtI g cp T l w (j + 1) ((w3.setCell ⟨g, ni * 2, none⟩ (.int .i64 x1)).setCell ⟨g, ni * 2 + 1, none⟩ (.int .i64 x2)) ∧ ((l.take (j + 1)).filter (fun x => x.2 != T)).length = ni + 1) := by
            have e1 := keepI_no HX.out hq
            exact cover ⟨HD3.out.1.move HX.out hq HD3.out.2 hni (by omega), by rw [e1, List.length_append, HD3.out.2]; rfl⟩
          obtain ⟨cu, r1, r2, _, _⟩ := HD3.out.1.row
          have c0 : ∃ u, w3.cell? ⟨g, ni * 2, none⟩ = some u := by rw [cell_of_row _ _ _ _ _ _ r1]; exact ⟨_, Array.getElem?_eq_getElem (by omega)⟩
          have c1 : ∃ u, w3.cell? ⟨g, ni * 2 + 1, none⟩ = some u := by rw [cell_of_row _ _ _ _ _ _ r1]; exact ⟨_, Array.getElem?_eq_getElem (by omega)⟩
          obtain ⟨u0, c0⟩ := c0
          obtain ⟨u1, c1⟩ := c1
          have z0 : w3.frozen? ⟨g, ni * 2, none⟩ = false := by simp [World.frozen?, r1]
          have z1 : w3.frozen? ⟨g, ni * 2 + 1, none⟩ = false := by simp [World.frozen?, r1]
          rw [hqb, ← HY]
          clear hb3 hy3 f0 f1 hq hqb hO' HW2 r1 r2 HY
          go_wp2
          go_roundw
          case rel => exact ⟨ni + 1, j + 1, by omega, by omega, by go_num, by go_num, HN⟩
          case measure => simp [intOf]; omega
      · obtain rfl : j = n := by omega
        obtain ⟨hd, hnl⟩ := hrel.out
        rw [← HNL.out, List.take_length] at hnl
        obtain ⟨cu, r1, r2, r3, _⟩ := hd.row
        rw [← HNL.out, List.take_length] at r3
        have hzv : ∀ w, (zeroValue 72).run Try.prog w = .ok (.agg #[.int .i64 0, .int .i64 0]) w := Try.zeroValue72
        obtain ⟨w6, hw6⟩ : ∃ w6, w6 = wr.setCells g (ni * 2) (Builtin.zeroCells (Value.agg #[.int .i64 0, .int .i64 0]).cells (j - ni)).toList := ⟨_, rfl⟩
        have hclear : ∀ ty c', (Builtin.clear_ #[68] ty #[.slice (some ⟨g, ni * 2, none⟩) (j - ni) c']).run Try.prog wr = .ok (.tuple #[]) w6 := fun ty c' => by
          rw [hw6]
          refine run_clear_wide wr 68 72 ty _ Try.underlying68 hzv g (ni * 2) (j - ni) c' (by omega) (zerosI_one _) (fun i hi => ?_) (fun i hi => by simp [World.frozen?, r1])
          have hi' : i < (j - ni) * 2 := hi
          rw [cell_of_row _ _ _ _ _ _ r1, Array.getElem?_eq_getElem (by omega)]; rfl
        have HN : Hid (Post (.returned (.slice (some ⟨g, 0, none⟩) ni cp)) w6) := cover (by
          rw [← HE.out]
          have hh6 := setCells_block (Builtin.zeroCells (Value.agg #[.int .i64 0, .int .i64 0]).cells (j - ni)).toList _ _ (ni * 2) r1
          rw [← hw6] at hh6
          refine ⟨_, rfl, ⟨_, cp, by rw [hnl]⟩, cover ⟨OwnI.first hh6 (by omega) HSZ.out.2 (by rw [setAll_size]; exact r2) hnl (fun i hi => by rw [setAll_out _ _ _ _ (.inl hi)]; exact r3.flat i (by rw [hnl]; exact hi)), ?_⟩⟩
          have hs := hd.stl
          refine ⟨by rw [hw6, (setCells_os _ _ _).1]; exact hs.os, by rw [hw6, (setCells_os _ _ _).2.1]; exact hs.tape, by rw [hw6, (setCells_os _ _ _).2.2]; exact hs.output, by rw [hw6, setCells_size]; exact hs.size, fun k hk hn' => ?_, fun k hk => .inl hk⟩
          have hkg : k ≠ g := fun e => hn' (by rw [e]; rfl)
          rw [hw6, setCells_other hkg, hs.block k hk hkg])
        have hcn : ¬ (cp = ni) := by omega
        have hnj' : ni ≤ j := by omega
        have hncI : j ≤ cp := by omega
        clear hw6 r1 r2 r3 hd hnl hrel hzv
        go_wp2_with (at_builtin; refine run_to rfl _ _ (by simp [execOp, resolve, invoke, builtin, hclear, Act.eval, Act.put]) ?_)
        exact HN.out
end Go.Proofs.Ytodiocioldakjaa
