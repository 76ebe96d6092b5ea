/- What share does: lays the rules of several states into a state's rows. -/
import Derived.Deep.RegionHeld3
import Derived.Test.YtlffhnplcgmhlaaJLay
namespace Go.Proofs.Ytlffhnplcgmhlaa
open Go.RowKit
set_option linter.unusedVariables false
set_option linter.unusedSimpArgs false

theorem lay_nil {w : World} {tr : Nat} : Calls Try.prog 33 #[.slice none 0 0, ptr tr] w fun e w' => e = .returned (.tuple #[]) ∧ w' = w := by
  go_enter Try.func33, Try.ntmps33
  go_wp2
  go_loopw [7] (fun i wr => i = .int .i64 0 ∧ wr = w) (fun i _ => 0)
  case atStart => exact ⟨rfl, rfl⟩
  case round =>
    obtain ⟨rfl, rfl⟩ := hrel
    go_wp2
    go_end0
    exact ⟨rfl, rfl⟩
/-- the value of lay -/
abbrev layF (tr : Nat) : Value := .func (.func 33) #[] #[ptr tr]
/-- while a state's rows are made: the state, the slice, lay, the rows so far; what is done lies at or above B -/
structure ROf (w : World) (B st tr lv gr : Nat) (s : Int) (T : List RowV) : Prop where
  hst : w.heap[st]? = some (.cells #[.int .i64 s] 3 (0, 0))
  htr : w.heap[tr]? = some (.cells #[.slice (some ⟨gr, 0, none⟩) 34 34] 29 (0, 0))
  hlv : w.heap[lv]? = some (.cells #[layF tr] 45 (0, 0))
  tab : TabAt w B gr T
  len : T.length = 34
theorem ROf.ne {w : World} {B st tr lv gr : Nat} {s : Int} {T : List RowV} (h : ROf w B st tr lv gr s T) : st ≠ gr ∧ tr ≠ gr ∧ lv ≠ gr := by
  obtain ⟨vs, _, hh, _⟩ := h.tab
  exact ⟨type_ne h.hst hh (by decide), type_ne h.htr hh (by decide), type_ne h.hlv hh (by decide)⟩
theorem ROf.below {w w' : World} {B st tr lv gr : Nat} {s : Int} {T : List RowV} (h : ROf w B st tr lv gr s T) (hb : Below w.heap.size w w') : ROf w' B st tr lv gr s T :=
  ⟨(hb.block _ (block_lt h.hst)).trans h.hst, (hb.block _ (block_lt h.htr)).trans h.htr, (hb.block _ (block_lt h.hlv)).trans h.hlv, h.tab.below hb, h.len⟩
theorem ROf.turn {w w' : World} {B st tr lv gr : Nat} {s : Int} {T T' : List RowV} (h : ROf w B st tr lv gr s T) (hT : TabAt w' B gr T') (hl : T'.length = 34) (ho : OnlyB gr w w') : ROf w' B st tr lv gr s T' := by
  obtain ⟨h1, h2, h3⟩ := h.ne
  exact ⟨only_keeps h.hst ho h1, only_keeps h.htr ho h2, only_keeps h.hlv ho h3, hT, hl⟩
/-- what a call of lay's or share's leaves -/
def LaidOut (w : World) (B st tr lv gr : Nat) (s : Int) (T : List RowV) (e : Ending) (w' : World) : Prop := e = .returned (.tuple #[]) ∧ Hid (ROf w' B st tr lv gr s T ∧ OnlyB gr w w')
theorem lay_in {w : World} {B st tr lv gr : Nat} {s : Int} {T : List RowV} {v : Value} {rs : List RuleV} (h : ROf w B st tr lv gr s T) (hB : B ≤ w.heap.size) (hr : RulesIn w B v rs) (hn : rs.length ≤ 100) (hev : ∀ r ∈ rs, 0 ≤ r.1 ∧ r.1 ≤ 33) :
    Calls Try.prog 33 #[v, ptr tr] w (LaidOut w B st tr lv gr s (layP T rs)) := by
  rcases hr with ⟨rfl, rfl⟩ | ⟨g, rfl, hg, hR⟩
  · refine lay_nil.mono ?_
    rintro e w' ⟨rfl, rfl⟩
    exact ⟨rfl, cover ⟨h, OnlyB.refl _ _⟩⟩
  · have hne : g ≠ gr := by
      obtain ⟨vs, _, hh, _⟩ := hR
      obtain ⟨vs', _, hh', _⟩ := h.tab
      exact type_ne hh hh' (by decide)
    refine (lay_any hR h.htr h.tab h.len hn hev ⟨hne, h.ne.2.1⟩).mono ?_
    rintro e w' ⟨rfl, H⟩
    exact ⟨rfl, cover ⟨h.turn H.out.1 (by rw [layP_len, h.len]) H.out.2, H.out.2⟩⟩
theorem share_no {w : World} {st lv : Nat} {s : Int} {f : Value} {A : Option Addr} {n c B : Nat} {l : List Int} (hs : w.heap[st]? = some (.cells #[.int .i64 s] 3 (0, 0))) (hr : RowK .i64 w B A n l) (hn : n ≤ 1000) (hl : l.contains s = false) :
    Calls Try.prog 34 #[f, .slice A n c, ptr st, ptr lv] w fun e w' => e = .returned (.tuple #[]) ∧ w' = w := by
  have c0 : w.cell? ⟨st, 0, none⟩ = some (.int .i64 s) := by rw [cell_of_row w st 0 _ _ _ hs]; rfl
  have h1 := contains_any A n c B l s w hr hn
  rw [hl] at h1
  have H1 := cover h1
  clear h1 hl hr hs
  go_enter Try.func34, Try.ntmps34
  go_wp2_with fail
  refine H1.out.mono ?_
  rintro e w1 ⟨rfl, rfl⟩
  go_wp2
  go_end0
  exact ⟨rfl, rfl⟩
set_option maxHeartbeats 1600000 in
theorem share_yes {w : World} {B st tr lv gr f : Nat} {s : Int} {T : List RowV} {rs : List RuleV} {A : Option Addr} {n c C : Nat} {l : List Int} (h : ROf w B st tr lv gr s T) (hB : B ≤ w.heap.size) (hr : RowK .i64 w C A n l) (hn : n ≤ 1000) (hl : l.contains s = true)
    (hF : ∀ W, Calls Try.prog f #[.int .i64 s] W (RulesOut W rs)) (hrn : rs.length ≤ 100) (hev : ∀ r ∈ rs, 0 ≤ r.1 ∧ r.1 ≤ 33) (hf : f = 37 ∨ f = 38 ∨ f = 39 ∨ f = 40) :
    Calls Try.prog 34 #[.func (.func f) #[] #[], .slice A n c, ptr st, ptr lv] w (LaidOut w B st tr lv gr s (layP T rs)) := by
  have c0 : w.cell? ⟨st, 0, none⟩ = some (.int .i64 s) := by rw [cell_of_row w st 0 _ _ _ h.hst]; rfl
  have c1 : w.cell? ⟨lv, 0, none⟩ = some (layF tr) := by rw [cell_of_row w lv 0 _ _ _ h.hlv]; rfl
  have h1 := contains_any A n c C l s w hr hn
  rw [hl] at h1
  have H1 := cover h1
  have hbl : ∀ W, Below w.heap.size w W → W.cell? ⟨lv, 0, none⟩ = some (layF tr) ∧ W.cell? ⟨st, 0, none⟩ = some (.int .i64 s) := fun W hW =>
    ⟨(hW.cell (block_lt h.hlv)).trans c1, (hW.cell (block_lt h.hst)).trans c0⟩
  have hol : ∀ W, OnlyB gr w W → W.cell? ⟨lv, 0, none⟩ = some (layF tr) ∧ W.cell? ⟨st, 0, none⟩ = some (.int .i64 s) := fun W hW =>
    ⟨by rw [cell_of_row W lv 0 _ _ _ (only_keeps h.hlv hW h.ne.2.2)]; rfl, by rw [cell_of_row W st 0 _ _ _ (only_keeps h.hst hW h.ne.1)]; rfl⟩
  have HF := cover (fun W (hW : Below w.heap.size w W) => (hF W).mono fun e w' he => (show ∃ v, e = .returned v ∧ RulesIn w' B v rs ∧ Below w.heap.size w w' ∧ w'.cell? ⟨lv, 0, none⟩ = some (layF tr) ∧ w'.cell? ⟨st, 0, none⟩ = some (.int .i64 s) from by
    obtain ⟨v, h1, h2⟩ := he
    have h3 := hW.trans (h2.out.2.mono hW.size)
    exact ⟨v, h1, h2.out.1.more (Nat.le_trans hB hW.size), h3, hbl _ h3⟩))
  have HL := cover (fun W (hW : Below w.heap.size w W) v (hv : RulesIn W B v rs) => (lay_in (h.below hW) (Nat.le_trans hB hW.size) hv hrn hev).mono fun e w' he => (show e = .returned (.tuple #[]) ∧ Hid (ROf w' B st tr lv gr s (layP T rs)) ∧ OnlyB gr w w' ∧ w'.cell? ⟨lv, 0, none⟩ = some (layF tr) ∧ w'.cell? ⟨st, 0, none⟩ = some (.int .i64 s) from by
    have h3 := (OnlyB.of_below hW).trans he.2.out.2
    exact ⟨he.1, cover he.2.out.1, h3, hol _ h3⟩))
  clear h1 hl hr h hF hrn hev hbl hol
  rcases hf with rfl | rfl | rfl | rfl
  all_goals
    go_enter Try.func34, Try.ntmps34
    go_wp2_with fail
    refine H1.out.mono ?_
    rintro e w1 ⟨rfl, rfl⟩
    clear H1
    go_upto_region 1 with fail
    go_region_held3 (fun W' : World => W'.cell? ⟨lv, 0, none⟩ = some (layF tr) ∧ W'.cell? ⟨st, 0, none⟩ = some (.int .i64 s) ∧ OnlyB gr w1 W')
      (first
        | exact ⟨c1, c0, (OnlyB.refl _ _).drewN 1⟩
        | exact ⟨k1, k2, OnlyB.of_below hbX⟩
        | exact ⟨l1, l2, hoX⟩)
      (first
        | (go_at_call 33; refine (HL.out _ hbX _ hvX).mono ?_; rintro e w3 ⟨rfl, HX, hoX, l1, l2⟩)
        | ((first | go_at_call 37 | go_at_call 38 | go_at_call 39 | go_at_call 40); refine (HF.out _ (Below.refl _ _).drew).mono ?_; rintro e w2 ⟨v, rfl, hvX, hbX, k1, k2⟩))
    go_wp2
    go_end0
    exact ⟨rfl, cover ⟨HX.out, hoX⟩⟩
end Go.Proofs.Ytlffhnplcgmhlaa
