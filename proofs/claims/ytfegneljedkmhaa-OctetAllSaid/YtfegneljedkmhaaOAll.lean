/- What All does, handed the law's own closure: numbers of two bytes, read one behind the other. -/
import Derived.Test.YtfegneljedkmhaaONum
import Derived.Defers
import Derived.Recover
namespace Go.Proofs.Ytfegneljedkmhaa
open Go.RowKit
set_option linter.unusedVariables false

/-- numbers of 16 bits as bytes -/
def by2 (l : List Int) : List Int := l.flatMap fun x => [x / 256, x % 256]
def U16 (l : List Int) : Prop := ∀ x ∈ l, 0 ≤ x ∧ x ≤ 65535
theorem by2_nil : by2 [] = [] := rfl
theorem by2_cons (x : Int) (l : List Int) : by2 (x :: l) = [x / 256, x % 256] ++ by2 l := rfl
theorem by2_snoc (l : List Int) (x : Int) : by2 (l ++ [x]) = by2 l ++ [x / 256, x % 256] := by simp [by2]
theorem by2_length (l : List Int) : (by2 l).length = 2 * l.length := by
  induction l with
  | nil => rfl
  | cons x l ih => rw [by2_cons, List.length_append, ih, List.length_cons]; simp; omega
theorem by2_bts {l : List Int} (h : U16 l) : Bts (by2 l) := by
  induction l with
  | nil => exact Bts.nil
  | cons x l ih =>
    have hx := h x List.mem_cons_self
    rw [by2_cons]
    exact Bts.append (Bts.cons (by omega) (Bts.cons (by omega) Bts.nil)) (ih fun y hy => h y (List.mem_cons_of_mem _ hy))
theorem by2_at {l : List Int} {j : Nat} (hj : j < l.length) : getv ((by2 (l.drop j)).take 2) = l[j] ∧ (by2 (l.drop j)).drop 2 = by2 (l.drop (j + 1)) := by
  rw [List.drop_eq_getElem_cons hj, by2_cons]
  constructor
  · show getv [l[j] / 256, l[j] % 256] = l[j]
    rw [getv_cons, getv_cons]; simp [getv_nil]; omega
  · rfl

theorem catch_idle (p : Addr) (w : World) :
    CallsD Try.prog 31 #[.pointer (some p)] .returning w fun e u' w' => e = .returned (.tuple #[]) ∧ u' = .returning ∧ w' = w := by
  refine callsD_of_wpS Try.func31 rfl fun c₀ cs hu => ?_
  apply wpS_seq
  apply wpS_region
  simp [wpOpsS, go_sem, recoverD, hu, Try.ntmps31, Exit.thenS]
  refine wpS_cond (t := false) (by simp [Act.eval, Array.replicate]) ?_
  simp only [Bool.false_eq_true, if_false]
  refine wpS_of_wp (wp_skip ?_)
  cases c₀
  simp_all [bodyPostS, results, Try.results31]

theorem two_yes (g : Nat) (l : List Int) (j : Nat) (w : World) (hr : Rd 52 w g g (by2 (l.drop j)) false) (hu : U16 l) (hj : j < l.length) (hmax : l.length ≤ 70368744177664) :
    Calls Try.prog 25 #[.pointer (some ⟨g, 0, none⟩)] w fun e w' => e = .returned (.int .i64 l[j]) ∧ Rd 52 w' g g (by2 (l.drop (j + 1))) false ∧ OnlyB g w w' := by
  have hlen : (by2 (l.drop j)).length = 2 * (l.length - j) := by rw [by2_length, List.length_drop]
  have h := num_yes g g 2 _ w hr (by2_bts fun x hx => hu x (List.mem_of_mem_drop hx)) (by omega) (by decide) (by decide) (by omega)
  obtain ⟨e1, e2⟩ := by2_at hj
  unfold NumB at h
  rw [e1, e2] at h
  have H := cover h
  clear h hlen e1 e2 hr
  go_enter Try.func25, Try.ntmps25
  go_wp2_with (go_at_call 12; refine H.out.mono ?_; rintro e w' ⟨rfl, hr', ho'⟩)
  go_ret
  exact ⟨rfl, hr', ho'⟩
theorem two_no (g : Nat) (w : World) (hr : Rd 52 w g g [] false) :
    Calls Try.prog 25 #[.pointer (some ⟨g, 0, none⟩)] w fun e w' => e = .returned (.int .i64 0) ∧ Rd 52 w' g g [] true ∧ OnlyB g w w' := by
  go_enter Try.func25, Try.ntmps25
  go_wp2_with (go_at_call 12; refine (num_no g g [] false 2 w hr (by decide)).mono ?_; rintro e w' ⟨rfl, hr', ho'⟩)
  go_ret
  exact ⟨rfl, hr', ho'⟩

theorem all_out (n : Int) (fv : Value) (g : Nat) (w : World) (h : n < 1 ∨ 1048576 < n) :
    Calls Try.prog 24 #[.int .i64 n, fv, .pointer (some ⟨g, 0, none⟩)] w fun e w' => e = .returned (.slice none 0 0) ∧ Below w.heap.size w w' := by
  by_cases h1 : n < 1
  · clear h
    go_enter_defers Try.func24, Try.ntmps24
    go_wp2
    have hb : Below w.heap.size w (w.alloc (.cells #[.slice none 0 0] 44)) := (Below.refl _ _).alloc (Nat.le_refl _) _
    simp [bodyPostD, Leaves, results, Try.results24, go_sem, hb]
  · have h2 : 1048576 < n := by omega
    clear h
    go_enter_defers Try.func24, Try.ntmps24
    go_wp2
    have hb : Below w.heap.size w (w.alloc (.cells #[.slice none 0 0] 44)) := (Below.refl _ _).alloc (Nat.le_refl _) _
    simp [bodyPostD, Leaves, results, Try.results24, go_sem, hb]

theorem int_info : (Try.prog.info? 3).map (fun i => (i.zero, i.size, i.bytes)) = some (some (.int .i64 0), 1, 8) := by kernel_rfl

/-- at the head of a round of All: what was read, and what is left -/
def AllAt (w : World) (l : List Int) (g gl j : Nat) (wr : World) : Prop :=
  ∃ v, Rd 52 wr g g (by2 (l.drop j)) false ∧ wr.heap[gl]? = some (.cells #[v] 44 (0, 0)) ∧ wr.ownsRow (gl + 1) 3 1 v j ((l.take j).map (Value.int .i64)) ∧ OnlyB g w wr
/-- All has read so many numbers -/
def AllYes (l : List Int) (g n : Nat) (w : World) (e : Ending) (w' : World) : Prop :=
  ∃ A c, e = .returned (.slice A n c) ∧ RowK .i64 w' w'.heap.size A n (l.take n) ∧ Rd 52 w' g g (by2 (l.drop n)) false ∧ OnlyB g w w'
/-- All has read none: the reader failed -/
def AllNo (g : Nat) (w : World) (e : Ending) (w' : World) : Prop :=
  e = .returned (.slice none 0 0) ∧ Rd 52 w' g g [] true ∧ OnlyB g w w'
def AllB (l : List Int) (g n : Nat) (w : World) (e : Ending) (w' : World) : Prop := if n ≤ l.length then AllYes l g n w e w' else AllNo g w e w'

theorem own_far {w : World} {gl n : Nat} {v : Value} {xs : List Value} {e : TypeId} (h : w.ownsRow (gl + 1) e 1 v n xs) {k : Nat} (hk : k ≤ gl) : v.ownBlock ≠ some k := fun he => by
  have := (h.lt k he).1; omega
theorem all_mid {w wr w2 : World} {l : List Int} {g gl j : Nat} {v : Value} {ys : List Int} {f : Bool} (hgl : w.heap.size = gl) (hg : g < gl) (hhl : wr.heap[gl]? = some (.cells #[v] 44 (0, 0))) (hown : wr.ownsRow (gl + 1) 3 1 v j ((l.take j).map (Value.int .i64))) (ho : OnlyB g w wr)
    (hrd2 : Rd 52 w2 g g ys f) (ho2 : OnlyB g wr w2) :
    w2.heap[gl]? = some (.cells #[v] 44 (0, 0)) ∧ w2.ownsRow (gl + 1) 3 1 v j ((l.take j).map (Value.int .i64)) ∧ OnlyB g w w2 :=
  ⟨(ho2.block gl (lt_of_block hhl) (fun e => by injection e; omega)).trans hhl, hown.kept ho2 (.inr (own_far hown (by omega))), ho.trans ho2⟩
theorem rd_far {T : TypeId} {w : World} {g gl : Nat} {ys : List Int} {f : Bool} (h : Rd T w g g ys f) (hg : g < gl) (u : Value) : Rd T (w.setCell ⟨gl, 0, none⟩ u) g g ys f :=
  h.keep (Below.heap_setCell w ⟨gl, 0, none⟩ u g (by show g ≠ gl; omega)) (fun p hp => World.cell?_setCell_other w _ p u (fun e => by subst e; have : gl < g := hp; omega))
theorem only_far {w w2 : World} {g gl : Nat} (ho : OnlyB g w w2) (hgl : w.heap.size = gl) (u : Value) : OnlyB g w (w2.setCell ⟨gl, 0, none⟩ u) :=
  ⟨ho.os, ho.tape, ho.output, by simpa [World.setCell] using ho.size, fun i hi hne => (Below.heap_setCell w2 ⟨gl, 0, none⟩ u i (by show i ≠ gl; omega)).trans (ho.block i hi hne)⟩
theorem all_step {w w2 w3 : World} {l : List Int} {g gl j : Nat} {v v' : Value} {x : Int} {o : Obj} (hgl : w.heap.size = gl) (hg : g < gl) (hx : l[j]? = some x) (hhl : w2.heap[gl]? = some (.cells #[v] 44 (0, 0)))
    (hown : w2.ownsRow (gl + 1) 3 1 v j ((l.take j).map (Value.int .i64))) (ho : OnlyB g w w2) (hrd : Rd 52 w2 g g (by2 (l.drop (j + 1))) false)
    (hown' : w3.ownsRow (gl + 1) 3 1 v' (j + 1) ((l.take j).map (Value.int .i64) ++ [.int .i64 x])) (hgrow : (w2.alloc o).grownBy w3 v.ownBlock) :
    w3.heap[gl]? = some (.cells #[v] 44 (0, 0)) ∧ AllAt w l g gl (j + 1) (w3.setCell ⟨gl, 0, none⟩ v') := by
  have hlt := lt_of_block hhl
  have h3 : w3.heap[gl]? = some (.cells #[v] 44 (0, 0)) := (hgrow.block gl (by simp; omega) (fun e => own_far hown (Nat.le_refl _) e.symm)).trans ((Below.heap_alloc w2 o gl hlt).trans hhl)
  have hrd3 : Rd 52 w3 g g (by2 (l.drop (j + 1))) false := (hrd.below ((Below.refl w2.heap.size w2).alloc (Nat.le_refl _) o) hrd.lt).grown_own (hown.alloc o) hgrow (by omega)
  have ho3 : OnlyB g w w3 := by
    have hb : Below w.heap.size w2 w3 := ((Below.refl w.heap.size w2).alloc ho.size o).grown hgrow (by simp; have := ho.size; omega) (fun k hk => by have := (hown.lt k hk).1; omega)
    exact ⟨hb.os.trans ho.os, hb.tape.trans ho.tape, hb.output.trans ho.output, Nat.le_trans ho.size hb.size, fun i hi hne => (hb.block i hi).trans (ho.block i hi hne)⟩
  refine ⟨h3, v', rd_far hrd3 hg _, one_setCell h3, ownsRow_setCell_other ?_ (own_far hown' (Nat.le_refl _)) _, only_far ho3 hgl _⟩
  rw [List.take_add_one, hx, List.map_append]; exact hown'

set_option maxHeartbeats 800000 in
theorem all_in (l : List Int) (g n : Nat) (w : World) (hr : Rd 52 w g g (by2 l) false) (hu : U16 l) (hl : l.length ≤ 200) (h1 : 1 ≤ n) (h2 : n ≤ 1048576) :
    Calls Try.prog 24 #[.int .i64 n, .func (.func 25) #[] #[], .pointer (some ⟨g, 0, none⟩)] w (AllB l g n w) := by
  obtain ⟨i0, hi, hz0, hz1, hz2⟩ := info_parts int_info
  have hmf : ∀ (fn : Fn) (first cap : Array Value) (w : World), (Instr.makeFunc fn first cap).run Try.prog w = .ok (.func fn first cap) w := fun _ _ _ _ => rfl
  have hfn : ∀ W : World, (binOp .eql 46 (.func (.func 25) #[] #[]) Value.nilFunc).run Try.prog W = .ok (.bool false) W := fun _ => by kernel_rfl
  have hst : Hid (AllAt w l g w.heap.size 0 (w.alloc (.cells #[.slice none 0 0] 44))) := cover ⟨.slice none 0 0, hr.below ((Below.refl w.heap.size w).alloc (Nat.le_refl _) _) hr.lt, heap_alloc_new _ _, World.ownsRow_nil _ _ _ _, OnlyB.of_below ((Below.refl _ _).alloc (Nat.le_refl _) _)⟩
  have hgl := hr.lt
  clear hr
  go_enter_defers Try.func24, Try.ntmps24
  go_wp2_with fail
  obtain ⟨gl, hgle⟩ : ∃ gl, w.heap.size = gl := ⟨_, rfl⟩
  rw [hgle] at hst hgl
  rw [hgle]
  have HGL := cover hgle
  clear hgle
  go_loopw [20] (fun i wr => ∃ j : Nat, j ≤ n ∧ j ≤ l.length ∧ i = .int .i64 j ∧ Hid (AllAt w l g gl j wr)) (fun i _ => n - (intOf i).toNat)
  case atStart => exact ⟨0, Nat.zero_le _, Nat.zero_le _, rfl, hst⟩
  case round =>
    obtain ⟨j, hj, hjl, rfl, hrel⟩ := hrel
    obtain ⟨v, hrd, hhl, hown, ho⟩ := hrel.out
    have hsz := ho.size
    rw [HGL.out] at hsz
    have hcl := cell_of_one hhl
    have hfl := free_of_one hhl
    by_cases hlt : j < n
    · by_cases hjl' : j < l.length
      · have hxj : l[j]? = some l[j] := List.getElem?_eq_getElem hjl'
        have HX := cover hxj
        clear hxj
        go_wp2_with fail
        refine (two_yes g l j wr hrd hu hjl' (by omega)).mono ?_
        rintro e w2 ⟨rfl, hrd2, ho2⟩
        obtain ⟨hh2, hown2, hon2⟩ := all_mid HGL.out hgl hhl hown ho hrd2 ho2
        have hcl2 := cell_of_one hh2
        have hfl2 := free_of_one hh2
        have hlt2 := lt_of_block hh2
        have HH := cover hh2
        clear hhl hh2 hcl hfl hrd hown
        go_wp2_with fail
        refine (failed_any g g _ false w2 hrd2).mono ?_
        rintro e w2' ⟨rfl, rfl⟩
        have hg2 := hon2.size
        go_wp2_with (at_builtin; refine wpList_append_own _ rfl _ _ 44 rfl (gl + 1) 3 i0 (.int .i64 0) 1 8 Try.underlying44 hi hz0 hz1 hz2 rfl (by decide) _ _ _ rfl (hown2.alloc _) ⟨w2.heap.size, 0, none⟩ 1 1 [.int .i64 l[j]] rfl rfl ?c1 ?c2 ?c3 ?c4 ?c5 ?_)
        case c1 => exact cell_one_new _ _ _
        case c2 => intro u hu; simp at hu; subst hu; rfl
        case c3 => unfold maxLen; omega
        case c4 => omega
        case c5 => simp; omega
        intro v' w3 hown' hgrow _
        rw [← List.map_take] at hown'
        obtain ⟨A', c', rfl, _⟩ := own_shape hown'
        obtain ⟨hh3, hst3⟩ := all_step HGL.out hgl HX.out HH.out hown2 hon2 hrd2 hown' hgrow
        have hcl3 := cell_of_one hh3
        have hfl3 := free_of_one hh3
        have HN := cover hst3
        clear hst3 hh3 hown' hgrow hown2 hrd2 hcl2 hfl2
        go_wp2
        go_roundw
        case rel => exact ⟨j + 1, by omega, by omega, by go_num, HN⟩
        case measure => simp [intOf]; omega
      · obtain rfl : j = l.length := by omega
        rw [List.drop_length, by2_nil] at hrd
        go_wp2_with fail
        refine (two_no g wr hrd).mono ?_
        rintro e w2 ⟨rfl, hrd2, ho2⟩
        obtain ⟨hh2, hown2, hon2⟩ := all_mid HGL.out hgl hhl hown ho hrd2 ho2
        have hcl2 := cell_of_one hh2
        have hfl2 := free_of_one hh2
        clear hhl hcl hfl hrd hown
        go_wp2_with fail
        refine (failed_any g g _ true w2 hrd2).mono ?_
        rintro e w2' ⟨rfl, rfl⟩
        have hc3 : (w2.setCell ⟨gl, 0, none⟩ (.slice none 0 0)).cell? ⟨gl, 0, none⟩ = some (.slice none 0 0) := cell_of_one (one_setCell hh2)
        have HC3 := cover hc3
        clear hc3 hh2
        have HN : Hid (Rd 52 (w2.setCell ⟨gl, 0, none⟩ (.slice none 0 0)) g g [] true ∧ OnlyB g w (w2.setCell ⟨gl, 0, none⟩ (.slice none 0 0))) := cover ⟨rd_far hrd2 hgl _, only_far hon2 HGL.out _⟩
        clear hrd2 hown2 hon2
        go_wp2
        refine leaves_cons (f := 31) (args := #[.pointer (some ⟨gl, 0, none⟩)]) (by simp) (by simp [go_sem]) ?_
        refine (catch_idle ⟨gl, 0, none⟩ _).mono ?_
        rintro e u' w'' ⟨rfl, rfl, rfl⟩
        have hc3 := HC3.out
        refine ⟨.slice none 0 0, by simp [results, Try.results24, go_sem, hc3], ?_⟩
        unfold AllB
        rw [if_neg (by omega)]
        exact ⟨rfl, HN.out.1, HN.out.2⟩
    · obtain rfl : j = n := by omega
      obtain ⟨A', c', rfl, _⟩ := own_shape hown
      have hh3 := one_setCell (u := .slice A' j c') hhl
      have HC3 := cover (cell_of_one hh3)
      have hown3 := ownsRow_setCell_other (a := ⟨gl, 0, none⟩) hown (own_far hown (Nat.le_refl _)) (.slice A' j c')
      have HN : Hid (RowK .i64 (wr.setCell ⟨gl, 0, none⟩ (.slice A' j c')) (wr.setCell ⟨gl, 0, none⟩ (.slice A' j c')).heap.size A' j (l.take j) ∧ Rd 52 (wr.setCell ⟨gl, 0, none⟩ (.slice A' j c')) g g (by2 (l.drop j)) false ∧ OnlyB g w (wr.setCell ⟨gl, 0, none⟩ (.slice A' j c'))) :=
        cover ⟨RowK.of_own hown3 (by rw [List.length_take]; omega), rd_far hrd hgl _, only_far ho HGL.out _⟩
      clear hrd hown hown3 hh3 hhl
      go_wp2
      refine leaves_cons (f := 31) (args := #[.pointer (some ⟨gl, 0, none⟩)]) (by simp) (by simp [go_sem]) ?_
      refine (catch_idle ⟨gl, 0, none⟩ _).mono ?_
      rintro e u' w'' ⟨rfl, rfl, rfl⟩
      have hc3 := HC3.out
      refine ⟨.slice A' j c', by simp [results, Try.results24, go_sem, hc3], ?_⟩
      unfold AllB
      rw [if_pos (by omega)]
      exact ⟨A', c', rfl, HN.out.1, HN.out.2.1, HN.out.2.2⟩
end Go.Proofs.Ytfegneljedkmhaa
