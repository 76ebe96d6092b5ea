/- What the clock's own find answers: the place of a key's timer, or none. What New, Len, Now and Left answer. -/
import Derived.Defers
import Derived.Recover
import Derived.BigQuiet
import Derived.Deep.QuietTactic
import Derived.Test.YtodiocioldakjaaKIMem
namespace Go.Proofs.Ytodiocioldakjaa
open Go.RowKit
set_option linter.unusedVariables false

theorem idleI_any (p : Addr) (w : World) :
    CallsD Try.prog 44 #[.pointer (some p)] .returning w fun e u' w' => e = .returned (.tuple #[]) ∧ u' = .returning ∧ w' = w := by
  refine callsD_of_wpS Try.func44 rfl fun c₀ cs hu => ?_
  apply wpS_seq
  apply wpS_region
  simp [wpOpsS, go_sem, recoverD, hu, Try.ntmps44, Exit.thenS]
  refine wpS_cond (t := false) (by simp [Act.eval, Array.replicate]) ?_
  simp only [Bool.false_eq_true, if_false]
  refine wpS_of_wp (wp_skip ?_)
  cases c₀
  simp_all [bodyPostS, results, Try.results44]
/-- the first so many have other keys; the next one has this one, or there is none -/
structure FoundI (l : List (Int × Int)) (k : Int) (n : Nat) (r : Int) : Prop where
  le : n ≤ l.length
  no : ∀ j x, j < n → l[j]? = some x → x.1 ≠ k
  yes : (n = l.length ∧ r = -1) ∨ (∃ x, l[n]? = some x ∧ x.1 = k ∧ r = n)
theorem foundI_ex (l : List (Int × Int)) (k : Int) : ∃ n r, FoundI l k n r := by
  induction l with
  | nil => exact ⟨0, -1, Nat.le_refl _, fun j x h => by omega, .inl ⟨rfl, rfl⟩⟩
  | cons y l ih =>
    by_cases hy : y.1 = k
    · exact ⟨0, 0, Nat.zero_le _, fun j x h => by omega, .inr ⟨y, rfl, hy, rfl⟩⟩
    · obtain ⟨n, r, h1, h2, h3⟩ := ih
      have hno : ∀ j x, j < n + 1 → (y :: l)[j]? = some x → x.1 ≠ k := fun j x hj hx => by
        cases j with
        | zero => simp at hx; subst hx; exact hy
        | succ j => exact h2 j x (by omega) (by simpa using hx)
      rcases h3 with ⟨rfl, rfl⟩ | ⟨x, hx, hk, rfl⟩
      · exact ⟨l.length + 1, -1, Nat.le_refl _, hno, .inl ⟨rfl, rfl⟩⟩
      · exact ⟨n + 1, ((n + 1 : Nat) : Int), by simpa using h1, hno, .inr ⟨x, by simpa using hx, hk, rfl⟩⟩
/-- at the head of a round -/
def FindIAt (w : World) (wr : World) : Prop := Below w.heap.size w wr ∧ wr.heap[w.heap.size]? = some (.cells #[.int .i64 0] 3 (0, 0))
theorem FindIAt.alloc {w wr : World} (h : FindIAt w wr) (o : Obj) : FindIAt w (wr.alloc o) := ⟨h.1.alloc h.1.size o, (Below.heap_alloc _ _ _ (block_lt h.2)).trans h.2⟩
set_option maxRecDepth 100000 in
set_option maxHeartbeats 1600000 in
theorem findI_go {w : World} {c : Nat} {V : Value} {m now : Nat} {l : List (Int × Int)} (h : CIIn w c V m now l) (k : Int) (n : Nat) (r : Int) (hf : FoundI l k n r) :
    Calls Try.prog 35 #[ptr c, .int .i64 k] w fun e w' => e = .returned (.int .i64 r) ∧ Below w.heap.size w w' := by
  have hmf : ∀ (fn : Fn) (first cap : Array Value) (w : World), (Instr.makeFunc fn first cap).run Try.prog w = .ok (.func fn first cap) w := fun _ _ _ _ => rfl
  obtain ⟨A, cp, rfl⟩ := h.shape
  obtain ⟨b, hb⟩ : ∃ b, w.heap.size = b := ⟨_, rfl⟩
  have hlen := h.len
  have hcl := block_lt h.hd
  have HC := cover h
  have HF := cover hf
  have hst : FindIAt w (w.alloc (.cells #[.int .i64 0] 3)) := ⟨(Below.refl _ _).alloc (Nat.le_refl _) _, heap_alloc_new _ _⟩
  have hcc : (w.alloc (.cells #[.int .i64 0] 3)).cell? ⟨c, 2, none⟩ = some (.slice A l.length cp) := cell_alloc_lt _ h.cells.2.2
  have HST := cover hst
  have hle := hf.le
  clear h hf hst
  go_enter_defers Try.func35, Try.ntmps35
  go_wp2_with fail
  clear hcc
  obtain ⟨w1, hw1⟩ : ∃ w1, w1 = w.alloc (.cells #[.int .i64 0] 3) := ⟨_, rfl⟩
  rw [← hw1] at HST ⊢
  clear hw1
  go_loopw [15] (fun i wr => ∃ j : Nat, j ≤ n ∧ i = .int .i64 j ∧ Hid (FindIAt w wr)) (fun i _ => n - (intOf i).toNat)
  case atStart => exact ⟨0, Nat.zero_le _, rfl, HST⟩
  case round =>
    obtain ⟨j, hj, rfl, hrel⟩ := hrel
    obtain ⟨hbel, hbox⟩ := hrel.out
    rw [hb] at hbox
    have hs := hbel.size
    have hlt := block_lt hbox
    have hcb : wr.cell? ⟨b, 0, none⟩ = some (.int .i64 0) := by rw [cell_of_row _ _ _ _ _ _ hbox]; rfl
    have hfb : wr.frozen? ⟨b, 0, none⟩ = false := by simp [World.frozen?, hbox]
    by_cases hjn : j < n
    · have hjl : j < l.length := by omega
      obtain ⟨x, hx⟩ : ∃ x, l[j]? = some x := ⟨_, List.getElem?_eq_getElem hjl⟩
      have hne := HF.out.no j x hjn hx
      have hxe : (endsK now l)[j]? = some (x.1, (now : Int) + x.2) := by rw [endsK_get, hx]; rfl
      obtain ⟨g, c', hv, _, hgl, h0, h1, _⟩ := (HC.out.below (hbel.mono (Nat.le_refl _))).row.cell hxe
      have hA : A = some ⟨g, 0, none⟩ := by injection hv
      subst hA
      obtain ⟨x1, hx1⟩ : ∃ x1, x1 = x.1 := ⟨_, rfl⟩
      have heq := keyI_ne (show x1 ≠ k by rw [hx1]; exact hne)
      obtain ⟨x2, hx2⟩ : ∃ x2 : Int, x2 = (now : Int) + x.2 := ⟨_, rfl⟩
      have hh0 : wr.cell? ⟨g, j * 2, none⟩ = some (.int .i64 x1) := by rw [hx1]; exact h0
      have hh1 : wr.cell? ⟨g, j * 2 + 1, none⟩ = some (.int .i64 x2) := by rw [hx2]; exact h1
      have HN : Hid (FindIAt w (wr.alloc (.cells #[.int .i64 x1, .int .i64 x2] 72))) := cover (hrel.out.alloc _)
      clear hv hx hx1 hx2 hne hxe h0 h1 hrel hbel hbox
      go_wp2
      go_roundw
      case rel => exact ⟨j + 1, by omega, by go_num, HN⟩
      case measure => simp [intOf]; omega
    · obtain rfl : j = n := by omega
      rcases HF.out.yes with ⟨rfl, rfl⟩ | ⟨x, hx, hk, rfl⟩
      · have hset := set_block hbox 0 (.int .i64 (-1))
        have hc3 : (wr.setCell ⟨b, 0, none⟩ (.int .i64 (-1))).cell? ⟨b, 0, none⟩ = some (.int .i64 (-1)) := by rw [cell_of_row _ _ _ _ _ _ hset]; rfl
        have HB : Hid (Below w.heap.size w (wr.setCell ⟨b, 0, none⟩ (.int .i64 (-1)))) := cover (hbel.setCell (p := ⟨b, 0, none⟩) (by rw [hb]; exact Nat.le_refl _) _)
        have HC3 := cover hc3
        clear hrel hbel hbox hset hc3
        go_wp2
        refine leaves_cons (f := 44) (args := #[.pointer (some ⟨b, 0, none⟩)]) (by simp) (by simp [go_sem]) ?_
        refine (idleI_any ⟨b, 0, none⟩ _).mono ?_
        rintro e u' w'' ⟨rfl, rfl, rfl⟩
        have hc3 := HC3.out
        exact ⟨.int .i64 (-1), by simp [results, Try.results35, go_sem, hc3], rfl, HB.out⟩
      · have hjl := (List.getElem?_eq_some_iff.1 hx).1
        have hxe : (endsK now l)[j]? = some (x.1, (now : Int) + x.2) := by rw [endsK_get, hx]; rfl
        obtain ⟨g, c', hv, _, hgl, h0, h1, _⟩ := (HC.out.below (hbel.mono (Nat.le_refl _))).row.cell hxe
        have hA : A = some ⟨g, 0, none⟩ := by injection hv
        subst hA
        obtain ⟨x2, hx2⟩ : ∃ x2 : Int, x2 = (now : Int) + x.2 := ⟨_, rfl⟩
        have hh0 : wr.cell? ⟨g, j * 2, none⟩ = some (.int .i64 k) := by rw [← hk]; exact h0
        have hh1 : wr.cell? ⟨g, j * 2 + 1, none⟩ = some (.int .i64 x2) := by rw [hx2]; exact h1
        have hset := set_block hbox 0 (.int .i64 j)
        have HC3 : Hid (((wr.setCell ⟨b, 0, none⟩ (.int .i64 j)).alloc (.cells #[.int .i64 k, .int .i64 x2] 72)).cell? ⟨b, 0, none⟩ = some (.int .i64 j)) := cover (cell_alloc_lt _ (by rw [cell_of_row _ _ _ _ _ _ hset]; rfl))
        have HB : Hid (Below w.heap.size w ((wr.setCell ⟨b, 0, none⟩ (.int .i64 j)).alloc (.cells #[.int .i64 k, .int .i64 x2] 72))) := cover ((hbel.setCell (p := ⟨b, 0, none⟩) (by rw [hb]; exact Nat.le_refl _) _).alloc (by rw [set_size]; exact hs) _)
        have hself := keyI_self k
        clear hv hx hx2 hxe h0 h1 hrel hbel hbox hset hk
        go_wp2
        refine leaves_cons (f := 44) (args := #[.pointer (some ⟨b, 0, none⟩)]) (by simp) (by simp [go_sem]) ?_
        refine (idleI_any ⟨b, 0, none⟩ _).mono ?_
        rintro e u' w'' ⟨rfl, rfl, rfl⟩
        have hc3 := HC3.out
        exact ⟨.int .i64 j, by simp [results, Try.results35, go_sem, hc3], rfl, HB.out⟩
/-! as the others use it -/
theorem findI_none {w : World} {c : Nat} {V : Value} {m now : Nat} {l : List (Int × Int)} (h : CIIn w c V m now l) (k : Int) (hk : hasK l k = false) :
    Calls Try.prog 35 #[ptr c, .int .i64 k] w fun e w' => e = .returned (.int .i64 (-1)) ∧ Below w.heap.size w w' := by
  refine findI_go h k l.length (-1) ⟨Nat.le_refl _, fun j x _ hx e => ?_, .inl ⟨rfl, rfl⟩⟩
  have : hasK l k = true := hasK_iff.2 (List.mem_map.2 ⟨x, List.mem_of_getElem? hx, e⟩)
  rw [hk] at this; cases this
theorem placeI_ex {l : List (Int × Int)} {k : Int} (hk : hasK l k = true) : ∃ (i : Nat) (x : Int), l[i]? = some (k, x) ∧ ∀ j y, j < i → l[j]? = some y → y.1 ≠ k := by
  obtain ⟨n, r, h1, h2, h3⟩ := foundI_ex l k
  rcases h3 with ⟨rfl, _⟩ | ⟨x, hx, he, _⟩
  · obtain ⟨x, hx, he⟩ := List.mem_map.1 (hasK_iff.1 hk)
    obtain ⟨i, hi⟩ := List.mem_iff_getElem?.1 hx
    exact absurd he (h2 i x (List.getElem?_eq_some_iff.1 hi).1 hi)
  · exact ⟨n, x.2, by rw [hx, ← he], fun j y hj hy => h2 j y hj hy⟩
theorem findI_at {w : World} {c : Nat} {V : Value} {m now : Nat} {l : List (Int × Int)} (h : CIIn w c V m now l) (k : Int) (i : Nat) (x : Int) (hi : l[i]? = some (k, x)) (hno : ∀ j y, j < i → l[j]? = some y → y.1 ≠ k) :
    Calls Try.prog 35 #[ptr c, .int .i64 k] w fun e w' => e = .returned (.int .i64 i) ∧ Below w.heap.size w w' :=
  findI_go h k i i ⟨Nat.le_of_lt (List.getElem?_eq_some_iff.1 hi).1, hno, .inr ⟨(k, x), hi, rfl, rfl⟩⟩
theorem lenI_any {w : World} {c : Nat} {V : Value} {m now : Nat} {l : List (Int × Int)} (h : CIIn w c V m now l) : Calls Try.prog 25 #[ptr c] w fun e w' => e = .returned (.int .i64 l.length) ∧ w = w' := by
  obtain ⟨A, cp, rfl⟩ := h.shape
  obtain ⟨h0, h1, h2⟩ := h.cells
  clear h
  go_enter Try.func25, Try.ntmps25
  go_wp2
  go_ret
  exact ⟨rfl, rfl⟩
theorem nowI_any {w : World} {c : Nat} {V : Value} {m now : Nat} {l : List (Int × Int)} (h : CIIn w c V m now l) : Calls Try.prog 24 #[ptr c] w fun e w' => e = .returned (.int .i64 now) ∧ w = w' := by
  obtain ⟨h0, h1, h2⟩ := h.cells
  clear h
  go_enter Try.func24, Try.ntmps24
  go_wp2
  go_ret
  exact ⟨rfl, rfl⟩
theorem newI_any (n : Int) (w : World) (hn : n ≤ 100000) : Calls Try.prog 14 #[.int .i64 n] w fun e w' => e = .returned (ptr w.heap.size) ∧ Hid (CIIn w' w.heap.size (.slice none 0 0) n.toNat 0 [] ∧ Below w.heap.size w w') := by
  obtain ⟨k, hk⟩ : ∃ k : Nat, k = n.toNat := ⟨_, rfl⟩
  have HF : Hid (CIIn (w.alloc (.cells #[.int .i64 k, .int .i64 0, .slice none 0 0] 70)) w.heap.size (.slice none 0 0) n.toNat 0 [] ∧ Below w.heap.size w (w.alloc (.cells #[.int .i64 k, .int .i64 0, .slice none 0 0] 70))) := by
    rw [← hk]
    exact cover ⟨⟨heap_alloc_new _ _, World.ownsRow_nil _ _ _ _, ⟨List.nodup_nil, Nat.zero_le _, fun x hx => by cases hx⟩, by omega, by omega⟩, (Below.refl _ _).alloc (Nat.le_refl _) _⟩
  by_cases h0 : 0 < n
  · have e : n = (k : Int) := by omega
    have h1 : n > 0 := h0
    clear hk
    go_enter Try.func14, Try.ntmps14
    go_wp2
    go_ret
    subst e
    exact ⟨rfl, HF⟩
  · have e : k = 0 := by omega
    subst e
    clear hk
    go_enter Try.func14, Try.ntmps14
    go_wp2
    go_ret
    exact ⟨rfl, HF⟩
set_option maxHeartbeats 800000 in
theorem leftI_none {w : World} {c : Nat} {V : Value} {m now : Nat} {l : List (Int × Int)} (h : CIIn w c V m now l) (k : Int) (hk : hasK l k = false) :
    Calls Try.prog 22 #[ptr c, .int .i64 k] w fun e w' => e = .returned (.int .i64 0) ∧ Below w.heap.size w w' := by
  have HF := findI_none h k hk
  clear h hk
  go_enter Try.func22, Try.ntmps22
  go_wp2_with fail
  refine HF.mono ?_
  rintro e w1 ⟨rfl, hb⟩
  go_wp2
  go_ret
  exact ⟨rfl, hb⟩
set_option maxHeartbeats 800000 in
theorem leftI_at {w : World} {c : Nat} {V : Value} {m now : Nat} {l : List (Int × Int)} (h : CIIn w c V m now l) (k x : Int) (hk : leftK l k = x) (hh : hasK l k = true) :
    Calls Try.prog 22 #[ptr c, .int .i64 k] w fun e w' => e = .returned (.int .i64 x) ∧ Below w.heap.size w w' := by
  obtain ⟨i, y, hi, hno⟩ := placeI_ex hh
  have hy : leftK l k = y := leftK_at hi h.ok.once
  have hxy : x = y := by rw [← hk, hy]
  subst hxy
  have hx := h.ok.left _ (List.mem_of_getElem? hi)
  simp at hx
  have hnb := h.nb
  have HF := findI_at h k i x hi hno
  have hxe : (endsK now l)[i]? = some (k, (now : Int) + x) := by rw [endsK_get, hi]; rfl
  obtain ⟨A, cp, rfl⟩ := h.shape
  obtain ⟨g, c', hv, hc', hgl, h0, h1, _⟩ := h.row.cell hxe
  have hA : A = some ⟨g, 0, none⟩ := by injection hv
  subst hA
  have hil := (List.getElem?_eq_some_iff.1 hi).1
  have hlen := h.len
  obtain ⟨d0, d1, d2⟩ := h.cells
  have hcl := block_lt h.hd
  obtain ⟨z, hz⟩ : ∃ z : Int, z = (now : Int) + x := ⟨_, rfl⟩
  have hz2 : IntKind.i64.wrap (z - (now : Int)) = x := by rw [IntKind.wrap_i64]; omega
  have h1' : w.cell? ⟨g, i * 2 + 1, none⟩ = some (.int .i64 z) := by rw [hz]; exact h1
  clear h1 hxe hz h hk hy hno hi hv hh
  go_enter Try.func22, Try.ntmps22
  go_wp2_with fail
  refine HF.mono ?_
  rintro e w1 ⟨rfl, hb⟩
  have e1 := (hb.cell (p := ⟨c, 1, none⟩) hcl).trans d1
  have e2 := (hb.cell (p := ⟨c, 2, none⟩) hcl).trans d2
  have e3 := (hb.cell (p := ⟨g, i * 2 + 1, none⟩) hgl).trans h1'
  clear d0 d1 d2 h0 h1' HF
  go_wp2_with fail
  go_quiet (fail)
  all_goals (go_wp2)
  all_goals (try go_ret)
  all_goals exact ⟨rfl, below_drewN hb _⟩
end Go.Proofs.Ytodiocioldakjaa
