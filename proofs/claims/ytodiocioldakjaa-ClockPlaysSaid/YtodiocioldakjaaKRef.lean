/- The document's own clock in memory; what its at, Left and Stop do. -/
import Derived.BigQuiet
import Derived.Deep.QuietTactic
import Derived.Test.YtodiocioldakjaaFHeld
import Derived.Test.YtodiocioldakjaaKRuns
import Derived.Test.YtodiocioldakjaaKIStop
namespace Go.Proofs.Ytodiocioldakjaa
open Go.RowKit
set_option linter.unusedVariables false

/-- the document's clock at block r: whose timers run, and what is left of each -/
structure DIn (w : World) (r : Nat) (V : Value) (m now : Nat) (l : List (Int × Int)) : Prop where
  hd : w.heap[r]? = some (.cells #[.int .i64 m, .int .i64 now, V] 35 (0, 0))
  row : OwnI 54 w V l
  ok : InK m 10000 l
  mb : m ≤ 100000
  nb : now ≤ 1000000000
section
variable {w w' : World} {r : Nat} {V : Value} {m now : Nat} {l : List (Int × Int)}
theorem DIn.len (h : DIn w r V m now l) : l.length ≤ 100000 := Nat.le_trans h.ok.room h.mb
theorem DIn.shape (h : DIn w r V m now l) : ∃ A cp, V = .slice A l.length cp := by
  obtain ⟨A, cp, e, _⟩ := own_shape h.row; exact ⟨A, cp, e⟩
theorem DIn.lt (h : DIn w r V m now l) {i : Nat} (hi : cfoot r V i) : i < w.heap.size := by
  rcases hi with rfl | hi
  · exact block_lt h.hd
  · obtain ⟨cur, hc⟩ := row_type h.row hi; exact block_lt hc
theorem DIn.apart (h : DIn w r V m now l) : V.ownBlock ≠ some r := fun e => by
  obtain ⟨cur, hc⟩ := row_type h.row e
  exact type_ne hc h.hd (by decide) rfl
theorem DIn.keep (h : DIn w r V m now l) (hk : ∀ i, cfoot r V i → w'.heap[i]? = w.heap[i]?) : DIn w' r V m now l :=
  ⟨(hk r (.inl rfl)).trans h.hd, row_keeps h.row (fun i hi => hk i (.inr hi)), h.ok, h.mb, h.nb⟩
theorem DIn.below (h : DIn w r V m now l) (hb : Below w.heap.size w w') : DIn w' r V m now l := h.keep fun i hi => hb.block i (h.lt hi)
theorem DIn.drewN (h : DIn w r V m now l) (n : Nat) : DIn (w.drewN n) r V m now l := h.keep fun _ _ => rfl
theorem DIn.cells (h : DIn w r V m now l) : w.cell? ⟨r, 0, none⟩ = some (.int .i64 m) ∧ w.cell? ⟨r, 1, none⟩ = some (.int .i64 now) ∧ w.cell? ⟨r, 2, none⟩ = some V :=
  ⟨by rw [cell_of_row _ _ _ _ _ _ h.hd]; rfl, by rw [cell_of_row _ _ _ _ _ _ h.hd]; rfl, by rw [cell_of_row _ _ _ _ _ _ h.hd]; rfl⟩
theorem DIn.thaw (h : DIn w r V m now l) (o : Nat) : w.frozen? ⟨r, o, none⟩ = false := by simp [World.frozen?, h.hd]
/-- the row is another one now -/
theorem DIn.turn {V' : Value} {l' : List (Int × Int)} (h : DIn w r V m now l) (hm : Moves (fun i => V.ownBlock = some i) (fun i => V'.ownBlock = some i) w w') (hr : OwnI 54 w' V' l') (hok : InK m 10000 l') :
    DIn (w'.setCell ⟨r, 2, none⟩ V') r V' m now l' ∧ Moves (cfoot r V) (cfoot r V') w (w'.setCell ⟨r, 2, none⟩ V') := by
  have hne : V'.ownBlock ≠ some r := fun e => by
    rcases hm.own r e with h1 | h1
    · exact h.apart h1
    · have := block_lt h.hd; omega
  have hc : w'.heap[r]? = _ := hm.at_ h.hd h.apart
  refine ⟨⟨by rw [set_block hc]; rfl, row_keeps hr (fun i hi => set_other _ _ (fun e => hne (by rw [hi, e]))), hok, h.mb, h.nb⟩, ?_⟩
  refine Moves.setCell ⟨hm.os, hm.tape, hm.output, hm.size, fun k hk hn => hm.block k hk (fun h1 => hn (.inr h1)), fun k hk => ?_⟩ (.inl (.inl rfl)) _ _
  rcases hk with rfl | hk
  · exact .inl (.inl rfl)
  · rcases hm.own k hk with h1 | h1
    · exact .inl (.inr h1)
    · exact .inr h1
end
/-- the document's clock is such now; what was not its own lies as it lay -/
def DNow (S : Foot) (r m now : Nat) (l : List (Int × Int)) (w w' : World) : Prop := ∃ V', DIn w' r V' m now l ∧ Moves S (cfoot r V') w w'
set_option maxRecDepth 100000 in
set_option maxHeartbeats 1600000 in
theorem rat_go {w : World} {r : Nat} {V : Value} {m now : Nat} {l : List (Int × Int)} (h : DIn w r V m now l) (k : Int) (n : Nat) (p : Int) (hf : FoundI l k n p) :
    Calls Try.prog 34 #[ptr r, .int .i64 k] w fun e w' => e = .returned (.int .i64 p) ∧ w = w' := by
  obtain ⟨A, cp, rfl⟩ := h.shape
  obtain ⟨d0, d1, d2⟩ := h.cells
  have hlen := h.len
  have HC := cover h
  have HF := cover hf
  have hle := hf.le
  clear h hf
  go_enter Try.func34, Try.ntmps34
  go_wp2_with fail
  go_loopw [5] (fun i wr => ∃ j : Nat, j ≤ n ∧ i = .int .i64 j ∧ wr = w) (fun i _ => n - (intOf i).toNat)
  case atStart => exact ⟨0, Nat.zero_le _, rfl, rfl⟩
  case round =>
    obtain ⟨j, hj, rfl, rfl⟩ := hrel
    by_cases hjn : j < n
    · obtain ⟨x, hx⟩ : ∃ x, l[j]? = some x := ⟨_, List.getElem?_eq_getElem (by omega)⟩
      have hne := HF.out.no j x hjn hx
      obtain ⟨g, c', hv, _, hgl, h0, h1, _⟩ := HC.out.row.cell hx
      have hA : A = some ⟨g, 0, none⟩ := by injection hv
      subst hA
      have hjl := (List.getElem?_eq_some_iff.1 hx).1
      obtain ⟨x1, x2⟩ := x
      have heq : (x1 == k) = false := keyI_ne hne
      have h0' : wr.cell? ⟨g, j * 2, none⟩ = some (.int .i64 x1) := h0
      clear hv hx hne h0 h1
      go_wp2
      go_roundw
      case rel => exact ⟨j + 1, by omega, by go_num, trivial⟩
      case measure => simp [intOf]; omega
    · obtain rfl : j = n := by omega
      rcases HF.out.yes with ⟨rfl, rfl⟩ | ⟨x, hx, hk, rfl⟩
      · go_wp2
        go_ret
        exact ⟨rfl, rfl⟩
      · obtain ⟨g, c', hv, _, hgl, h0, h1, _⟩ := HC.out.row.cell hx
        have hA : A = some ⟨g, 0, none⟩ := by injection hv
        subst hA
        have hjl := (List.getElem?_eq_some_iff.1 hx).1
        have h0' : wr.cell? ⟨g, j * 2, none⟩ = some (.int .i64 k) := by rw [← hk]; exact h0
        have hself := keyI_self k
        clear hv hx h0 h1 hk
        go_wp2
        go_ret
        exact ⟨rfl, rfl⟩
theorem rat_none {w : World} {r : Nat} {V : Value} {m now : Nat} {l : List (Int × Int)} (h : DIn w r V m now l) (k : Int) (hk : hasK l k = false) :
    Calls Try.prog 34 #[ptr r, .int .i64 k] w fun e w' => e = .returned (.int .i64 (-1)) ∧ w = w' := by
  refine rat_go h k l.length (-1) ⟨Nat.le_refl _, fun j x _ hx e => ?_, .inl ⟨rfl, rfl⟩⟩
  have : hasK l k = true := hasK_iff.2 (List.mem_map.2 ⟨x, List.mem_of_getElem? hx, e⟩)
  rw [hk] at this; cases this
theorem rat_at {w : World} {r : Nat} {V : Value} {m now : Nat} {l : List (Int × Int)} (h : DIn w r V m now l) (k : Int) (i : Nat) (x : Int) (hi : l[i]? = some (k, x)) (hno : ∀ j y, j < i → l[j]? = some y → y.1 ≠ k) :
    Calls Try.prog 34 #[ptr r, .int .i64 k] w fun e w' => e = .returned (.int .i64 i) ∧ w = w' :=
  rat_go h k i i ⟨Nat.le_of_lt (List.getElem?_eq_some_iff.1 hi).1, hno, .inr ⟨(k, x), hi, rfl, rfl⟩⟩
set_option maxHeartbeats 800000 in
theorem rleft_any {w : World} {r : Nat} {V : Value} {m now : Nat} {l : List (Int × Int)} (h : DIn w r V m now l) (k : Int) :
    Calls Try.prog 23 #[ptr r, .int .i64 k] w fun e w' => e = .returned (.int .i64 (leftK l k)) ∧ w = w' := by
  cases hk : hasK l k with
  | false =>
    have e0 : leftK l k = 0 := leftK_none fun x hx e => by
      have : hasK l k = true := hasK_iff.2 (List.mem_map.2 ⟨x, hx, e⟩)
      rw [hk] at this; cases this
    rw [e0]
    have HF := rat_none h k hk
    clear h hk e0
    go_enter Try.func23, Try.ntmps23
    go_wp2_with fail
    refine HF.mono ?_
    rintro e w1 ⟨rfl, rfl⟩
    go_wp2
    go_ret
    exact ⟨rfl, rfl⟩
  | true =>
    obtain ⟨i, y, hi, hno⟩ := placeI_ex hk
    rw [leftK_at hi h.ok.once]
    have HF := rat_at h k i y hi hno
    obtain ⟨A, cp, rfl⟩ := h.shape
    obtain ⟨g, c', hv, hc', hgl, h0, h1, _⟩ := h.row.cell hi
    have hA : A = some ⟨g, 0, none⟩ := by injection hv
    subst hA
    have hil := (List.getElem?_eq_some_iff.1 hi).1
    have hlen := h.len
    obtain ⟨d0, d1, d2⟩ := h.cells
    have h1' : w.cell? ⟨g, i * 2 + 1, none⟩ = some (.int .i64 y) := h1
    clear h1 h0 h hk hno hi hv d0 d1
    go_enter Try.func23, Try.ntmps23
    go_wp2_with fail
    refine HF.mono ?_
    rintro e w1 ⟨rfl, rfl⟩
    clear HF
    go_wp2
    go_ret
    exact ⟨rfl, rfl⟩
set_option maxHeartbeats 800000 in
theorem rstop_none {w : World} {r : Nat} {V : Value} {m now : Nat} {l : List (Int × Int)} (h : DIn w r V m now l) (k : Int) (hk : hasK l k = false) :
    Calls Try.prog 18 #[ptr r, .int .i64 k] w fun e w' => e = .returned (.bool false) ∧ w = w' := by
  have HF := rat_none h k hk
  clear h hk
  go_enter Try.func18, Try.ntmps18
  go_wp2_with fail
  refine HF.mono ?_
  rintro e w1 ⟨rfl, rfl⟩
  go_wp2
  go_ret
  exact ⟨rfl, rfl⟩
theorem cut_stop {l : List (Int × Int)} {k : Int} {i : Nat} {x : Int} (hi : l[i]? = some (k, x)) (hd : (l.map (·.1)).Nodup) : l.take i ++ l.drop (i + 1) = stopK l k := by
  have h := cut1I_is hi hd 0
  unfold cut1I at h
  have e : ∀ l : List (Int × Int), endsK 0 l = l := fun l => by
    unfold endsK
    have : (fun x : Int × Int => (x.1, ((0 : Nat) : Int) + x.2)) = id := by funext x; simp
    rw [this, List.map_id]
  rw [e, e] at h
  exact h
set_option maxRecDepth 100000 in
set_option maxHeartbeats 1600000 in
theorem rstop_at {w : World} {r : Nat} {V : Value} {m now : Nat} {l : List (Int × Int)} (h : DIn w r V m now l) (k : Int) (hk : hasK l k = true) :
    Calls Try.prog 18 #[ptr r, .int .i64 k] w fun e w' => e = .returned (.bool true) ∧ Hid (DNow (cfoot r V) r m now (stopK l k) w w') := by
  obtain ⟨i0, hi0, hz0, hz1, hz2⟩ := info_parts run_info
  obtain ⟨i, x, hi, hno⟩ := placeI_ex hk
  have HF := rat_at h k i x hi hno
  have hil := (List.getElem?_eq_some_iff.1 hi).1
  obtain ⟨g, cp, hv, hncp, hgl, _, _, _⟩ := h.row.cell hi
  have HH := cover (And.intro h hi)
  have hlen := h.len
  have hcell : ∀ j u, (flatI l)[j]? = some u → w.cell? ⟨g, j, none⟩ = some u := fun j u hj => by
    rw [World.ownsRow.cellAt (hv ▸ h.row) j (by have := (List.getElem?_eq_some_iff.1 hj).1; rw [flatI_len] at this; omega)]; exact hj
  obtain ⟨n, hn⟩ : ∃ n, n = l.length := ⟨_, rfl⟩
  rw [← hn] at hv hncp hil hlen
  have HNL := cover hn
  have HCL := cover hcell
  have hrl := block_lt h.hd
  have hcl2 := h.cells.2.2
  have hfr := h.thaw 2
  rw [hv] at hcl2
  have HV := cover hv
  clear h hk hno hi hcell hv hn
  have h3 : (fun W' : World => W'.cell? ⟨r, 2, none⟩ = some (.slice (some ⟨g, 0, none⟩) n cp) ∧ W'.frozen? ⟨r, 2, none⟩ = false) w.drew := ⟨hcl2, hfr⟩
  have hin : (i : Int) + 1 ≤ (n : Int) := by omega
  have hin' : i + 1 ≤ n := by omega
  have hp0 : ¬ ((i : Int) + 1 < 0) := by omega
  have hic : i ≤ cp := by omega
  have hwr : IntKind.i64.wrap ((i : Int) + 1) = (i : Int) + 1 := by rw [IntKind.wrap_i64]; omega
  obtain ⟨tv, htv⟩ : ∃ tv, tv = Value.slice (if cp = i + 1 then some ⟨g, 0, none⟩ else some ⟨g, (i + 1) * 2, none⟩) (n - (i + 1)) (cp - (i + 1)) := ⟨_, rfl⟩
  have mixed : Try.prog.follows .mixedOrders = true := by kernel_rfl
  go_enter Try.func18, Try.ntmps18
  go_wp2_with fail
  refine HF.mono ?_
  rintro e w1 ⟨rfl, rfl⟩
  clear HF hcl2 hfr
  go_wp2_with fail
  refine (wpIn_wide (n := 0)).1 ?_
  refine held_begin (fun W' : World => W'.cell? ⟨r, 2, none⟩ = some (.slice (some ⟨g, 0, none⟩) n cp) ∧ W'.frozen? ⟨r, 2, none⟩ = false) 19 mixed ?_
  refine hold_take 0 _ rfl (by kernel_rfl) (by kernel_rfl) (by kernel_rfl) (by kernel_rfl) (by kernel_rfl) (fun _ _ _ h => h) (by rfl) (fun _ => rfl) h3 (fun w' hS => by obtain ⟨q0, q1⟩ := hS; go_simp; rfl) ?_
  simp only [Act.put, List.setIfInBounds_toArray, List.set_cons_zero, List.set_cons_succ]
  refine hold_take 2 _ rfl (by kernel_rfl) (by kernel_rfl) (by kernel_rfl) (by kernel_rfl) (by kernel_rfl) (fun _ _ _ h => h) (by rfl) (fun _ => rfl) h3 (fun w' hS => by obtain ⟨q0, q1⟩ := hS; go_simp; rfl) ?_
  simp only [Act.put, List.setIfInBounds_toArray, List.set_cons_zero, List.set_cons_succ]
  refine hold_take 3 _ rfl (by kernel_rfl) (by kernel_rfl) (by kernel_rfl) (by kernel_rfl) (by kernel_rfl) (fun _ _ _ h => h) (by rfl) (fun _ => rfl) h3 (fun w' hS => by obtain ⟨q0, q1⟩ := hS; go_simp; rfl) ?_
  simp only [Act.put, List.setIfInBounds_toArray, List.set_cons_zero, List.set_cons_succ]
  refine hold_take 4 _ rfl (by kernel_rfl) (by kernel_rfl) (by kernel_rfl) (by kernel_rfl) (by kernel_rfl) (fun _ _ _ h => h) (by rfl) (fun _ => rfl) h3 (fun w' hS => by obtain ⟨q0, q1⟩ := hS; go_simp; rfl) ?_
  simp only [Act.put, List.setIfInBounds_toArray, List.set_cons_zero, List.set_cons_succ]
  refine hold_take 5 _ rfl (by kernel_rfl) (by kernel_rfl) (by kernel_rfl) (by kernel_rfl) (by kernel_rfl) (fun _ _ _ h => h) (by rfl) (fun _ => rfl) h3 (fun w' hS => by obtain ⟨q0, q1⟩ := hS; go_simp; rfl) ?_
  simp only [Act.put, List.setIfInBounds_toArray, List.set_cons_zero, List.set_cons_succ]
  refine hold_take 6 _ rfl (by kernel_rfl) (by kernel_rfl) (by kernel_rfl) (by kernel_rfl) (by kernel_rfl) (fun _ _ _ h => h) (by rfl) (fun _ => rfl) h3 (fun w' hS => by obtain ⟨q0, q1⟩ := hS; go_simp; rfl) ?_
  simp only [Act.put, List.setIfInBounds_toArray, List.set_cons_zero, List.set_cons_succ]
  refine hold_take 7 (.slice (some ⟨g, 0, none⟩) i cp) rfl (by kernel_rfl) (by kernel_rfl) (by kernel_rfl) (by kernel_rfl) (by kernel_rfl) (fun _ _ _ h => h) (by rfl) (fun _ => rfl) h3 (fun w' hS => by obtain ⟨q0, q1⟩ := hS; go_simp; skip) ?_
  simp only [Act.put, List.setIfInBounds_toArray, List.set_cons_zero, List.set_cons_succ]
  refine hold_take 9 _ rfl (by kernel_rfl) (by kernel_rfl) (by kernel_rfl) (by kernel_rfl) (by kernel_rfl) (fun _ _ _ h => h) (by rfl) (fun _ => rfl) h3 (fun w' hS => by obtain ⟨q0, q1⟩ := hS; go_simp; rfl) ?_
  simp only [Act.put, List.setIfInBounds_toArray, List.set_cons_zero, List.set_cons_succ]
  refine hold_take 10 _ rfl (by kernel_rfl) (by kernel_rfl) (by kernel_rfl) (by kernel_rfl) (by kernel_rfl) (fun _ _ _ h => h) (by rfl) (fun _ => rfl) h3 (fun w' hS => by obtain ⟨q0, q1⟩ := hS; go_simp; rfl) ?_
  simp only [Act.put, List.setIfInBounds_toArray, List.set_cons_zero, List.set_cons_succ]
  refine hold_take 11 _ rfl (by kernel_rfl) (by kernel_rfl) (by kernel_rfl) (by kernel_rfl) (by kernel_rfl) (fun _ _ _ h => h) (by rfl) (fun _ => rfl) h3 (fun w' hS => by obtain ⟨q0, q1⟩ := hS; go_simp; rfl) ?_
  simp only [Act.put, List.setIfInBounds_toArray, List.set_cons_zero, List.set_cons_succ]
  refine hold_take 12 _ rfl (by kernel_rfl) (by kernel_rfl) (by kernel_rfl) (by kernel_rfl) (by kernel_rfl) (fun _ _ _ h => h) (by rfl) (fun _ => rfl) h3 (fun w' hS => by obtain ⟨q0, q1⟩ := hS; go_simp; rfl) ?_
  simp only [Act.put, List.setIfInBounds_toArray, List.set_cons_zero, List.set_cons_succ]
  refine hold_take 13 _ rfl (by kernel_rfl) (by kernel_rfl) (by kernel_rfl) (by kernel_rfl) (by kernel_rfl) (fun _ _ _ h => h) (by rfl) (fun _ => rfl) h3 (fun w' hS => by obtain ⟨q0, q1⟩ := hS; go_simp; rfl) ?_
  simp only [Act.put, List.setIfInBounds_toArray, List.set_cons_zero, List.set_cons_succ]
  refine hold_take 14 (.int .i64 ((i : Int) + 1)) rfl (by kernel_rfl) (by kernel_rfl) (by kernel_rfl) (by kernel_rfl) (by kernel_rfl) (fun _ _ _ h => h) (by rfl) (fun _ => rfl) h3 (fun w' hS => by obtain ⟨q0, q1⟩ := hS; go_simp; skip) ?_
  simp only [Act.put, List.setIfInBounds_toArray, List.set_cons_zero, List.set_cons_succ]
  refine hold_take 15 tv rfl (by kernel_rfl) (by kernel_rfl) (by kernel_rfl) (by kernel_rfl) (by kernel_rfl) (fun _ _ _ h => h) (by rfl) (fun _ => rfl) h3 (fun w' hS => by obtain ⟨q0, q1⟩ := hS; go_simp; skip) ?_
  simp only [Act.put, List.setIfInBounds_toArray, List.set_cons_zero, List.set_cons_succ]
  have HTV := cover htv
  clear htv
  refine hold_one 1 (by kernel_rfl) rfl (by rfl) fun K hK => ?_
  obtain ⟨y, hy⟩ : ∃ y, y = w.heap.size := ⟨_, rfl⟩
  obtain ⟨w3, hw3⟩ : ∃ w3, w3 = w.drew.alloc (.cells #[] 54) := ⟨_, rfl⟩
  have hb3 : Below w.heap.size w w3 := by rw [hw3]; exact (Below.refl _ _).drew.alloc (Nat.le_refl _) _
  have hn3 : w3.heap[y]? = some (.cells #[] 54 (0, 0)) := by rw [hw3, hy]; exact heap_alloc_new w.drew _
  refine run_in (fun c h => by cases h) (fun _ _ => trivial) (v := .slice (some ⟨y, 0, none⟩) 0 0) (w' := w3) (by rw [hw3, hy]; go_simp) ?_
  have hS : ∀ W', Below w.heap.size w W' → (fun W' : World => W'.cell? ⟨r, 2, none⟩ = some (.slice (some ⟨g, 0, none⟩) n cp) ∧ W'.frozen? ⟨r, 2, none⟩ = false) W' := fun W' hb => by
    obtain ⟨q0, q1⟩ := h3
    exact ⟨(hb.cell (p := ⟨r, 2, none⟩) hrl).trans q0, by have h0 := hb.block r hrl; unfold World.frozen? at q1 ⊢; rw [h0]; exact q1⟩
  have h33 := hS w3 hb3
  refine hK _ _ (.inr h33) ?_
  clear hK K hw3
  have hown3 : OwnI 54 w3 (.slice (some ⟨y, 0, none⟩) 0 0) [] := ⟨rfl, .inr ⟨y, 0, #[], rfl, Nat.zero_le _, hn3, Nat.le_refl _, Nat.zero_le _, rfl, rfl⟩⟩
  refine hold_one 8 (by kernel_rfl) rfl (by rfl) fun K hK => ?_
  obtain ⟨v4, w4, hr4, ⟨A4, c4, hv4⟩, HO4⟩ := OwnI.append Try.underlying33 hi0 hz0 rfl hz1 (by rw [hz2]; decide) hown3 ⟨g, 0, none⟩ i cp (news := l.take i) (by rw [List.length_take, ← HNL.out]; omega) (fun j u hj => by
      rw [add_off, Nat.zero_add, hb3.cell (p := ⟨g, j, none⟩) hgl]
      rw [flatI_take, List.getElem?_take] at hj
      split at hj
      · exact HCL.out j u hj
      · cases hj) (by simp; omega) 33
  refine run_in (fun c h => by cases h) (fun _ _ => trivial) (v := v4) (w' := w4) (appends_exec _ _ _ _ rfl (.slice (some ⟨y, 0, none⟩) 0 0) (.slice (some ⟨g, 0, none⟩) i cp) (by go_simp) (by go_simp) hr4) ?_
  have hS4 : ∀ k, (Value.slice (some ⟨y, 0, none⟩) 0 0).ownBlock = some k → w.heap.size ≤ k := fun k hk => by
    have : y = k := by simpa [Value.ownBlock] using hk
    omega
  have hb4 : Below w.heap.size w w4 := Moves.below hb3 HO4.out.2 hS4 hb3.size
  have h34 := hS w4 hb4
  refine hK _ _ (.inr h34) ?_
  clear hK K hr4
  have hS5 : ∀ k, v4.ownBlock = some k → w.heap.size ≤ k := fun k hk => (HO4.out.2.own k hk).elim (hS4 k) (fun h => Nat.le_trans hb3.size h)
  have hown4 : OwnI 54 w4 v4 (l.take i) := by have := HO4.out.1; rwa [List.nil_append] at this
  have hlt4 : (l.take i).length = i := by rw [List.length_take, ← HNL.out]; omega
  refine hold_one 16 (by kernel_rfl) rfl (by rfl) fun K hK => ?_
  have happ : ∃ v5 w5, (Builtin.append_ #[33, 33] 33 #[v4, tv]).run Try.prog w4 = .ok v5 w5 ∧ (∃ A c', v5 = .slice A ((l.take i).length + (n - (i + 1))) c') ∧ Hid (OwnI 54 w5 v5 (l.take i ++ l.drop (i + 1)) ∧ Moves (fun k => v4.ownBlock = some k) (fun k => v5.ownBlock = some k) w4 w5) := by
    rw [HTV.out]
    by_cases hc : cp = i + 1
    · have h0 : n - (i + 1) = 0 := by omega
      have hd0 : l.drop (i + 1) = [] := List.drop_eq_nil_of_le (by rw [← HNL.out]; omega)
      rw [if_pos hc]
      exact OwnI.append Try.underlying33 hi0 hz0 rfl hz1 (by rw [hz2]; decide) hown4 ⟨g, 0, none⟩ (n - (i + 1)) (cp - (i + 1)) (news := l.drop (i + 1)) (by rw [hd0, h0]; rfl) (fun j u hj => by rw [hd0] at hj; simp [flatI] at hj) (by omega) _
    · rw [if_neg hc]
      exact OwnI.append Try.underlying33 hi0 hz0 rfl hz1 (by rw [hz2]; decide) hown4 ⟨g, (i + 1) * 2, none⟩ (n - (i + 1)) (cp - (i + 1)) (news := l.drop (i + 1)) (by rw [List.length_drop, ← HNL.out]) (fun j u hj => by
        rw [add_off, hb4.cell (p := ⟨g, (i + 1) * 2 + j, none⟩) hgl]
        rw [flatI_drop, List.getElem?_drop] at hj
        exact HCL.out _ u hj) (by omega) _
  obtain ⟨v5, w5, hr5, ⟨A5, c5, hv5⟩, HO5⟩ := happ
  refine run_in (fun c h => by cases h) (fun _ _ => trivial) (v := v5) (w' := w5) (appends_exec _ _ _ _ rfl v4 tv (by go_simp) (by go_simp) hr5) ?_
  have hb5 : Below w.heap.size w w5 := Moves.below hb4 HO5.out.2 hS5 hb4.size
  have h35 := hS w5 hb5
  refine hK _ _ (.inr h35) ?_
  clear hK K hr5
  have HN : Hid (DNow (cfoot r (.slice (some ⟨g, 0, none⟩) n cp)) r m now (stopK l k) w (w5.setCell ⟨r, 2, none⟩ v5)) := by
    have h6 := HO5.out.1
    rw [cut_stop HH.out.2 HH.out.1.ok.once] at h6
    obtain ⟨k1, k2⟩ := HH.out.1.turn (V' := v5) (w' := w5) ⟨hb5.os, hb5.tape, hb5.output, hb5.size, fun i hi _ => hb5.block i hi, fun i hi => .inr ((HO5.out.2.own i hi).elim (hS5 i) (fun h => Nat.le_trans hb4.size h))⟩ h6 HH.out.1.ok.stop
    rw [HV.out] at k2
    exact cover ⟨v5, k1, k2⟩
  rw [← HV.out] at HN
  refine hold_one 17 (by kernel_rfl) rfl (by rfl) fun K hK => ?_
  go_simp
  refine hK _ _ (.inr h35) ?_
  clear hK K
  refine hold_one 18 (by kernel_rfl) rfl (by rfl) fun K hK => ?_
  go_simp
  refine hK _ _ (.inr h35) ?_
  clear hK K
  refine hold_one 19 (by kernel_rfl) rfl (by rfl) fun K hK => ?_
  obtain ⟨q0, q1⟩ := h35
  rw [hlt4] at hv5
  subst hv5
  go_simp
  refine hK _ _ (.inl rfl) (held_done (by kernel_rfl) ?_ _)
  clear hK K
  go_wp2
  go_ret
  exact ⟨rfl, HN⟩
end Go.Proofs.Ytodiocioldakjaa
