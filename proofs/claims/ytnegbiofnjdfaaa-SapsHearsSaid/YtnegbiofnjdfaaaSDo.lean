/- The program's Saps and the document's, side by side; what a deed of both answers, and makes of them. -/
import Derived.Test.YtnegbiofnjdfaaaSRLeave
namespace Go.Proofs.Ytnegbiofnjdfaaa
open Go.RowKit
set_option linter.unusedVariables false

/-- the document's Saps, all of which lies from block B on -/
def RHas (B : Nat) (w : World) (r : Nat) (l : List SV) : Prop := ∃ V us, us.map (·.1) = l ∧ RSIn w r V us ∧ ∀ i, rfoot r V i → B ≤ i
def isRefO : Obj → Prop := fun o => isTyO 34 o ∨ isTyO 62 o
section
variable {B : Nat} {w w' : World} {r : Nat} {l : List SV}
theorem RHas.size (h : RHas B w r l) : B ≤ w.heap.size := by
  obtain ⟨V, us, _, h1, h2⟩ := h
  have := h2 r (.inl rfl)
  have := block_lt h1.hd
  omega
theorem RHas.below (h : RHas B w r l) (hb : Below w.heap.size w w') : RHas B w' r l := by
  obtain ⟨V, us, h0, h1, h2⟩ := h; exact ⟨V, us, h0, h1.below hb, h2⟩
theorem RHas.drewN (h : RHas B w r l) (n : Nat) : RHas B (w.drewN n) r l := by
  obtain ⟨V, us, h0, h1, h2⟩ := h; exact ⟨V, us, h0, h1.drewN n, h2⟩
theorem RHas.map_kept (h : RHas B w r l) (k : KeepO isMapO w w') : RHas B w' r l := by
  obtain ⟨V, us, h0, h1, h2⟩ := h
  exact ⟨V, us, h0, h1.kept k (fun _ _ => map_cells _ _ _) (fun _ _ => map_cells _ _ _) (fun _ _ => map_cells _ _ _), h2⟩
theorem ref_ne {t : TypeId} (h1 : t ≠ 34) (h2 : t ≠ 62) (cur : Array Value) (fr : Nat × Nat) : ¬ isRefO (.cells cur t fr) := by
  rintro (h | h)
  · exact ty_ne h1 _ _ h
  · exact ty_ne h2 _ _ h
theorem SHas.ref_kept {s : Nat} (h : SHas B w s l) (k : KeepO isRefO w w') : SHas B w' s l :=
  h.kept k (fun es c => by rintro (h | h) <;> exact ty_map _ _ h) (fun cur fr => ref_ne (by decide) (by decide) _ _)
/-- what a deed of the document's Saps leaves behind -/
def RDone (B r : Nat) (l' : List SV) (w w' : World) : Prop := RHas B w' r l' ∧ Below B w w' ∧ KeepO isRefO w w'
theorem RSNow.done {V : Value} {us : List SU} {l' : List SV} (h : RSIn w r V us) (n : RSNow r V l' w w') (hV : ∀ i, rfoot r V i → B ≤ i) (hB : B ≤ w.heap.size) : RDone B r l' w w' := by
  obtain ⟨V', us', h0, h1, h2⟩ := n
  refine ⟨⟨V', us', h0, h1, fun i hi => (h2.own i hi).elim (hV i) (fun h => Nat.le_trans hB h)⟩, Moves.below (Below.refl B w) h2 hV hB, fun k o hk hp => ?_⟩
  refine (h2.block k (block_lt hk) (fun hf => hp ?_)).trans hk
  rcases hf with rfl | hf
  · rw [h.hd] at hk
    exact .inl ⟨_, _, (Option.some.inj hk).symm⟩
  · obtain ⟨cur, hc⟩ := row_type h.row hf
    rw [hk] at hc
    exact .inr ⟨_, _, Option.some.inj hc⟩
theorem ropen_kp (h : RHas B w r l) (n c : Int) : Calls Try.prog 29 #[ptr r, .int .i64 n, .int .i64 c] w fun e w' => e = .returned (.int .i64 (openE l n c)) ∧ Hid (RDone B r (openS l n c) w w') := by
  have hB := h.size
  obtain ⟨V, us, rfl, h1, h2⟩ := h
  refine (ropen_any h1 n c).mono ?_
  rintro e w' ⟨rfl, hh⟩
  exact ⟨rfl, cover (RSNow.done h1 hh.out h2 hB)⟩
theorem rclose_kp (h : RHas B w r l) (n : Int) : Calls Try.prog 30 #[ptr r, .int .i64 n] w fun e w' => e = .returned (.int .i64 (closeE l n)) ∧ Hid (RDone B r (closeS l n) w w') := by
  have hB := h.size
  obtain ⟨V, us, rfl, h1, h2⟩ := h
  refine (rclose_any h1 n).mono ?_
  rintro e w' ⟨rfl, hh⟩
  exact ⟨rfl, cover (RSNow.done h1 hh.out h2 hB)⟩
theorem rjoin_kp (h : RHas B w r l) (n c : Int) : Calls Try.prog 31 #[ptr r, .int .i64 n, .int .i64 c] w fun e w' => e = .returned (.int .i64 (joinE l n c)) ∧ Hid (RDone B r (joinS l n c) w w') := by
  have hB := h.size
  obtain ⟨V, us, rfl, h1, h2⟩ := h
  refine (rjoin_any h1 n c).mono ?_
  rintro e w' ⟨rfl, hh⟩
  exact ⟨rfl, cover (RSNow.done h1 hh.out h2 hB)⟩
theorem rleave_kp (h : RHas B w r l) (n c : Int) : Calls Try.prog 32 #[ptr r, .int .i64 n, .int .i64 c] w fun e w' => e = .returned (.int .i64 (leaveE l n c)) ∧ Hid (RDone B r (leaveS l n c) w w') := by
  have hB := h.size
  obtain ⟨V, us, rfl, h1, h2⟩ := h
  refine (rleave_any h1 n c).mono ?_
  rintro e w' ⟨rfl, hh⟩
  exact ⟨rfl, cover (RSNow.done h1 hh.out h2 hB)⟩
theorem rclass_has (h : RHas B w r l) (n : Int) : Calls Try.prog 17 #[ptr r, .int .i64 n] w fun e w' => e = .returned (.int .i64 (clsS l n)) ∧ w = w' := by
  obtain ⟨V, us, rfl, h1, h2⟩ := h; exact rclass_any h1 n
theorem rhears_has (h : RHas B w r l) (n : Int) : Calls Try.prog 18 #[ptr r, .int .i64 n] w (Out (hearS l n) w) := by
  obtain ⟨V, us, rfl, h1, h2⟩ := h; exact rhears_any h1 n
theorem rlist_has (h : RHas B w r l) : Calls Try.prog 20 #[ptr r] w (Out (listS l) w) := by
  obtain ⟨V, us, rfl, h1, h2⟩ := h; exact rlist_any h1
/-- a new one -/
theorem RHas.made (w : World) (hB : B ≤ w.heap.size) : RHas B (w.alloc (.cells #[.slice none 0 0] 34)) w.heap.size [] :=
  ⟨.slice none 0 0, [], rfl, ⟨heap_alloc_new _ _, World.ownsRow_nil _ _ _ _, fun u hu => (by cases hu), InS.nil⟩, fun i hi => by
    rcases hi with rfl | hi
    · exact hB
    · cases hi⟩
end
/-! a deed -/
def doE (l : List SV) (d n c : Int) : Int := if d ≤ 2 then openE l n c else if d = 3 then closeE l n else if d ≤ 5 then joinE l n c else leaveE l n c
def doS (l : List SV) (d n c : Int) : List SV := if d ≤ 2 then openS l n c else if d = 3 then closeS l n else if d ≤ 5 then joinS l n c else leaveS l n c
theorem InS.deed {l : List SV} (h : InS l) (d n c : Int) : InS (doS l d n c) := by
  unfold doS
  split
  · exact h.open n c
  · split
    · exact h.close n
    · split
      · exact h.join n c
      · exact h.leave n c
/-- both of them: each as it is -/
structure Both (B : Nat) (w : World) (s r : Nat) (l lr : List SV) (wr : World) : Prop where
  has : SHas B wr s l
  ref : RHas B wr r lr
  bel : Below B w wr
section
variable {B : Nat} {w wr w' : World} {s r : Nat} {l l' lr lr' : List SV}
theorem Both.size (h : Both B w s r l lr wr) : B ≤ wr.heap.size := h.has.size
theorem Both.below (h : Both B w s r l lr wr) (hb : Below wr.heap.size wr w') : Both B w s r l lr w' := ⟨h.has.below hb, h.ref.below hb, h.bel.trans (hb.mono h.size)⟩
theorem Both.drewN (h : Both B w s r l lr wr) (n : Nat) : Both B w s r l lr (wr.drewN n) := ⟨h.has.drewN n, h.ref.drewN n, below_drewN h.bel n⟩
theorem Both.onS (h : Both B w s r l lr wr) (d : Done B s l' wr w') : Both B w s r l' lr w' := ⟨d.1, h.ref.map_kept d.2.2, h.bel.trans d.2.1⟩
theorem Both.onR (h : Both B w s r l lr wr) (d : RDone B r lr' wr w') : Both B w s r l lr' w' := ⟨h.has.ref_kept d.2.2, d.1, h.bel.trans d.2.1⟩
end
set_option maxRecDepth 100000 in
set_option maxHeartbeats 1600000 in
theorem do_open {B : Nat} {w wr : World} {s r : Nat} {l lr : List SV} (h : Both B w s r l lr wr) (d n c : Int) (hn : I64 n) (h1 : d ≤ 2) :
    Calls Try.prog 15 #[ptr s, ptr r, .agg #[.int .i64 d, .int .i64 n, .int .i64 c]] wr fun e w' => e = .returned (.bool (openE l n c == openE lr n c)) ∧ Hid (Both B w s r (openS l n c) (openS lr n c) w') := by
  obtain ⟨w1, hw1⟩ : ∃ w1, w1 = wr.alloc (.cells #[.int .i64 d, .int .i64 n, .int .i64 c] 37) := ⟨_, rfl⟩
  have hb1 : Below wr.heap.size wr w1 := by rw [hw1]; exact (Below.refl _ _).alloc (Nat.le_refl _) _
  have hx1 : w1.heap[wr.heap.size]? = some (.cells #[.int .i64 d, .int .i64 n, .int .i64 c] 37 (0, 0)) := by rw [hw1]; exact heap_alloc_new _ _
  have H0 := h.below hb1
  have q0 : w1.cell? ⟨wr.heap.size, 0, none⟩ = some (.int .i64 d) := by rw [cell_of_row _ _ _ _ _ _ hx1]; rfl
  have q1 : w1.cell? ⟨wr.heap.size, 1, none⟩ = some (.int .i64 n) := by rw [cell_of_row _ _ _ _ _ _ hx1]; rfl
  have q2 : w1.cell? ⟨wr.heap.size, 2, none⟩ = some (.int .i64 c) := by rw [cell_of_row _ _ _ _ _ _ hx1]; rfl
  have s1 := open_kp H0.has hn c
  have HH := cover (And.intro H0 hx1)
  clear h hb1 hx1 H0
  go_enter Try.func15, Try.ntmps15
  go_upto_region 1 with fail
  rw [← hw1]
  clear hw1
  go_wp2_with (go_at_call 11; refine s1.mono ?_; rintro e w2 ⟨rfl, hd2⟩; have H1 := cover (HH.out.1.onS hd2.out); have s2 := ropen_kp H1.out.ref n c; have hx2 := hd2.out.2.2 _ _ HH.out.2 (map_cells _ _ _); have p1 : w2.cell? ⟨wr.heap.size, 1, none⟩ = some (.int .i64 n) := (by rw [cell_of_row _ _ _ _ _ _ hx2]; rfl); have p2 : w2.cell? ⟨wr.heap.size, 2, none⟩ = some (.int .i64 c) := (by rw [cell_of_row _ _ _ _ _ _ hx2]; rfl); clear q0 q1 q2 hx2 s1)
  refine s2.mono ?_
  rintro e w3 ⟨rfl, hd3⟩
  have H3 := cover (H1.out.onR hd3.out)
  clear s2 H1 hd3 hd2 p1 p2
  go_wp2
  go_ret
  exact ⟨rfl, H3⟩
set_option maxRecDepth 100000 in
set_option maxHeartbeats 1600000 in
theorem do_close {B : Nat} {w wr : World} {s r : Nat} {l lr : List SV} (h : Both B w s r l lr wr) (d n c : Int) (hn : I64 n) (h1 : ¬ d ≤ 2) (h2 : (d == 3) = true) :
    Calls Try.prog 15 #[ptr s, ptr r, .agg #[.int .i64 d, .int .i64 n, .int .i64 c]] wr fun e w' => e = .returned (.bool (closeE l n == closeE lr n)) ∧ Hid (Both B w s r (closeS l n) (closeS lr n) w') := by
  obtain ⟨w1, hw1⟩ : ∃ w1, w1 = wr.alloc (.cells #[.int .i64 d, .int .i64 n, .int .i64 c] 37) := ⟨_, rfl⟩
  have hb1 : Below wr.heap.size wr w1 := by rw [hw1]; exact (Below.refl _ _).alloc (Nat.le_refl _) _
  have hx1 : w1.heap[wr.heap.size]? = some (.cells #[.int .i64 d, .int .i64 n, .int .i64 c] 37 (0, 0)) := by rw [hw1]; exact heap_alloc_new _ _
  have H0 := h.below hb1
  have q0 : w1.cell? ⟨wr.heap.size, 0, none⟩ = some (.int .i64 d) := by rw [cell_of_row _ _ _ _ _ _ hx1]; rfl
  have q1 : w1.cell? ⟨wr.heap.size, 1, none⟩ = some (.int .i64 n) := by rw [cell_of_row _ _ _ _ _ _ hx1]; rfl
  have q2 : w1.cell? ⟨wr.heap.size, 2, none⟩ = some (.int .i64 c) := by rw [cell_of_row _ _ _ _ _ _ hx1]; rfl
  have s1 := close_kp H0.has hn
  have HH := cover (And.intro H0 hx1)
  clear h hb1 hx1 H0
  go_enter Try.func15, Try.ntmps15
  go_upto_region 1 with fail
  rw [← hw1]
  clear hw1
  go_wp2_with (go_at_call 21; refine s1.mono ?_; rintro e w2 ⟨rfl, hd2⟩; have H1 := cover (HH.out.1.onS hd2.out); have s2 := rclose_kp H1.out.ref n; have hx2 := hd2.out.2.2 _ _ HH.out.2 (map_cells _ _ _); have p1 : w2.cell? ⟨wr.heap.size, 1, none⟩ = some (.int .i64 n) := (by rw [cell_of_row _ _ _ _ _ _ hx2]; rfl); have p2 : w2.cell? ⟨wr.heap.size, 2, none⟩ = some (.int .i64 c) := (by rw [cell_of_row _ _ _ _ _ _ hx2]; rfl); clear q0 q1 q2 hx2 s1)
  refine s2.mono ?_
  rintro e w3 ⟨rfl, hd3⟩
  have H3 := cover (H1.out.onR hd3.out)
  clear s2 H1 hd3 hd2 p1 p2
  go_wp2
  go_ret
  exact ⟨rfl, H3⟩
set_option maxRecDepth 100000 in
set_option maxHeartbeats 1600000 in
theorem do_join {B : Nat} {w wr : World} {s r : Nat} {l lr : List SV} (h : Both B w s r l lr wr) (d n c : Int) (hn : I64 n) (h1 : ¬ d ≤ 2) (h2 : (d == 3) = false) (h3 : d ≤ 5) :
    Calls Try.prog 15 #[ptr s, ptr r, .agg #[.int .i64 d, .int .i64 n, .int .i64 c]] wr fun e w' => e = .returned (.bool (joinE l n c == joinE lr n c)) ∧ Hid (Both B w s r (joinS l n c) (joinS lr n c) w') := by
  obtain ⟨w1, hw1⟩ : ∃ w1, w1 = wr.alloc (.cells #[.int .i64 d, .int .i64 n, .int .i64 c] 37) := ⟨_, rfl⟩
  have hb1 : Below wr.heap.size wr w1 := by rw [hw1]; exact (Below.refl _ _).alloc (Nat.le_refl _) _
  have hx1 : w1.heap[wr.heap.size]? = some (.cells #[.int .i64 d, .int .i64 n, .int .i64 c] 37 (0, 0)) := by rw [hw1]; exact heap_alloc_new _ _
  have H0 := h.below hb1
  have q0 : w1.cell? ⟨wr.heap.size, 0, none⟩ = some (.int .i64 d) := by rw [cell_of_row _ _ _ _ _ _ hx1]; rfl
  have q1 : w1.cell? ⟨wr.heap.size, 1, none⟩ = some (.int .i64 n) := by rw [cell_of_row _ _ _ _ _ _ hx1]; rfl
  have q2 : w1.cell? ⟨wr.heap.size, 2, none⟩ = some (.int .i64 c) := by rw [cell_of_row _ _ _ _ _ _ hx1]; rfl
  have s1 := join_kp H0.has hn c
  have HH := cover (And.intro H0 hx1)
  clear h hb1 hx1 H0
  go_enter Try.func15, Try.ntmps15
  go_upto_region 1 with fail
  rw [← hw1]
  clear hw1
  go_wp2_with (go_at_call 12; refine s1.mono ?_; rintro e w2 ⟨rfl, hd2⟩; have H1 := cover (HH.out.1.onS hd2.out); have s2 := rjoin_kp H1.out.ref n c; have hx2 := hd2.out.2.2 _ _ HH.out.2 (map_cells _ _ _); have p1 : w2.cell? ⟨wr.heap.size, 1, none⟩ = some (.int .i64 n) := (by rw [cell_of_row _ _ _ _ _ _ hx2]; rfl); have p2 : w2.cell? ⟨wr.heap.size, 2, none⟩ = some (.int .i64 c) := (by rw [cell_of_row _ _ _ _ _ _ hx2]; rfl); clear q0 q1 q2 hx2 s1)
  refine s2.mono ?_
  rintro e w3 ⟨rfl, hd3⟩
  have H3 := cover (H1.out.onR hd3.out)
  clear s2 H1 hd3 hd2 p1 p2
  go_wp2
  go_ret
  exact ⟨rfl, H3⟩
set_option maxRecDepth 100000 in
set_option maxHeartbeats 1600000 in
theorem do_leave {B : Nat} {w wr : World} {s r : Nat} {l lr : List SV} (h : Both B w s r l lr wr) (d n c : Int) (hn : I64 n) (h1 : ¬ d ≤ 2) (h2 : (d == 3) = false) (h3 : ¬ d ≤ 5) :
    Calls Try.prog 15 #[ptr s, ptr r, .agg #[.int .i64 d, .int .i64 n, .int .i64 c]] wr fun e w' => e = .returned (.bool (leaveE l n c == leaveE lr n c)) ∧ Hid (Both B w s r (leaveS l n c) (leaveS lr n c) w') := by
  obtain ⟨w1, hw1⟩ : ∃ w1, w1 = wr.alloc (.cells #[.int .i64 d, .int .i64 n, .int .i64 c] 37) := ⟨_, rfl⟩
  have hb1 : Below wr.heap.size wr w1 := by rw [hw1]; exact (Below.refl _ _).alloc (Nat.le_refl _) _
  have hx1 : w1.heap[wr.heap.size]? = some (.cells #[.int .i64 d, .int .i64 n, .int .i64 c] 37 (0, 0)) := by rw [hw1]; exact heap_alloc_new _ _
  have H0 := h.below hb1
  have q0 : w1.cell? ⟨wr.heap.size, 0, none⟩ = some (.int .i64 d) := by rw [cell_of_row _ _ _ _ _ _ hx1]; rfl
  have q1 : w1.cell? ⟨wr.heap.size, 1, none⟩ = some (.int .i64 n) := by rw [cell_of_row _ _ _ _ _ _ hx1]; rfl
  have q2 : w1.cell? ⟨wr.heap.size, 2, none⟩ = some (.int .i64 c) := by rw [cell_of_row _ _ _ _ _ _ hx1]; rfl
  have s1 := leave_kp H0.has hn c
  have HH := cover (And.intro H0 hx1)
  clear h hb1 hx1 H0
  go_enter Try.func15, Try.ntmps15
  go_upto_region 1 with fail
  rw [← hw1]
  clear hw1
  go_wp2_with (go_at_call 22; refine s1.mono ?_; rintro e w2 ⟨rfl, hd2⟩; have H1 := cover (HH.out.1.onS hd2.out); have s2 := rleave_kp H1.out.ref n c; have hx2 := hd2.out.2.2 _ _ HH.out.2 (map_cells _ _ _); have p1 : w2.cell? ⟨wr.heap.size, 1, none⟩ = some (.int .i64 n) := (by rw [cell_of_row _ _ _ _ _ _ hx2]; rfl); have p2 : w2.cell? ⟨wr.heap.size, 2, none⟩ = some (.int .i64 c) := (by rw [cell_of_row _ _ _ _ _ _ hx2]; rfl); clear q0 q1 q2 hx2 s1)
  refine s2.mono ?_
  rintro e w3 ⟨rfl, hd3⟩
  have H3 := cover (H1.out.onR hd3.out)
  clear s2 H1 hd3 hd2 p1 p2
  go_wp2
  go_ret
  exact ⟨rfl, H3⟩
/-- a deed, of both -/
theorem do_any {B : Nat} {w wr : World} {s r : Nat} {l lr : List SV} (h : Both B w s r l lr wr) (d n c : Int) (hn : I64 n) :
    Calls Try.prog 15 #[ptr s, ptr r, .agg #[.int .i64 d, .int .i64 n, .int .i64 c]] wr fun e w' => e = .returned (.bool (doE l d n c == doE lr d n c)) ∧ Hid (Both B w s r (doS l d n c) (doS lr d n c) w') := by
  by_cases h1 : d ≤ 2
  · unfold doE doS
    rw [if_pos h1, if_pos h1, if_pos h1, if_pos h1]
    exact do_open h d n c hn h1
  · by_cases h2 : d = 3
    · unfold doE doS
      rw [if_neg h1, if_neg h1, if_neg h1, if_neg h1, if_pos h2, if_pos h2, if_pos h2, if_pos h2]
      exact do_close h d n c hn h1 (by simpa using h2)
    · by_cases h3 : d ≤ 5
      · unfold doE doS
        rw [if_neg h1, if_neg h1, if_neg h1, if_neg h1, if_neg h2, if_neg h2, if_neg h2, if_neg h2, if_pos h3, if_pos h3, if_pos h3, if_pos h3]
        exact do_join h d n c hn h1 (by simpa using h2) h3
      · unfold doE doS
        rw [if_neg h1, if_neg h1, if_neg h1, if_neg h1, if_neg h2, if_neg h2, if_neg h2, if_neg h2, if_neg h3, if_neg h3, if_neg h3, if_neg h3]
        exact do_leave h d n c hn h1 (by simpa using h2) h3
end Go.Proofs.Ytnegbiofnjdfaaa
