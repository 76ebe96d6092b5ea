/- Units, and what users are told, in rows of a call's own: how they read, what is put behind them. -/
import Derived.Maps.AppendAt
import Derived.Test.YtgpmimohoepeiaaUMem
import Derived.Test.YtgpmimohoepeiaaKWords
import Derived.Test.YtgpmimohoepeiaaSKeep
import Derived.Test.YtgpmimohoepeiaaHMath
namespace Go.Proofs.Ytgpmimohoepeiaa
open Go.RowKit
set_option linter.unusedVariables false

section
variable {X : Type} {cx : X → List Value} {k : Nat}
theorem flatX_len (hk : ∀ x, (cx x).length = k) (l : List X) : (l.flatMap cx).length = l.length * k := by
  induction l with
  | nil => simp
  | cons x l ih => rw [List.flatMap_cons, List.length_append, hk, ih, List.length_cons, Nat.succ_mul]; omega
theorem flatX_get (hk : ∀ x, (cx x).length = k) : ∀ (l : List X) (i : Nat) (x : X), l[i]? = some x → ∀ j, j < k → (l.flatMap cx)[i * k + j]? = (cx x)[j]?
  | y :: l, 0, x, h, j, hj => by
    simp at h; subst h
    rw [List.flatMap_cons, Nat.zero_mul, Nat.zero_add, List.getElem?_append_left (by rw [hk]; exact hj)]
  | y :: l, i + 1, x, h, j, hj => by
    have := flatX_get hk l i x (by simpa using h) j hj
    rw [List.flatMap_cons, List.getElem?_append_right (by rw [hk, Nat.succ_mul]; omega), hk, show (i + 1) * k + j - k = i * k + j by rw [Nat.succ_mul]; omega]
    exact this
/-- a row of a call's own, of items of k cells -/
abbrev OwnX (cx : X → List Value) (k : Nat) (T : TypeId) (B : Nat) (w : World) (v : Value) (l : List X) : Prop := w.ownsRow B T k v l.length (l.flatMap cx)
theorem OwnX.cell {T : TypeId} {B : Nat} {w : World} {v : Value} {l : List X} (hk : ∀ x, (cx x).length = k) (h : OwnX cx k T B w v l) {i : Nat} {x : X} (hx : l[i]? = some x) :
    ∃ g c, v = .slice (some ⟨g, 0, none⟩) l.length c ∧ l.length ≤ c ∧ B ≤ g ∧ g < w.heap.size ∧ (∀ j, j < k → w.cell? ⟨g, i * k + j, none⟩ = (cx x)[j]?) ∧ ∃ cur, w.heap[g]? = some (.cells cur T (0, 0)) := by
  have hl := (List.getElem?_eq_some_iff.1 hx).1
  rcases h.2 with ⟨_, h0⟩ | ⟨g, c, cur, hv, hB, hh, hc, _⟩
  · omega
  · refine ⟨g, c, hv, hc, hB, block_lt hh, fun j hj => ?_, cur, hh⟩
    subst hv
    have hij : i * k + j < l.length * k := by
      have : (i + 1) * k ≤ l.length * k := Nat.mul_le_mul_right k hl
      rw [Nat.succ_mul] at this; omega
    rw [World.ownsRow.cellAt h (i * k + j) hij, flatX_get hk l i x hx j hj]
theorem OwnX.app {T TS : TypeId} {B : Nat} {w : World} {v : Value} {l : List X} (hk : ∀ x, (cx x).length = k) (h1 : ∀ x, ∀ u ∈ cx x, u.oneCell' = true) (hu : Try.prog.underlying TS = some (.slice T)) {z0 : Value} {by_ : Nat}
    (hi : (Try.prog.info? T).map (fun i => (i.zero, i.size, i.bytes)) = some (some z0, k, by_)) (hz : z0.cells.size = k) (hby : by_ ≤ 1000) (h : OwnX cx k T B w v l) (hB : B ≤ w.heap.size) (x : X) {z : Nat} (hc : w.heap[z]? = some (.cells (cx x).toArray T (0, 0))) (hbig : l.length ≤ 10000) (hk0 : 0 < k) (hk1 : k ≤ 20) :
    Appends Try.prog TS w v (.slice (some ⟨z, 0, none⟩) 1 1) (fun v' w' => OwnX cx k T B w' v' (l ++ [x]) ∧ w.grownBy w' v.ownBlock) := by
  intro ty
  obtain ⟨i0, hi0, hz0, hz1, hz2⟩ := info_parts hi
  obtain ⟨v', w', hr, h2, h3, _, h5⟩ := run_append_own_at (P := Try.prog) w B TS ty T i0 _ k i0.bytes hu hi0 hz0 hz1 rfl hz (by omega) v l.length (l.flatMap cx) h ⟨z, 0, none⟩ 1 1 (cx x) (by rw [hk, Nat.one_mul]) (fun j u hj => by
    rw [add_off, Nat.zero_add, cell_of_row _ _ _ _ _ _ hc]; simpa using hj) (fun u hu => h1 x u hu) (by unfold maxLen; omega) (by rw [hz2]; have : (l.length + 1) * by_ ≤ 10001 * 1000 := Nat.mul_le_mul (by omega) hby; omega) hB
  refine ⟨v', w', hr, ?_, h3⟩
  unfold OwnX
  rw [List.length_append, List.flatMap_append, List.flatMap_cons, List.flatMap_nil, List.append_nil]
  exact h2
end

/-- a unit, and where what stands behind it lies -/
abbrev PU := PV × Option Addr × Nat
abbrev IU := IV × Option Addr × Nat
def cellsP (u : PU) : List Value := [.int .i64 u.1.to, .int .i64 u.1.frm, .bool u.1.resp, .int .i64 u.1.form, .int .i64 u.1.kind, .int .i64 u.1.ns, .int .i64 u.1.nr, .bool u.1.poll, .slice u.2.1 u.1.info.length u.2.2]
def cellsI (u : IU) : List Value := [.int .i64 u.1.kind, .int .i64 u.1.sap, .int .i64 u.1.far, .int .u8 u.1.peer.a0, .int .u8 u.1.peer.a1, .int .u8 u.1.peer.a2, .int .u8 u.1.peer.a3, .int .u8 u.1.peer.a4, .int .u8 u.1.peer.a5, .slice u.2.1 u.1.b.length u.2.2, .int .i64 u.1.st]
theorem cellsP_len (u : PU) : (cellsP u).length = 9 := rfl
theorem cellsI_len (u : IU) : (cellsI u).length = 11 := rfl
theorem cellsP_one (u : PU) : ∀ x ∈ cellsP u, x.oneCell' = true := by
  intro x hx
  simp [cellsP] at hx
  rcases hx with rfl | rfl | rfl | rfl | rfl | rfl | rfl | rfl | rfl <;> rfl
theorem cellsI_one (u : IU) : ∀ x ∈ cellsI u, x.oneCell' = true := by
  intro x hx
  simp [cellsI] at hx
  rcases hx with rfl | rfl | rfl | rfl | rfl | rfl | rfl | rfl | rfl | rfl | rfl <;> rfl
theorem pdu_info : (Try.prog.info? 29).map (fun i => (i.zero, i.size, i.bytes)) = some (some (.agg #[.int .i64 0, .int .i64 0, .bool false, .int .i64 0, .int .i64 0, .int .i64 0, .int .i64 0, .bool false, .slice none 0 0]), 9, 88) := by kernel_rfl
theorem ind_info : (Try.prog.info? 60).map (fun i => (i.zero, i.size, i.bytes)) = some (some (.agg #[.int .i64 0, .int .i64 0, .int .i64 0, .int .u8 0, .int .u8 0, .int .u8 0, .int .u8 0, .int .u8 0, .int .u8 0, .slice none 0 0, .int .i64 0]), 11, 64) := by kernel_rfl
abbrev OwnPs (B : Nat) (w : World) (v : Value) (us : List PU) : Prop := OwnX cellsP 9 29 B w v us
abbrev OwnIs (B : Nat) (w : World) (v : Value) (us : List IU) : Prop := OwnX cellsI 11 60 B w v us
abbrev InfP (w : World) (u : PU) : Prop := OwnB w 0 (.slice u.2.1 u.1.info.length u.2.2) u.1.info
abbrev InfI (w : World) (u : IU) : Prop := OwnB w 0 (.slice u.2.1 u.1.b.length u.2.2) u.1.b
/-- a row of units; a row of what users are told -/
structure PdusIn (B : Nat) (w : World) (v : Value) (ps : List PV) : Prop where
  ex : ∃ us : List PU, us.map (·.1) = ps ∧ OwnPs B w v us ∧ ∀ u ∈ us, InfP w u
structure IndsIn (B : Nat) (w : World) (v : Value) (xs : List IV) : Prop where
  ex : ∃ us : List IU, us.map (·.1) = xs ∧ OwnIs B w v us ∧ ∀ u ∈ us, InfI w u
theorem own_blocks {w w' : World} {B e size n : Nat} {v : Value} {xs : List Value} (h : w.ownsRow B e size v n xs) (hb : Below w.heap.size w w') : w'.ownsRow B e size v n xs := row_keeps h (fun i hi => by
  obtain ⟨cur, hc⟩ := row_type h hi; exact hb.block i (block_lt hc))
theorem own_typed {p : Obj → Prop} {w w' : World} {B e size n : Nat} {v : Value} {xs : List Value} (h : w.ownsRow B e size v n xs) (k : KeepO p w w') (hp : ∀ cur fr, ¬ p (.cells cur e fr)) : w'.ownsRow B e size v n xs := row_keeps h (fun i hi => by
  obtain ⟨cur, hc⟩ := row_type h hi; rw [k i _ hc (hp _ _), hc])
section
variable {B : Nat} {w w' : World} {v : Value} {ps : List PV} {xs : List IV}
theorem PdusIn.nil (B : Nat) (w : World) : PdusIn B w (.slice none 0 0) [] := ⟨[], rfl, World.ownsRow_nil _ _ _ _, fun u hu => (by cases hu)⟩
theorem IndsIn.nil (B : Nat) (w : World) : IndsIn B w (.slice none 0 0) [] := ⟨[], rfl, World.ownsRow_nil _ _ _ _, fun u hu => (by cases hu)⟩
theorem PdusIn.shape (h : PdusIn B w v ps) : ∃ A c, v = .slice A ps.length c := by
  obtain ⟨us, rfl, h1, _⟩ := h.ex
  obtain ⟨A, c, e, _⟩ := own_shape h1
  exact ⟨A, c, by rw [e, List.length_map]⟩
theorem IndsIn.shape (h : IndsIn B w v xs) : ∃ A c, v = .slice A xs.length c := by
  obtain ⟨us, rfl, h1, _⟩ := h.ex
  obtain ⟨A, c, e, _⟩ := own_shape h1
  exact ⟨A, c, by rw [e, List.length_map]⟩
theorem PdusIn.below (h : PdusIn B w v ps) (hb : Below w.heap.size w w') : PdusIn B w' v ps := by
  obtain ⟨us, h0, h1, h2⟩ := h.ex
  exact ⟨us, h0, own_blocks h1 hb, fun u hu => own_blocks (h2 u hu) hb⟩
theorem IndsIn.below (h : IndsIn B w v xs) (hb : Below w.heap.size w w') : IndsIn B w' v xs := by
  obtain ⟨us, h0, h1, h2⟩ := h.ex
  exact ⟨us, h0, own_blocks h1 hb, fun u hu => own_blocks (h2 u hu) hb⟩
/-- how one of them reads -/
theorem PdusIn.at_ (h : PdusIn B w v ps) {i : Nat} {p : PV} (hp : ps[i]? = some p) :
    ∃ g c A m, v = .slice (some ⟨g, 0, none⟩) ps.length c ∧ ps.length ≤ c ∧ B ≤ g ∧ g < w.heap.size ∧ (∀ j, j < 9 → w.cell? ⟨g, i * 9 + j, none⟩ = (cellsP (p, A, m))[j]?) ∧ InfP w (p, A, m) ∧ ∃ cur, w.heap[g]? = some (.cells cur 29 (0, 0)) := by
  obtain ⟨us, rfl, h1, h2⟩ := h.ex
  rw [List.getElem?_map] at hp
  obtain ⟨⟨q, A, m⟩, hu, rfl⟩ := Option.map_eq_some_iff.1 hp
  obtain ⟨g, c, hv, hc, hB, hg, hcell, hcur⟩ := OwnX.cell cellsP_len h1 hu
  exact ⟨g, c, A, m, by rw [hv, List.length_map], by rw [List.length_map]; exact hc, hB, hg, hcell, h2 _ (List.mem_of_getElem? hu), hcur⟩
theorem IndsIn.at_ (h : IndsIn B w v xs) {i : Nat} {x : IV} (hx : xs[i]? = some x) :
    ∃ g c A m, v = .slice (some ⟨g, 0, none⟩) xs.length c ∧ xs.length ≤ c ∧ B ≤ g ∧ g < w.heap.size ∧ (∀ j, j < 11 → w.cell? ⟨g, i * 11 + j, none⟩ = (cellsI (x, A, m))[j]?) ∧ InfI w (x, A, m) ∧ ∃ cur, w.heap[g]? = some (.cells cur 60 (0, 0)) := by
  obtain ⟨us, rfl, h1, h2⟩ := h.ex
  rw [List.getElem?_map] at hx
  obtain ⟨⟨q, A, m⟩, hu, rfl⟩ := Option.map_eq_some_iff.1 hx
  obtain ⟨g, c, hv, hc, hB, hg, hcell, hcur⟩ := OwnX.cell cellsI_len h1 hu
  exact ⟨g, c, A, m, by rw [hv, List.length_map], by rw [List.length_map]; exact hc, hB, hg, hcell, h2 _ (List.mem_of_getElem? hu), hcur⟩
/-- one more -/
theorem OwnPs.app {us : List PU} (h : OwnPs B w v us) (hB : B ≤ w.heap.size) (x : PU) {z : Nat} (hc : w.heap[z]? = some (.cells (cellsP x).toArray 29 (0, 0))) (hbig : us.length ≤ 10000) :
    Appends Try.prog 33 w v (.slice (some ⟨z, 0, none⟩) 1 1) (fun v' w' => OwnPs B w' v' (us ++ [x]) ∧ w.grownBy w' v.ownBlock) :=
  OwnX.app cellsP_len cellsP_one Try.underlying33 pdu_info rfl (by decide) h hB x hc hbig (by decide) (by decide)
theorem OwnIs.app {us : List IU} (h : OwnIs B w v us) (hB : B ≤ w.heap.size) (x : IU) {z : Nat} (hc : w.heap[z]? = some (.cells (cellsI x).toArray 60 (0, 0))) (hbig : us.length ≤ 10000) :
    Appends Try.prog 32 w v (.slice (some ⟨z, 0, none⟩) 1 1) (fun v' w' => OwnIs B w' v' (us ++ [x]) ∧ w.grownBy w' v.ownBlock) :=
  OwnX.app cellsI_len cellsI_one Try.underlying32 ind_info rfl (by decide) h hB x hc hbig (by decide) (by decide)
end
end Go.Proofs.Ytgpmimohoepeiaa
