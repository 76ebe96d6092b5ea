/- The document's own Saps in memory: a row of SAPs, each with a row of groups. What its at, in and Class answer. -/
import Derived.Maps.AppendAt
import Derived.Test.YtnegbiofnjdfaaaFHeld
import Derived.Test.YtnegbiofnjdfaaaSKeep
namespace Go.Proofs.Ytnegbiofnjdfaaa
open Go.RowKit
set_option linter.unusedVariables false

/-- a SAP, and where its groups lie -/
abbrev SU := SV × Value
def flat3 (us : List SU) : List Value := us.flatMap fun u => [.int .i64 u.1.sap, .int .i64 u.1.cls, u.2]
theorem flat3_cons (u : SU) (us : List SU) : flat3 (u :: us) = .int .i64 u.1.sap :: .int .i64 u.1.cls :: u.2 :: flat3 us := rfl
theorem flat3_app (us vs : List SU) : flat3 (us ++ vs) = flat3 us ++ flat3 vs := by simp [flat3]
theorem flat3_len (us : List SU) : (flat3 us).length = us.length * 3 := by
  induction us with
  | nil => rfl
  | cons u us ih => rw [flat3_cons, List.length_cons, List.length_cons, List.length_cons, ih, List.length_cons]; omega
theorem flat3_get : ∀ (us : List SU) (k : Nat) (u : SU), us[k]? = some u → (flat3 us)[k * 3]? = some (.int .i64 u.1.sap) ∧ (flat3 us)[k * 3 + 1]? = some (.int .i64 u.1.cls) ∧ (flat3 us)[k * 3 + 2]? = some u.2
  | v :: us, 0, u, h => by
    simp at h; subst h; exact ⟨rfl, rfl, rfl⟩
  | v :: us, k + 1, u, h => by
    have := flat3_get us k u (by simpa using h)
    rw [flat3_cons, show (k + 1) * 3 = k * 3 + 1 + 1 + 1 by omega]
    exact this
theorem flat3_take : ∀ (us : List SU) (k : Nat), flat3 (us.take k) = (flat3 us).take (k * 3)
  | [], k => by simp [flat3]
  | u :: us, 0 => by simp [flat3]
  | u :: us, k + 1 => by
    rw [List.take_succ_cons, flat3_cons, flat3_cons, show (k + 1) * 3 = k * 3 + 1 + 1 + 1 by omega, List.take_succ_cons, List.take_succ_cons, List.take_succ_cons, flat3_take us k]
theorem flat3_drop : ∀ (us : List SU) (k : Nat), flat3 (us.drop k) = (flat3 us).drop (k * 3)
  | [], k => by simp [flat3]
  | u :: us, 0 => by simp [flat3]
  | u :: us, k + 1 => by
    rw [List.drop_succ_cons, flat3_cons, show (k + 1) * 3 = k * 3 + 1 + 1 + 1 by omega, List.drop_succ_cons, List.drop_succ_cons, List.drop_succ_cons, flat3_drop us k]
/-- where its groups lie, they are -/
abbrev GrpIn (w : World) (u : SU) : Prop := w.ownsRow 0 3 1 u.2 u.1.gs.length (u.1.gs.map (Value.int .i64))
theorem grp_one {w : World} {u : SU} (h : GrpIn w u) : u.2.oneCell' = true := by
  obtain ⟨A, c, e, _⟩ := own_shape h
  rw [e]; rfl
theorem flat3_one {w : World} {us : List SU} (h : ∀ u ∈ us, GrpIn w u) {x : Value} (hx : x ∈ flat3 us) : x.oneCell' = true := by
  unfold flat3 at hx
  obtain ⟨u, hu, hx⟩ := List.mem_flatMap.1 hx
  simp at hx
  rcases hx with rfl | rfl | rfl
  · rfl
  · rfl
  · exact grp_one (h u hu)
/-- a row of SAPs of the call's own -/
abbrev OwnU (w : World) (v : Value) (us : List SU) : Prop := w.ownsRow 0 62 3 v us.length (flat3 us)
theorem OwnU.cell {w : World} {v : Value} {us : List SU} (h : OwnU w v us) {k : Nat} {u : SU} (hx : us[k]? = some u) :
    ∃ g c, v = .slice (some ⟨g, 0, none⟩) us.length c ∧ us.length ≤ c ∧ g < w.heap.size ∧ w.cell? ⟨g, k * 3, none⟩ = some (.int .i64 u.1.sap) ∧ w.cell? ⟨g, k * 3 + 1, none⟩ = some (.int .i64 u.1.cls) ∧ w.cell? ⟨g, k * 3 + 2, none⟩ = some u.2 ∧ ∀ o, w.frozen? ⟨g, o, none⟩ = false := by
  have hl := (List.getElem?_eq_some_iff.1 hx).1
  rcases h.2 with ⟨_, h0⟩ | ⟨g, c, cur, rfl, _, hh, hc, _⟩
  · omega
  · obtain ⟨f1, f2, f3⟩ := flat3_get us k u hx
    exact ⟨g, c, rfl, hc, block_lt hh, by rw [World.ownsRow.cellAt h (k * 3) (by omega)]; exact f1, by rw [World.ownsRow.cellAt h (k * 3 + 1) (by omega)]; exact f2, by rw [World.ownsRow.cellAt h (k * 3 + 2) (by omega)]; exact f3, fun o => by simp [World.frozen?, hh]⟩
theorem sap_info : (Try.prog.info? 62).map (fun i => (i.zero, i.size, i.bytes)) = some (some (.agg #[.int .i64 0, .int .i64 0, .slice none 0 0]), 3, 40) := by kernel_rfl
theorem OwnU.append {w : World} {v : Value} {us news : List SU} (h : OwnU w v us) (ad : Addr) (m c : Nat) (hm : news.length = m) (hg : ∀ u ∈ news, GrpIn w u)
    (hc : ∀ j u, (flat3 news)[j]? = some u → w.cell? (ad.add j) = some u) (hbig : us.length + m ≤ 1000000) :
    Appends Try.prog 32 w v (.slice (some ad) m c) (fun v' w' => (∃ A c', v' = .slice A (us.length + m) c') ∧ Hid (OwnU w' v' (us ++ news) ∧ Moves (fun k => v.ownBlock = some k) (fun k => v'.ownBlock = some k) w w')) := by
  intro ty
  obtain ⟨i0, hi, hz, hs, hby⟩ := info_parts sap_info
  obtain ⟨v', w', hr, h2, h3, _, h5⟩ := run_append_own_at (P := Try.prog) w 0 32 ty 62 i0 _ 3 40 Try.underlying32 hi hz hs hby rfl (by decide) v us.length (flat3 us) h ad m c (flat3 news) (by rw [flat3_len, hm]) hc (fun u hu => flat3_one hg hu) (by unfold maxLen; omega) (by omega) (Nat.zero_le _)
  have hl : (us ++ news).length = us.length + m := by rw [List.length_append, hm]
  refine ⟨v', w', hr, ?_, cover ⟨?_, ?_⟩⟩
  · obtain ⟨A, c', e, _⟩ := own_shape h2; exact ⟨A, c', e⟩
  · unfold OwnU
    rw [hl, flat3_app]; exact h2
  · exact ⟨h3.os, h3.tape, h3.output, h3.size, fun k hk hn => h3.block k hk (fun e => hn (by rw [← e])), fun k hk => by
      rcases h5 with h5 | h5
      · exact .inl (by rw [← h5]; exact hk)
      · rw [h5] at hk; exact .inr (by have := Option.some.inj hk; omega)⟩

/-- the document's Saps at block r -/
structure RSIn (w : World) (r : Nat) (V : Value) (us : List SU) : Prop where
  hd : w.heap[r]? = some (.cells #[V] 34 (0, 0))
  row : OwnU w V us
  grp : ∀ u ∈ us, GrpIn w u
  ok : InS (us.map (·.1))
def rfoot (r : Nat) (V : Value) : Foot := fun i => i = r ∨ V.ownBlock = some i
section
variable {w w' : World} {r : Nat} {V : Value} {us : List SU}
theorem RSIn.len (h : RSIn w r V us) : us.length ≤ 16 := by have := h.ok.room; rwa [List.length_map] at this
theorem RSIn.shape (h : RSIn w r V us) : ∃ A cp, V = .slice A us.length cp := by
  obtain ⟨A, cp, e, _⟩ := own_shape h.row; exact ⟨A, cp, e⟩
theorem RSIn.lt (h : RSIn w r V us) {i : Nat} (hi : rfoot r V i) : i < w.heap.size := by
  rcases hi with rfl | hi
  · exact block_lt h.hd
  · obtain ⟨cur, hc⟩ := row_type h.row hi; exact block_lt hc
theorem RSIn.apart (h : RSIn w r V us) : V.ownBlock ≠ some r := fun e => by
  obtain ⟨cur, hc⟩ := row_type h.row e
  exact type_ne hc h.hd (by decide) rfl
theorem RSIn.cell0 (h : RSIn w r V us) : w.cell? ⟨r, 0, none⟩ = some V := by rw [cell_of_row _ _ _ _ _ _ h.hd]; rfl
theorem RSIn.thaw (h : RSIn w r V us) (o : Nat) : w.frozen? ⟨r, o, none⟩ = false := by simp [World.frozen?, h.hd]
theorem RSIn.below (h : RSIn w r V us) (hb : Below w.heap.size w w') : RSIn w' r V us :=
  ⟨(hb.block r (block_lt h.hd)).trans h.hd, row_keeps h.row (fun i hi => hb.block i (h.lt (.inr hi))), fun u hu => row_keeps (h.grp u hu) (fun i hi => hb.block i ((h.grp u hu).lt i hi).2), h.ok⟩
theorem RSIn.drewN (h : RSIn w r V us) (n : Nat) : RSIn (w.drewN n) r V us :=
  ⟨h.hd, row_keeps h.row (fun i hi => rfl), fun u hu => row_keeps (h.grp u hu) (fun i hi => rfl), h.ok⟩
/-- kept by all that turn other kinds of blocks alone -/
theorem RSIn.kept {p : Obj → Prop} (h : RSIn w r V us) (k : KeepO p w w') (h1 : ∀ cur fr, ¬ p (.cells cur 34 fr)) (h2 : ∀ cur fr, ¬ p (.cells cur 62 fr)) (h3 : ∀ cur fr, ¬ p (.cells cur 3 fr)) : RSIn w' r V us := by
  refine ⟨k r _ h.hd (h1 _ _), row_keeps h.row (fun i hi => ?_), fun u hu => row_keeps (h.grp u hu) (fun i hi => ?_), h.ok⟩
  · obtain ⟨cur, hc⟩ := row_type h.row hi
    rw [k i _ hc (h2 _ _), hc]
  · obtain ⟨cur, hc⟩ := row_type (h.grp u hu) hi
    rw [k i _ hc (h3 _ _), hc]
/-- the row is another one now -/
theorem RSIn.turn {V' : Value} {us' : List SU} (h : RSIn w r V us) (hm : Moves (fun i => V.ownBlock = some i) (fun i => V'.ownBlock = some i) w w') (hr : OwnU w' V' us') (hg : ∀ u ∈ us', GrpIn w' u) (hok : InS (us'.map (·.1))) :
    RSIn (w'.setCell ⟨r, 0, none⟩ V') r V' us' ∧ Moves (rfoot r V) (rfoot r V') w (w'.setCell ⟨r, 0, none⟩ V') := by
  have hne : V'.ownBlock ≠ some r := fun e => by
    rcases hm.own r e with h1 | h1
    · exact h.apart h1
    · have := block_lt h.hd; omega
  have hc : w'.heap[r]? = _ := hm.at_ h.hd h.apart
  refine ⟨⟨by rw [set_block hc]; rfl, row_keeps hr (fun i hi => set_other _ _ (fun e => hne (by rw [hi, e]))), fun u hu => row_keeps (hg u hu) (fun i hi => set_other _ _ (fun e => ?_)), hok⟩, ?_⟩
  · obtain ⟨cur, hc2⟩ := row_type (hg u hu) hi
    exact type_ne hc2 hc (by decide) e
  · refine Moves.setCell ⟨hm.os, hm.tape, hm.output, hm.size, fun k hk hn => hm.block k hk (fun h1 => hn (.inr h1)), fun k hk => ?_⟩ (.inl (.inl rfl)) _ _
    rcases hk with rfl | hk
    · exact .inl (.inl rfl)
    · rcases hm.own k hk with h1 | h1
      · exact .inl (.inr h1)
      · exact .inr h1
end
/-- the document's Saps is such now; of what there was its own blocks alone have turned -/
def RSNow (r : Nat) (V : Value) (l' : List SV) (w w' : World) : Prop := ∃ V' us', us'.map (·.1) = l' ∧ RSIn w' r V' us' ∧ Moves (rfoot r V) (rfoot r V') w w'
theorem RSNow.below {w w' : World} {r : Nat} {V : Value} {us : List SU} (h : RSIn w r V us) (hb : Below w.heap.size w w') : RSNow r V (us.map (·.1)) w w' := ⟨V, us, rfl, h.below hb, Moves.of_below _ hb⟩
/-- the first so many are others; the next one is this one, or there is none -/
structure FoundU (us : List SU) (k : Int) (n : Nat) (p : Int) : Prop where
  le : n ≤ us.length
  no : ∀ j u, j < n → us[j]? = some u → u.1.sap ≠ k
  yes : (n = us.length ∧ p = -1) ∨ (∃ u, us[n]? = some u ∧ u.1.sap = k ∧ p = n)
theorem foundU_ex (us : List SU) (k : Int) : ∃ n p, FoundU us k n p := by
  induction us with
  | nil => exact ⟨0, -1, Nat.le_refl _, fun j x h => by omega, .inl ⟨rfl, rfl⟩⟩
  | cons y us ih =>
    by_cases hy : y.1.sap = k
    · exact ⟨0, 0, Nat.zero_le _, fun j x h => by omega, .inr ⟨y, rfl, hy, rfl⟩⟩
    · obtain ⟨n, r, h1, h2, h3⟩ := ih
      have hno : ∀ j x, j < n + 1 → (y :: us)[j]? = some x → x.1.sap ≠ k := fun j x hj hx => by
        cases j with
        | zero => simp at hx; subst hx; exact hy
        | succ j => exact h2 j x (by omega) (by simpa using hx)
      rcases h3 with ⟨rfl, rfl⟩ | ⟨x, hx, hk, rfl⟩
      · exact ⟨us.length + 1, -1, Nat.le_refl _, hno, .inl ⟨rfl, rfl⟩⟩
      · exact ⟨n + 1, ((n + 1 : Nat) : Int), by simpa using h1, hno, .inr ⟨x, by simpa using hx, hk, rfl⟩⟩
set_option maxRecDepth 100000 in
set_option maxHeartbeats 1600000 in
theorem rat_go {w : World} {r : Nat} {V : Value} {us : List SU} (h : RSIn w r V us) (k : Int) (n : Nat) (p : Int) (hf : FoundU us k n p) :
    Calls Try.prog 33 #[ptr r, .int .i64 k] w fun e w' => e = .returned (.int .i64 p) ∧ w = w' := by
  obtain ⟨A, cp, rfl⟩ := h.shape
  have d2 := h.cell0
  have hlen := h.len
  have HC := cover h
  have HF := cover hf
  have hle := hf.le
  clear h hf
  go_enter Try.func33, Try.ntmps33
  go_wp2_with fail
  go_loopw [5] (fun i wr => ∃ j : Nat, j ≤ n ∧ i = .int .i64 j ∧ wr = w) (fun i _ => n - (intOf i).toNat)
  case atStart => exact ⟨0, Nat.zero_le _, rfl, rfl⟩
  case round =>
    obtain ⟨j, hj, rfl, rfl⟩ := hrel
    by_cases hjn : j < n
    · obtain ⟨u, hu⟩ : ∃ u, us[j]? = some u := ⟨_, List.getElem?_eq_getElem (by omega)⟩
      have hne := HF.out.no j u hjn hu
      obtain ⟨g, c', hv, hcap, hgl, h0, _⟩ := HC.out.row.cell hu
      have hA : A = some ⟨g, 0, none⟩ := by injection hv
      have hcc : c' = cp := by injection hv with _ _ h3; exact h3.symm
      subst hA hcc
      have hjl := (List.getElem?_eq_some_iff.1 hu).1
      obtain ⟨x, hx⟩ : ∃ x, x = u.1.sap := ⟨_, rfl⟩
      rw [← hx] at h0 hne
      have heq : (x == k) = false := keyI_ne hne
      clear hv hu hne hx
      go_wp2
      go_roundw
      case rel => exact ⟨j + 1, by omega, by go_num, trivial⟩
      case measure => simp [intOf]; omega
    · obtain rfl : j = n := by omega
      rcases HF.out.yes with ⟨rfl, rfl⟩ | ⟨u, hu, hk, rfl⟩
      · go_wp2
        go_ret
        exact ⟨rfl, rfl⟩
      · obtain ⟨g, c', hv, hcap, hgl, h0, _⟩ := HC.out.row.cell hu
        have hA : A = some ⟨g, 0, none⟩ := by injection hv
        have hcc : c' = cp := by injection hv with _ _ h3; exact h3.symm
        subst hA hcc
        have hjl := (List.getElem?_eq_some_iff.1 hu).1
        rw [hk] at h0
        have hself := keyI_self k
        clear hv hu hk
        go_wp2
        go_ret
        exact ⟨rfl, rfl⟩
theorem hasU_iff {us : List SU} {k : Int} : hasS (us.map (·.1)) k = true ↔ ∃ u ∈ us, u.1.sap = k := by
  rw [hasS_iff]
  constructor
  · rintro ⟨s, hs, e⟩
    obtain ⟨u, hu, rfl⟩ := List.mem_map.1 hs
    exact ⟨u, hu, e⟩
  · rintro ⟨u, hu, e⟩
    exact ⟨u.1, List.mem_map.2 ⟨u, hu, rfl⟩, e⟩
theorem rat_none {w : World} {r : Nat} {V : Value} {us : List SU} (h : RSIn w r V us) (k : Int) (hk : hasS (us.map (·.1)) k = false) :
    Calls Try.prog 33 #[ptr r, .int .i64 k] w fun e w' => e = .returned (.int .i64 (-1)) ∧ w = w' := by
  refine rat_go h k us.length (-1) ⟨Nat.le_refl _, fun j x _ hx e => ?_, .inl ⟨rfl, rfl⟩⟩
  have : hasS (us.map (·.1)) k = true := hasU_iff.2 ⟨x, List.mem_of_getElem? hx, e⟩
  rw [hk] at this; cases this
theorem placeU_ex {us : List SU} {k : Int} (hk : hasS (us.map (·.1)) k = true) : ∃ (i : Nat) (u : SU), us[i]? = some u ∧ u.1.sap = k ∧ ∀ j y, j < i → us[j]? = some y → y.1.sap ≠ k := by
  obtain ⟨n, r, h1, h2, h3⟩ := foundU_ex us k
  rcases h3 with ⟨rfl, _⟩ | ⟨x, hx, he, _⟩
  · obtain ⟨x, hx, he⟩ := hasU_iff.1 hk
    obtain ⟨i, hi⟩ := List.mem_iff_getElem?.1 hx
    exact absurd he (h2 i x (List.getElem?_eq_some_iff.1 hi).1 hi)
  · exact ⟨n, x, hx, he, h2⟩
theorem rat_at {w : World} {r : Nat} {V : Value} {us : List SU} (h : RSIn w r V us) (k : Int) (i : Nat) (u : SU) (hi : us[i]? = some u) (hk : u.1.sap = k) (hno : ∀ j y, j < i → us[j]? = some y → y.1.sap ≠ k) :
    Calls Try.prog 33 #[ptr r, .int .i64 k] w fun e w' => e = .returned (.int .i64 i) ∧ w = w' :=
  rat_go h k i i ⟨Nat.le_of_lt (List.getElem?_eq_some_iff.1 hi).1, hno, .inr ⟨u, hi, hk, rfl⟩⟩
theorem us_at {w : World} {r : Nat} {V : Value} {us : List SU} (h : RSIn w r V us) {i : Nat} {u : SU} (hi : us[i]? = some u) (g : Int) : memS (us.map (·.1)) u.1.sap g = u.1.gs.contains g ∧ clsS (us.map (·.1)) u.1.sap = u.1.cls :=
  mem_at h.ok.rise (List.mem_map.2 ⟨u, List.mem_of_getElem? hi, rfl⟩) g
set_option maxHeartbeats 800000 in
theorem rin_any {w : World} {A : Option Addr} {c n : Nat} {gs : List Int} (x : Int) (hn : gs.length = n) (hbig : n ≤ 1000000) (h1 : Nums w A gs) :
    Calls Try.prog 34 #[.slice A n c, .int .i64 x] w fun e w' => e = .returned (.bool (gs.contains x)) ∧ w = w' := by
  have H1 := cover h1
  have HN := cover hn
  clear h1 hn
  go_enter Try.func34, Try.ntmps34
  go_wp2_with fail
  go_loopw [5] (fun i wr => ∃ j : Nat, j ≤ n ∧ i = .int .i64 j ∧ wr = w ∧ Hid (∀ i y, i < j → gs[i]? = some y → y ≠ x)) (fun i _ => n - (intOf i).toNat)
  case atStart => exact ⟨0, Nat.zero_le _, rfl, rfl, cover (fun i y hi => by omega)⟩
  case round =>
    obtain ⟨j, hj, rfl, rfl, hno⟩ := hrel
    by_cases hlt : j < n
    · obtain ⟨y, hy⟩ : ∃ y, gs[j]? = some y := ⟨_, List.getElem?_eq_getElem (by rw [HN.out]; exact hlt)⟩
      obtain ⟨g, rfl, k1⟩ := H1.out j y hy
      by_cases hyx : y = x
      · have hself := keyI_self x
        have HE : Hid (gs.contains x = true) := cover (by rw [List.contains_iff_mem]; exact List.mem_of_getElem? (by rw [← hyx]; exact hy))
        rw [hyx] at k1
        clear hy hyx hno
        go_wp2
        go_ret
        rw [HE.out]
        exact ⟨rfl, rfl⟩
      · have heq := keyI_ne hyx
        have HNo : Hid (∀ i y, i < j + 1 → gs[i]? = some y → y ≠ x) := cover (fun i z hi hz => by
          rcases Nat.lt_or_ge i j with h | h
          · exact hno.out i z h hz
          · obtain rfl : i = j := by omega
            rw [hy] at hz
            obtain rfl := Option.some.inj hz
            exact hyx)
        clear hy hyx hno
        go_wp2
        go_roundw
        case rel => exact ⟨j + 1, by omega, by go_num, trivial, HNo⟩
        case measure => simp [intOf]; omega
    · obtain rfl : j = n := by omega
      have HE : Hid (gs.contains x = false) := cover (by
        cases hc : gs.contains x
        · rfl
        · rw [List.contains_iff_mem] at hc
          obtain ⟨i, hi⟩ := List.mem_iff_getElem?.1 hc
          exact absurd rfl (hno.out i x (by rw [← HN.out]; exact (List.getElem?_eq_some_iff.1 hi).1) hi))
      clear hno
      go_wp2
      go_ret
      rw [HE.out]
      exact ⟨rfl, rfl⟩
set_option maxHeartbeats 800000 in
theorem rclass_any {w : World} {r : Nat} {V : Value} {us : List SU} (h : RSIn w r V us) (k : Int) :
    Calls Try.prog 17 #[ptr r, .int .i64 k] w fun e w' => e = .returned (.int .i64 (clsS (us.map (·.1)) k)) ∧ w = w' := by
  cases hk : hasS (us.map (·.1)) k with
  | false =>
    rw [clsS_no hk]
    have HF := rat_none h k hk
    clear h hk
    go_enter Try.func17, Try.ntmps17
    go_wp2_with fail
    refine HF.mono ?_
    rintro e w1 ⟨rfl, rfl⟩
    go_wp2
    go_ret
    exact ⟨rfl, rfl⟩
  | true =>
    obtain ⟨i, u, hi, hs, hno⟩ := placeU_ex hk
    have HF := rat_at h k i u hi hs hno
    rw [← hs, (us_at h hi 0).2]
    obtain ⟨A, cp, rfl⟩ := h.shape
    have d2 := h.cell0
    obtain ⟨g, c', hv, hcap, hgl, h0, h1, _⟩ := h.row.cell hi
    have hA : A = some ⟨g, 0, none⟩ := by injection hv
    have hcc : c' = cp := by injection hv with _ _ h3; exact h3.symm
    subst hA hcc
    have hil := (List.getElem?_eq_some_iff.1 hi).1
    have hlen := h.len
    obtain ⟨y, hy⟩ : ∃ y, y = u.1.cls := ⟨_, rfl⟩
    rw [← hy] at h1 ⊢
    rw [hs]
    clear h0 h hk hno hi hv hs hy
    go_enter Try.func17, Try.ntmps17
    go_wp2_with fail
    refine HF.mono ?_
    rintro e w1 ⟨rfl, rfl⟩
    clear HF
    go_wp2
    go_ret
    exact ⟨rfl, rfl⟩
end Go.Proofs.Ytnegbiofnjdfaaa
