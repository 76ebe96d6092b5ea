/- The document's own Saps in memory: a row of SAPs, each with a row of groups. What its at, in and Class answer. Whom the document's own Saps lets hear; the law's own list of all its SAPs. What the document's own Open does. What the document's own Close does. What the document's own Join and Leave do. The other ways of the document's own Join; what its Leave does. The program's Saps and the document's, side by side; what a deed of both answers, and makes of them. -/
import Derived.Maps.AppendAt
import Derived.Test.YtgpmimohoepeiaaFHeld
import Derived.Test.YtgpmimohoepeiaaSKeep
import Derived.Deep.AppendLies
import Derived.Deep.Upon
import Derived.ArgAppend
import Derived.Test.YtgpmimohoepeiaaFNet
namespace Go.Proofs.Ytgpmimohoepeiaa
open Go.RowKit
set_option linter.unusedVariables false

/-- a SAP, and where its groups lie -/
abbrev SU := SV × Value
def flat3 (us : List SU) : List Value := us.flatMap fun u => [.int .i64 u.1.sap, .int .i64 u.1.cls, u.2]
theorem flat3_cons (u : SU) (us : List SU) : flat3 (u :: us) = .int .i64 u.1.sap :: .int .i64 u.1.cls :: u.2 :: flat3 us := rfl
theorem flat3_app (us vs : List SU) : flat3 (us ++ vs) = flat3 us ++ flat3 vs := by simp [flat3]
theorem flat3_len (us : List SU) : (flat3 us).length = us.length * 3 := by
  induction us with
  | nil => rfl
  | cons u us ih => rw [flat3_cons, List.length_cons, List.length_cons, List.length_cons, ih, List.length_cons]; omega
theorem flat3_get : ∀ (us : List SU) (k : Nat) (u : SU), us[k]? = some u → (flat3 us)[k * 3]? = some (.int .i64 u.1.sap) ∧ (flat3 us)[k * 3 + 1]? = some (.int .i64 u.1.cls) ∧ (flat3 us)[k * 3 + 2]? = some u.2
  | v :: us, 0, u, h => by
    simp at h; subst h; exact ⟨rfl, rfl, rfl⟩
  | v :: us, k + 1, u, h => by
    have := flat3_get us k u (by simpa using h)
    rw [flat3_cons, show (k + 1) * 3 = k * 3 + 1 + 1 + 1 by omega]
    exact this
theorem flat3_take : ∀ (us : List SU) (k : Nat), flat3 (us.take k) = (flat3 us).take (k * 3)
  | [], k => by simp [flat3]
  | u :: us, 0 => by simp [flat3]
  | u :: us, k + 1 => by
    rw [List.take_succ_cons, flat3_cons, flat3_cons, show (k + 1) * 3 = k * 3 + 1 + 1 + 1 by omega, List.take_succ_cons, List.take_succ_cons, List.take_succ_cons, flat3_take us k]
theorem flat3_drop : ∀ (us : List SU) (k : Nat), flat3 (us.drop k) = (flat3 us).drop (k * 3)
  | [], k => by simp [flat3]
  | u :: us, 0 => by simp [flat3]
  | u :: us, k + 1 => by
    rw [List.drop_succ_cons, flat3_cons, show (k + 1) * 3 = k * 3 + 1 + 1 + 1 by omega, List.drop_succ_cons, List.drop_succ_cons, List.drop_succ_cons, flat3_drop us k]
/-- where its groups lie, they are -/
abbrev GrpIn (w : World) (u : SU) : Prop := w.ownsRow 0 3 1 u.2 u.1.gs.length (u.1.gs.map (Value.int .i64))
theorem grp_one {w : World} {u : SU} (h : GrpIn w u) : u.2.oneCell' = true := by
  obtain ⟨A, c, e, _⟩ := own_shape h
  rw [e]; rfl
theorem flat3_one {w : World} {us : List SU} (h : ∀ u ∈ us, GrpIn w u) {x : Value} (hx : x ∈ flat3 us) : x.oneCell' = true := by
  unfold flat3 at hx
  obtain ⟨u, hu, hx⟩ := List.mem_flatMap.1 hx
  simp at hx
  rcases hx with rfl | rfl | rfl
  · rfl
  · rfl
  · exact grp_one (h u hu)
/-- a row of SAPs of the call's own -/
abbrev OwnU (w : World) (v : Value) (us : List SU) : Prop := w.ownsRow 0 97 3 v us.length (flat3 us)
theorem OwnU.cell {w : World} {v : Value} {us : List SU} (h : OwnU w v us) {k : Nat} {u : SU} (hx : us[k]? = some u) :
    ∃ g c, v = .slice (some ⟨g, 0, none⟩) us.length c ∧ us.length ≤ c ∧ g < w.heap.size ∧ w.cell? ⟨g, k * 3, none⟩ = some (.int .i64 u.1.sap) ∧ w.cell? ⟨g, k * 3 + 1, none⟩ = some (.int .i64 u.1.cls) ∧ w.cell? ⟨g, k * 3 + 2, none⟩ = some u.2 ∧ ∀ o, w.frozen? ⟨g, o, none⟩ = false := by
  have hl := (List.getElem?_eq_some_iff.1 hx).1
  rcases h.2 with ⟨_, h0⟩ | ⟨g, c, cur, rfl, _, hh, hc, _⟩
  · omega
  · obtain ⟨f1, f2, f3⟩ := flat3_get us k u hx
    exact ⟨g, c, rfl, hc, block_lt hh, by rw [World.ownsRow.cellAt h (k * 3) (by omega)]; exact f1, by rw [World.ownsRow.cellAt h (k * 3 + 1) (by omega)]; exact f2, by rw [World.ownsRow.cellAt h (k * 3 + 2) (by omega)]; exact f3, fun o => by simp [World.frozen?, hh]⟩
theorem sap_info : (Try.prog.info? 97).map (fun i => (i.zero, i.size, i.bytes)) = some (some (.agg #[.int .i64 0, .int .i64 0, .slice none 0 0]), 3, 40) := by kernel_rfl
theorem OwnU.append {w : World} {v : Value} {us news : List SU} (h : OwnU w v us) (ad : Addr) (m c : Nat) (hm : news.length = m) (hg : ∀ u ∈ news, GrpIn w u)
    (hc : ∀ j u, (flat3 news)[j]? = some u → w.cell? (ad.add j) = some u) (hbig : us.length + m ≤ 1000000) :
    Appends Try.prog 88 w v (.slice (some ad) m c) (fun v' w' => (∃ A c', v' = .slice A (us.length + m) c') ∧ Hid (OwnU w' v' (us ++ news) ∧ Moves (fun k => v.ownBlock = some k) (fun k => v'.ownBlock = some k) w w')) := by
  intro ty
  obtain ⟨i0, hi, hz, hs, hby⟩ := info_parts sap_info
  obtain ⟨v', w', hr, h2, h3, _, h5⟩ := run_append_own_at (P := Try.prog) w 0 88 ty 97 i0 _ 3 40 Try.underlying88 hi hz hs hby rfl (by decide) v us.length (flat3 us) h ad m c (flat3 news) (by rw [flat3_len, hm]) hc (fun u hu => flat3_one hg hu) (by unfold maxLen; omega) (by omega) (Nat.zero_le _)
  have hl : (us ++ news).length = us.length + m := by rw [List.length_append, hm]
  refine ⟨v', w', hr, ?_, cover ⟨?_, ?_⟩⟩
  · obtain ⟨A, c', e, _⟩ := own_shape h2; exact ⟨A, c', e⟩
  · unfold OwnU
    rw [hl, flat3_app]; exact h2
  · exact ⟨h3.os, h3.tape, h3.output, h3.size, fun k hk hn => h3.block k hk (fun e => hn (by rw [← e])), fun k hk => by
      rcases h5 with h5 | h5
      · exact .inl (by rw [← h5]; exact hk)
      · rw [h5] at hk; exact .inr (by have := Option.some.inj hk; omega)⟩

/-- the document's Saps at block r -/
structure RSIn (w : World) (r : Nat) (V : Value) (us : List SU) : Prop where
  hd : w.heap[r]? = some (.cells #[V] 90 (0, 0))
  row : OwnU w V us
  grp : ∀ u ∈ us, GrpIn w u
  ok : InS (us.map (·.1))
def rfoot (r : Nat) (V : Value) : Foot := fun i => i = r ∨ V.ownBlock = some i
section
variable {w w' : World} {r : Nat} {V : Value} {us : List SU}
theorem RSIn.len (h : RSIn w r V us) : us.length ≤ 16 := by have := h.ok.room; rwa [List.length_map] at this
theorem RSIn.shape (h : RSIn w r V us) : ∃ A cp, V = .slice A us.length cp := by
  obtain ⟨A, cp, e, _⟩ := own_shape h.row; exact ⟨A, cp, e⟩
theorem RSIn.lt (h : RSIn w r V us) {i : Nat} (hi : rfoot r V i) : i < w.heap.size := by
  rcases hi with rfl | hi
  · exact block_lt h.hd
  · obtain ⟨cur, hc⟩ := row_type h.row hi; exact block_lt hc
theorem RSIn.apart (h : RSIn w r V us) : V.ownBlock ≠ some r := fun e => by
  obtain ⟨cur, hc⟩ := row_type h.row e
  exact type_ne hc h.hd (by decide) rfl
theorem RSIn.cell0 (h : RSIn w r V us) : w.cell? ⟨r, 0, none⟩ = some V := by rw [cell_of_row _ _ _ _ _ _ h.hd]; rfl
theorem RSIn.thaw (h : RSIn w r V us) (o : Nat) : w.frozen? ⟨r, o, none⟩ = false := by simp [World.frozen?, h.hd]
theorem RSIn.below (h : RSIn w r V us) (hb : Below w.heap.size w w') : RSIn w' r V us :=
  ⟨(hb.block r (block_lt h.hd)).trans h.hd, row_keeps h.row (fun i hi => hb.block i (h.lt (.inr hi))), fun u hu => row_keeps (h.grp u hu) (fun i hi => hb.block i ((h.grp u hu).lt i hi).2), h.ok⟩
theorem RSIn.drewN (h : RSIn w r V us) (n : Nat) : RSIn (w.drewN n) r V us :=
  ⟨h.hd, row_keeps h.row (fun i hi => rfl), fun u hu => row_keeps (h.grp u hu) (fun i hi => rfl), h.ok⟩
/-- kept by all that turn other kinds of blocks alone -/
theorem RSIn.kept {p : Obj → Prop} (h : RSIn w r V us) (k : KeepO p w w') (h1 : ∀ cur fr, ¬ p (.cells cur 90 fr)) (h2 : ∀ cur fr, ¬ p (.cells cur 97 fr)) (h3 : ∀ cur fr, ¬ p (.cells cur 3 fr)) : RSIn w' r V us := by
  refine ⟨k r _ h.hd (h1 _ _), row_keeps h.row (fun i hi => ?_), fun u hu => row_keeps (h.grp u hu) (fun i hi => ?_), h.ok⟩
  · obtain ⟨cur, hc⟩ := row_type h.row hi
    rw [k i _ hc (h2 _ _), hc]
  · obtain ⟨cur, hc⟩ := row_type (h.grp u hu) hi
    rw [k i _ hc (h3 _ _), hc]
/-- the row is another one now -/
theorem RSIn.turn {V' : Value} {us' : List SU} (h : RSIn w r V us) (hm : Moves (fun i => V.ownBlock = some i) (fun i => V'.ownBlock = some i) w w') (hr : OwnU w' V' us') (hg : ∀ u ∈ us', GrpIn w' u) (hok : InS (us'.map (·.1))) :
    RSIn (w'.setCell ⟨r, 0, none⟩ V') r V' us' ∧ Moves (rfoot r V) (rfoot r V') w (w'.setCell ⟨r, 0, none⟩ V') := by
  have hne : V'.ownBlock ≠ some r := fun e => by
    rcases hm.own r e with h1 | h1
    · exact h.apart h1
    · have := block_lt h.hd; omega
  have hc : w'.heap[r]? = _ := hm.at_ h.hd h.apart
  refine ⟨⟨by rw [set_block hc]; rfl, row_keeps hr (fun i hi => set_other _ _ (fun e => hne (by rw [hi, e]))), fun u hu => row_keeps (hg u hu) (fun i hi => set_other _ _ (fun e => ?_)), hok⟩, ?_⟩
  · obtain ⟨cur, hc2⟩ := row_type (hg u hu) hi
    exact type_ne hc2 hc (by decide) e
  · refine Moves.setCell ⟨hm.os, hm.tape, hm.output, hm.size, fun k hk hn => hm.block k hk (fun h1 => hn (.inr h1)), fun k hk => ?_⟩ (.inl (.inl rfl)) _ _
    rcases hk with rfl | hk
    · exact .inl (.inl rfl)
    · rcases hm.own k hk with h1 | h1
      · exact .inl (.inr h1)
      · exact .inr h1
end
/-- the document's Saps is such now; of what there was its own blocks alone have turned -/
def RSNow (r : Nat) (V : Value) (l' : List SV) (w w' : World) : Prop := ∃ V' us', us'.map (·.1) = l' ∧ RSIn w' r V' us' ∧ Moves (rfoot r V) (rfoot r V') w w'
theorem RSNow.below {w w' : World} {r : Nat} {V : Value} {us : List SU} (h : RSIn w r V us) (hb : Below w.heap.size w w') : RSNow r V (us.map (·.1)) w w' := ⟨V, us, rfl, h.below hb, Moves.of_below _ hb⟩
/-- the first so many are others; the next one is this one, or there is none -/
structure FoundU (us : List SU) (k : Int) (n : Nat) (p : Int) : Prop where
  le : n ≤ us.length
  no : ∀ j u, j < n → us[j]? = some u → u.1.sap ≠ k
  yes : (n = us.length ∧ p = -1) ∨ (∃ u, us[n]? = some u ∧ u.1.sap = k ∧ p = n)
theorem foundU_ex (us : List SU) (k : Int) : ∃ n p, FoundU us k n p := by
  induction us with
  | nil => exact ⟨0, -1, Nat.le_refl _, fun j x h => by omega, .inl ⟨rfl, rfl⟩⟩
  | cons y us ih =>
    by_cases hy : y.1.sap = k
    · exact ⟨0, 0, Nat.zero_le _, fun j x h => by omega, .inr ⟨y, rfl, hy, rfl⟩⟩
    · obtain ⟨n, r, h1, h2, h3⟩ := ih
      have hno : ∀ j x, j < n + 1 → (y :: us)[j]? = some x → x.1.sap ≠ k := fun j x hj hx => by
        cases j with
        | zero => simp at hx; subst hx; exact hy
        | succ j => exact h2 j x (by omega) (by simpa using hx)
      rcases h3 with ⟨rfl, rfl⟩ | ⟨x, hx, hk, rfl⟩
      · exact ⟨us.length + 1, -1, Nat.le_refl _, hno, .inl ⟨rfl, rfl⟩⟩
      · exact ⟨n + 1, ((n + 1 : Nat) : Int), by simpa using h1, hno, .inr ⟨x, by simpa using hx, hk, rfl⟩⟩
set_option maxRecDepth 100000 in
set_option maxHeartbeats 1600000 in
theorem rat_go {w : World} {r : Nat} {V : Value} {us : List SU} (h : RSIn w r V us) (k : Int) (n : Nat) (p : Int) (hf : FoundU us k n p) :
    Calls Try.prog 43 #[ptr r, .int .i64 k] w fun e w' => e = .returned (.int .i64 p) ∧ w = w' := by
  obtain ⟨A, cp, rfl⟩ := h.shape
  have d2 := h.cell0
  have hlen := h.len
  have HC := cover h
  have HF := cover hf
  have hle := hf.le
  clear h hf
  go_enter Try.func43, Try.ntmps43
  go_wp2_with fail
  go_loopw [5] (fun i wr => ∃ j : Nat, j ≤ n ∧ i = .int .i64 j ∧ wr = w) (fun i _ => n - (intOf i).toNat)
  case atStart => exact ⟨0, Nat.zero_le _, rfl, rfl⟩
  case round =>
    obtain ⟨j, hj, rfl, rfl⟩ := hrel
    by_cases hjn : j < n
    · obtain ⟨u, hu⟩ : ∃ u, us[j]? = some u := ⟨_, List.getElem?_eq_getElem (by omega)⟩
      have hne := HF.out.no j u hjn hu
      obtain ⟨g, c', hv, hcap, hgl, h0, _⟩ := HC.out.row.cell hu
      have hA : A = some ⟨g, 0, none⟩ := by injection hv
      have hcc : c' = cp := by injection hv with _ _ h3; exact h3.symm
      subst hA hcc
      have hjl := (List.getElem?_eq_some_iff.1 hu).1
      obtain ⟨x, hx⟩ : ∃ x, x = u.1.sap := ⟨_, rfl⟩
      rw [← hx] at h0 hne
      have heq : (x == k) = false := keyI_ne hne
      clear hv hu hne hx
      go_wp2
      go_roundw
      case rel => exact ⟨j + 1, by omega, by go_num, trivial⟩
      case measure => simp [intOf]; omega
    · obtain rfl : j = n := by omega
      rcases HF.out.yes with ⟨rfl, rfl⟩ | ⟨u, hu, hk, rfl⟩
      · go_wp2
        go_ret
        exact ⟨rfl, rfl⟩
      · obtain ⟨g, c', hv, hcap, hgl, h0, _⟩ := HC.out.row.cell hu
        have hA : A = some ⟨g, 0, none⟩ := by injection hv
        have hcc : c' = cp := by injection hv with _ _ h3; exact h3.symm
        subst hA hcc
        have hjl := (List.getElem?_eq_some_iff.1 hu).1
        rw [hk] at h0
        have hself := keyI_self k
        clear hv hu hk
        go_wp2
        go_ret
        exact ⟨rfl, rfl⟩
theorem hasU_iff {us : List SU} {k : Int} : hasS (us.map (·.1)) k = true ↔ ∃ u ∈ us, u.1.sap = k := by
  rw [hasS_iff]
  constructor
  · rintro ⟨s, hs, e⟩
    obtain ⟨u, hu, rfl⟩ := List.mem_map.1 hs
    exact ⟨u, hu, e⟩
  · rintro ⟨u, hu, e⟩
    exact ⟨u.1, List.mem_map.2 ⟨u, hu, rfl⟩, e⟩
theorem rat_none {w : World} {r : Nat} {V : Value} {us : List SU} (h : RSIn w r V us) (k : Int) (hk : hasS (us.map (·.1)) k = false) :
    Calls Try.prog 43 #[ptr r, .int .i64 k] w fun e w' => e = .returned (.int .i64 (-1)) ∧ w = w' := by
  refine rat_go h k us.length (-1) ⟨Nat.le_refl _, fun j x _ hx e => ?_, .inl ⟨rfl, rfl⟩⟩
  have : hasS (us.map (·.1)) k = true := hasU_iff.2 ⟨x, List.mem_of_getElem? hx, e⟩
  rw [hk] at this; cases this
theorem placeU_ex {us : List SU} {k : Int} (hk : hasS (us.map (·.1)) k = true) : ∃ (i : Nat) (u : SU), us[i]? = some u ∧ u.1.sap = k ∧ ∀ j y, j < i → us[j]? = some y → y.1.sap ≠ k := by
  obtain ⟨n, r, h1, h2, h3⟩ := foundU_ex us k
  rcases h3 with ⟨rfl, _⟩ | ⟨x, hx, he, _⟩
  · obtain ⟨x, hx, he⟩ := hasU_iff.1 hk
    obtain ⟨i, hi⟩ := List.mem_iff_getElem?.1 hx
    exact absurd he (h2 i x (List.getElem?_eq_some_iff.1 hi).1 hi)
  · exact ⟨n, x, hx, he, h2⟩
theorem rat_at {w : World} {r : Nat} {V : Value} {us : List SU} (h : RSIn w r V us) (k : Int) (i : Nat) (u : SU) (hi : us[i]? = some u) (hk : u.1.sap = k) (hno : ∀ j y, j < i → us[j]? = some y → y.1.sap ≠ k) :
    Calls Try.prog 43 #[ptr r, .int .i64 k] w fun e w' => e = .returned (.int .i64 i) ∧ w = w' :=
  rat_go h k i i ⟨Nat.le_of_lt (List.getElem?_eq_some_iff.1 hi).1, hno, .inr ⟨u, hi, hk, rfl⟩⟩
theorem us_at {w : World} {r : Nat} {V : Value} {us : List SU} (h : RSIn w r V us) {i : Nat} {u : SU} (hi : us[i]? = some u) (g : Int) : memS (us.map (·.1)) u.1.sap g = u.1.gs.contains g ∧ clsS (us.map (·.1)) u.1.sap = u.1.cls :=
  mem_at h.ok.rise (List.mem_map.2 ⟨u, List.mem_of_getElem? hi, rfl⟩) g
set_option maxHeartbeats 800000 in
theorem rin_any {w : World} {A : Option Addr} {c n : Nat} {gs : List Int} (x : Int) (hn : gs.length = n) (hbig : n ≤ 1000000) (h1 : Nums w A gs) :
    Calls Try.prog 42 #[.slice A n c, .int .i64 x] w fun e w' => e = .returned (.bool (gs.contains x)) ∧ w = w' := by
  have H1 := cover h1
  have HN := cover hn
  clear h1 hn
  go_enter Try.func42, Try.ntmps42
  go_wp2_with fail
  go_loopw [5] (fun i wr => ∃ j : Nat, j ≤ n ∧ i = .int .i64 j ∧ wr = w ∧ Hid (∀ i y, i < j → gs[i]? = some y → y ≠ x)) (fun i _ => n - (intOf i).toNat)
  case atStart => exact ⟨0, Nat.zero_le _, rfl, rfl, cover (fun i y hi => by omega)⟩
  case round =>
    obtain ⟨j, hj, rfl, rfl, hno⟩ := hrel
    by_cases hlt : j < n
    · obtain ⟨y, hy⟩ : ∃ y, gs[j]? = some y := ⟨_, List.getElem?_eq_getElem (by rw [HN.out]; exact hlt)⟩
      obtain ⟨g, rfl, k1⟩ := H1.out j y hy
      by_cases hyx : y = x
      · have hself := keyI_self x
        have HE : Hid (gs.contains x = true) := cover (by rw [List.contains_iff_mem]; exact List.mem_of_getElem? (by rw [← hyx]; exact hy))
        rw [hyx] at k1
        clear hy hyx hno
        go_wp2
        go_ret
        rw [HE.out]
        exact ⟨rfl, rfl⟩
      · have heq := keyI_ne hyx
        have HNo : Hid (∀ i y, i < j + 1 → gs[i]? = some y → y ≠ x) := cover (fun i z hi hz => by
          rcases Nat.lt_or_ge i j with h | h
          · exact hno.out i z h hz
          · obtain rfl : i = j := by omega
            rw [hy] at hz
            obtain rfl := Option.some.inj hz
            exact hyx)
        clear hy hyx hno
        go_wp2
        go_roundw
        case rel => exact ⟨j + 1, by omega, by go_num, trivial, HNo⟩
        case measure => simp [intOf]; omega
    · obtain rfl : j = n := by omega
      have HE : Hid (gs.contains x = false) := cover (by
        cases hc : gs.contains x
        · rfl
        · rw [List.contains_iff_mem] at hc
          obtain ⟨i, hi⟩ := List.mem_iff_getElem?.1 hc
          exact absurd rfl (hno.out i x (by rw [← HN.out]; exact (List.getElem?_eq_some_iff.1 hi).1) hi))
      clear hno
      go_wp2
      go_ret
      rw [HE.out]
      exact ⟨rfl, rfl⟩
set_option maxHeartbeats 800000 in
theorem rclass_any {w : World} {r : Nat} {V : Value} {us : List SU} (h : RSIn w r V us) (k : Int) :
    Calls Try.prog 29 #[ptr r, .int .i64 k] w fun e w' => e = .returned (.int .i64 (clsS (us.map (·.1)) k)) ∧ w = w' := by
  cases hk : hasS (us.map (·.1)) k with
  | false =>
    rw [clsS_no hk]
    have HF := rat_none h k hk
    clear h hk
    go_enter Try.func29, Try.ntmps29
    go_wp2_with fail
    refine HF.mono ?_
    rintro e w1 ⟨rfl, rfl⟩
    go_wp2
    go_ret
    exact ⟨rfl, rfl⟩
  | true =>
    obtain ⟨i, u, hi, hs, hno⟩ := placeU_ex hk
    have HF := rat_at h k i u hi hs hno
    rw [← hs, (us_at h hi 0).2]
    obtain ⟨A, cp, rfl⟩ := h.shape
    have d2 := h.cell0
    obtain ⟨g, c', hv, hcap, hgl, h0, h1, _⟩ := h.row.cell hi
    have hA : A = some ⟨g, 0, none⟩ := by injection hv
    have hcc : c' = cp := by injection hv with _ _ h3; exact h3.symm
    subst hA hcc
    have hil := (List.getElem?_eq_some_iff.1 hi).1
    have hlen := h.len
    obtain ⟨y, hy⟩ : ∃ y, y = u.1.cls := ⟨_, rfl⟩
    rw [← hy] at h1 ⊢
    rw [hs]
    clear h0 h hk hno hi hv hs hy
    go_enter Try.func29, Try.ntmps29
    go_wp2_with fail
    refine HF.mono ?_
    rintro e w1 ⟨rfl, rfl⟩
    clear HF
    go_wp2
    go_ret
    exact ⟨rfl, rfl⟩
end Go.Proofs.Ytgpmimohoepeiaa

namespace Go.Proofs.Ytgpmimohoepeiaa
open Go.RowKit
set_option linter.unusedVariables false

/-- numbers that are gathered: so far these -/
structure GathAt (w : World) (T : List Int) (v : Value) (wr : World) : Prop where
  own : wr.ownsRow w.heap.size 3 1 v T.length (T.map (Value.int .i64))
  bel : Below w.heap.size w wr
theorem GathAt.start (w : World) : GathAt w [] (.slice none 0 0) w := ⟨World.ownsRow_nil _ _ _ _, Below.refl _ _⟩
theorem GathAt.out {w wr : World} {T : List Int} {v : Value} (h : GathAt w T v wr) : Out T w (.returned v) wr := out_of h.own h.bel
theorem GathAt.app {w wr w7 : World} {T T' : List Int} {v : Value} (h : GathAt w T v wr) (hb : Below wr.heap.size wr w7) (x : Int) {ad : Addr} (hc : ∀ j u, ([Value.int .i64 x])[j]? = some u → w7.cell? (ad.add j) = some u) (hT : T' = T ++ [x]) (hl : T.length ≤ 1000) :
    Appends Try.prog 57 w7 v (.slice (some ad) 1 1) (fun v' w' => Hid (GathAt w T' v' w')) := fun ty => by
  have hs := h.bel.size
  have ho7 := row_keeps h.own (fun j hj => hb.block j (h.own.lt j hj).2)
  obtain ⟨v', w', k1, k2, k3⟩ := append_i ho7 ad 1 1 [x] rfl hc (Nat.le_trans hs hb.size) (by omega) ty
  refine ⟨v', w', k1, cover ⟨?_, below_grown (h.bel.trans (hb.mono hs)) (Nat.le_trans hs hb.size) ho7 k3⟩⟩
  rw [hT, List.length_append]
  exact k2
def hearU (us : List SU) (n : Int) (j : Nat) : List Int := hearS ((us.map (·.1)).take j) n
theorem hearU_succ {us : List SU} {n : Int} {j : Nat} {u : SU} (hu : us[j]? = some u) : hearU us n (j + 1) = if hearB u.1 n = true then hearU us n j ++ [u.1.sap] else hearU us n j := by
  unfold hearU hearS
  have e : (us.map (·.1)).take (j + 1) = (us.map (·.1)).take j ++ [u.1] := by
    rw [List.take_add_one, List.getElem?_map, hu]; rfl
  rw [e, List.filter_append, List.map_append]
  cases hb : hearB u.1 n
  · rw [List.filter_cons, if_neg (by rw [hb]; decide)]; simp
  · rw [List.filter_cons, if_pos hb]; simp
theorem hearU_len (us : List SU) (n : Int) (j : Nat) : (hearU us n j).length ≤ us.length := by
  unfold hearU
  refine Nat.le_trans (hear_len _ _) ?_
  rw [List.length_take, List.length_map]
  omega
theorem hearU_all (us : List SU) (n : Int) : hearU us n us.length = hearS (us.map (·.1)) n := by
  unfold hearU
  rw [List.take_of_length_le (by rw [List.length_map]; exact Nat.le_refl _)]
set_option maxRecDepth 100000 in
set_option maxHeartbeats 1600000 in
theorem rhears_any {w : World} {r : Nat} {V : Value} {us : List SU} (h : RSIn w r V us) (n : Int) :
    Calls Try.prog 27 #[ptr r, .int .i64 n] w (Out (hearS (us.map (·.1)) n) w) := by
  obtain ⟨A, cp, rfl⟩ := h.shape
  have hlen := h.len
  have HC := cover h
  have hrl := block_lt h.hd
  have hd2 := h.cell0
  have HD : Hid (∀ wx, Below w.heap.size w wx → wx.cell? ⟨r, 0, none⟩ = some (.slice A us.length cp)) := cover (fun wx hb => (hb.cell (p := ⟨r, 0, none⟩) hrl).trans hd2)
  clear h hd2
  go_enter Try.func27, Try.ntmps27
  go_wp2_with fail
  go_loopw [5, 6] (fun vv i wr => ∃ (v : Value) (j : Nat), j ≤ us.length ∧ vv = v ∧ i = .int .i64 j ∧ Hid (GathAt w (hearU us n j) v wr)) (fun _ i _ => us.length - (intOf i).toNat)
  case atStart => exact ⟨_, 0, Nat.zero_le _, rfl, rfl, cover (GathAt.start w)⟩
  case round =>
    obtain ⟨v, j, hj, hv, rfl, hrel⟩ := hrel
    have hv2 := hv.symm
    subst hv2
    clear hv
    have d2 := HD.out wr hrel.out.bel
    by_cases hlt : j < us.length
    · obtain ⟨u, hu⟩ : ∃ u, us[j]? = some u := ⟨_, List.getElem?_eq_getElem hlt⟩
      obtain ⟨g, c', hv, hcap, hgl, h0, _, h2, _⟩ := HC.out.row.cell hu
      have hA : A = some ⟨g, 0, none⟩ := by injection hv
      have hcc : c' = cp := by injection hv with _ _ h3; exact h3.symm
      subst hA hcc
      have hG := HC.out.grp u (List.mem_of_getElem? hu)
      have HS := cover (hearU_succ (n := n) hu)
      have HL := cover (hearU_len us n j)
      have hgl3 : u.1.gs.length ≤ 1000000 := by
        have hn := (HC.out.ok.ok u.1 (List.mem_map.2 ⟨u, List.mem_of_getElem? hu, rfl⟩)).2.2
        have := nodup_le u.1.gs ((List.range 256).map fun (i : Nat) => (i : Int)) hn.2 (fun x hx => by
          have := hn.1 x hx
          unfold OkGrp at this
          exact List.mem_map.2 ⟨x.toNat, List.mem_range.2 (by omega), by omega⟩)
        simp at this
        omega
      obtain ⟨Ag, cg, hgv, _⟩ := own_shape hG
      have hgb := hrel.out.bel
      have hin := rin_any (c := cg) (w := wr) n rfl hgl3 (by
        unfold GrpIn at hG
        rw [hgv] at hG
        exact Nums.of_own (row_keeps hG (fun i hi => hgb.block i (hG.lt i hi).2)))
      obtain ⟨m, hm⟩ : ∃ m, m = u.1.gs.length := ⟨_, rfl⟩
      rw [hgv, ← hm] at h2
      rw [← hm] at hin
      obtain ⟨x, hx⟩ : ∃ x, x = u.1.sap := ⟨_, rfl⟩
      rw [← hx] at h0
      have h0' : wr.cell? ⟨g, j * 3, none⟩ = some (.int .i64 x) := (hgb.cell (p := ⟨g, j * 3, none⟩) hgl).trans h0
      have h2' : wr.cell? ⟨g, j * 3 + 2, none⟩ = some (.slice Ag m cg) := (hgb.cell (p := ⟨g, j * 3 + 2, none⟩) hgl).trans h2
      have HB : Hid (hearB u.1 n = (x == n || n == 255 || u.1.gs.contains n)) := cover (by unfold hearB; rw [hx])
      rw [← hx] at HS
      obtain ⟨bb, hbb⟩ : ∃ bb, bb = hearB u.1 n := ⟨_, rfl⟩
      rw [← hbb] at HS HB
      obtain ⟨cc, hcc2⟩ : ∃ cc, cc = u.1.gs.contains n := ⟨_, rfl⟩
      rw [← hcc2] at hin HB
      clear hbb hcc2 hgl3 hG hgv hgb h0 h2 hm hx hv hu
      by_cases e1 : x = n
      · have e1' : (x == n) = true := by simpa using e1
        have HBT : Hid (bb = true) := cover (by rw [HB.out, e1']; rfl)
        have hsucc : Hid (hearU us n (j + 1) = hearU us n j ++ [x]) := cover (by rw [HS.out, if_pos HBT.out])
        have E1 := cover e1
        clear hin e1
        obtain ⟨w7, hw7⟩ : ∃ w7, w7 = wr.alloc (.cells #[.int .i64 x] 3) := ⟨_, rfl⟩
        have hb7 : Below wr.heap.size wr w7 := by rw [hw7]; exact (Below.refl _ _).alloc (Nat.le_refl _) _
        have HAP : Hid (Appends Try.prog 57 w7 v (.slice (some ⟨wr.heap.size, 0, none⟩) 1 1) (fun v' w' => Hid (GathAt w (hearU us n (j + 1)) v' w'))) := cover (hrel.out.app hb7 x (by rw [hw7]; exact World.news_of_block (cs := #[.int .i64 x]) (heap_alloc_new wr _)) (hsucc.out) (Nat.le_trans HL.out (by omega)))
        clear hb7 hrel
        go_wp2_with (at_builtin; rw [← hw7]; refine appends_list rfl _ _ _ rfl _ _ rfl rfl HAP.out ?_; intro v8 w8 H6)
        clear HAP hw7
        go_wp2
        go_roundw
        case rel => exact ⟨_, j + 1, by omega, rfl, by go_num, H6⟩
        case measure => simp [intOf]; omega
      · have e1' : (x == n) = false := by simpa using e1
        by_cases e2 : n = 255
        · have e2' : (n == 255) = true := by simpa using e2
          have HBT : Hid (bb = true) := cover (by rw [HB.out, e1', e2']; rfl)
          have hsucc : Hid (hearU us n (j + 1) = hearU us n j ++ [x]) := cover (by rw [HS.out, if_pos HBT.out])
          have E1 := cover (And.intro e1 e2)
          clear hin e1 e2
          obtain ⟨w7, hw7⟩ : ∃ w7, w7 = wr.alloc (.cells #[.int .i64 x] 3) := ⟨_, rfl⟩
          have hb7 : Below wr.heap.size wr w7 := by rw [hw7]; exact (Below.refl _ _).alloc (Nat.le_refl _) _
          have HAP : Hid (Appends Try.prog 57 w7 v (.slice (some ⟨wr.heap.size, 0, none⟩) 1 1) (fun v' w' => Hid (GathAt w (hearU us n (j + 1)) v' w'))) := cover (hrel.out.app hb7 x (by rw [hw7]; exact World.news_of_block (cs := #[.int .i64 x]) (heap_alloc_new wr _)) (hsucc.out) (Nat.le_trans HL.out (by omega)))
          clear hb7 hrel
          go_wp2_with (at_builtin; rw [← hw7]; refine appends_list rfl _ _ _ rfl _ _ rfl rfl HAP.out ?_; intro v8 w8 H6)
          clear HAP hw7
          go_wp2
          go_roundw
          case rel => exact ⟨_, j + 1, by omega, rfl, by go_num, H6⟩
          case measure => simp [intOf]; omega
        · have e2' : (n == 255) = false := by simpa using e2
          cases hcv : cc
          · rw [hcv] at hin
            have HN : Hid (GathAt w (hearU us n (j + 1)) v wr) := cover (by rw [HS.out, HB.out, e1', e2', hcv]; exact hrel.out)
            have E1 := cover (And.intro e1 (And.intro e2 hcv))
            clear e1 e2 hcv hrel
            go_wp2_with fail
            refine hin.mono ?_
            rintro e w' ⟨rfl, rfl⟩
            clear hin
            go_wp2
            go_roundw
            case rel => exact ⟨_, j + 1, by omega, rfl, by go_num, HN⟩
            case measure => simp [intOf]; omega
          · rw [hcv] at hin
            have hsucc : Hid (hearU us n (j + 1) = hearU us n j ++ [x]) := cover (by rw [HS.out, HB.out, e1', e2', hcv]; rfl)
            have E1 := cover (And.intro e1 (And.intro e2 hcv))
            clear e1 e2 hcv
            go_wp2_with fail
            refine hin.mono ?_
            rintro e w' ⟨rfl, rfl⟩
            clear hin
            obtain ⟨w7, hw7⟩ : ∃ w7, w7 = wr.alloc (.cells #[.int .i64 x] 3) := ⟨_, rfl⟩
            have hb7 : Below wr.heap.size wr w7 := by rw [hw7]; exact (Below.refl _ _).alloc (Nat.le_refl _) _
            have HAP : Hid (Appends Try.prog 57 w7 v (.slice (some ⟨wr.heap.size, 0, none⟩) 1 1) (fun v' w' => Hid (GathAt w (hearU us n (j + 1)) v' w'))) := cover (hrel.out.app hb7 x (by rw [hw7]; exact World.news_of_block (cs := #[.int .i64 x]) (heap_alloc_new wr _)) (hsucc.out) (Nat.le_trans HL.out (by omega)))
            clear hb7 hrel
            go_wp2_with (at_builtin; rw [← hw7]; refine appends_list rfl _ _ _ rfl _ _ rfl rfl HAP.out ?_; intro v8 w8 H6)
            clear HAP hw7
            go_wp2
            go_roundw
            case rel => exact ⟨_, j + 1, by omega, rfl, by go_num, H6⟩
            case measure => simp [intOf]; omega
    · obtain rfl : j = us.length := by omega
      have HO := cover hrel.out.out
      rw [hearU_all] at HO
      obtain ⟨A5, c5, rfl, _⟩ := own_shape hrel.out.own
      clear hrel
      go_wp2
      go_ret
      exact HO.out
def listU (us : List SU) (j : Nat) : List Int := listS ((us.map (·.1)).take j)
theorem listU_succ {us : List SU} {j : Nat} {u : SU} (hu : us[j]? = some u) : listU us (j + 1) = listU us j ++ [u.1.sap] := by
  unfold listU listS
  have e : (us.map (·.1)).take (j + 1) = (us.map (·.1)).take j ++ [u.1] := by
    rw [List.take_add_one, List.getElem?_map, hu]; rfl
  rw [e, List.map_append]
  rfl
theorem listU_len (us : List SU) (j : Nat) : (listU us j).length ≤ us.length := by
  unfold listU
  rw [list_len, List.length_take, List.length_map]
  omega
theorem listU_all (us : List SU) : listU us us.length = listS (us.map (·.1)) := by
  unfold listU
  rw [List.take_of_length_le (by rw [List.length_map]; exact Nat.le_refl _)]
end Go.Proofs.Ytgpmimohoepeiaa

namespace Go.Proofs.Ytgpmimohoepeiaa
open Go.RowKit
set_option linter.unusedVariables false

theorem rsap_any (n : Int) (w : World) : Calls Try.prog 36 #[.int .i64 n] w fun e w' => e = .returned (.bool (decide (OkSap n))) ∧ w = w' := by
  by_cases h1 : 2 ≤ n
  · by_cases h2 : n ≤ 254
    · have h3 : n.tmod 2 = n % 2 := Int.tmod_eq_emod_of_nonneg (by omega)
      have e : decide (OkSap n) = (n % 2 == 0) := by
        rw [Bool.eq_iff_iff]; simp only [decide_eq_true_eq, beq_iff_eq]; unfold OkSap; omega
      rw [e]
      go_enter Try.func36, Try.ntmps36
      go_wp2
      go_ret
      exact ⟨rfl, rfl⟩
    · have e : decide (OkSap n) = false := by
        rw [decide_eq_false_iff_not]; unfold OkSap; omega
      rw [e]
      clear e
      go_enter Try.func36, Try.ntmps36
      go_wp2
      go_ret
      exact ⟨rfl, rfl⟩
  · have e : decide (OkSap n) = false := by
      rw [decide_eq_false_iff_not]; unfold OkSap; omega
    rw [e]
    clear e
    go_enter Try.func36, Try.ntmps36
    go_wp2
    go_ret
    exact ⟨rfl, rfl⟩
theorem rgroup_any (n : Int) (w : World) : Calls Try.prog 76 #[.int .i64 n] w fun e w' => e = .returned (.bool (decide (OkGrp n))) ∧ w = w' := by
  by_cases h1 : 1 ≤ n
  · by_cases h2 : n ≤ 253
    · have h3 : n.tmod 2 = n % 2 := Int.tmod_eq_emod_of_nonneg (by omega)
      have e : decide (OkGrp n) = (n % 2 == 1) := by
        rw [Bool.eq_iff_iff]; simp only [decide_eq_true_eq, beq_iff_eq]; unfold OkGrp; omega
      rw [e]
      go_enter Try.func76, Try.ntmps76
      go_wp2
      go_ret
      exact ⟨rfl, rfl⟩
    · have e : decide (OkGrp n) = false := by
        rw [decide_eq_false_iff_not]; unfold OkGrp; omega
      rw [e]
      clear e
      go_enter Try.func76, Try.ntmps76
      go_wp2
      go_ret
      exact ⟨rfl, rfl⟩
  · have e : decide (OkGrp n) = false := by
      rw [decide_eq_false_iff_not]; unfold OkGrp; omega
    rw [e]
    clear e
    go_enter Try.func76, Try.ntmps76
    go_wp2
    go_ret
    exact ⟨rfl, rfl⟩

/-! where it is put -/
def insU (x : SU) : List SU → List SU
  | [] => [x]
  | u :: us => if x.1.sap < u.1.sap then x :: u :: us else u :: insU x us
theorem insU_fst (x : SU) (us : List SU) : (insU x us).map (·.1) = insS x.1 (us.map (·.1)) := by
  induction us with
  | nil => rfl
  | cons u us ih =>
    unfold insU
    rw [List.map_cons, insS]
    split
    · rfl
    · rw [List.map_cons, ih]
theorem insU_mem {x u : SU} {us : List SU} (h : u ∈ insU x us) : u = x ∨ u ∈ us := by
  induction us with
  | nil => simp [insU] at h; exact .inl h
  | cons y us ih =>
    unfold insU at h
    split at h
    · rcases List.mem_cons.1 h with h | h
      · exact .inl h
      · exact .inr h
    · rcases List.mem_cons.1 h with h | h
      · exact .inr (by simp [h])
      · rcases ih h with h | h
        · exact .inl h
        · exact .inr (by simp [h])
theorem insU_last {x y : SU} : ∀ {P : List SU}, (∀ u ∈ P, u.1.sap ≤ x.1.sap) → x.1.sap < y.1.sap → insU x (P ++ [y]) = P ++ [x] ++ [y]
  | [], _, h => by simp [insU, h]
  | u :: P, hp, h => by
    rw [List.cons_append, insU, if_neg (by have := hp u (by simp); omega), insU_last (fun v hv => hp v (by simp [hv])) h]
    rfl
theorem insU_app {x y : SU} : ∀ {P : List SU}, (∃ u ∈ P, x.1.sap < u.1.sap) → insU x (P ++ [y]) = insU x P ++ [y]
  | [], h => by obtain ⟨u, hu, _⟩ := h; cases hu
  | u :: P, h => by
    rw [List.cons_append, insU, insU]
    by_cases e : x.1.sap < u.1.sap
    · rw [if_pos e, if_pos e]; rfl
    · rw [if_neg e, if_neg e, insU_app (by
        obtain ⟨v, hv, hlt⟩ := h
        rcases List.mem_cons.1 hv with rfl | hv
        · exact absurd hlt e
        · exact ⟨v, hv, hlt⟩)]
      rfl
theorem insU_none {x : SU} : ∀ {P : List SU}, (∀ u ∈ P, u.1.sap ≤ x.1.sap) → insU x P = P ++ [x]
  | [], _ => rfl
  | u :: P, hp => by
    rw [insU, if_neg (by have := hp u (by simp); omega), insU_none (fun v hv => hp v (by simp [hv]))]
    rfl
/-- so far: it has been put, or all are ahead of it -/
def SoFar (x : SU) (P : List SU) (put : Bool) : Prop := (put = true ∧ ∃ u ∈ P, x.1.sap < u.1.sap) ∨ (put = false ∧ ∀ u ∈ P, u.1.sap ≤ x.1.sap)
def putL (x : SU) (P : List SU) (put : Bool) : List SU := if put = true then insU x P else P
/-- a row of SAPs that is made: so far these -/
structure BuildAt (w : World) (T : List SU) (v : Value) (wr : World) : Prop where
  own : OwnU wr v T
  fresh : ∀ i, v.ownBlock = some i → w.heap.size ≤ i
  bel : Below w.heap.size w wr
theorem BuildAt.start (w : World) : BuildAt w [] (.slice none 0 0) w := ⟨World.ownsRow_nil _ _ _ _, fun i hi => (by cases hi), Below.refl _ _⟩
theorem BuildAt.app {w wr w7 : World} {T T' : List SU} {v : Value} (h : BuildAt w T v wr) (hb : Below wr.heap.size wr w7) (y : SU) (hg : GrpIn w7 y) {ad : Addr} (hc : ∀ j u, (flat3 [y])[j]? = some u → w7.cell? (ad.add j) = some u) (hT : T' = T ++ [y]) (hl : T.length ≤ 1000) :
    Appends Try.prog 88 w7 v (.slice (some ad) 1 1) (fun v' w' => Hid (BuildAt w T' v' w')) := fun ty => by
  have hs := h.bel.size
  have ho7 : OwnU w7 v T := row_keeps h.own (fun j hj => hb.block j (h.own.lt j hj).2)
  obtain ⟨v', w', k1, _, k3⟩ := ho7.append ad 1 1 (news := [y]) rfl (fun u hu => by simp at hu; subst hu; exact hg) hc (by omega) ty
  obtain ⟨k4, k5⟩ := k3.out
  have hb7 : Below w.heap.size w w7 := h.bel.trans (hb.mono hs)
  refine ⟨v', w', k1, cover ⟨by rw [hT]; exact k4, fun i hi => (k5.own i hi).elim (h.fresh i) (fun h' => Nat.le_trans hb7.size h'), Moves.below hb7 k5 h.fresh hb7.size⟩⟩
theorem put_open {w : World} {r : Nat} {V : Value} {us : List SU} (h : RSIn w r V us) {n c : Int} (he : openE (us.map (·.1)) n c = 0) {w5 : World} {v5 : Value} {x : SU} (hx : x = (⟨n, c, []⟩, .slice none 0 0)) (hB : BuildAt w (insU x us) v5 w5) : RSNow r V (openS (us.map (·.1)) n c) w (w5.setCell ⟨r, 0, none⟩ v5) := by
  subst hx
  have hos : openS (us.map (·.1)) n c = insS ⟨n, c, []⟩ (us.map (·.1)) := by unfold openS; rw [if_pos he]
  have hok := h.ok.open n c
  rw [hos] at hok ⊢
  have hf := insU_fst (⟨n, c, []⟩, .slice none 0 0) us
  obtain ⟨k1, k2⟩ := h.turn (V' := v5) (w' := w5) (us' := insU (⟨n, c, []⟩, .slice none 0 0) us) ⟨hB.bel.os, hB.bel.tape, hB.bel.output, hB.bel.size, fun i hi _ => hB.bel.block i hi, fun i hi => .inr (hB.fresh i hi)⟩ hB.own (fun u hu => by
    rcases insU_mem hu with rfl | hu
    · exact World.ownsRow_nil _ _ _ _
    · exact row_keeps (h.grp u hu) (fun i hi => hB.bel.block i ((h.grp u hu).lt i hi).2)) (by rw [hf]; exact hok)
  exact ⟨v5, _, hf, k1, k2⟩
set_option maxRecDepth 100000 in
set_option maxHeartbeats 1600000 in
theorem ropen_yes {w : World} {r : Nat} {V : Value} {us : List SU} (h : RSIn w r V us) {n c : Int} (he : openE (us.map (·.1)) n c = 0) :
    Calls Try.prog 55 #[ptr r, .int .i64 n, .int .i64 c] w fun e w' => e = .returned (.int .i64 0) ∧ Hid (RSNow r V (openS (us.map (·.1)) n c) w w') := by
  obtain ⟨o1, o2, o3, o4⟩ := openE_0 he
  have c1 := rsap_any n
  rw [decide_eq_true o1] at c1
  have c2 := rat_none h n o3
  have hc1 : ¬ c < 1 := by unfold OkCls at o2; omega
  have hc4 : ¬ 4 < c := by unfold OkCls at o2; omega
  rw [List.length_map] at o4
  have hl16 : ¬ (16 : Int) ≤ (us.length : Int) := by omega
  have HH := cover (And.intro h he)
  obtain ⟨A, cp, rfl⟩ := h.shape
  have hlen := h.len
  have hrl := block_lt h.hd
  have hd2 := h.cell0
  have hfr := h.thaw 0
  have HD : Hid (∀ wx, Below w.heap.size w wx → wx.cell? ⟨r, 0, none⟩ = some (.slice A us.length cp) ∧ wx.frozen? ⟨r, 0, none⟩ = false) := cover (fun wx hb => ⟨(hb.cell (p := ⟨r, 0, none⟩) hrl).trans hd2, by have h0 := hb.block r hrl; unfold World.frozen? at hfr ⊢; rw [h0]; exact hfr⟩)
  obtain ⟨x, hx⟩ : ∃ x : SU, x = (⟨n, c, []⟩, .slice none 0 0) := ⟨_, rfl⟩
  have HX := cover hx
  clear h he o1 o2 o3 o4 hx
  go_enter Try.func55, Try.ntmps55
  go_wp2_with (first
    | (go_at_call 36; refine (c1 _).mono ?_; rintro e w' ⟨rfl, rfl⟩)
    | (go_at_call 43; refine c2.mono ?_; rintro e w1 ⟨rfl, rfl⟩))
  clear c1 c2 hd2 hfr
  go_loopw [7, 8, 9] (fun vv pv i wr => ∃ (v : Value) (put : Bool) (j : Nat), j ≤ us.length ∧ vv = v ∧ pv = .bool put ∧ i = .int .i64 j ∧ Hid (SoFar x (us.take j) put ∧ BuildAt w (putL x (us.take j) put) v wr)) (fun _ _ i _ => us.length - (intOf i).toNat)
  case atStart => exact ⟨_, false, 0, Nat.zero_le _, rfl, rfl, rfl, cover ⟨.inr ⟨rfl, fun u hu => by simp at hu⟩, BuildAt.start w⟩⟩
  case round =>
    obtain ⟨v, put, j, hj, hv, rfl, rfl, hrel⟩ := hrel
    have hv2 := hv.symm
    subst hv2
    clear hv
    obtain ⟨d2, d3⟩ := HD.out wr hrel.out.2.bel
    by_cases hlt : j < us.length
    · obtain ⟨u, hu⟩ : ∃ u, us[j]? = some u := ⟨_, List.getElem?_eq_getElem hlt⟩
      obtain ⟨g, c', hv, hcap, hgl, h0, h1, h2, _⟩ := HH.out.1.row.cell hu
      have hA : A = some ⟨g, 0, none⟩ := by injection hv
      have hcc : c' = cp := by injection hv with _ _ h3; exact h3.symm
      subst hA hcc
      have hgb := hrel.out.2.bel
      have hG := HH.out.1.grp u (List.mem_of_getElem? hu)
      have HG : Hid (∀ wx, Below w.heap.size w wx → GrpIn wx u) := cover (fun wx hb => row_keeps hG (fun i hi => hb.block i (hG.lt i hi).2))
      have HC : Hid (∀ wx, Below w.heap.size w wx → wx.cell? ⟨g, j * 3, none⟩ = some (.int .i64 u.1.sap) ∧ wx.cell? ⟨g, j * 3 + 1, none⟩ = some (.int .i64 u.1.cls) ∧ wx.cell? ⟨g, j * 3 + 2, none⟩ = some u.2) := cover (fun wx hb => ⟨(hb.cell (p := ⟨g, j * 3, none⟩) hgl).trans h0, (hb.cell (p := ⟨g, j * 3 + 1, none⟩) hgl).trans h1, (hb.cell (p := ⟨g, j * 3 + 2, none⟩) hgl).trans h2⟩)
      obtain ⟨us1, us2, uv, hu1⟩ : ∃ (a b : Int) (v : Value), u.1.sap = a ∧ u.1.cls = b ∧ u.2 = v := ⟨_, _, _, rfl, rfl, rfl⟩
      rw [hu1.1, hu1.2.1, hu1.2.2] at HC
      have HU := cover hu1
      have HT : Hid (us.take (j + 1) = us.take j ++ [u]) := cover (by rw [List.take_add_one, hu]; rfl)
      have HFL : Hid (flat3 [u] = [.int .i64 us1, .int .i64 us2, uv]) := cover (by rw [← hu1.1, ← hu1.2.1, ← hu1.2.2]; rfl)
      have HXn : Hid (x.1.sap = n ∧ flat3 [x] = [.int .i64 n, .int .i64 c, .slice none 0 0] ∧ ∀ wx : World, GrpIn wx x) := cover (by rw [HX.out]; exact ⟨rfl, rfl, fun wx => World.ownsRow_nil _ _ _ _⟩)
      clear hv hu h0 h1 h2 hG hu1
      obtain ⟨k0, k1, k2⟩ := HC.out wr hgb
      have hlenT : (us.take j).length = j := by rw [List.length_take]; omega
      cases put
      · by_cases hgt : us1 > n
        · -- it is put here
          obtain ⟨w7, hw7⟩ : ∃ w7, w7 = wr.alloc (.cells #[.int .i64 n, .int .i64 c, .slice none 0 0] 97) := ⟨_, rfl⟩
          have hb7 : Below wr.heap.size wr w7 := by rw [hw7]; exact (Below.refl _ _).alloc (Nat.le_refl _) _
          have HAP : Hid (Appends Try.prog 88 w7 v (.slice (some ⟨wr.heap.size, 0, none⟩) 1 1) (fun v' w' => Hid (BuildAt w (us.take j ++ [x]) v' w'))) := cover (hrel.out.2.app hb7 x (HXn.out.2.2 w7) (by rw [HXn.out.2.1, hw7]; exact World.news_of_block (cs := #[.int .i64 n, .int .i64 c, .slice none 0 0]) (heap_alloc_new wr _)) rfl (by show (us.take j).length ≤ _; omega))
          have HSF : Hid (∀ u ∈ us.take j, u.1.sap ≤ x.1.sap) := cover (by
            rcases hrel.out.1 with ⟨e, _⟩ | ⟨_, e⟩
            · cases e
            · exact e)
          have HGT := cover hgt
          clear hb7 hrel
          go_upto_region 14 with (at_builtin; rw [← hw7]; refine appends_list rfl _ _ _ rfl _ _ rfl rfl HAP.out ?_; intro v8 w8 H6)
          clear HAP hw7 d2 d3 k0 k1 k2 w7
          obtain ⟨d2, d3⟩ := HD.out w8 H6.out.bel
          obtain ⟨k0, k1, k2⟩ := HC.out w8 H6.out.bel
          obtain ⟨w9, hw9⟩ : ∃ w9, w9 = w8.alloc (.cells #[.int .i64 us1, .int .i64 us2, uv] 97) := ⟨_, rfl⟩
          have hb9 : Below w8.heap.size w8 w9 := by rw [hw9]; exact (Below.refl _ _).alloc (Nat.le_refl _) _
          have HAP : Hid (Appends Try.prog 88 w9 v8 (.slice (some ⟨w8.heap.size, 0, none⟩) 1 1) (fun v' w' => Hid (BuildAt w (putL x (us.take (j + 1)) true) v' w'))) := cover (H6.out.app hb9 u (HG.out w9 (H6.out.bel.trans (hb9.mono H6.out.bel.size))) (by rw [HFL.out, hw9]; exact World.news_of_block (cs := #[.int .i64 us1, .int .i64 us2, uv]) (heap_alloc_new w8 _)) (by
            unfold putL
            rw [if_pos rfl, HT.out]
            exact insU_last HSF.out (by rw [HXn.out.1, HU.out.1]; exact HGT.out)) (by rw [List.length_append]; show (us.take j).length + 1 ≤ _; omega))
          clear hb9 H6
          go_wp2_with (at_builtin; rw [← hw9]; refine appends_list rfl _ _ _ rfl _ _ rfl rfl HAP.out ?_; intro v10 w10 H8)
          clear HAP hw9
          have HN : Hid (SoFar x (us.take (j + 1)) true ∧ BuildAt w (putL x (us.take (j + 1)) true) v10 w10) := cover ⟨.inl ⟨rfl, u, by rw [HT.out]; simp, by rw [HXn.out.1, HU.out.1]; exact HGT.out⟩, H8.out⟩
          clear H8
          go_wp2
          go_roundw
          case rel => exact ⟨_, true, j + 1, by omega, rfl, rfl, by go_num, HN⟩
          case measure => simp [intOf]; omega
        · -- it comes later
          obtain ⟨w9, hw9⟩ : ∃ w9, w9 = wr.alloc (.cells #[.int .i64 us1, .int .i64 us2, uv] 97) := ⟨_, rfl⟩
          have hb9 : Below wr.heap.size wr w9 := by rw [hw9]; exact (Below.refl _ _).alloc (Nat.le_refl _) _
          have HAP : Hid (Appends Try.prog 88 w9 v (.slice (some ⟨wr.heap.size, 0, none⟩) 1 1) (fun v' w' => Hid (BuildAt w (putL x (us.take (j + 1)) false) v' w'))) := cover (hrel.out.2.app hb9 u (HG.out w9 (hgb.trans (hb9.mono hgb.size))) (by rw [HFL.out, hw9]; exact World.news_of_block (cs := #[.int .i64 us1, .int .i64 us2, uv]) (heap_alloc_new wr _)) (by
            unfold putL
            rw [if_neg (by decide), if_neg (by decide), HT.out]) (by show (us.take j).length ≤ _; omega))
          have HSF : Hid (SoFar x (us.take (j + 1)) false) := cover (.inr ⟨rfl, fun y hy => by
            rw [HT.out] at hy
            rcases List.mem_append.1 hy with hy | hy
            · rcases hrel.out.1 with ⟨e, _⟩ | ⟨_, e⟩
              · cases e
              · exact e y hy
            · simp at hy
              subst hy
              rw [HXn.out.1, HU.out.1]; omega⟩)
          clear hb9 hrel hgb
          go_wp2_with (at_builtin; rw [← hw9]; refine appends_list rfl _ _ _ rfl _ _ rfl rfl HAP.out ?_; intro v10 w10 H8)
          clear HAP hw9
          have HN := cover (And.intro HSF.out H8.out)
          clear H8
          go_wp2
          go_roundw
          case rel => exact ⟨_, false, j + 1, by omega, rfl, rfl, by go_num, HN⟩
          case measure => simp [intOf]; omega
      · -- it was put
        have HSP : Hid (∃ u ∈ us.take j, x.1.sap < u.1.sap) := cover (by
          rcases hrel.out.1 with ⟨_, e⟩ | ⟨e, _⟩
          · exact e
          · cases e)
        obtain ⟨w9, hw9⟩ : ∃ w9, w9 = wr.alloc (.cells #[.int .i64 us1, .int .i64 us2, uv] 97) := ⟨_, rfl⟩
        have hb9 : Below wr.heap.size wr w9 := by rw [hw9]; exact (Below.refl _ _).alloc (Nat.le_refl _) _
        have hln : (insU x (us.take j)).length ≤ 1000 := by
          have := congrArg List.length (insU_fst x (us.take j))
          rw [List.length_map, insS_len, List.length_map] at this
          omega
        have HAP : Hid (Appends Try.prog 88 w9 v (.slice (some ⟨wr.heap.size, 0, none⟩) 1 1) (fun v' w' => Hid (BuildAt w (putL x (us.take (j + 1)) true) v' w'))) := cover (hrel.out.2.app hb9 u (HG.out w9 (hgb.trans (hb9.mono hgb.size))) (by rw [HFL.out, hw9]; exact World.news_of_block (cs := #[.int .i64 us1, .int .i64 us2, uv]) (heap_alloc_new wr _)) (by
          unfold putL
          rw [if_pos rfl, if_pos rfl, HT.out, insU_app HSP.out]) hln)
        clear hb9 hrel hgb hln
        go_wp2_with (at_builtin; rw [← hw9]; refine appends_list rfl _ _ _ rfl _ _ rfl rfl HAP.out ?_; intro v10 w10 H8)
        clear HAP hw9
        have HN : Hid (SoFar x (us.take (j + 1)) true ∧ BuildAt w (putL x (us.take (j + 1)) true) v10 w10) := cover ⟨.inl ⟨rfl, by
          obtain ⟨y, hy, e⟩ := HSP.out
          exact ⟨y, by rw [HT.out]; simp [hy], e⟩⟩, H8.out⟩
        clear H8
        go_wp2
        go_roundw
        case rel => exact ⟨_, true, j + 1, by omega, rfl, rfl, by go_num, HN⟩
        case measure => simp [intOf]; omega
    · obtain rfl : j = us.length := by omega
      have HTA : Hid (us.take us.length = us) := cover (List.take_of_length_le (Nat.le_refl _))
      cases put
      · have HXn : Hid (flat3 [x] = [.int .i64 n, .int .i64 c, .slice none 0 0] ∧ ∀ wx : World, GrpIn wx x) := cover (by rw [HX.out]; exact ⟨rfl, fun wx => World.ownsRow_nil _ _ _ _⟩)
        obtain ⟨w7, hw7⟩ : ∃ w7, w7 = wr.alloc (.cells #[.int .i64 n, .int .i64 c, .slice none 0 0] 97) := ⟨_, rfl⟩
        have hb7 : Below wr.heap.size wr w7 := by rw [hw7]; exact (Below.refl _ _).alloc (Nat.le_refl _) _
        have HSF : Hid (∀ u ∈ us, u.1.sap ≤ x.1.sap) := cover (by
          have h9 := hrel.out.1
          rw [HTA.out] at h9
          rcases h9 with ⟨e, _⟩ | ⟨_, e⟩
          · cases e
          · exact e)
        have HAP : Hid (Appends Try.prog 88 w7 v (.slice (some ⟨wr.heap.size, 0, none⟩) 1 1) (fun v' w' => Hid (BuildAt w (insU x us) v' w'))) := cover (hrel.out.2.app hb7 x (HXn.out.2 w7) (by rw [HXn.out.1, hw7]; exact World.news_of_block (cs := #[.int .i64 n, .int .i64 c, .slice none 0 0]) (heap_alloc_new wr _)) (by
          unfold putL
          rw [if_neg (by decide), HTA.out, insU_none HSF.out]) (by show (us.take us.length).length ≤ _; rw [HTA.out]; omega))
        clear hb7 hrel
        go_upto_region 18 with (at_builtin; rw [← hw7]; refine appends_list rfl _ _ _ rfl _ _ rfl rfl HAP.out ?_; intro v8 w8 H6)
        clear HAP hw7 d2 d3
        obtain ⟨d2, d3⟩ := HD.out w8 H6.out.bel
        obtain ⟨A8, c8, rfl, _⟩ := own_shape H6.out.own
        have HN := cover (put_open HH.out.1 HH.out.2 HX.out H6.out)
        clear H6
        go_wp2
        go_ret
        exact ⟨rfl, HN⟩
      · have H6 : Hid (BuildAt w (insU x us) v wr) := cover (by
          have h9 := hrel.out.2
          rw [HTA.out] at h9
          exact h9)
        obtain ⟨A8, c8, rfl, _⟩ := own_shape H6.out.own
        have HN := cover (put_open HH.out.1 HH.out.2 HX.out H6.out)
        clear H6 hrel
        go_wp2
        go_ret
        exact ⟨rfl, HN⟩
theorem open_1 {l : List SV} {n c : Int} (h : ¬ (OkSap n ∧ OkCls c)) : openE l n c = 1 ∧ openS l n c = l := by
  have e : openE l n c = 1 := by unfold openE; rw [if_neg h]
  exact ⟨e, by unfold openS; rw [if_neg (by rw [e]; decide)]⟩
theorem open_8 {l : List SV} {n c : Int} (h : OkSap n ∧ OkCls c) (hh : hasS l n = true) : openE l n c = 8 ∧ openS l n c = l := by
  have e : openE l n c = 8 := by unfold openE; rw [if_pos h, if_pos hh]
  exact ⟨e, by unfold openS; rw [if_neg (by rw [e]; decide)]⟩
theorem open_6 {l : List SV} {n c : Int} (h : OkSap n ∧ OkCls c) (hh : hasS l n = false) (hl : 16 ≤ l.length) : openE l n c = 6 ∧ openS l n c = l := by
  have e : openE l n c = 6 := by unfold openE; rw [if_pos h, if_neg (by rw [hh]; decide), if_pos hl]
  exact ⟨e, by unfold openS; rw [if_neg (by rw [e]; decide)]⟩
set_option maxRecDepth 100000 in
set_option maxHeartbeats 1600000 in
theorem ropen_any {w : World} {r : Nat} {V : Value} {us : List SU} (h : RSIn w r V us) (n c : Int) :
    Calls Try.prog 55 #[ptr r, .int .i64 n, .int .i64 c] w fun e w' => e = .returned (.int .i64 (openE (us.map (·.1)) n c)) ∧ Hid (RSNow r V (openS (us.map (·.1)) n c) w w') := by
  have c1 := rsap_any n
  by_cases hs : OkSap n
  · rw [decide_eq_true hs] at c1
    by_cases hc : OkCls c
    · have hc1 : ¬ c < 1 := by unfold OkCls at hc; omega
      have hc4 : ¬ 4 < c := by unfold OkCls at hc; omega
      cases hh : hasS (us.map (·.1)) n
      · by_cases hl : 16 ≤ us.length
        · obtain ⟨e1, e2⟩ := open_6 ⟨hs, hc⟩ hh (by rw [List.length_map]; exact hl)
          rw [e1, e2]
          have c2 := rat_none h n hh
          have HN := cover (RSNow.below h (Below.refl _ _))
          obtain ⟨A, cp, rfl⟩ := h.shape
          have d2 := h.cell0
          have hl' : (16 : Int) ≤ (us.length : Int) := by omega
          clear e1 e2 hh h hs hc hl
          go_enter Try.func55, Try.ntmps55
          go_wp2_with (first
            | (go_at_call 36; refine (c1 _).mono ?_; rintro e w' ⟨rfl, rfl⟩)
            | (go_at_call 43; refine c2.mono ?_; rintro e w1 ⟨rfl, rfl⟩))
          go_ret
          exact ⟨rfl, HN⟩
        · have he : openE (us.map (·.1)) n c = 0 := by
            unfold openE; rw [if_pos ⟨hs, hc⟩, if_neg (by rw [hh]; decide), if_neg (by rw [List.length_map]; exact hl)]
          rw [he]
          exact ropen_yes h he
      · obtain ⟨e1, e2⟩ := open_8 ⟨hs, hc⟩ hh
        rw [e1, e2]
        obtain ⟨i, u, hi, hsn, hno⟩ := placeU_ex hh
        have c2 := rat_at h n i u hi hsn hno
        have HN := cover (RSNow.below h (Below.refl _ _))
        have hi0 : (0 : Int) ≤ (i : Int) := by omega
        clear e1 e2 hh h hs hc hi hsn hno
        go_enter Try.func55, Try.ntmps55
        go_wp2_with (first
          | (go_at_call 36; refine (c1 _).mono ?_; rintro e w' ⟨rfl, rfl⟩)
          | (go_at_call 43; refine c2.mono ?_; rintro e w1 ⟨rfl, rfl⟩))
        go_ret
        exact ⟨rfl, HN⟩
    · obtain ⟨e1, e2⟩ := open_1 (l := us.map (·.1)) (n := n) (c := c) (fun h => hc h.2)
      rw [e1, e2]
      have HN := cover (RSNow.below h (Below.refl _ _))
      have hcc : c < 1 ∨ 4 < c := by unfold OkCls at hc; omega
      clear e1 e2 h hs hc
      rcases hcc with hcc | hcc
      · go_enter Try.func55, Try.ntmps55
        go_wp2_with (go_at_call 36; refine (c1 _).mono ?_; rintro e w' ⟨rfl, rfl⟩)
        go_ret
        exact ⟨rfl, HN⟩
      · have hc1 : ¬ c < 1 := by omega
        go_enter Try.func55, Try.ntmps55
        go_wp2_with (go_at_call 36; refine (c1 _).mono ?_; rintro e w' ⟨rfl, rfl⟩)
        go_ret
        exact ⟨rfl, HN⟩
  · rw [decide_eq_false hs] at c1
    obtain ⟨e1, e2⟩ := open_1 (l := us.map (·.1)) (n := n) (c := c) (fun h => hs h.1)
    rw [e1, e2]
    have HN := cover (RSNow.below h (Below.refl _ _))
    clear e1 e2 h hs
    go_enter Try.func55, Try.ntmps55
    go_wp2_with (go_at_call 36; refine (c1 _).mono ?_; rintro e w' ⟨rfl, rfl⟩)
    go_ret
    exact ⟨rfl, HN⟩
end Go.Proofs.Ytgpmimohoepeiaa

namespace Go.Proofs.Ytgpmimohoepeiaa
open Go.RowKit
set_option linter.unusedVariables false

theorem cut_close {l : List SV} (h : l.Pairwise (fun a b => a.sap < b.sap)) {i : Nat} {s : SV} (hi : l[i]? = some s) : l.take i ++ l.drop (i + 1) = closeS l s.sap := by
  induction l generalizing i with
  | nil => simp at hi
  | cons y l ih =>
    rw [List.pairwise_cons] at h
    cases i with
    | zero =>
      simp at hi
      subst hi
      rw [close_cons, if_pos rfl]
      have hno : hasS l y.sap = false := by
        cases hc : hasS l y.sap
        · rfl
        · obtain ⟨s, hs, e⟩ := hasS_iff.1 hc
          have := h.1 s hs
          omega
      rw [close_no hno]
      rfl
    | succ i =>
      have hi' : l[i]? = some s := by simpa using hi
      have := h.1 s (List.mem_of_getElem? hi')
      rw [close_cons, if_neg (by omega), ← ih h.2 hi']
      rfl
set_option maxRecDepth 100000 in
set_option maxHeartbeats 1600000 in
theorem rclose_yes {w : World} {r : Nat} {V : Value} {us : List SU} (h : RSIn w r V us) (k : Int) (hk : hasS (us.map (·.1)) k = true) :
    Calls Try.prog 57 #[ptr r, .int .i64 k] w fun e w' => e = .returned (.int .i64 0) ∧ Hid (RSNow r V (closeS (us.map (·.1)) k) w w') := by
  obtain ⟨i, u, hi, hsk, hno⟩ := placeU_ex hk
  have HF := rat_at h k i u hi hsk hno
  have hil := (List.getElem?_eq_some_iff.1 hi).1
  obtain ⟨g, cp, hv, hncp, hgl, _⟩ := h.row.cell hi
  have HH := cover (And.intro h (And.intro hi hsk))
  have hlen := h.len
  have hcell : ∀ j u, (flat3 us)[j]? = some u → w.cell? ⟨g, j, none⟩ = some u := fun j u hj => by
    have hr := h.row
    rw [hv] at hr
    rw [World.ownsRow.cellAt hr j (by have := (List.getElem?_eq_some_iff.1 hj).1; rw [flat3_len] at this; omega)]; exact hj
  obtain ⟨n, hn⟩ : ∃ n, n = us.length := ⟨_, rfl⟩
  rw [← hn] at hv hncp hil hlen
  have HNL := cover hn
  have HCL := cover hcell
  have hrl := block_lt h.hd
  have hcl2 := h.cell0
  have hfr := h.thaw 0
  rw [hv] at hcl2
  have HV := cover hv
  have HG : Hid (∀ wx, Below w.heap.size w wx → ∀ u ∈ us, GrpIn wx u) := cover (fun wx hb u hu => row_keeps (h.grp u hu) (fun i hi => hb.block i ((h.grp u hu).lt i hi).2))
  clear h hk hno hi hcell hv hn hsk
  have h3 : (fun W' : World => W'.cell? ⟨r, 0, none⟩ = some (.slice (some ⟨g, 0, none⟩) n cp) ∧ W'.frozen? ⟨r, 0, none⟩ = false) w.drew := ⟨hcl2, hfr⟩
  have hin : (i : Int) + 1 ≤ (n : Int) := by omega
  have hin' : i + 1 ≤ n := by omega
  have hp0 : ¬ ((i : Int) + 1 < 0) := by omega
  have hic : i ≤ cp := by omega
  have hwr : IntKind.i64.wrap ((i : Int) + 1) = (i : Int) + 1 := by rw [IntKind.wrap_i64]; omega
  obtain ⟨tv, htv⟩ : ∃ tv, tv = Value.slice (if cp = i + 1 then some ⟨g, 0, none⟩ else some ⟨g, (i + 1) * 3, none⟩) (n - (i + 1)) (cp - (i + 1)) := ⟨_, rfl⟩
  have mixed : Try.prog.follows .mixedOrders = true := by kernel_rfl
  go_enter Try.func57, Try.ntmps57
  go_wp2_with fail
  refine HF.mono ?_
  rintro e w1 ⟨rfl, rfl⟩
  clear HF hcl2 hfr
  go_wp2_with fail
  refine (wpIn_wide (n := 0)).1 ?_
  refine held_begin (fun W' : World => W'.cell? ⟨r, 0, none⟩ = some (.slice (some ⟨g, 0, none⟩) n cp) ∧ W'.frozen? ⟨r, 0, none⟩ = false) 19 mixed ?_
  refine hold_take 0 _ rfl (by kernel_rfl) (by kernel_rfl) (by kernel_rfl) (by kernel_rfl) (by kernel_rfl) (fun _ _ _ h => h) (by rfl) (fun _ => rfl) h3 (fun w' hS => by obtain ⟨q0, q1⟩ := hS; go_simp; rfl) ?_
  simp only [Act.put, List.setIfInBounds_toArray, List.set_cons_zero, List.set_cons_succ]
  refine hold_take 2 _ rfl (by kernel_rfl) (by kernel_rfl) (by kernel_rfl) (by kernel_rfl) (by kernel_rfl) (fun _ _ _ h => h) (by rfl) (fun _ => rfl) h3 (fun w' hS => by obtain ⟨q0, q1⟩ := hS; go_simp; rfl) ?_
  simp only [Act.put, List.setIfInBounds_toArray, List.set_cons_zero, List.set_cons_succ]
  refine hold_take 3 _ rfl (by kernel_rfl) (by kernel_rfl) (by kernel_rfl) (by kernel_rfl) (by kernel_rfl) (fun _ _ _ h => h) (by rfl) (fun _ => rfl) h3 (fun w' hS => by obtain ⟨q0, q1⟩ := hS; go_simp; rfl) ?_
  simp only [Act.put, List.setIfInBounds_toArray, List.set_cons_zero, List.set_cons_succ]
  refine hold_take 4 _ rfl (by kernel_rfl) (by kernel_rfl) (by kernel_rfl) (by kernel_rfl) (by kernel_rfl) (fun _ _ _ h => h) (by rfl) (fun _ => rfl) h3 (fun w' hS => by obtain ⟨q0, q1⟩ := hS; go_simp; rfl) ?_
  simp only [Act.put, List.setIfInBounds_toArray, List.set_cons_zero, List.set_cons_succ]
  refine hold_take 5 _ rfl (by kernel_rfl) (by kernel_rfl) (by kernel_rfl) (by kernel_rfl) (by kernel_rfl) (fun _ _ _ h => h) (by rfl) (fun _ => rfl) h3 (fun w' hS => by obtain ⟨q0, q1⟩ := hS; go_simp; rfl) ?_
  simp only [Act.put, List.setIfInBounds_toArray, List.set_cons_zero, List.set_cons_succ]
  refine hold_take 6 _ rfl (by kernel_rfl) (by kernel_rfl) (by kernel_rfl) (by kernel_rfl) (by kernel_rfl) (fun _ _ _ h => h) (by rfl) (fun _ => rfl) h3 (fun w' hS => by obtain ⟨q0, q1⟩ := hS; go_simp; rfl) ?_
  simp only [Act.put, List.setIfInBounds_toArray, List.set_cons_zero, List.set_cons_succ]
  refine hold_take 7 (.slice (some ⟨g, 0, none⟩) i cp) rfl (by kernel_rfl) (by kernel_rfl) (by kernel_rfl) (by kernel_rfl) (by kernel_rfl) (fun _ _ _ h => h) (by rfl) (fun _ => rfl) h3 (fun w' hS => by obtain ⟨q0, q1⟩ := hS; go_simp; skip) ?_
  simp only [Act.put, List.setIfInBounds_toArray, List.set_cons_zero, List.set_cons_succ]
  refine hold_take 9 _ rfl (by kernel_rfl) (by kernel_rfl) (by kernel_rfl) (by kernel_rfl) (by kernel_rfl) (fun _ _ _ h => h) (by rfl) (fun _ => rfl) h3 (fun w' hS => by obtain ⟨q0, q1⟩ := hS; go_simp; rfl) ?_
  simp only [Act.put, List.setIfInBounds_toArray, List.set_cons_zero, List.set_cons_succ]
  refine hold_take 10 _ rfl (by kernel_rfl) (by kernel_rfl) (by kernel_rfl) (by kernel_rfl) (by kernel_rfl) (fun _ _ _ h => h) (by rfl) (fun _ => rfl) h3 (fun w' hS => by obtain ⟨q0, q1⟩ := hS; go_simp; rfl) ?_
  simp only [Act.put, List.setIfInBounds_toArray, List.set_cons_zero, List.set_cons_succ]
  refine hold_take 11 _ rfl (by kernel_rfl) (by kernel_rfl) (by kernel_rfl) (by kernel_rfl) (by kernel_rfl) (fun _ _ _ h => h) (by rfl) (fun _ => rfl) h3 (fun w' hS => by obtain ⟨q0, q1⟩ := hS; go_simp; rfl) ?_
  simp only [Act.put, List.setIfInBounds_toArray, List.set_cons_zero, List.set_cons_succ]
  refine hold_take 12 _ rfl (by kernel_rfl) (by kernel_rfl) (by kernel_rfl) (by kernel_rfl) (by kernel_rfl) (fun _ _ _ h => h) (by rfl) (fun _ => rfl) h3 (fun w' hS => by obtain ⟨q0, q1⟩ := hS; go_simp; rfl) ?_
  simp only [Act.put, List.setIfInBounds_toArray, List.set_cons_zero, List.set_cons_succ]
  refine hold_take 13 _ rfl (by kernel_rfl) (by kernel_rfl) (by kernel_rfl) (by kernel_rfl) (by kernel_rfl) (fun _ _ _ h => h) (by rfl) (fun _ => rfl) h3 (fun w' hS => by obtain ⟨q0, q1⟩ := hS; go_simp; rfl) ?_
  simp only [Act.put, List.setIfInBounds_toArray, List.set_cons_zero, List.set_cons_succ]
  refine hold_take 14 (.int .i64 ((i : Int) + 1)) rfl (by kernel_rfl) (by kernel_rfl) (by kernel_rfl) (by kernel_rfl) (by kernel_rfl) (fun _ _ _ h => h) (by rfl) (fun _ => rfl) h3 (fun w' hS => by obtain ⟨q0, q1⟩ := hS; go_simp; skip) ?_
  simp only [Act.put, List.setIfInBounds_toArray, List.set_cons_zero, List.set_cons_succ]
  refine hold_take 15 tv rfl (by kernel_rfl) (by kernel_rfl) (by kernel_rfl) (by kernel_rfl) (by kernel_rfl) (fun _ _ _ h => h) (by rfl) (fun _ => rfl) h3 (fun w' hS => by obtain ⟨q0, q1⟩ := hS; go_simp; skip) ?_
  simp only [Act.put, List.setIfInBounds_toArray, List.set_cons_zero, List.set_cons_succ]
  have HTV := cover htv
  clear htv
  refine hold_one 1 (by kernel_rfl) rfl (by rfl) fun K hK => ?_
  obtain ⟨y, hy⟩ : ∃ y, y = w.heap.size := ⟨_, rfl⟩
  obtain ⟨w3, hw3⟩ : ∃ w3, w3 = w.drew.alloc (.cells #[] 97) := ⟨_, rfl⟩
  have hb3 : Below w.heap.size w w3 := by rw [hw3]; exact (Below.refl _ _).drew.alloc (Nat.le_refl _) _
  have hn3 : w3.heap[y]? = some (.cells #[] 97 (0, 0)) := by rw [hw3, hy]; exact heap_alloc_new w.drew _
  refine run_in (fun c h => by cases h) (fun _ _ => trivial) (v := .slice (some ⟨y, 0, none⟩) 0 0) (w' := w3) (by rw [hw3, hy]; go_simp) ?_
  have hS : ∀ W', Below w.heap.size w W' → (fun W' : World => W'.cell? ⟨r, 0, none⟩ = some (.slice (some ⟨g, 0, none⟩) n cp) ∧ W'.frozen? ⟨r, 0, none⟩ = false) W' := fun W' hb => by
    obtain ⟨q0, q1⟩ := h3
    exact ⟨(hb.cell (p := ⟨r, 0, none⟩) hrl).trans q0, by have h0 := hb.block r hrl; unfold World.frozen? at q1 ⊢; rw [h0]; exact q1⟩
  have h33 := hS w3 hb3
  refine hK _ _ (.inr h33) ?_
  clear hK K hw3
  have hown3 : OwnU w3 (.slice (some ⟨y, 0, none⟩) 0 0) [] := ⟨rfl, .inr ⟨y, 0, #[], rfl, Nat.zero_le _, hn3, Nat.le_refl _, Nat.zero_le _, rfl, rfl⟩⟩
  refine hold_one 8 (by kernel_rfl) rfl (by rfl) fun K hK => ?_
  obtain ⟨v4, w4, hr4, ⟨A4, c4, hv4⟩, HO4⟩ := OwnU.append hown3 ⟨g, 0, none⟩ i cp (news := us.take i) (by rw [List.length_take, ← HNL.out]; omega) (fun x hx => HG.out w3 hb3 x (List.mem_of_mem_take hx)) (fun j u hj => by
      rw [add_off, Nat.zero_add, hb3.cell (p := ⟨g, j, none⟩) hgl]
      rw [flat3_take, List.getElem?_take] at hj
      split at hj
      · exact HCL.out j u hj
      · cases hj) (by simp; omega) 88
  refine run_in (fun c h => by cases h) (fun _ _ => trivial) (v := v4) (w' := w4) (appends_exec _ _ _ _ rfl (.slice (some ⟨y, 0, none⟩) 0 0) (.slice (some ⟨g, 0, none⟩) i cp) (by go_simp) (by go_simp) hr4) ?_
  have hS4 : ∀ k, (Value.slice (some ⟨y, 0, none⟩) 0 0).ownBlock = some k → w.heap.size ≤ k := fun k hk => by
    have : y = k := by simpa [Value.ownBlock] using hk
    omega
  have hb4 : Below w.heap.size w w4 := Moves.below hb3 HO4.out.2 hS4 hb3.size
  have h34 := hS w4 hb4
  refine hK _ _ (.inr h34) ?_
  clear hK K hr4
  have hS5 : ∀ k, v4.ownBlock = some k → w.heap.size ≤ k := fun k hk => (HO4.out.2.own k hk).elim (hS4 k) (fun h => Nat.le_trans hb3.size h)
  have hown4 : OwnU w4 v4 (us.take i) := by have := HO4.out.1; rwa [List.nil_append] at this
  have hlt4 : (us.take i).length = i := by rw [List.length_take, ← HNL.out]; omega
  refine hold_one 16 (by kernel_rfl) rfl (by rfl) fun K hK => ?_
  have happ : ∃ v5 w5, (Builtin.append_ #[88, 88] 88 #[v4, tv]).run Try.prog w4 = .ok v5 w5 ∧ (∃ A c', v5 = .slice A ((us.take i).length + (n - (i + 1))) c') ∧ Hid (OwnU w5 v5 (us.take i ++ us.drop (i + 1)) ∧ Moves (fun k => v4.ownBlock = some k) (fun k => v5.ownBlock = some k) w4 w5) := by
    rw [HTV.out]
    by_cases hc : cp = i + 1
    · have h0 : n - (i + 1) = 0 := by omega
      have hd0 : us.drop (i + 1) = [] := List.drop_eq_nil_of_le (by rw [← HNL.out]; omega)
      rw [if_pos hc]
      exact OwnU.append hown4 ⟨g, 0, none⟩ (n - (i + 1)) (cp - (i + 1)) (news := us.drop (i + 1)) (by rw [hd0, h0]; rfl) (fun x hx => by rw [hd0] at hx; cases hx) (fun j u hj => by rw [hd0] at hj; simp [flat3] at hj) (by omega) _
    · rw [if_neg hc]
      exact OwnU.append hown4 ⟨g, (i + 1) * 3, none⟩ (n - (i + 1)) (cp - (i + 1)) (news := us.drop (i + 1)) (by rw [List.length_drop, ← HNL.out]) (fun x hx => HG.out w4 hb4 x (List.mem_of_mem_drop hx)) (fun j u hj => by
        rw [add_off, hb4.cell (p := ⟨g, (i + 1) * 3 + j, none⟩) hgl]
        rw [flat3_drop, List.getElem?_drop] at hj
        exact HCL.out _ u hj) (by omega) _
  obtain ⟨v5, w5, hr5, ⟨A5, c5, hv5⟩, HO5⟩ := happ
  refine run_in (fun c h => by cases h) (fun _ _ => trivial) (v := v5) (w' := w5) (appends_exec _ _ _ _ rfl v4 tv (by go_simp) (by go_simp) hr5) ?_
  have hb5 : Below w.heap.size w w5 := Moves.below hb4 HO5.out.2 hS5 hb4.size
  have h35 := hS w5 hb5
  refine hK _ _ (.inr h35) ?_
  clear hK K hr5
  have HN : Hid (RSNow r (.slice (some ⟨g, 0, none⟩) n cp) (closeS (us.map (·.1)) k) w (w5.setCell ⟨r, 0, none⟩ v5)) := by
    obtain ⟨hh, hi, hsk⟩ := HH.out
    have hmap : (us.take i ++ us.drop (i + 1)).map (·.1) = closeS (us.map (·.1)) k := by
      rw [List.map_append, List.map_take, List.map_drop, ← hsk]
      exact cut_close hh.ok.rise (by rw [List.getElem?_map, hi]; rfl)
    obtain ⟨k1, k2⟩ := hh.turn (V' := v5) (w' := w5) (us' := us.take i ++ us.drop (i + 1)) ⟨hb5.os, hb5.tape, hb5.output, hb5.size, fun i hi _ => hb5.block i hi, fun i hi => .inr ((HO5.out.2.own i hi).elim (hS5 i) (fun h => Nat.le_trans hb4.size h))⟩ HO5.out.1 (fun x hx => HG.out w5 hb5 x (by
      rcases List.mem_append.1 hx with hx | hx
      · exact List.mem_of_mem_take hx
      · exact List.mem_of_mem_drop hx)) (by rw [hmap]; exact hh.ok.close k)
    rw [HV.out] at k2
    exact cover ⟨v5, _, hmap, k1, k2⟩
  rw [← HV.out] at HN
  refine hold_one 17 (by kernel_rfl) rfl (by rfl) fun K hK => ?_
  go_simp
  refine hK _ _ (.inr h35) ?_
  clear hK K
  refine hold_one 18 (by kernel_rfl) rfl (by rfl) fun K hK => ?_
  go_simp
  refine hK _ _ (.inr h35) ?_
  clear hK K
  refine hold_one 19 (by kernel_rfl) rfl (by rfl) fun K hK => ?_
  obtain ⟨q0, q1⟩ := h35
  rw [hlt4] at hv5
  subst hv5
  go_simp
  refine hK _ _ (.inl rfl) (held_done (by kernel_rfl) ?_ _)
  clear hK K
  go_wp2
  go_ret
  exact ⟨rfl, HN⟩
set_option maxHeartbeats 800000 in
theorem rclose_any {w : World} {r : Nat} {V : Value} {us : List SU} (h : RSIn w r V us) (k : Int) :
    Calls Try.prog 57 #[ptr r, .int .i64 k] w fun e w' => e = .returned (.int .i64 (closeE (us.map (·.1)) k)) ∧ Hid (RSNow r V (closeS (us.map (·.1)) k) w w') := by
  cases hk : hasS (us.map (·.1)) k
  · have e1 : closeE (us.map (·.1)) k = 7 := by unfold closeE; rw [hk]; rfl
    rw [e1, close_no hk]
    have HF := rat_none h k hk
    have HN := cover (RSNow.below h (Below.refl _ _))
    clear h hk e1
    go_enter Try.func57, Try.ntmps57
    go_wp2_with fail
    refine HF.mono ?_
    rintro e w1 ⟨rfl, rfl⟩
    go_wp2
    go_ret
    exact ⟨rfl, HN⟩
  · have e1 : closeE (us.map (·.1)) k = 0 := by unfold closeE; rw [hk]; rfl
    rw [e1]
    exact rclose_yes h k hk
end Go.Proofs.Ytgpmimohoepeiaa

namespace Go.Proofs.Ytgpmimohoepeiaa
open Go.RowKit
set_option linter.unusedVariables false

theorem set_map {f : SV → SV} {l : List SV} (h : l.Pairwise (fun a b => a.sap < b.sap)) {i : Nat} {s : SV} (hi : l[i]? = some s) (hf : ∀ t ∈ l, t.sap ≠ s.sap → f t = t) : l.set i (f s) = l.map f := by
  induction l generalizing i with
  | nil => simp at hi
  | cons y l ih =>
    rw [List.pairwise_cons] at h
    cases i with
    | zero =>
      simp at hi
      subst hi
      rw [List.set_cons_zero, List.map_cons]
      congr 1
      have : l.map f = l.map id := List.map_congr_left (fun t ht => hf t (by simp [ht]) (by have := h.1 t ht; omega))
      rw [this, List.map_id]
    | succ i =>
      have hi' : l[i]? = some s := by simpa using hi
      have := h.1 s (List.mem_of_getElem? hi')
      rw [List.set_cons_succ, List.map_cons, ih h.2 hi' (fun t ht => hf t (by simp [ht])), hf y (by simp) (by omega)]
theorem flat3_set : ∀ (us : List SU) (i : Nat) (u : SU) (gs : List Int) (v : Value), us[i]? = some u → flat3 (us.set i (⟨u.1.sap, u.1.cls, gs⟩, v)) = (flat3 us).set (i * 3 + 2) v
  | y :: us, 0, u, gs, v, h => by
    simp at h; subst h; rfl
  | y :: us, i + 1, u, gs, v, h => by
    have := flat3_set us i u gs v (by simpa using h)
    rw [List.set_cons_succ, flat3_cons, flat3_cons, show (i + 1) * 3 + 2 = (i * 3 + 2) + 1 + 1 + 1 by omega, List.set_cons_succ, List.set_cons_succ, List.set_cons_succ, this]
/-- its groups are others now -/
theorem RSIn.setGrp {w w5 : World} {r g c i : Nat} {us : List SU} {u : SU} (h : RSIn w r (.slice (some ⟨g, 0, none⟩) us.length c) us) (hb : Below w.heap.size w w5) (hi : us[i]? = some u) (gs : List Int) (v : Value) (ho : w5.ownsRow w.heap.size 3 1 v gs.length (gs.map (Value.int .i64))) (hok : InS ((us.map (·.1)).set i ⟨u.1.sap, u.1.cls, gs⟩)) :
    RSNow r (.slice (some ⟨g, 0, none⟩) us.length c) ((us.map (·.1)).set i ⟨u.1.sap, u.1.cls, gs⟩) w (w5.setCell ⟨g, i * 3 + 2, none⟩ v) := by
  have hil := (List.getElem?_eq_some_iff.1 hi).1
  have hmap : (us.set i (⟨u.1.sap, u.1.cls, gs⟩, v)).map (·.1) = (us.map (·.1)).set i ⟨u.1.sap, u.1.cls, gs⟩ := by rw [List.map_set]
  have h5 := h.below hb
  rcases h5.row.2 with ⟨h0, _⟩ | ⟨g', c', cur, hv, _, hh, hc1, hc2, hc3, hc4⟩
  · cases h0
  · injection hv with hv1 hv2 hv3
    have hg : g = g' := by simpa using hv1
    subst hg hv3
    have hne : r ≠ g := type_ne h5.hd hh (by decide)
    refine ⟨_, _, hmap, ⟨?_, ⟨?_, .inr ⟨g, c, cur.setIfInBounds (i * 3 + 2) v, by rw [List.length_set], Nat.zero_le _, set_block hh _ _, by rw [List.length_set]; exact hc1, hc2, by rw [Array.size_setIfInBounds]; exact hc3, ?_⟩⟩, ?_, by rw [hmap]; exact hok⟩, ?_⟩
    · rw [set_other _ _ hne]; exact h5.hd
    · rw [flat3_len]
    · rw [flat3_set us i u gs v hi, List.length_set, Array.toList_setIfInBounds, List.take_set, hc4]
    · intro x hx
      rcases List.mem_or_eq_of_mem_set hx with hx | rfl
      · refine row_keeps (h5.grp x hx) (fun j hj => set_other _ _ (fun e => ?_))
        obtain ⟨cu, hcu⟩ := row_type (h5.grp x hx) hj
        exact type_ne hcu hh (by decide) e
      · refine row_keeps (own_base (base' := 0) ho (Nat.zero_le _)) (fun j hj => set_other _ _ (fun e => ?_))
        obtain ⟨cu, hcu⟩ := row_type ho hj
        exact type_ne hcu hh (by decide) e
    · exact (Moves.of_below _ hb).setCell (.inl (.inr rfl)) _ _
/-- put behind a row of nothing -/
theorem append_fresh {w : World} {y n base : Nat} {gv : Value} {l : List Int} (hy : w.heap[y]? = some (.cells #[] 3 (0, 0))) (hby : base ≤ y) (hbs : base ≤ w.heap.size) (hg : w.ownsRow 0 3 1 gv n (l.map (Value.int .i64))) (hbig : n ≤ 1000000) :
    Appends Try.prog 57 w (.slice (some ⟨y, 0, none⟩) 0 0) gv (fun v' w' => w'.ownsRow base 3 1 v' n (l.map (Value.int .i64)) ∧ Below w.heap.size w w') := by
  intro ty
  obtain ⟨i0, hi, hz0, hz1, hz2⟩ := info_parts int_info
  obtain ⟨A, c, rfl, _⟩ := own_shape hg
  have hown : w.ownsRow base 3 1 (.slice (some ⟨y, 0, none⟩) 0 0) 0 [] := ⟨rfl, .inr ⟨y, 0, #[], rfl, hby, hy, Nat.le_refl _, Nat.zero_le _, rfl, rfl⟩⟩
  by_cases h0 : n = 0
  · subst h0
    have hl : l = [] := by have := hg.1; simp at this; exact this
    subst hl
    have hs : Src Try.prog i0.size 57 (.slice A 0 c) 0 [] w := by
      cases A with
      | none => exact Src.ofNil w Try.underlying57 c
      | some ad => exact Src.ofSlice w Try.underlying57 ad 0 c [] (by simp) (fun j u hj => by simp at hj) (fun u hu => by cases hu)
    exact ⟨_, _, run_append_nothing w 57 57 ty 3 i0 Try.underlying57 hi (some ⟨y, 0, none⟩) 0 0 (Nat.le_refl _) _ hs, hown, Below.refl _ _⟩
  · rcases hg.2 with ⟨hv, h1⟩ | ⟨g', c', cur, hv, _, hh, _⟩
    · omega
    · injection hv with hv1 _ hv3
      subst hv1
      obtain ⟨v', w', hr, h2, h3⟩ := run_append_arg_grows (P := Try.prog) (w := w) 57 ty 3 i0 (.int .i64 0) 1 8 Try.underlying57 hi hz0 hz1 hz2 rfl (by decide) ⟨y, 0, none⟩ 0 0 [] rfl (fun j u hj => by simp at hj) ⟨g', 0, none⟩ n c (l.map (Value.int .i64)) (by have := hg.1; simpa using this) (fun j u hj => by
        have hjl := (List.getElem?_eq_some_iff.1 hj).1
        rw [hg.1] at hjl
        have := World.ownsRow.cellAt hg j (by omega)
        rw [hj] at this
        rw [add_off, Nat.zero_add]
        exact this) (by omega) (by unfold maxLen; omega) (by omega)
      rw [Nat.zero_add, List.nil_append] at h2
      exact ⟨v', w', hr, own_base h2 hbs, h3.os, h3.tape, h3.output, h3.size, fun i hi => h3.block i hi (by simp)⟩
/-- what the operations of Join's region yield -/
def VJ (B : Nat) (n : Nat) (gs : List Int) (x : Int) : Nat → Value → World → Prop
  | 5, v, w => ∃ y, v = .slice (some ⟨y, 0, none⟩) 0 0 ∧ B ≤ y ∧ w.heap[y]? = some (.cells #[] 3 (0, 0))
  | 16, v, w => ∃ z, v = .slice (some ⟨z, 0, none⟩) 1 1 ∧ w.heap[z]? = some (.cells #[.int .i64 x] 3 (0, 0))
  | 14, v, w => w.ownsRow B 3 1 v n (gs.map (Value.int .i64))
  | _, _, _ => True
theorem VJ.stable {B n : Nat} {gs : List Int} {x : Int} (i : Nat) (v : Value) (w w' : World) (hb : Below w.heap.size w w') (h : VJ B n gs x i v w) : VJ B n gs x i v w' := by
  unfold VJ at h ⊢
  split at h
  · obtain ⟨y, h1, h2, h3⟩ := h
    exact ⟨y, h1, h2, (hb.block y (block_lt h3)).trans h3⟩
  · obtain ⟨z, h1, h3⟩ := h
    exact ⟨z, h1, (hb.block z (block_lt h3)).trans h3⟩
  · exact row_keeps h (fun i hi => hb.block i (h.lt i hi).2)
  · trivial
theorem join_set {w : World} {r : Nat} {V : Value} {us : List SU} (h : RSIn w r V us) {i : Nat} {u : SU} (hi : us[i]? = some u) (f : SV → SV) (hf : ∀ t, t.sap ≠ u.1.sap → f t = t) : (us.map (·.1)).set i (f u.1) = (us.map (·.1)).map f :=
  set_map h.ok.rise (by rw [List.getElem?_map, hi]; rfl) (fun t _ ht => hf t ht)
set_option maxRecDepth 100000 in
set_option maxHeartbeats 1600000 in
theorem rjoin_yes {w : World} {r : Nat} {V : Value} {us : List SU} (h : RSIn w r V us) {k x : Int} (he : joinE (us.map (·.1)) k x = 0) :
    Calls Try.prog 59 #[ptr r, .int .i64 k, .int .i64 x] w fun e w' => e = .returned (.int .i64 0) ∧ Hid (RSNow r V (joinS (us.map (·.1)) k x) w w') := by
  obtain ⟨o1, o2, o3⟩ := joinE_0 he
  obtain ⟨i, u, hi, hsk, hno⟩ := placeU_ex o2
  have HF := rat_at h k i u hi hsk hno
  have c1 := rgroup_any x
  rw [decide_eq_true o1] at c1
  have hil := (List.getElem?_eq_some_iff.1 hi).1
  obtain ⟨g, cp, hv, hncp, hgl, _, _, hgc, hgf⟩ := h.row.cell hi
  have hG := h.grp u (List.mem_of_getElem? hi)
  have hin0 : u.1.gs.contains x = false := by rw [← (us_at h hi x).1, hsk]; exact o3
  obtain ⟨gv, hgv⟩ : ∃ gv, gv = u.2 := ⟨_, rfl⟩
  unfold GrpIn at hG
  rw [← hgv] at hgc hG
  obtain ⟨m, hm⟩ : ∃ m, m = u.1.gs.length := ⟨_, rfl⟩
  rw [← hm] at hG
  obtain ⟨Ag, cg, rfl, _⟩ := own_shape hG
  have hm127 : m ≤ 1000 := by
    have hn := (h.ok.ok u.1 (List.mem_map.2 ⟨u, List.mem_of_getElem? hi, rfl⟩)).2.2
    have := nodup_le u.1.gs ((List.range 256).map fun (i : Nat) => (i : Int)) hn.2 (fun x hx => by
      have := hn.1 x hx
      unfold OkGrp at this
      exact List.mem_map.2 ⟨x.toNat, List.mem_range.2 (by omega), by omega⟩)
    simp at this
    omega
  have c3 := rin_any (c := cg) (w := w) x hm.symm (by omega) (Nums.of_own hG)
  rw [hin0] at c3
  have HG : Hid (∀ wx, Below w.heap.size w wx → wx.ownsRow 0 3 1 (.slice Ag m cg) m (u.1.gs.map (Value.int .i64))) := cover (fun wx hb => row_keeps hG (fun j hj => hb.block j (hG.lt j hj).2))
  have HH := cover (And.intro h (And.intro hi (And.intro hsk (And.intro he hm))))
  have hlen := h.len
  obtain ⟨n, hn⟩ : ∃ n, n = us.length := ⟨_, rfl⟩
  rw [← hn] at hv hncp hil hlen
  have HNL := cover hn
  have hrl := block_lt h.hd
  have hcl2 := h.cell0
  rw [hv] at hcl2
  have HV := cover hv
  have hfz := hgf (i * 3 + 2)
  have h4 : (fun W' : World => W'.cell? ⟨r, 0, none⟩ = some (.slice (some ⟨g, 0, none⟩) n cp) ∧ W'.cell? ⟨g, i * 3 + 2, none⟩ = some (.slice Ag m cg) ∧ W'.frozen? ⟨g, i * 3 + 2, none⟩ = false ∧ Below w.heap.size w W') w.drew := ⟨hcl2, hgc, hfz, (Below.refl _ _).drew⟩
  have HS : Hid (∀ wx, Below w.heap.size w wx → wx.cell? ⟨r, 0, none⟩ = some (.slice (some ⟨g, 0, none⟩) n cp) ∧ wx.cell? ⟨g, i * 3 + 2, none⟩ = some (.slice Ag m cg) ∧ wx.frozen? ⟨g, i * 3 + 2, none⟩ = false) := cover (fun wx hb => ⟨(hb.cell (p := ⟨r, 0, none⟩) hrl).trans hcl2, (hb.cell (p := ⟨g, i * 3 + 2, none⟩) hgl).trans hgc, by have h0 := hb.block g hgl; unfold World.frozen? at hfz ⊢; rw [h0]; exact hfz⟩)
  clear h o1 o2 o3 hi hsk hno he hv hG hgv hm hin0 hgf hn
  have hin : (i : Int) < (n : Int) := by omega
  have hi0 : (0 : Int) ≤ (i : Int) := by omega
  have hi9 : ¬ (i : Int) < 0 := by omega
  have mixed : Try.prog.follows .mixedOrders = true := by kernel_rfl
  go_enter Try.func59, Try.ntmps59
  go_wp2_with (first
    | (go_at_call 43; refine HF.mono ?_; rintro e w1 ⟨rfl, rfl⟩)
    | (go_at_call 76; refine (c1 _).mono ?_; rintro e w1 ⟨rfl, rfl⟩)
    | (go_at_call 42; refine c3.mono ?_; rintro e w1 ⟨rfl, rfl⟩))
  refine (wpIn_wide (n := 0)).1 ?_
  refine held_begin (fun W' : World => W'.cell? ⟨r, 0, none⟩ = some (.slice (some ⟨g, 0, none⟩) n cp) ∧ W'.cell? ⟨g, i * 3 + 2, none⟩ = some (.slice Ag m cg) ∧ W'.frozen? ⟨g, i * 3 + 2, none⟩ = false ∧ Below w.heap.size w W') 20 mixed ?_
  refine hold_take 0 _ rfl (by kernel_rfl) (by kernel_rfl) (by kernel_rfl) (by kernel_rfl) (by kernel_rfl) (fun _ _ _ h => h) (by rfl) (fun _ => rfl) h4 (fun w' hS => by obtain ⟨q0, q1, q2, q3⟩ := hS; go_simp; rfl) ?_
  simp only [Act.put, List.setIfInBounds_toArray, List.set_cons_zero, List.set_cons_succ]
  refine hold_take 1 _ rfl (by kernel_rfl) (by kernel_rfl) (by kernel_rfl) (by kernel_rfl) (by kernel_rfl) (fun _ _ _ h => h) (by rfl) (fun _ => rfl) h4 (fun w' hS => by obtain ⟨q0, q1, q2, q3⟩ := hS; go_simp; rfl) ?_
  simp only [Act.put, List.setIfInBounds_toArray, List.set_cons_zero, List.set_cons_succ]
  refine hold_take 2 _ rfl (by kernel_rfl) (by kernel_rfl) (by kernel_rfl) (by kernel_rfl) (by kernel_rfl) (fun _ _ _ h => h) (by rfl) (fun _ => rfl) h4 (fun w' hS => by obtain ⟨q0, q1, q2, q3⟩ := hS; go_simp; rfl) ?_
  simp only [Act.put, List.setIfInBounds_toArray, List.set_cons_zero, List.set_cons_succ]
  refine hold_take 3 _ rfl (by kernel_rfl) (by kernel_rfl) (by kernel_rfl) (by kernel_rfl) (by kernel_rfl) (fun _ _ _ h => h) (by rfl) (fun _ => rfl) h4 (fun w' hS => by obtain ⟨q0, q1, q2, q3⟩ := hS; go_simp; rfl) ?_
  simp only [Act.put, List.setIfInBounds_toArray, List.set_cons_zero, List.set_cons_succ]
  refine hold_take 4 _ rfl (by kernel_rfl) (by kernel_rfl) (by kernel_rfl) (by kernel_rfl) (by kernel_rfl) (fun _ _ _ h => h) (by rfl) (fun _ => rfl) h4 (fun w' hS => by obtain ⟨q0, q1, q2, q3⟩ := hS; go_simp; rfl) ?_
  simp only [Act.put, List.setIfInBounds_toArray, List.set_cons_zero, List.set_cons_succ]
  refine hold_take 6 _ rfl (by kernel_rfl) (by kernel_rfl) (by kernel_rfl) (by kernel_rfl) (by kernel_rfl) (fun _ _ _ h => h) (by rfl) (fun _ => rfl) h4 (fun w' hS => by obtain ⟨q0, q1, q2, q3⟩ := hS; go_simp; rfl) ?_
  simp only [Act.put, List.setIfInBounds_toArray, List.set_cons_zero, List.set_cons_succ]
  refine hold_take 7 _ rfl (by kernel_rfl) (by kernel_rfl) (by kernel_rfl) (by kernel_rfl) (by kernel_rfl) (fun _ _ _ h => h) (by rfl) (fun _ => rfl) h4 (fun w' hS => by obtain ⟨q0, q1, q2, q3⟩ := hS; go_simp; rfl) ?_
  simp only [Act.put, List.setIfInBounds_toArray, List.set_cons_zero, List.set_cons_succ]
  refine hold_take 8 _ rfl (by kernel_rfl) (by kernel_rfl) (by kernel_rfl) (by kernel_rfl) (by kernel_rfl) (fun _ _ _ h => h) (by rfl) (fun _ => rfl) h4 (fun w' hS => by obtain ⟨q0, q1, q2, q3⟩ := hS; go_simp; rfl) ?_
  simp only [Act.put, List.setIfInBounds_toArray, List.set_cons_zero, List.set_cons_succ]
  refine hold_take 9 _ rfl (by kernel_rfl) (by kernel_rfl) (by kernel_rfl) (by kernel_rfl) (by kernel_rfl) (fun _ _ _ h => h) (by rfl) (fun _ => rfl) h4 (fun w' hS => by obtain ⟨q0, q1, q2, q3⟩ := hS; go_simp; rfl) ?_
  simp only [Act.put, List.setIfInBounds_toArray, List.set_cons_zero, List.set_cons_succ]
  refine hold_take 10 _ rfl (by kernel_rfl) (by kernel_rfl) (by kernel_rfl) (by kernel_rfl) (by kernel_rfl) (fun _ _ _ h => h) (by rfl) (fun _ => rfl) h4 (fun w' hS => by obtain ⟨q0, q1, q2, q3⟩ := hS; go_simp; rfl) ?_
  simp only [Act.put, List.setIfInBounds_toArray, List.set_cons_zero, List.set_cons_succ]
  refine hold_take 11 _ rfl (by kernel_rfl) (by kernel_rfl) (by kernel_rfl) (by kernel_rfl) (by kernel_rfl) (fun _ _ _ h => h) (by rfl) (fun _ => rfl) h4 (fun w' hS => by obtain ⟨q0, q1, q2, q3⟩ := hS; go_simp; rfl) ?_
  simp only [Act.put, List.setIfInBounds_toArray, List.set_cons_zero, List.set_cons_succ]
  refine hold_take 12 _ rfl (by kernel_rfl) (by kernel_rfl) (by kernel_rfl) (by kernel_rfl) (by kernel_rfl) (fun _ _ _ h => h) (by rfl) (fun _ => rfl) h4 (fun w' hS => by obtain ⟨q0, q1, q2, q3⟩ := hS; go_simp; rfl) ?_
  simp only [Act.put, List.setIfInBounds_toArray, List.set_cons_zero, List.set_cons_succ]
  refine hold_take 13 _ rfl (by kernel_rfl) (by kernel_rfl) (by kernel_rfl) (by kernel_rfl) (by kernel_rfl) (fun _ _ _ h => h) (by rfl) (fun _ => rfl) h4 (fun w' hS => by obtain ⟨q0, q1, q2, q3⟩ := hS; go_simp; rfl) ?_
  simp only [Act.put, List.setIfInBounds_toArray, List.set_cons_zero, List.set_cons_succ]
  refine hold_take 15 _ rfl (by kernel_rfl) (by kernel_rfl) (by kernel_rfl) (by kernel_rfl) (by kernel_rfl) (fun _ _ _ h => h) (by rfl) (fun _ => rfl) h4 (fun w' hS => by obtain ⟨q0, q1, q2, q3⟩ := hS; go_simp; rfl) ?_
  simp only [Act.put, List.setIfInBounds_toArray, List.set_cons_zero, List.set_cons_succ]
  refine net_law (k := 4) [(5, 34), (16, 45), (14, 43)] (VJ w.heap.size m u.1.gs x) (fun a b => Below a.heap.size a b) _
    #[true, true, true, true, true, true, true, true, true, true, true, true, true, true, true, true, true, false, false, false, false] _ _ (by kernel_rfl) h4 VJ.stable ?_ ?_
  · intro y hy o ho uu W hSW hd
    have hsW := hSW.2.2.2.size
    have keep : ∀ W', Below W.heap.size W W' → (fun W' : World => W'.cell? ⟨r, 0, none⟩ = some (.slice (some ⟨g, 0, none⟩) n cp) ∧ W'.cell? ⟨g, i * 3 + 2, none⟩ = some (.slice Ag m cg) ∧ W'.frozen? ⟨g, i * 3 + 2, none⟩ = false ∧ Below w.heap.size w W') W' := fun W' hb => by
      obtain ⟨q0, q1, q2, q3⟩ := hSW
      have hw' := q3.trans (hb.mono hsW)
      have hS := HS.out W' hw'
      exact ⟨hS.1, hS.2.1, hS.2.2, hw'⟩
    simp only [List.mem_cons, List.not_mem_nil, or_false] at hy
    rcases hy with rfl | rfl | rfl
    · obtain rfl := op_of ho rfl
      simp only [upd, List.foldl_cons, List.foldl_nil, List.setIfInBounds_toArray, List.set_cons_zero, List.set_cons_succ]
      go_simp
      have hb := (Below.refl W.heap.size W).alloc (Nat.le_refl _) (.cells #[] 3)
      exact ⟨keep _ hb, ⟨W.heap.size, rfl, hsW, heap_alloc_new _ _⟩, hb⟩
    · obtain rfl := op_of ho rfl
      simp only [upd, List.foldl_cons, List.foldl_nil, List.setIfInBounds_toArray, List.set_cons_zero, List.set_cons_succ]
      go_simp
      have hb := (Below.refl W.heap.size W).alloc (Nat.le_refl _) (.cells #[.int .i64 x] 3)
      exact ⟨keep _ hb, ⟨W.heap.size, rfl, heap_alloc_new _ _⟩, hb⟩
    · obtain rfl := op_of ho rfl
      simp only [upd, List.foldl_cons, List.foldl_nil, List.setIfInBounds_toArray, List.set_cons_zero, List.set_cons_succ]
      obtain ⟨y, e34, hBy, hy0⟩ : VJ w.heap.size m u.1.gs x 5 (uu 34) W := hd (5, 34) (by simp) (by kernel_rfl)
      rw [e34]
      obtain ⟨v', w', hr, k1, k2⟩ := append_fresh hy0 hBy hsW (HG.out W hSW.2.2.2) (by omega) 57
      refine run_in (fun c h => by cases h) (fun _ _ => trivial) (v := v') (w' := w') (appends_exec _ _ _ _ rfl (.slice (some ⟨y, 0, none⟩) 0 0) (.slice Ag m cg) (by go_simp) (by go_simp) hr) ?_
      exact ⟨v', rfl, keep _ k2, k1, k2⟩
  · intro uu W hSW hV
    obtain ⟨z, e45, hz⟩ : VJ w.heap.size m u.1.gs x 16 (uu 45) W := hV (16, 45) (by simp)
    have ho14 : W.ownsRow w.heap.size 3 1 (uu 43) m (u.1.gs.map (Value.int .i64)) := hV (14, 43) (by simp)
    obtain ⟨v14, hv14⟩ : ∃ v, v = uu 43 := ⟨_, rfl⟩
    rw [← hv14] at ho14
    have hB3 := hSW.2.2.2
    have hsW := hB3.size
    simp only [upd, List.foldl_cons, List.foldl_nil, List.setIfInBounds_toArray, List.set_cons_zero, List.set_cons_succ]
    rw [e45, ← hv14]
    clear hV e45 hv14
    obtain ⟨v5, w5, hr5, k1, k3⟩ := append_i ho14 ⟨z, 0, none⟩ 1 1 [x] rfl (fun j u hj => by
      rw [add_off, Nat.zero_add, cell_of_row _ _ _ _ _ _ hz]
      simpa using hj) hsW (by omega) 57
    have hb5 : Below w.heap.size w w5 := below_grown hB3 hsW ho14 k3
    have hS5 := HS.out w5 hb5
    have h35 : (fun W' : World => W'.cell? ⟨r, 0, none⟩ = some (.slice (some ⟨g, 0, none⟩) n cp) ∧ W'.cell? ⟨g, i * 3 + 2, none⟩ = some (.slice Ag m cg) ∧ W'.frozen? ⟨g, i * 3 + 2, none⟩ = false ∧ Below w.heap.size w W') w5 := ⟨hS5.1, hS5.2.1, hS5.2.2, hb5⟩
    refine hold_one 17 (by kernel_rfl) rfl (by rfl) fun K hK => ?_
    refine run_in (fun c h => by cases h) (fun _ _ => trivial) (v := v5) (w' := w5) (appends_exec _ _ _ _ rfl v14 (.slice (some ⟨z, 0, none⟩) 1 1) (by go_simp) (by go_simp) hr5) ?_
    refine hK _ _ (.inr h35) ?_
    clear hK K hr5
    simp only [Act.put, List.setIfInBounds_toArray, List.set_cons_zero, List.set_cons_succ]
    have HN : Hid (RSNow r (.slice (some ⟨g, 0, none⟩) n cp) (joinS (us.map (·.1)) k x) w (w5.setCell ⟨g, i * 3 + 2, none⟩ v5)) := cover (by
      obtain ⟨hh, hi, hsk, he, hm⟩ := HH.out
      have hV' := HV.out
      subst hV'
      have hj : (us.map (·.1)).set i ⟨u.1.sap, u.1.cls, u.1.gs ++ [x]⟩ = joinS (us.map (·.1)) k x := by
        rw [joinS_yes he, ← join_set hh hi (joinF k x) (fun t ht => by unfold joinF; rw [if_neg (by rw [← hsk]; exact ht)])]
        unfold joinF
        rw [if_pos hsk]
      have hok := hh.ok.join k x
      rw [← hj] at hok ⊢
      have hNL := HNL.out
      subst hNL
      exact hh.setGrp hb5 hi _ v5 (by rw [List.length_append, ← hm]; exact k1) hok)
    rw [← HV.out] at HN
    refine hold_one 18 (by kernel_rfl) rfl (by rfl) fun K hK => ?_
    go_simp
    refine hK _ _ (.inr h35) ?_
    clear hK K
    refine hold_one 19 (by kernel_rfl) rfl (by rfl) fun K hK => ?_
    go_simp
    refine hK _ _ (.inr h35) ?_
    clear hK K
    refine hold_one 20 (by kernel_rfl) rfl (by rfl) fun K hK => ?_
    obtain ⟨q0, q1, q2, q3⟩ := h35
    obtain ⟨A5, c5, rfl, _⟩ := own_shape k1
    go_simp
    refine hK _ _ (.inl rfl) (held_done (by kernel_rfl) ?_ _)
    clear hK K
    go_wp2
    go_ret
    exact ⟨rfl, HN⟩
end Go.Proofs.Ytgpmimohoepeiaa

namespace Go.Proofs.Ytgpmimohoepeiaa
open Go.RowKit
set_option linter.unusedVariables false

set_option maxRecDepth 100000 in
set_option maxHeartbeats 1600000 in
theorem rjoin_any {w : World} {r : Nat} {V : Value} {us : List SU} (h : RSIn w r V us) (k x : Int) :
    Calls Try.prog 59 #[ptr r, .int .i64 k, .int .i64 x] w fun e w' => e = .returned (.int .i64 (joinE (us.map (·.1)) k x)) ∧ Hid (RSNow r V (joinS (us.map (·.1)) k x) w w') := by
  have HN := cover (RSNow.below h (Below.refl _ _))
  have c1 := rgroup_any x
  by_cases ho : OkGrp x
  · rw [decide_eq_true ho] at c1
    cases o2 : hasS (us.map (·.1)) k
    · obtain ⟨e1, e2⟩ := join_7 ho o2
      rw [e1, e2]
      have HF := rat_none h k o2
      clear e1 e2 o2 ho h
      go_enter Try.func59, Try.ntmps59
      go_wp2_with (first
        | (go_at_call 43; refine HF.mono ?_; rintro e w1 ⟨rfl, rfl⟩)
        | (go_at_call 76; refine (c1 _).mono ?_; rintro e w1 ⟨rfl, rfl⟩))
      go_ret
      exact ⟨rfl, HN⟩
    · cases o3 : memS (us.map (·.1)) k x
      · have he := join_yes ho o2 o3
        rw [he]
        exact rjoin_yes h he
      · obtain ⟨e1, e2⟩ := join_8 ho o2 o3
        rw [e1, e2]
        obtain ⟨i, u, hi, hsk, hno⟩ := placeU_ex o2
        have HF := rat_at h k i u hi hsk hno
        have hil := (List.getElem?_eq_some_iff.1 hi).1
        obtain ⟨g, cp, hv, hncp, hgl, _, _, hgc, hgf⟩ := h.row.cell hi
        have hG := h.grp u (List.mem_of_getElem? hi)
        have hin0 := (us_at h hi x).1
        rw [hsk] at hin0
        obtain ⟨gv, hgv⟩ : ∃ gv, gv = u.2 := ⟨_, rfl⟩
        unfold GrpIn at hG
        rw [← hgv] at hgc hG
        obtain ⟨m, hm⟩ : ∃ m, m = u.1.gs.length := ⟨_, rfl⟩
        rw [← hm] at hG
        obtain ⟨Ag, cg, rfl, _⟩ := own_shape hG
        have hm127 : m ≤ 1000 := by
          have hn := (h.ok.ok u.1 (List.mem_map.2 ⟨u, List.mem_of_getElem? hi, rfl⟩)).2.2
          have := nodup_le u.1.gs ((List.range 256).map fun (i : Nat) => (i : Int)) hn.2 (fun x hx => by
            have := hn.1 x hx
            unfold OkGrp at this
            exact List.mem_map.2 ⟨x.toNat, List.mem_range.2 (by omega), by omega⟩)
          simp at this
          omega
        have c3 := rin_any (c := cg) (w := w) x hm.symm (by omega) (Nums.of_own hG)
        rw [← hin0] at c3
        have hlen := h.len
        obtain ⟨n, hn⟩ : ∃ n, n = us.length := ⟨_, rfl⟩
        rw [← hn] at hv hncp hil hlen
        have hrl := block_lt h.hd
        have hcl2 := h.cell0
        rw [hv] at hcl2
        have hin : (i : Int) < (n : Int) := by omega
        have hi0 : (0 : Int) ≤ (i : Int) := by omega
        have hi9 : ¬ (i : Int) < 0 := by omega
        rw [o3] at c3
        clear e1 e2 o2 o3 ho h hi hsk hno hv hG hgv hm hin0 hgf hn
        go_enter Try.func59, Try.ntmps59
        go_wp2_with (first
          | (go_at_call 43; refine HF.mono ?_; rintro e w1 ⟨rfl, rfl⟩)
          | (go_at_call 76; refine (c1 _).mono ?_; rintro e w1 ⟨rfl, rfl⟩)
          | (go_at_call 42; refine c3.mono ?_; rintro e w1 ⟨rfl, rfl⟩))
        go_ret
        exact ⟨rfl, HN⟩
  · rw [decide_eq_false ho] at c1
    obtain ⟨e1, e2⟩ := join_1 (l := us.map (·.1)) (n := k) ho
    rw [e1, e2]
    obtain ⟨n, p, hf⟩ := foundU_ex us k
    have HF := rat_go h k n p hf
    clear e1 e2 ho hf h
    go_enter Try.func59, Try.ntmps59
    go_wp2_with (first
      | (go_at_call 43; refine HF.mono ?_; rintro e w1 ⟨rfl, rfl⟩)
      | (go_at_call 76; refine (c1 _).mono ?_; rintro e w1 ⟨rfl, rfl⟩))
    go_ret
    exact ⟨rfl, HN⟩

/-- those that stay, so far -/
def stayL (gs : List Int) (x : Int) (j : Nat) : List Int := (gs.take j).filter (· != x)
theorem stayL_succ {gs : List Int} {x : Int} {j : Nat} {y : Int} (hy : gs[j]? = some y) : stayL gs x (j + 1) = if y = x then stayL gs x j else stayL gs x j ++ [y] := by
  unfold stayL
  rw [List.take_add_one, hy, List.filter_append]
  by_cases e : y = x
  · rw [if_pos e]; simp [e]
  · rw [if_neg e]; simp [e]
theorem stayL_len (gs : List Int) (x : Int) (j : Nat) : (stayL gs x j).length ≤ gs.length := by
  unfold stayL
  refine Nat.le_trans (List.length_filter_le _ _) ?_
  rw [List.length_take]; omega
set_option maxRecDepth 100000 in
set_option maxHeartbeats 1600000 in
theorem rleave_yes {w : World} {r : Nat} {V : Value} {us : List SU} (h : RSIn w r V us) {k x : Int} (he : leaveE (us.map (·.1)) k x = 0) :
    Calls Try.prog 61 #[ptr r, .int .i64 k, .int .i64 x] w fun e w' => e = .returned (.int .i64 0) ∧ Hid (RSNow r V (leaveS (us.map (·.1)) k x) w w') := by
  obtain ⟨o1, o3⟩ := leaveE_0 he
  have o2 := mem_has o3
  have c1 := rgroup_any x
  rw [decide_eq_true o1] at c1
  obtain ⟨i, u, hi, hsk, hno⟩ := placeU_ex o2
  have HF := rat_at h k i u hi hsk hno
  have hil := (List.getElem?_eq_some_iff.1 hi).1
  obtain ⟨g, cp, hv, hncp, hgl, _, _, hgc, hgf⟩ := h.row.cell hi
  have hG := h.grp u (List.mem_of_getElem? hi)
  have hin0 := (us_at h hi x).1
  rw [hsk] at hin0
  obtain ⟨gv, hgv⟩ : ∃ gv, gv = u.2 := ⟨_, rfl⟩
  unfold GrpIn at hG
  rw [← hgv] at hgc hG
  obtain ⟨m, hm⟩ : ∃ m, m = u.1.gs.length := ⟨_, rfl⟩
  rw [← hm] at hG
  obtain ⟨Ag, cg, rfl, _⟩ := own_shape hG
  have hm127 : m ≤ 1000 := by
    have hn := (h.ok.ok u.1 (List.mem_map.2 ⟨u, List.mem_of_getElem? hi, rfl⟩)).2.2
    have := nodup_le u.1.gs ((List.range 256).map fun (i : Nat) => (i : Int)) hn.2 (fun x hx => by
      have := hn.1 x hx
      unfold OkGrp at this
      exact List.mem_map.2 ⟨x.toNat, List.mem_range.2 (by omega), by omega⟩)
    simp at this
    omega
  have c3 := rin_any (c := cg) (w := w) x hm.symm (by omega) (Nums.of_own hG)
  rw [← hin0] at c3
  have hlen := h.len
  obtain ⟨n, hn⟩ : ∃ n, n = us.length := ⟨_, rfl⟩
  rw [← hn] at hv hncp hil hlen
  have hrl := block_lt h.hd
  have hcl2 := h.cell0
  rw [hv] at hcl2
  have hin : (i : Int) < (n : Int) := by omega
  have hi0 : (0 : Int) ≤ (i : Int) := by omega
  have hi9 : ¬ (i : Int) < 0 := by omega
  rw [o3] at c3
  have hfz := hgf (i * 3 + 2)
  have HS : Hid (∀ wx, Below w.heap.size w wx → wx.cell? ⟨r, 0, none⟩ = some (.slice (some ⟨g, 0, none⟩) n cp) ∧ wx.cell? ⟨g, i * 3 + 2, none⟩ = some (.slice Ag m cg) ∧ wx.frozen? ⟨g, i * 3 + 2, none⟩ = false) := cover (fun wx hb => ⟨(hb.cell (p := ⟨r, 0, none⟩) hrl).trans hcl2, (hb.cell (p := ⟨g, i * 3 + 2, none⟩) hgl).trans hgc, by have h0 := hb.block g hgl; unfold World.frozen? at hfz ⊢; rw [h0]; exact hfz⟩)
  have HG : Hid (∀ wx, Below w.heap.size w wx → Nums wx Ag u.1.gs) := cover (fun wx hb => Nums.of_own (row_keeps hG (fun j hj => hb.block j (hG.lt j hj).2)))
  have HH := cover (And.intro h (And.intro hi (And.intro hsk (And.intro he hm))))
  have HNL := cover hn
  have HV := cover hv
  have hcap := own_cap hG
  clear h o1 o2 o3 hi hsk hno he hv hG hgv hm hin0 hgf hn
  go_enter Try.func61, Try.ntmps61
  go_wp2_with (first
    | (go_at_call 43; refine HF.mono ?_; rintro e w1 ⟨rfl, rfl⟩)
    | (go_at_call 76; refine (c1 _).mono ?_; rintro e w1 ⟨rfl, rfl⟩)
    | (go_at_call 42; refine c3.mono ?_; rintro e w1 ⟨rfl, rfl⟩))
  clear HF c1 c3 hcl2 hgc hfz
  go_loopw [8, 9] (fun vv jv wr => ∃ (v : Value) (j : Nat), j ≤ m ∧ vv = v ∧ jv = .int .i64 j ∧ Hid (GathAt w (stayL u.1.gs x j) v wr)) (fun _ jv _ => m - (intOf jv).toNat)
  case atStart => exact ⟨_, 0, Nat.zero_le _, rfl, rfl, cover (GathAt.start w)⟩
  case round =>
    obtain ⟨v, j, hj, hv, rfl, hrel⟩ := hrel
    have hv2 := hv.symm
    subst hv2
    clear hv
    obtain ⟨d0, d1, d2⟩ := HS.out wr hrel.out.bel
    have HL := cover (stayL_len u.1.gs x j)
    by_cases hlt : j < m
    · obtain ⟨y, hy⟩ : ∃ y, u.1.gs[j]? = some y := ⟨_, List.getElem?_eq_getElem (by rw [← HH.out.2.2.2.2]; exact hlt)⟩
      obtain ⟨gg, rfl, k1⟩ := HG.out wr hrel.out.bel j y hy
      have hS := stayL_succ (x := x) hy
      by_cases e : y = x
      · rw [if_pos e] at hS
        have e' : (y != x) = false := by simpa using e
        have HN : Hid (GathAt w (stayL u.1.gs x (j + 1)) v wr) := cover (by rw [hS]; exact hrel.out)
        have HE := cover e
        clear hS e hy hrel
        go_wp2
        go_roundw
        case rel => exact ⟨_, j + 1, by omega, rfl, by go_num, HN⟩
        case measure => simp [intOf]; omega
      · rw [if_neg e] at hS
        have e' : (y != x) = true := by simpa using e
        have hsucc := cover hS
        have HE := cover e
        clear hS e hy
        obtain ⟨w7, hw7⟩ : ∃ w7, w7 = wr.alloc (.cells #[.int .i64 y] 3) := ⟨_, rfl⟩
        have hb7 : Below wr.heap.size wr w7 := by rw [hw7]; exact (Below.refl _ _).alloc (Nat.le_refl _) _
        have HAP : Hid (Appends Try.prog 57 w7 v (.slice (some ⟨wr.heap.size, 0, none⟩) 1 1) (fun v' w' => Hid (GathAt w (stayL u.1.gs x (j + 1)) v' w'))) := cover (hrel.out.app hb7 y (by rw [hw7]; exact World.news_of_block (cs := #[.int .i64 y]) (heap_alloc_new wr _)) hsucc.out (by have := HL.out; rw [← HH.out.2.2.2.2] at this; omega))
        clear hb7 hrel
        go_wp2_with (at_builtin; rw [← hw7]; refine appends_list rfl _ _ _ rfl _ _ rfl rfl HAP.out ?_; intro v8 w8 H6)
        clear HAP hw7
        go_wp2
        go_roundw
        case rel => exact ⟨_, j + 1, by omega, rfl, by go_num, H6⟩
        case measure => simp [intOf]; omega
    · obtain rfl : j = m := by omega
      have HN : Hid (RSNow r (.slice (some ⟨g, 0, none⟩) n cp) (leaveS (us.map (·.1)) k x) w (wr.setCell ⟨g, i * 3 + 2, none⟩ v)) := cover (by
        obtain ⟨hh, hi, hsk, he, hm⟩ := HH.out
        have hV' := HV.out
        subst hV'
        have hst : stayL u.1.gs x j = u.1.gs.filter (· != x) := by unfold stayL; rw [hm, List.take_of_length_le (Nat.le_refl _)]
        have hj' : (us.map (·.1)).set i ⟨u.1.sap, u.1.cls, u.1.gs.filter (· != x)⟩ = leaveS (us.map (·.1)) k x := by
          rw [leaveS_yes he, ← join_set hh hi (leaveF k x) (fun t ht => by unfold leaveF; rw [if_neg (by rw [← hsk]; exact ht)])]
          unfold leaveF
          rw [if_pos hsk]
        have hok := hh.ok.leave k x
        rw [← hj'] at hok ⊢
        have hNL := HNL.out
        subst hNL
        have ho := hrel.out.own
        rw [hst] at ho
        exact hh.setGrp hrel.out.bel hi _ v ho hok)
      rw [← HV.out] at HN
      obtain ⟨A5, c5, rfl, _⟩ := own_shape hrel.out.own
      clear hrel
      go_wp2
      go_ret
      exact ⟨rfl, HN⟩
set_option maxRecDepth 100000 in
set_option maxHeartbeats 1600000 in
theorem rleave_any {w : World} {r : Nat} {V : Value} {us : List SU} (h : RSIn w r V us) (k x : Int) :
    Calls Try.prog 61 #[ptr r, .int .i64 k, .int .i64 x] w fun e w' => e = .returned (.int .i64 (leaveE (us.map (·.1)) k x)) ∧ Hid (RSNow r V (leaveS (us.map (·.1)) k x) w w') := by
  have HN := cover (RSNow.below h (Below.refl _ _))
  have c1 := rgroup_any x
  by_cases ho : OkGrp x
  · rw [decide_eq_true ho] at c1
    cases o3 : memS (us.map (·.1)) k x
    · have e1 : leaveE (us.map (·.1)) k x = 7 := by unfold leaveE; rw [if_pos ho, o3]; rfl
      have e2 : leaveS (us.map (·.1)) k x = us.map (·.1) := leaveS_no (by rw [e1]; decide)
      rw [e1, e2]
      cases o2 : hasS (us.map (·.1)) k
      · have HF := rat_none h k o2
        clear e1 e2 o2 o3 ho h
        go_enter Try.func61, Try.ntmps61
        go_wp2_with (first
          | (go_at_call 43; refine HF.mono ?_; rintro e w1 ⟨rfl, rfl⟩)
          | (go_at_call 76; refine (c1 _).mono ?_; rintro e w1 ⟨rfl, rfl⟩))
        go_ret
        exact ⟨rfl, HN⟩
      · skip
        obtain ⟨i, u, hi, hsk, hno⟩ := placeU_ex o2
        have HF := rat_at h k i u hi hsk hno
        have hil := (List.getElem?_eq_some_iff.1 hi).1
        obtain ⟨g, cp, hv, hncp, hgl, _, _, hgc, hgf⟩ := h.row.cell hi
        have hG := h.grp u (List.mem_of_getElem? hi)
        have hin0 := (us_at h hi x).1
        rw [hsk] at hin0
        obtain ⟨gv, hgv⟩ : ∃ gv, gv = u.2 := ⟨_, rfl⟩
        unfold GrpIn at hG
        rw [← hgv] at hgc hG
        obtain ⟨m, hm⟩ : ∃ m, m = u.1.gs.length := ⟨_, rfl⟩
        rw [← hm] at hG
        obtain ⟨Ag, cg, rfl, _⟩ := own_shape hG
        have hm127 : m ≤ 1000 := by
          have hn := (h.ok.ok u.1 (List.mem_map.2 ⟨u, List.mem_of_getElem? hi, rfl⟩)).2.2
          have := nodup_le u.1.gs ((List.range 256).map fun (i : Nat) => (i : Int)) hn.2 (fun x hx => by
            have := hn.1 x hx
            unfold OkGrp at this
            exact List.mem_map.2 ⟨x.toNat, List.mem_range.2 (by omega), by omega⟩)
          simp at this
          omega
        have c3 := rin_any (c := cg) (w := w) x hm.symm (by omega) (Nums.of_own hG)
        rw [← hin0] at c3
        have hlen := h.len
        obtain ⟨n, hn⟩ : ∃ n, n = us.length := ⟨_, rfl⟩
        rw [← hn] at hv hncp hil hlen
        have hrl := block_lt h.hd
        have hcl2 := h.cell0
        rw [hv] at hcl2
        have hin : (i : Int) < (n : Int) := by omega
        have hi0 : (0 : Int) ≤ (i : Int) := by omega
        have hi9 : ¬ (i : Int) < 0 := by omega
        rw [o3] at c3
        clear e1 e2 o2 o3 ho h hi hsk hno hv hG hgv hm hin0 hgf hn
        go_enter Try.func61, Try.ntmps61
        go_wp2_with (first
          | (go_at_call 43; refine HF.mono ?_; rintro e w1 ⟨rfl, rfl⟩)
          | (go_at_call 76; refine (c1 _).mono ?_; rintro e w1 ⟨rfl, rfl⟩)
          | (go_at_call 42; refine c3.mono ?_; rintro e w1 ⟨rfl, rfl⟩))
        go_ret
        exact ⟨rfl, HN⟩
    · have he : leaveE (us.map (·.1)) k x = 0 := by unfold leaveE; rw [if_pos ho, o3]; rfl
      rw [he]
      exact rleave_yes h he
  · rw [decide_eq_false ho] at c1
    have e1 : leaveE (us.map (·.1)) k x = 1 := by unfold leaveE; rw [if_neg ho]
    have e2 : leaveS (us.map (·.1)) k x = us.map (·.1) := leaveS_no (by rw [e1]; decide)
    rw [e1, e2]
    obtain ⟨n, p, hf⟩ := foundU_ex us k
    have HF := rat_go h k n p hf
    clear e1 e2 ho hf h
    go_enter Try.func61, Try.ntmps61
    go_wp2_with (first
      | (go_at_call 43; refine HF.mono ?_; rintro e w1 ⟨rfl, rfl⟩)
      | (go_at_call 76; refine (c1 _).mono ?_; rintro e w1 ⟨rfl, rfl⟩))
    go_ret
    exact ⟨rfl, HN⟩
end Go.Proofs.Ytgpmimohoepeiaa

namespace Go.Proofs.Ytgpmimohoepeiaa
open Go.RowKit
set_option linter.unusedVariables false

/-- the document's Saps, all of which lies from block B on -/
def RHas (B : Nat) (w : World) (r : Nat) (l : List SV) : Prop := ∃ V us, us.map (·.1) = l ∧ RSIn w r V us ∧ ∀ i, rfoot r V i → B ≤ i
def isRefO : Obj → Prop := fun o => isTyO 90 o ∨ isTyO 97 o
section
variable {B : Nat} {w w' : World} {r : Nat} {l : List SV}
theorem RHas.size (h : RHas B w r l) : B ≤ w.heap.size := by
  obtain ⟨V, us, _, h1, h2⟩ := h
  have := h2 r (.inl rfl)
  have := block_lt h1.hd
  omega
theorem RHas.below (h : RHas B w r l) (hb : Below w.heap.size w w') : RHas B w' r l := by
  obtain ⟨V, us, h0, h1, h2⟩ := h; exact ⟨V, us, h0, h1.below hb, h2⟩
theorem RHas.drewN (h : RHas B w r l) (n : Nat) : RHas B (w.drewN n) r l := by
  obtain ⟨V, us, h0, h1, h2⟩ := h; exact ⟨V, us, h0, h1.drewN n, h2⟩
theorem RHas.map_kept (h : RHas B w r l) (k : KeepO isMapO w w') : RHas B w' r l := by
  obtain ⟨V, us, h0, h1, h2⟩ := h
  exact ⟨V, us, h0, h1.kept k (fun _ _ => map_cells _ _ _) (fun _ _ => map_cells _ _ _) (fun _ _ => map_cells _ _ _), h2⟩
theorem ref_ne {t : TypeId} (h1 : t ≠ 90) (h2 : t ≠ 97) (cur : Array Value) (fr : Nat × Nat) : ¬ isRefO (.cells cur t fr) := by
  rintro (h | h)
  · exact ty_ne h1 _ _ h
  · exact ty_ne h2 _ _ h
theorem SHas.ref_kept {s : Nat} (h : SHas B w s l) (k : KeepO isRefO w w') : SHas B w' s l :=
  h.kept k (fun es c => by rintro (h | h) <;> exact ty_map _ _ h) (fun cur fr => ref_ne (by decide) (by decide) _ _)
/-- what a deed of the document's Saps leaves behind -/
def RDone (B r : Nat) (l' : List SV) (w w' : World) : Prop := RHas B w' r l' ∧ Below B w w' ∧ KeepO isRefO w w'
theorem RSNow.done {V : Value} {us : List SU} {l' : List SV} (h : RSIn w r V us) (n : RSNow r V l' w w') (hV : ∀ i, rfoot r V i → B ≤ i) (hB : B ≤ w.heap.size) : RDone B r l' w w' := by
  obtain ⟨V', us', h0, h1, h2⟩ := n
  refine ⟨⟨V', us', h0, h1, fun i hi => (h2.own i hi).elim (hV i) (fun h => Nat.le_trans hB h)⟩, Moves.below (Below.refl B w) h2 hV hB, fun k o hk hp => ?_⟩
  refine (h2.block k (block_lt hk) (fun hf => hp ?_)).trans hk
  rcases hf with rfl | hf
  · rw [h.hd] at hk
    exact .inl ⟨_, _, (Option.some.inj hk).symm⟩
  · obtain ⟨cur, hc⟩ := row_type h.row hf
    rw [hk] at hc
    exact .inr ⟨_, _, Option.some.inj hc⟩
theorem ropen_kp (h : RHas B w r l) (n c : Int) : Calls Try.prog 55 #[ptr r, .int .i64 n, .int .i64 c] w fun e w' => e = .returned (.int .i64 (openE l n c)) ∧ Hid (RDone B r (openS l n c) w w') := by
  have hB := h.size
  obtain ⟨V, us, rfl, h1, h2⟩ := h
  refine (ropen_any h1 n c).mono ?_
  rintro e w' ⟨rfl, hh⟩
  exact ⟨rfl, cover (RSNow.done h1 hh.out h2 hB)⟩
theorem rclose_kp (h : RHas B w r l) (n : Int) : Calls Try.prog 57 #[ptr r, .int .i64 n] w fun e w' => e = .returned (.int .i64 (closeE l n)) ∧ Hid (RDone B r (closeS l n) w w') := by
  have hB := h.size
  obtain ⟨V, us, rfl, h1, h2⟩ := h
  refine (rclose_any h1 n).mono ?_
  rintro e w' ⟨rfl, hh⟩
  exact ⟨rfl, cover (RSNow.done h1 hh.out h2 hB)⟩
theorem rjoin_kp (h : RHas B w r l) (n c : Int) : Calls Try.prog 59 #[ptr r, .int .i64 n, .int .i64 c] w fun e w' => e = .returned (.int .i64 (joinE l n c)) ∧ Hid (RDone B r (joinS l n c) w w') := by
  have hB := h.size
  obtain ⟨V, us, rfl, h1, h2⟩ := h
  refine (rjoin_any h1 n c).mono ?_
  rintro e w' ⟨rfl, hh⟩
  exact ⟨rfl, cover (RSNow.done h1 hh.out h2 hB)⟩
theorem rleave_kp (h : RHas B w r l) (n c : Int) : Calls Try.prog 61 #[ptr r, .int .i64 n, .int .i64 c] w fun e w' => e = .returned (.int .i64 (leaveE l n c)) ∧ Hid (RDone B r (leaveS l n c) w w') := by
  have hB := h.size
  obtain ⟨V, us, rfl, h1, h2⟩ := h
  refine (rleave_any h1 n c).mono ?_
  rintro e w' ⟨rfl, hh⟩
  exact ⟨rfl, cover (RSNow.done h1 hh.out h2 hB)⟩
theorem rclass_has (h : RHas B w r l) (n : Int) : Calls Try.prog 29 #[ptr r, .int .i64 n] w fun e w' => e = .returned (.int .i64 (clsS l n)) ∧ w = w' := by
  obtain ⟨V, us, rfl, h1, h2⟩ := h; exact rclass_any h1 n
theorem rhears_has (h : RHas B w r l) (n : Int) : Calls Try.prog 27 #[ptr r, .int .i64 n] w (Out (hearS l n) w) := by
  obtain ⟨V, us, rfl, h1, h2⟩ := h; exact rhears_any h1 n
/-- a new one -/
theorem RHas.made (w : World) (hB : B ≤ w.heap.size) : RHas B (w.alloc (.cells #[.slice none 0 0] 90)) w.heap.size [] :=
  ⟨.slice none 0 0, [], rfl, ⟨heap_alloc_new _ _, World.ownsRow_nil _ _ _ _, fun u hu => (by cases hu), InS.nil⟩, fun i hi => by
    rcases hi with rfl | hi
    · exact hB
    · cases hi⟩
end
/-! a deed -/
def doE (l : List SV) (d n c : Int) : Int := if d ≤ 2 then openE l n c else if d = 3 then closeE l n else if d ≤ 5 then joinE l n c else leaveE l n c
def doS (l : List SV) (d n c : Int) : List SV := if d ≤ 2 then openS l n c else if d = 3 then closeS l n else if d ≤ 5 then joinS l n c else leaveS l n c
theorem InS.deed {l : List SV} (h : InS l) (d n c : Int) : InS (doS l d n c) := by
  unfold doS
  split
  · exact h.open n c
  · split
    · exact h.close n
    · split
      · exact h.join n c
      · exact h.leave n c
/-- both of them: each as it is -/
structure Both (B : Nat) (w : World) (s r : Nat) (l lr : List SV) (wr : World) : Prop where
  has : SHas B wr s l
  ref : RHas B wr r lr
  bel : Below B w wr
section
variable {B : Nat} {w wr w' : World} {s r : Nat} {l l' lr lr' : List SV}
theorem Both.size (h : Both B w s r l lr wr) : B ≤ wr.heap.size := h.has.size
theorem Both.below (h : Both B w s r l lr wr) (hb : Below wr.heap.size wr w') : Both B w s r l lr w' := ⟨h.has.below hb, h.ref.below hb, h.bel.trans (hb.mono h.size)⟩
theorem Both.drewN (h : Both B w s r l lr wr) (n : Nat) : Both B w s r l lr (wr.drewN n) := ⟨h.has.drewN n, h.ref.drewN n, below_drewN h.bel n⟩
theorem Both.onS (h : Both B w s r l lr wr) (d : Done B s l' wr w') : Both B w s r l' lr w' := ⟨d.1, h.ref.map_kept d.2.2, h.bel.trans d.2.1⟩
theorem Both.onR (h : Both B w s r l lr wr) (d : RDone B r lr' wr w') : Both B w s r l lr' w' := ⟨h.has.ref_kept d.2.2, d.1, h.bel.trans d.2.1⟩
end
set_option maxRecDepth 100000 in
set_option maxHeartbeats 1600000 in
theorem do_open {B : Nat} {w wr : World} {s r : Nat} {l lr : List SV} (h : Both B w s r l lr wr) (d n c : Int) (hn : I64 n) (h1 : d ≤ 2) :
    Calls Try.prog 39 #[ptr s, ptr r, .agg #[.int .i64 d, .int .i64 n, .int .i64 c]] wr fun e w' => e = .returned (.bool (openE l n c == openE lr n c)) ∧ Hid (Both B w s r (openS l n c) (openS lr n c) w') := by
  obtain ⟨w1, hw1⟩ : ∃ w1, w1 = wr.alloc (.cells #[.int .i64 d, .int .i64 n, .int .i64 c] 93) := ⟨_, rfl⟩
  have hb1 : Below wr.heap.size wr w1 := by rw [hw1]; exact (Below.refl _ _).alloc (Nat.le_refl _) _
  have hx1 : w1.heap[wr.heap.size]? = some (.cells #[.int .i64 d, .int .i64 n, .int .i64 c] 93 (0, 0)) := by rw [hw1]; exact heap_alloc_new _ _
  have H0 := h.below hb1
  have q0 : w1.cell? ⟨wr.heap.size, 0, none⟩ = some (.int .i64 d) := by rw [cell_of_row _ _ _ _ _ _ hx1]; rfl
  have q1 : w1.cell? ⟨wr.heap.size, 1, none⟩ = some (.int .i64 n) := by rw [cell_of_row _ _ _ _ _ _ hx1]; rfl
  have q2 : w1.cell? ⟨wr.heap.size, 2, none⟩ = some (.int .i64 c) := by rw [cell_of_row _ _ _ _ _ _ hx1]; rfl
  have s1 := open_kp H0.has hn c
  have HH := cover (And.intro H0 hx1)
  clear h hb1 hx1 H0
  go_enter Try.func39, Try.ntmps39
  go_upto_region 1 with fail
  rw [← hw1]
  clear hw1
  go_wp2_with (go_at_call 11; refine s1.mono ?_; rintro e w2 ⟨rfl, hd2⟩; have H1 := cover (HH.out.1.onS hd2.out); have s2 := ropen_kp H1.out.ref n c; have hx2 := hd2.out.2.2 _ _ HH.out.2 (map_cells _ _ _); have p1 : w2.cell? ⟨wr.heap.size, 1, none⟩ = some (.int .i64 n) := (by rw [cell_of_row _ _ _ _ _ _ hx2]; rfl); have p2 : w2.cell? ⟨wr.heap.size, 2, none⟩ = some (.int .i64 c) := (by rw [cell_of_row _ _ _ _ _ _ hx2]; rfl); clear q0 q1 q2 hx2 s1)
  refine s2.mono ?_
  rintro e w3 ⟨rfl, hd3⟩
  have H3 := cover (H1.out.onR hd3.out)
  clear s2 H1 hd3 hd2 p1 p2
  go_wp2
  go_ret
  exact ⟨rfl, H3⟩
set_option maxRecDepth 100000 in
set_option maxHeartbeats 1600000 in
theorem do_close {B : Nat} {w wr : World} {s r : Nat} {l lr : List SV} (h : Both B w s r l lr wr) (d n c : Int) (hn : I64 n) (h1 : ¬ d ≤ 2) (h2 : (d == 3) = true) :
    Calls Try.prog 39 #[ptr s, ptr r, .agg #[.int .i64 d, .int .i64 n, .int .i64 c]] wr fun e w' => e = .returned (.bool (closeE l n == closeE lr n)) ∧ Hid (Both B w s r (closeS l n) (closeS lr n) w') := by
  obtain ⟨w1, hw1⟩ : ∃ w1, w1 = wr.alloc (.cells #[.int .i64 d, .int .i64 n, .int .i64 c] 93) := ⟨_, rfl⟩
  have hb1 : Below wr.heap.size wr w1 := by rw [hw1]; exact (Below.refl _ _).alloc (Nat.le_refl _) _
  have hx1 : w1.heap[wr.heap.size]? = some (.cells #[.int .i64 d, .int .i64 n, .int .i64 c] 93 (0, 0)) := by rw [hw1]; exact heap_alloc_new _ _
  have H0 := h.below hb1
  have q0 : w1.cell? ⟨wr.heap.size, 0, none⟩ = some (.int .i64 d) := by rw [cell_of_row _ _ _ _ _ _ hx1]; rfl
  have q1 : w1.cell? ⟨wr.heap.size, 1, none⟩ = some (.int .i64 n) := by rw [cell_of_row _ _ _ _ _ _ hx1]; rfl
  have q2 : w1.cell? ⟨wr.heap.size, 2, none⟩ = some (.int .i64 c) := by rw [cell_of_row _ _ _ _ _ _ hx1]; rfl
  have s1 := close_kp H0.has hn
  have HH := cover (And.intro H0 hx1)
  clear h hb1 hx1 H0
  go_enter Try.func39, Try.ntmps39
  go_upto_region 1 with fail
  rw [← hw1]
  clear hw1
  go_wp2_with (go_at_call 56; refine s1.mono ?_; rintro e w2 ⟨rfl, hd2⟩; have H1 := cover (HH.out.1.onS hd2.out); have s2 := rclose_kp H1.out.ref n; have hx2 := hd2.out.2.2 _ _ HH.out.2 (map_cells _ _ _); have p1 : w2.cell? ⟨wr.heap.size, 1, none⟩ = some (.int .i64 n) := (by rw [cell_of_row _ _ _ _ _ _ hx2]; rfl); have p2 : w2.cell? ⟨wr.heap.size, 2, none⟩ = some (.int .i64 c) := (by rw [cell_of_row _ _ _ _ _ _ hx2]; rfl); clear q0 q1 q2 hx2 s1)
  refine s2.mono ?_
  rintro e w3 ⟨rfl, hd3⟩
  have H3 := cover (H1.out.onR hd3.out)
  clear s2 H1 hd3 hd2 p1 p2
  go_wp2
  go_ret
  exact ⟨rfl, H3⟩
set_option maxRecDepth 100000 in
set_option maxHeartbeats 1600000 in
theorem do_join {B : Nat} {w wr : World} {s r : Nat} {l lr : List SV} (h : Both B w s r l lr wr) (d n c : Int) (hn : I64 n) (h1 : ¬ d ≤ 2) (h2 : (d == 3) = false) (h3 : d ≤ 5) :
    Calls Try.prog 39 #[ptr s, ptr r, .agg #[.int .i64 d, .int .i64 n, .int .i64 c]] wr fun e w' => e = .returned (.bool (joinE l n c == joinE lr n c)) ∧ Hid (Both B w s r (joinS l n c) (joinS lr n c) w') := by
  obtain ⟨w1, hw1⟩ : ∃ w1, w1 = wr.alloc (.cells #[.int .i64 d, .int .i64 n, .int .i64 c] 93) := ⟨_, rfl⟩
  have hb1 : Below wr.heap.size wr w1 := by rw [hw1]; exact (Below.refl _ _).alloc (Nat.le_refl _) _
  have hx1 : w1.heap[wr.heap.size]? = some (.cells #[.int .i64 d, .int .i64 n, .int .i64 c] 93 (0, 0)) := by rw [hw1]; exact heap_alloc_new _ _
  have H0 := h.below hb1
  have q0 : w1.cell? ⟨wr.heap.size, 0, none⟩ = some (.int .i64 d) := by rw [cell_of_row _ _ _ _ _ _ hx1]; rfl
  have q1 : w1.cell? ⟨wr.heap.size, 1, none⟩ = some (.int .i64 n) := by rw [cell_of_row _ _ _ _ _ _ hx1]; rfl
  have q2 : w1.cell? ⟨wr.heap.size, 2, none⟩ = some (.int .i64 c) := by rw [cell_of_row _ _ _ _ _ _ hx1]; rfl
  have s1 := join_kp H0.has hn c
  have HH := cover (And.intro H0 hx1)
  clear h hb1 hx1 H0
  go_enter Try.func39, Try.ntmps39
  go_upto_region 1 with fail
  rw [← hw1]
  clear hw1
  go_wp2_with (go_at_call 58; refine s1.mono ?_; rintro e w2 ⟨rfl, hd2⟩; have H1 := cover (HH.out.1.onS hd2.out); have s2 := rjoin_kp H1.out.ref n c; have hx2 := hd2.out.2.2 _ _ HH.out.2 (map_cells _ _ _); have p1 : w2.cell? ⟨wr.heap.size, 1, none⟩ = some (.int .i64 n) := (by rw [cell_of_row _ _ _ _ _ _ hx2]; rfl); have p2 : w2.cell? ⟨wr.heap.size, 2, none⟩ = some (.int .i64 c) := (by rw [cell_of_row _ _ _ _ _ _ hx2]; rfl); clear q0 q1 q2 hx2 s1)
  refine s2.mono ?_
  rintro e w3 ⟨rfl, hd3⟩
  have H3 := cover (H1.out.onR hd3.out)
  clear s2 H1 hd3 hd2 p1 p2
  go_wp2
  go_ret
  exact ⟨rfl, H3⟩
set_option maxRecDepth 100000 in
set_option maxHeartbeats 1600000 in
theorem do_leave {B : Nat} {w wr : World} {s r : Nat} {l lr : List SV} (h : Both B w s r l lr wr) (d n c : Int) (hn : I64 n) (h1 : ¬ d ≤ 2) (h2 : (d == 3) = false) (h3 : ¬ d ≤ 5) :
    Calls Try.prog 39 #[ptr s, ptr r, .agg #[.int .i64 d, .int .i64 n, .int .i64 c]] wr fun e w' => e = .returned (.bool (leaveE l n c == leaveE lr n c)) ∧ Hid (Both B w s r (leaveS l n c) (leaveS lr n c) w') := by
  obtain ⟨w1, hw1⟩ : ∃ w1, w1 = wr.alloc (.cells #[.int .i64 d, .int .i64 n, .int .i64 c] 93) := ⟨_, rfl⟩
  have hb1 : Below wr.heap.size wr w1 := by rw [hw1]; exact (Below.refl _ _).alloc (Nat.le_refl _) _
  have hx1 : w1.heap[wr.heap.size]? = some (.cells #[.int .i64 d, .int .i64 n, .int .i64 c] 93 (0, 0)) := by rw [hw1]; exact heap_alloc_new _ _
  have H0 := h.below hb1
  have q0 : w1.cell? ⟨wr.heap.size, 0, none⟩ = some (.int .i64 d) := by rw [cell_of_row _ _ _ _ _ _ hx1]; rfl
  have q1 : w1.cell? ⟨wr.heap.size, 1, none⟩ = some (.int .i64 n) := by rw [cell_of_row _ _ _ _ _ _ hx1]; rfl
  have q2 : w1.cell? ⟨wr.heap.size, 2, none⟩ = some (.int .i64 c) := by rw [cell_of_row _ _ _ _ _ _ hx1]; rfl
  have s1 := leave_kp H0.has hn c
  have HH := cover (And.intro H0 hx1)
  clear h hb1 hx1 H0
  go_enter Try.func39, Try.ntmps39
  go_upto_region 1 with fail
  rw [← hw1]
  clear hw1
  go_wp2_with (go_at_call 60; refine s1.mono ?_; rintro e w2 ⟨rfl, hd2⟩; have H1 := cover (HH.out.1.onS hd2.out); have s2 := rleave_kp H1.out.ref n c; have hx2 := hd2.out.2.2 _ _ HH.out.2 (map_cells _ _ _); have p1 : w2.cell? ⟨wr.heap.size, 1, none⟩ = some (.int .i64 n) := (by rw [cell_of_row _ _ _ _ _ _ hx2]; rfl); have p2 : w2.cell? ⟨wr.heap.size, 2, none⟩ = some (.int .i64 c) := (by rw [cell_of_row _ _ _ _ _ _ hx2]; rfl); clear q0 q1 q2 hx2 s1)
  refine s2.mono ?_
  rintro e w3 ⟨rfl, hd3⟩
  have H3 := cover (H1.out.onR hd3.out)
  clear s2 H1 hd3 hd2 p1 p2
  go_wp2
  go_ret
  exact ⟨rfl, H3⟩
/-- a deed, of both -/
theorem do_any {B : Nat} {w wr : World} {s r : Nat} {l lr : List SV} (h : Both B w s r l lr wr) (d n c : Int) (hn : I64 n) :
    Calls Try.prog 39 #[ptr s, ptr r, .agg #[.int .i64 d, .int .i64 n, .int .i64 c]] wr fun e w' => e = .returned (.bool (doE l d n c == doE lr d n c)) ∧ Hid (Both B w s r (doS l d n c) (doS lr d n c) w') := by
  by_cases h1 : d ≤ 2
  · unfold doE doS
    rw [if_pos h1, if_pos h1, if_pos h1, if_pos h1]
    exact do_open h d n c hn h1
  · by_cases h2 : d = 3
    · unfold doE doS
      rw [if_neg h1, if_neg h1, if_neg h1, if_neg h1, if_pos h2, if_pos h2, if_pos h2, if_pos h2]
      exact do_close h d n c hn h1 (by simpa using h2)
    · by_cases h3 : d ≤ 5
      · unfold doE doS
        rw [if_neg h1, if_neg h1, if_neg h1, if_neg h1, if_neg h2, if_neg h2, if_neg h2, if_neg h2, if_pos h3, if_pos h3, if_pos h3, if_pos h3]
        exact do_join h d n c hn h1 (by simpa using h2) h3
      · unfold doE doS
        rw [if_neg h1, if_neg h1, if_neg h1, if_neg h1, if_neg h2, if_neg h2, if_neg h2, if_neg h2, if_neg h3, if_neg h3, if_neg h3, if_neg h3]
        exact do_leave h d n c hn h1 (by simpa using h2) h3
end Go.Proofs.Ytgpmimohoepeiaa
