/- What slices.IndexFunc and slices.DeleteFunc do, asked by the queue's own question: is the cell gone? -/
import Derived.Test.YtjidhpmjdhjciaaFOps3
namespace Go.Proofs.Ytjidhpmjdhjciaa
open Go.RowKit
set_option linter.unusedVariables false

theorem gone_any (p : Nat) (b : Bool) (w : World) (h : w.cell? ⟨p, 2, none⟩ = some (.bool b)) : Calls Try.prog 65 #[ptr p] w fun e w' => e = .returned (.bool b) ∧ w = w' := by
  go_enter Try.func65, Try.ntmps65
  go_wp2
  go_ret
  exact ⟨rfl, rfl⟩
/-- the first that is gone, or none -/
def IdxOut (ps : List Nat) (f : Nat → Bool) (w : World) (e : Ending) (w' : World) : Prop :=
  w = w' ∧ ((e = .returned (.int .i64 (-1)) ∧ ∀ p ∈ ps, f p = false) ∨ ∃ k p : Nat, e = .returned (.int .i64 k) ∧ ps[k]? = some p ∧ f p = true ∧ ∀ y ∈ ps.take k, f y = false)
set_option maxHeartbeats 800000 in
theorem index_gone {w : World} {G : Option Nat} {A : Option Addr} {c : Nat} {ps : List Nat} (f : Nat → Bool) (h : PRow 95 w G A c ps) (hbig : ps.length ≤ 1000000) (hf : ∀ p ∈ ps, w.cell? ⟨p, 2, none⟩ = some (.bool (f p))) :
    Calls Try.prog 71 #[.slice A ps.length c, .func (.func 65) #[] #[]] w (IdxOut ps f w) := by
  have HF := cover hf
  have HP := cover h
  clear hf h
  generalize hE : IdxOut ps f w = Post
  have HE := cover hE
  clear hE
  go_enter Try.func71, Try.ntmps71
  go_wp2_with fail
  go_loopw [8] (fun i wr => ∃ k : Nat, k ≤ ps.length ∧ i = .int .i64 k ∧ Hid (∀ y ∈ ps.take k, f y = false) ∧ wr = w) (fun i _ => ps.length - (intOf i).toNat)
  case atStart => exact ⟨0, Nat.zero_le _, rfl, cover (by simp), rfl⟩
  case round =>
    obtain ⟨k, hk, rfl, hall, rfl⟩ := hrel
    by_cases hlt : k < ps.length
    · obtain ⟨p, hp⟩ : ∃ p, ps[k]? = some p := ⟨_, List.getElem?_eq_getElem hlt⟩
      obtain ⟨g, o, rfl, rfl, hc⟩ := HP.out.cell hp
      have hg := HF.out p (List.mem_of_getElem? hp)
      have HPK := cover hp
      clear hp
      go_wp2_with fail
      refine (gone_any p (f p) _ hg).mono ?_
      rintro e w' ⟨rfl, rfl⟩
      cases hfp : f p with
      | true =>
        have HN : Hid (∀ e, e = Ending.returned (.int .i64 k) → Post e wr) := cover fun e he => by rw [← HE.out, he]; exact ⟨rfl, .inr ⟨k, p, rfl, HPK.out, hfp, hall.out⟩⟩
        clear hg hfp
        go_wp2
        exact HN.out _ rfl
      | false =>
        have HN : Hid (∀ y ∈ ps.take (k + 1), f y = false) := cover fun y hy => by
          rw [List.take_add_one, HPK.out] at hy
          rcases List.mem_append.1 hy with hy | hy
          · exact hall.out y hy
          · simp at hy; rw [hy]; exact hfp
        clear hg hfp
        go_wp2
        go_roundw
        case rel => exact ⟨k + 1, by omega, by go_num, HN, trivial⟩
        case measure => simp [intOf]; omega
    · obtain rfl : k = ps.length := by omega
      have HN : Hid (∀ e, e = Ending.returned (.int .i64 (-1)) → Post e wr) := cover fun e he => by
        rw [← HE.out, he]; refine ⟨rfl, .inl ⟨rfl, ?_⟩⟩
        have := hall.out; rwa [List.take_length] at this
      go_wp2
      exact HN.out _ rfl

/-- how far DeleteFunc has come: those of the first j that stay lie ahead, the rest where they lay -/
structure DelAt (g o : Nat) (f : Nat → Bool) (ps : List Nat) (n : Nat) (w : World) (j : Nat) (wr : World) : Prop where
  row : ∃ cur, wr.heap[g]? = some (.cells cur 95 (0, 0)) ∧ n ≤ cur.size ∧ (∀ (k y : Nat), ((ps.take j).filter (fun p => !f p))[k]? = some y → cur[o + k]? = some (ptr y)) ∧ (∀ (k y : Nat), j ≤ k → ps[k]? = some y → cur[o + k]? = some (ptr y))
  tur : Turned [g] w wr
def DelOut (ps : List Nat) (f : Nat → Bool) (G : Option Nat) (A : Option Addr) (c : Nat) (w : World) (e : Ending) (w' : World) : Prop :=
  e = .returned (.slice A (ps.filter (fun p => !f p)).length c) ∧ PRow 95 w' G A c (ps.filter (fun p => !f p)) ∧ Turned G.toList w w'
theorem filter_snoc_yes {ps : List Nat} {f : Nat → Bool} {j p : Nat} (h : ps[j]? = some p) (hf : f p = true) : (ps.take (j + 1)).filter (fun p => !f p) = (ps.take j).filter (fun p => !f p) := by
  rw [List.take_add_one, h]; simp [hf]
theorem filter_snoc_no {ps : List Nat} {f : Nat → Bool} {j p : Nat} (h : ps[j]? = some p) (hf : f p = false) : (ps.take (j + 1)).filter (fun p => !f p) = (ps.take j).filter (fun p => !f p) ++ [p] := by
  rw [List.take_add_one, h]; simp [hf]

set_option maxRecDepth 100000 in
set_option maxHeartbeats 1600000 in
theorem delete_gone {w : World} {G : Option Nat} {A : Option Addr} {c : Nat} {ps : List Nat} (f : Nat → Bool) (h : PRow 95 w G A c ps) (hbig : ps.length ≤ 1000000) (hf : ∀ p ∈ ps, w.cell? ⟨p, 2, none⟩ = some (.bool (f p))) (hG : ∀ p ∈ ps, G ≠ some p) :
    Calls Try.prog 64 #[.slice A ps.length c, .func (.func 65) #[] #[]] w (DelOut ps f G A c w) := by
  have HI := index_gone f h hbig hf
  have HF := cover (And.intro hf hG)
  have HP := cover h
  clear hf hG h
  generalize hE : DelOut ps f G A c w = Post
  have HE := cover hE
  clear hE
  go_enter Try.func64, Try.ntmps64
  go_wp2_with fail
  refine HI.mono ?_
  clear HI
  rintro e w1 ⟨rfl, ⟨rfl, hall⟩ | ⟨i, p, rfl, hp, hfp, hall⟩⟩
  · have hflt : ps.filter (fun p => !f p) = ps := List.filter_eq_self.2 (fun p hp => by simp [hall p hp])
    have HN : Hid (∀ e, e = Ending.returned (.slice A ps.length c) → Post e w) := cover fun e he => by
      rw [← HE.out, he]; unfold DelOut; rw [hflt]; exact ⟨rfl, HP.out, Turned.refl _ _⟩
    clear hall hflt
    go_wp2
    exact HN.out _ rfl
  · rcases HP.out.ex with ⟨_, _, _, rfl⟩ | ⟨g, o, cur, rfl, rfl, hcur, hsz, hle, hat⟩
    · simp at hp
    have hil := (List.getElem?_eq_some_iff.1 hp).1
    have hti : (ps.take i).filter (fun p => !f p) = ps.take i := List.filter_eq_self.2 (fun p hp => by simp [hall p hp])
    have HST : Hid (DelAt g o f ps (o + c) w (i + 1) w ∧ ((ps.take (i + 1)).filter (fun p => !f p)).length = i) := by
      have e1 := filter_snoc_yes hp hfp
      refine cover ⟨⟨⟨cur, hcur, hsz, fun k y hk => ?_, fun k y _ hk => hat k y hk⟩, Turned.refl _ _⟩, by rw [e1, hti, List.length_take]; omega⟩
      rw [e1, hti, List.getElem?_take] at hk
      split at hk
      · exact hat k y hk
      · cases hk
    have HSZ := cover hsz
    have hi1 : ((i : Int) == -1) = false := by rw [beq_eq_false_iff_ne]; omega
    clear hcur hsz hat hti hall hp hfp
    go_wp2_with fail
    go_loopw [5, 6, 7] (fun a b _ wr => ∃ ni j : Nat, j ≤ ps.length ∧ ni < j ∧ a = .int .i64 ni ∧ b = .int .i64 j ∧ Hid (DelAt g o f ps (o + c) w j wr ∧ ((ps.take j).filter (fun p => !f p)).length = ni)) (fun _ b _ _ => ps.length - (intOf b).toNat)
    case atStart => exact ⟨i, i + 1, by omega, by omega, rfl, by go_num, HST⟩
    case round =>
      obtain ⟨ni, j, hj, hni, rfl, rfl, hrel⟩ := hrel
      obtain ⟨cur', hcur', hsz', hk1, hk2⟩ := hrel.out.1.row
      by_cases hlt : j < ps.length
      · obtain ⟨y, hy⟩ : ∃ y, ps[j]? = some y := ⟨_, List.getElem?_eq_getElem hlt⟩
        have hc : wr.cell? ⟨g, o + j, none⟩ = some (ptr y) := by rw [cell_of_row _ _ _ _ _ _ hcur']; exact hk2 j y (Nat.le_refl _) hy
        have hym := List.mem_of_getElem? hy
        have hgy : wr.cell? ⟨y, 2, none⟩ = some (.bool (f y)) := by
          rw [← HF.out.1 y hym]
          have hne : y ≠ g := fun e => HF.out.2 y hym (by rw [e])
          have hlt' : y < w.heap.size := by
            have := HF.out.1 y hym
            unfold World.cell? at this
            rcases Nat.lt_or_ge y w.heap.size with h1 | h1
            · exact h1
            · rw [Array.getElem?_eq_none h1] at this; simp at this
          exact World.cell?_of_block (hrel.out.1.tur.block y hlt' (by simpa using hne))
        have HY := cover hy
        have HR := cover (And.intro hcur' (And.intro hsz' (And.intro hk1 hk2)))
        clear hcur' hsz' hk1 hk2 hy hym
        go_wp2_with fail
        refine (gone_any y (f y) _ hgy).mono ?_
        rintro e w' ⟨rfl, rfl⟩
        cases hfy : f y with
        | true =>
          have HN : Hid (DelAt g o f ps (o + c) w (j + 1) wr ∧ ((ps.take (j + 1)).filter (fun p => !f p)).length = ni) := by
            have e1 := filter_snoc_yes HY.out hfy
            exact cover ⟨⟨⟨cur', HR.out.1, HR.out.2.1, fun k z hk => HR.out.2.2.1 k z (by rwa [e1] at hk), fun k z hjk hk => HR.out.2.2.2 k z (by omega) hk⟩, hrel.out.1.tur⟩, by rw [e1]; exact hrel.out.2⟩
          clear hc hgy hfy hrel
          go_wp2
          go_roundw
          case rel => exact ⟨ni, j + 1, by omega, by omega, rfl, by go_num, HN⟩
          case measure => simp [intOf]; omega
        | false =>
          have hnl := hrel.out.2
          have HN : Hid (DelAt g o f ps (o + c) w (j + 1) (wr.setCell ⟨g, o + ni, none⟩ (ptr y)) ∧ ((ps.take (j + 1)).filter (fun p => !f p)).length = ni + 1) := by
            have e1 := filter_snoc_no HY.out hfy
            refine cover ⟨⟨⟨_, set_block HR.out.1 _ _, by simpa using HR.out.2.1, fun k z hk => ?_, fun k z hjk hk => ?_⟩, hrel.out.1.tur.setCell (.inl (by simp)) _ _⟩, by rw [e1, List.length_append, hnl]; rfl⟩
            · rw [e1] at hk
              by_cases hkn : k < ni
              · rw [List.getElem?_append_left (by omega)] at hk
                rw [Array.getElem?_setIfInBounds_ne (by omega)]
                exact HR.out.2.2.1 k z hk
              · rw [List.getElem?_append_right (by omega), hnl] at hk
                have hlt2 := (List.getElem?_eq_some_iff.1 hk).1
                have hk0 : k = ni := by simp at hlt2; omega
                subst hk0
                simp at hk; subst hk
                rw [Array.getElem?_setIfInBounds_self_of_lt (by have := HR.out.2.1; omega)]
            · rw [Array.getElem?_setIfInBounds_ne (by omega)]
              exact HR.out.2.2.2 k z (by omega) hk
          have hcs : ∃ u, wr.cell? ⟨g, o + ni, none⟩ = some u := by
            rw [cell_of_row _ _ _ _ _ _ HR.out.1]; exact ⟨_, Array.getElem?_eq_getElem (by have := HR.out.2.1; omega)⟩
          obtain ⟨u, hcu⟩ := hcs
          have hfu : wr.frozen? ⟨g, o + ni, none⟩ = false := by simp [World.frozen?, HR.out.1]
          clear hgy hfy hrel hnl
          go_wp2
          go_roundw
          case rel => exact ⟨ni + 1, j + 1, by omega, by omega, by go_num, by go_num, HN⟩
          case measure => simp [intOf]; omega
      · obtain rfl : j = ps.length := by omega
        rw [List.take_length] at hrel
        have hnl := hrel.out.2
        rw [List.take_length] at hk1
        have hzv : ∀ w, (zeroValue 95).run Try.prog w = .ok (.pointer none) w := Try.zeroValue95
        obtain ⟨m, hm⟩ : ∃ m, m = ps.length - ni := ⟨_, rfl⟩
        have hclear : ∀ ty cp, (Builtin.clear_ #[90] ty #[.slice (some ⟨g, o + ni, none⟩) (ps.length - ni) cp]).run Try.prog wr = .ok (.tuple #[]) (wr.setCells g (o + ni) (List.replicate (ps.length - ni) (.pointer none))) := fun ty cp =>
          Lib.run_clear_slice wr 90 95 ty (.pointer none) Try.underlying90 hzv rfl rfl g (o + ni) (ps.length - ni) cp (by omega)
            (fun j hj => by rw [cell_of_row _ _ _ _ _ _ hcur', Array.getElem?_eq_getElem (by omega)]; rfl) (fun j hj => by simp [World.frozen?, hcur'])
        obtain ⟨w5, hw5⟩ : ∃ w5, w5 = wr.setCells g (o + ni) (List.replicate (ps.length - ni) (.pointer none)) := ⟨_, rfl⟩
        rw [← hw5] at hclear
        have HN : Hid (∀ e, e = Ending.returned (.slice (some ⟨g, o, none⟩) ni c) → Post e w5) := cover fun e he => by
          rw [← HE.out, he]
          refine ⟨by rw [hnl], ⟨.inr ⟨g, o, _, rfl, rfl, by rw [hw5]; exact setCells_block _ _ _ _ hcur', by rw [setAll_size]; exact hsz', by rw [hnl]; omega, fun k y hk => ?_⟩⟩, by rw [hw5]; exact (hrel.out.1.tur.mono (by simp)).setCells (.inl (by simp)) _ _⟩
          have hkn := (List.getElem?_eq_some_iff.1 hk).1
          rw [setAll_out _ _ _ _ (by omega)]
          exact hk1 k y hk
        have hnc : ¬ (c = ni) := by omega
        clear hcur' hsz' hk1 hk2 hrel hnl hzv hm hw5
        go_wp2_with (at_builtin; refine run_to rfl _ _ (by simp [execOp, resolve, invoke, builtin, hclear, Act.eval, Act.put]) ?_)
        exact HN.out _ rfl
end Go.Proofs.Ytjidhpmjdhjciaa
