/- A lan is made: the walk. -/
import Derived.Test.YtjidhpmjdhjciaaFNew
namespace Go.Proofs.Ytjidhpmjdhjciaa
open Go.RowKit
set_option linter.unusedVariables false

theorem own_below {w w' : World} {base e size n : Nat} {v : Value} {xs : List Value} (h : w.ownsRow base e size v n xs) (hb : Below w.heap.size w w') : w'.ownsRow base e size v n xs := by
  refine ⟨h.1, ?_⟩
  rcases h.2 with h0 | ⟨g, cap, cur, hv, hg, hh, hr⟩
  · exact .inl h0
  · exact .inr ⟨g, cap, cur, hv, hg, (hb.block g (block_lt hh)).trans hh, hr⟩
/-- a lan of which nothing is on its way -/
def LS.fresh (n m life : Nat) : LS := ⟨n, m, life, 0, 0, fun _ => []⟩
def MadeOut (W : World) (n m life : Nat) (e : Ending) (w : World) : Prop :=
  ∃ l S, e = .returned (.tuple #[ptr l, .int .i64 0]) ∧ LIn S w l (LS.fresh n m life) ∧ (∀ i, S i → W.heap.size ≤ i) ∧ Below W.heap.size W w
theorem NewAt.done {W w : World} {l n m life : Nat} (h : NewAt W l n m life (n * n) w) (hn : 1 ≤ n ∧ n ≤ 16) (hm : m ≤ 64) : MadeOut W n m life (.returned (.tuple #[ptr l, .int .i64 0])) w := by
  obtain ⟨⟨qs, A, c, hlen, hl, hown, hdg, hq, hnd⟩, hb, hll⟩ := h
  have hnn : 1 ≤ n * n := Nat.le_trans hn.1 (Nat.le_mul_of_pos_left n hn.1)
  obtain ⟨g, cur, rfl, hgb, hg, hcs, htk⟩ : ∃ g cur, A = some ⟨g, 0, none⟩ ∧ W.heap.size ≤ g ∧ w.heap[g]? = some (.cells cur 70 (0, 0)) ∧ n * n ≤ cur.size ∧ ∀ j, j < n * n → cur[j]? = (qs.map pv)[j]? := by
    rcases hown.2 with ⟨_, h0⟩ | ⟨g, cap, cur, hv, hgb, hg, hnc, _, hcs, htk⟩
    · omega
    · injection hv with hv
      refine ⟨g, cur, hv, hgb, hg, by omega, fun j hj => ?_⟩
      rw [← htk, List.getElem?_take_of_lt (by omega)]; simp
  have hat : ∀ j, j < n * n → ∃ o, qs[j]? = some o := fun j hj => ⟨_, List.getElem?_eq_getElem (by omega)⟩
  refine ⟨l, _, rfl, ⟨hn.1, hn.2, hm, fun k => Nat.zero_le _, fun k x hx => (by cases hx), g, c, cur, fun j => ((qs[j]?).getD none).getD 0, fun j => qfoot (((qs[j]?).getD none).getD 0) none [] [], hl, hg, hcs, ?_, ?_, ?_, ?_, rfl⟩, ?_, hb⟩
  · intro k hk hd
    refine ⟨?_, rfl⟩
    rw [htk k hk, List.getElem?_map, (hdg k hk).2 hd]; rfl
  · intro k hk hd
    obtain ⟨o, ho⟩ := hat k hk
    rcases o with _ | q
    · exact absurd ((hdg k hk).1 ho) hd
    · show cur[k]? = some (ptr ((qs[k]?.getD none).getD 0)) ∧ FQ (qfoot ((qs[k]?.getD none).getD 0) none [] []) w ((qs[k]?.getD none).getD 0) m []
      rw [ho]
      refine ⟨by rw [htk k hk, List.getElem?_map, ho]; rfl, (hq q (List.mem_of_getElem? ho)).2⟩
  · intro k j hk hj hdk hdj hkj i hi1 hi2
    have e1 := foot_one hi1
    have e2 := foot_one hi2
    obtain ⟨o1, h1⟩ := hat k hk
    obtain ⟨o2, h2⟩ := hat j hj
    rcases o1 with _ | q1
    · exact hdk ((hdg k hk).1 h1)
    rcases o2 with _ | q2
    · exact hdj ((hdg j hj).1 h2)
    rw [h1] at e1; rw [h2] at e2
    simp only [Option.getD_some] at e1 e2
    have : q1 = q2 := by omega
    subst this
    have hp := List.pairwise_filterMap.1 hnd
    rw [List.pairwise_iff_getElem] at hp
    obtain ⟨hk', hk2⟩ := List.getElem?_eq_some_iff.1 h1
    obtain ⟨hj', hj2⟩ := List.getElem?_eq_some_iff.1 h2
    rcases Nat.lt_or_ge k j with h | h
    · exact hp k j hk' hj' h q1 (by simpa using hk2) q1 (by simpa using hj2) rfl
    · exact hp j k hj' hk' (by omega) q1 (by simpa using hj2) q1 (by simpa using hk2) rfl
  · intro k hk hd i hi
    have e1 := foot_one hi
    obtain ⟨o1, h1⟩ := hat k hk
    rcases o1 with _ | q1
    · exact absurd ((hdg k hk).1 h1) hd
    rw [h1] at e1
    simp only [Option.getD_some] at e1
    subst e1
    obtain ⟨G, ps, vs, h2, _⟩ := (hq i (List.mem_of_getElem? h1)).2.ex
    obtain ⟨A0, c0, hh, _⟩ := h2.ex
    exact ⟨type_ne hh hl (by decide), type_ne hh hg (by decide)⟩
  · rintro i (rfl | rfl | ⟨k, hk, hd, hi⟩)
    · exact hll
    · exact hgb
    · have e1 := foot_one hi
      have hk : k < n * n := hk
      have hd : ¬ diag n k := hd
      obtain ⟨o1, h1⟩ := hat k hk
      rcases o1 with _ | q1
      · exact absurd ((hdg k hk).1 h1) hd
      rw [h1] at e1
      simp only [Option.getD_some] at e1
      subst e1
      exact (hq i (List.mem_of_getElem? h1)).1

set_option maxRecDepth 100000 in
set_option maxHeartbeats 1600000 in
theorem new_yes (n m life : Nat) (w : World) (hn : 1 ≤ n ∧ n ≤ 16) (hm : 1 ≤ m ∧ m ≤ 64) (hf : 1 ≤ life ∧ life ≤ 10000) :
    Calls Try.prog 13 #[.int .i64 n, .int .i64 m, .int .i64 life] w (MadeOut w n m life) := by
  obtain ⟨i0, hi, hz0, hz1, hz2⟩ := info_parts ptr_info
  have HA := outside_no n 16 w (by omega)
  have HB := outside_no m 64 w (by omega)
  have HC := outside_no life 10000 w (by omega)
  have HQ := fun W => new_q m W (by omega)
  have HD : Hid (∀ W' l, NewAt w l n m life (n * n) W' → MadeOut w n m life (.returned (.tuple #[ptr l, .int .i64 0])) W') := cover fun W' l h => h.done hn hm.2
  have hn16 := hn.2
  have HN := cover hn.1
  have HM := cover hm
  clear hf hn hm
  generalize MadeOut w n m life = Post at HD ⊢
  go_enter Try.func13, Try.ntmps13
  go_wp2_with (go_at_call 31; (first | (with_reducible refine HA.mono ?_) | (with_reducible refine HB.mono ?_) | (with_reducible refine HC.mono ?_)); rintro e w' ⟨rfl, rfl⟩)
  obtain ⟨l, hl⟩ : ∃ l, l = w.heap.size := ⟨_, rfl⟩
  have HL := cover hl
  obtain ⟨w1, hw1⟩ : ∃ w1, w1 = w.alloc (.cells #[.int .i64 n, .int .i64 life, .int .i64 0, .int .i64 0, .slice none 0 0] 69) := ⟨_, rfl⟩
  have HS : Hid (NewAt w l n m life 0 w1) := cover ⟨⟨[], none, 0, rfl, by rw [hw1, hl]; exact heap_alloc_new _ _, World.ownsRow_nil _ _ _ _, fun j hj => (by omega), fun q hq => (by cases hq), List.nodup_nil⟩, by rw [hw1]; exact (Below.refl _ _).alloc (Nat.le_refl _) _, by omega⟩
  rw [← hl, ← hw1]
  clear hl hw1 HA HB HC
  go_loopw [27] (fun i wr => ∃ a : Nat, a ≤ n ∧ i = .int .i64 a ∧ Hid (NewAt w l n m life (a * n) wr)) (fun i _ => n - (intOf i).toNat)
  case atStart => exact ⟨0, Nat.zero_le _, rfl, by rw [Nat.zero_mul]; exact HS⟩
  case round =>
    clear HS
    obtain ⟨a, ha, rfl, hout⟩ := hrel
    by_cases hlt : a < n
    · go_wp2_with fail
      go_loopw [31] (fun j wr => ∃ b : Nat, b ≤ n ∧ j = .int .i64 b ∧ Hid (NewAt w l n m life (a * n + b) wr)) (fun j _ => n - (intOf j).toNat)
      case atStart => exact ⟨0, Nat.zero_le _, rfl, by rw [Nat.add_zero]; exact hout⟩
      case round =>
        clear hout
        obtain ⟨b, hb, rfl, hrel⟩ := hrel
        by_cases hbl : b < n
        · have hk256 : a * n + b < 256 := by
            have h1 := place_lt hlt hbl
            have h2 : n * n ≤ 16 * 16 := Nat.mul_le_mul hn16 hn16
            omega
          have HD1 : Hid ((a = b → diag n (a * n + b)) ∧ (a ≠ b → ¬ diag n (a * n + b))) := cover ⟨fun e => by subst e; exact diag_yes hlt, fun e => diag_not hbl e⟩
          obtain ⟨k, hk⟩ : ∃ k, k = a * n + b := ⟨_, rfl⟩
          have HK := cover hk
          rw [← hk] at hk256 hrel HD1
          clear hk
          obtain ⟨qs, A, c, hlen, hlb, hown, hdg, hq, hnd⟩ := hrel.out.ex
          have HQS := cover (And.intro hlen (And.intro hlb (And.intro hown (And.intro hdg (And.intro hq hnd)))))
          have hbr := hrel.out.bel
          have hll := hrel.out.l_le
          have hsr := hbr.size
          have HBR := cover (And.intro hbr hll)
          have hl4 : wr.cell? ⟨l, 4, none⟩ = some (.slice A k c) := by rw [cell_of_row _ _ _ _ _ _ hlb]; rfl
          have hllt := block_lt hlb
          clear hlen hdg hq hnd hrel hbr
          by_cases hab : a = b
          · subst hab
            have HDA := cover (HD1.out.1 rfl)
            clear hlb HD1
            have hown1 := own_below hown ((Below.refl _ _).alloc (Nat.le_refl _) (.cells #[.pointer none] 70))
            have hl41 := (World.cell?_alloc_lt wr (.cells #[.pointer none] 70) ⟨l, 4, none⟩ hllt).trans hl4
            go_wp2_with (at_builtin; refine wpList_append_own _ rfl _ _ 67 rfl w.heap.size 70 i0 (.pointer none) 1 8 Try.underlying67 hi hz0 hz1 hz2 rfl (by decide) _ _ _ rfl hown1 ⟨wr.heap.size, 0, none⟩ 1 1 [.pointer none] rfl rfl ?c1 ?c2 ?c3 ?c4 ?c5 ?_)
            all_goals try (case c1 => exact cell_one_new _ _ _)
            case c2 => first | rfl | (intro u hu; simp at hu; subst hu; rfl)
            case c3 => unfold maxLen; omega
            case c4 => omega
            case c5 => first | omega | (simp; omega)
            intro v' w2 hown' hgrow _
            obtain ⟨A', c', rfl, _⟩ := own_shape hown'
            have HN : Hid (NewAt w l n m life (a * n + (a + 1)) (w2.setCell ⟨l, 4, none⟩ (.slice A' (k + 1) c'))) := by
              obtain ⟨h1, h2, h3, h4, h5, h6⟩ := HQS.out
              refine cover ?_
              have := NewAt.step (x := none) h1 h2 h4 h5 h6 HBR.out.1 HBR.out.2 h3 ⟨fun _ => HDA.out, fun _ => rfl⟩ ((Below.refl _ _).alloc (Nat.le_refl _) _) (fun q hq => by cases hq) hown' hgrow
              rw [show a * n + (a + 1) = k + 1 by rw [HK.out]; omega]
              exact this
            have hlb2 : w2.heap[l]? = wr.heap[l]? := by
              have h2 := HQS.out.2.1
              have h3 := HQS.out.2.2.1
              refine (hgrow.block l (by simp; omega) (fun e => ?_)).trans (Below.heap_alloc _ _ _ hllt)
              rcases h3.2 with ⟨hv, _⟩ | ⟨g', cap, cur, hv, _, hh, _⟩
              · rw [hv] at e; simp [Value.ownBlock] at e
              · rw [hv] at e
                have : l = g' := by simpa [Value.ownBlock] using e
                subst this; exact type_ne h2 hh (by decide) rfl
            have hl42 : w2.cell? ⟨l, 4, none⟩ = some (.slice A k c) := by rw [← hl4]; exact World.cell?_of_block hlb2
            have hf42 : w2.frozen? ⟨l, 4, none⟩ = false := by simp [World.frozen?, hlb2, HQS.out.2.1]
            clear hown' hgrow hlb2 hown1 hown hl41 hl4
            go_wp2
            go_roundw
            case rel => exact ⟨a + 1, by omega, by go_num, HN⟩
            case measure => simp [intOf]; omega
          · go_wp2_with fail
            refine (HQ wr).mono ?_
            rintro e w1 ⟨rfl, H1⟩
            have hb1 := H1.out.2
            have hs1 := hb1.size
            have hqn : wr.heap.size < w1.heap.size := H1.out.1.lt _ H1.out.1.q_in
            have hlb1 := (hb1.block l hllt).trans hlb
            have hown0 := own_below hown hb1
            have hown1 := own_below hown0 ((Below.refl _ _).alloc (Nat.le_refl _) (.cells #[ptr wr.heap.size] 70))
            have hl40 : w1.cell? ⟨l, 4, none⟩ = some (.slice A k c) := by rw [cell_of_row _ _ _ _ _ _ hlb1]; rfl
            have hl41 := (World.cell?_alloc_lt w1 (.cells #[ptr wr.heap.size] 70) ⟨l, 4, none⟩ (by simp; omega)).trans hl40
            clear hlb hlb1 hl4
            go_wp2_with (at_builtin; refine wpList_append_own _ rfl _ _ 67 rfl w.heap.size 70 i0 (.pointer none) 1 8 Try.underlying67 hi hz0 hz1 hz2 rfl (by decide) _ _ _ rfl hown1 ⟨w1.heap.size, 0, none⟩ 1 1 [ptr wr.heap.size] rfl rfl ?c1 ?c2 ?c3 ?c4 ?c5 ?_)
            all_goals try (case c1 => exact cell_one_new _ _ _)
            case c2 => first | rfl | (intro u hu; simp at hu; subst hu; rfl)
            case c3 => unfold maxLen; omega
            case c4 => omega
            case c5 => first | omega | (simp; omega)
            intro v' w2 hown' hgrow _
            obtain ⟨A', c', rfl, _⟩ := own_shape hown'
            have HN : Hid (NewAt w l n m life (a * n + (b + 1)) (w2.setCell ⟨l, 4, none⟩ (.slice A' (k + 1) c'))) := by
              obtain ⟨h1, h2, h3, h4, h5, h6⟩ := HQS.out
              refine cover ?_
              have hbb : Below wr.heap.size wr (w1.alloc (.cells #[ptr wr.heap.size] 70)) := hb1.alloc hs1 _
              have := NewAt.step (x := some wr.heap.size) h1 h2 h4 h5 h6 HBR.out.1 HBR.out.2 h3 ⟨fun e => (by cases e), fun e => absurd e (HD1.out.2 hab)⟩ hbb (fun q hq => by injection hq with hq; subst hq; exact ⟨Nat.le_refl _, H1.out.1.below ((Below.refl _ _).alloc (Nat.le_refl _) _)⟩) hown' hgrow
              rw [show a * n + (b + 1) = k + 1 by rw [HK.out]; omega]
              exact this
            have hlb2 : w2.heap[l]? = wr.heap[l]? := by
              have h2 := HQS.out.2.1
              have h3 := HQS.out.2.2.1
              refine (hgrow.block l (by simp; omega) (fun e => ?_)).trans ((Below.heap_alloc _ _ _ (by omega)).trans (hb1.block l hllt))
              rcases h3.2 with ⟨hv, _⟩ | ⟨g', cap, cur, hv, _, hh, _⟩
              · rw [hv] at e; simp [Value.ownBlock] at e
              · rw [hv] at e
                have : l = g' := by simpa [Value.ownBlock] using e
                subst this; exact type_ne h2 hh (by decide) rfl
            have hl42 : w2.cell? ⟨l, 4, none⟩ = some (.slice A k c) := by rw [cell_of_row _ _ _ _ _ _ (hlb2.trans HQS.out.2.1)]; rfl
            have hf42 : w2.frozen? ⟨l, 4, none⟩ = false := by simp [World.frozen?, hlb2, HQS.out.2.1]
            clear hown' hgrow hlb2 hown1 hown hown0 hl41 hl40 hb1 H1
            go_wp2
            go_roundw
            case rel => exact ⟨b + 1, by omega, by go_num, HN⟩
            case measure => simp [intOf]; omega
        · obtain rfl : b = n := by omega
          have HN : Hid (NewAt w l b m life ((a + 1) * b) wr) := cover (by rw [Nat.add_mul, Nat.one_mul]; exact hrel.out)
          clear hrel
          go_wp2
          go_roundw
          case rel => exact ⟨a + 1, by omega, by go_num, HN⟩
          case measure => simp [intOf]; omega
    · obtain rfl : a = n := by omega
      have HP := cover (HD.out _ _ hout.out)
      clear hout HD
      go_wp2
      exact HP.out
end Go.Proofs.Ytjidhpmjdhjciaa
