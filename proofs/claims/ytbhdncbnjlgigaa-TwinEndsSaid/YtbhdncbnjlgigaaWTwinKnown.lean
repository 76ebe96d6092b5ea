/- The walk of TwinKnown. -/
import Derived.Deep.CutBlock
import Derived.Deep.DeepCutAuto
import Derived.Test.YtbhdncbnjlgigaaBAwake
namespace Go.Proofs.Ytbhdncbnjlgigaa
open Go.RowKit
set_option linter.unusedVariables false
set_option linter.unusedSimpArgs false

theorem ans_yes (l : List Int) (h : l.length ≤ 1040) : ansB ⟨0, 0, true, 2, 2, 0, 0, true, l⟩ = true :=
  ansB_iff.2 ⟨⟨⟨by simp, by simp, by simp, by simp, h⟩, .inr (.inr ⟨rfl, rfl, rfl, .inr (.inr (.inl rfl))⟩)⟩, rfl, rfl, rfl, rfl, rfl, rfl⟩
/-- the answer is heard -/
theorem hear_ans {W : World} {t : Nat} {v : BV} (h : TwP W t v) :
    Calls Try.prog 9 #[ptr t, .agg (tstC true none 0)] W (HearOutB W t (hearB true v) (hearsB true v)) := by
  have := hear_any h ⟨0, 0, true, 2, 2, 0, 0, true, []⟩ none 0 0 RowK.none_ (Nat.zero_le _) Bts.nil
  rw [ans_yes [] (by simp)] at this
  exact this
set_option maxHeartbeats 1600000 in
theorem walk_TwinKnown (w : World) : Calls Try.prog 3 #[] w fun e w' => e = .returned (.bool true) ∧ Below w.heap.size w w' := by
  obtain ⟨b, hb⟩ : ∃ b, w.heap.size = b := ⟨_, rfl⟩
  have s0 := awake_any w
  rw [hb] at s0 ⊢
  have HSz : Hid (∀ W, Below b w W → b ≤ W.heap.size) := cover fun W hW => by rw [← hb]; exact hW.size
  clear hb
  go_enter Try.func3, Try.ntmps3
  go_wp2_with fail
  refine s0.mono ?_
  rintro e w1 ⟨rfl, hb1⟩
  have H1 := cover hb1
  have s1 := cover (new_no (n := 0) (wt := 1) (by unfold okB; omega) w1)
  have s2 := cover (new_yes (n := 2) (wt := 2) (okB_of (by omega) (by omega) (by omega) (by omega)) w1)
  clear s0 hb1
  go_wp2_with fail
  refine s1.out.mono ?_
  rintro e w1' ⟨rfl, rfl⟩
  go_wp2_with fail
  refine s2.out.mono ?_
  rintro e w2 ⟨t, rfl, H2'⟩
  have H2 := cover (TwOne.made H1.out (HSz.out _ H1.out) H2'.out)
  clear s1 s2 H2' H1 HSz
  have s3 := cover (hear_ans H2.out.tw)
  rw [show hearB true (zB 2 2) = zB 2 2 by rfl, show hearsB true (zB 2 2) = false by rfl] at s3
  go_wp2_with fail
  refine s3.out.mono ?_
  rintro e w3 ⟨rfl, H3'⟩
  have H3 := cover (H2.out.turn H3'.out)
  clear s3 H3' H2
  have s4 := cover (start_any H3.out.tw)
  rw [show startB (zB 2 2) = ⟨2, 2, 1, 1, 2⟩ by rfl, show startsB (zB 2 2) = true by rfl] at s4
  go_wp2_with fail
  refine s4.out.mono ?_
  rintro e w4 ⟨rfl, H4'⟩
  have H4 := cover (H3.out.turn H4'.out)
  clear s4 H4' H3
  have s5 := cover (start_any H4.out.tw)
  rw [show startB ⟨2, 2, 1, 1, 2⟩ = ⟨2, 2, 1, 1, 2⟩ by rfl, show startsB ⟨2, 2, 1, 1, 2⟩ = false by rfl] at s5
  go_wp2_with fail
  refine s5.out.mono ?_
  rintro e w5 ⟨rfl, H5'⟩
  have H5 := cover (H4.out.turn H5'.out)
  clear s5 H5' H4
  obtain ⟨w6, hw6, G6, hb6⟩ := sent_var w5 false none 0
  have H6 := cover (H5.out.below hb6.out)
  clear H5 G6 hb6
  go_upto_region 10 with (refine wpList_store_row rfl _ _ _ rfl w5.heap.size zp rfl rfl 30 zp (heap_alloc_new _ _) pdu_size rfl zp_one ?_; rw [show World.setRow (World.alloc w5 _) w5.heap.size zp = w6 from hw6.out.symm])
  clear hw6
  have s7 := cover (hear_ans H6.out.tw)
  rw [show hearB true ⟨2, 2, 1, 1, 2⟩ = ⟨2, 2, 3, 1, 2⟩ by rfl, show hearsB true ⟨2, 2, 1, 1, 2⟩ = true by rfl] at s7
  go_wp2_with fail
  refine s7.out.mono ?_
  rintro e w7 ⟨rfl, H7'⟩
  have H7 := cover (H6.out.turn H7'.out)
  clear s7 H7' H6
  obtain ⟨u, hh, _⟩ := H7.out.tw.hd
  have s8 := cover (state_any hh)
  clear hh
  go_wp2_with fail
  refine s8.out.mono ?_
  rintro e w8 ⟨rfl, rfl⟩
  go_wp2
  go_ret
  exact ⟨rfl, H7.out.bel⟩
end Go.Proofs.Ytbhdncbnjlgigaa
