/- The walk of GridAnswers. -/
import Derived.Laws.Bits128
import Derived.BigQuiet
import Derived.Deep.CutBlock
import Derived.Deep.DeepCutAuto
import Derived.Test.YtlffhnplcgmhlaaJVar
namespace Go.Proofs.Ytlffhnplcgmhlaa
open Go.RowKit
set_option linter.unusedVariables false
set_option linter.unusedSimpArgs false

def ansA (a : Int) : Bool := a == 24 || a == 26 || a == 28
def askedA (e : Int) : Bool := decide (13 ≤ e) && decide (e ≤ 27) && (e - 13) % 3 == 1
theorem answers_in {s e : Int} (hs : 8 ≤ s ∧ s ≤ 13) (he : 0 ≤ e ∧ e ≤ 33) {l : List Int} {n : Int} {k : Bool} (hx : stepG s e = (l, n, k)) :
    (l.countP ansA = 0 ∧ askedA e = false) ∨ (l.countP ansA = 1 ∧ askedA e = true) := by
  have h := answers_all hs he
  unfold answersG at h
  rw [hx] at h
  have e1 : l.countP (fun a => a == 24 || a == 26 || a == 28) = l.countP ansA := rfl
  have e2 : (decide (13 ≤ e) && decide (e ≤ 27) && (e - 13) % 3 == 1) = askedA e := rfl
  simp only [e1, e2, Bool.and_eq_true, decide_eq_true_eq, beq_iff_eq] at h
  obtain ⟨h1, h2⟩ := h
  rcases Nat.lt_or_ge (l.countP ansA) 1 with h3 | h3
  · left
    have h4 : l.countP ansA = 0 := by omega
    rw [h4] at h1
    exact ⟨h4, h1.symm⟩
  · right
    have h4 : l.countP ansA = 1 := by omega
    rw [h4] at h1
    exact ⟨h4, h1.symm⟩
theorem count_next (l : List Int) (k : Nat) (y : Int) (h : l[k]? = some y) : (l.take (k + 1)).countP ansA = (l.take k).countP ansA + (if ansA y = true then 1 else 0) := by
  obtain ⟨hlt, e⟩ := List.getElem?_eq_some_iff.1 h
  rw [List.take_succ_eq_append_getElem hlt, e, List.countP_append, List.countP_singleton]
set_option maxHeartbeats 6400000 in
theorem go_GridAnswers (a b : Int) (w : World) (ha : 0 ≤ a ∧ a ≤ 255) (hb : 0 ≤ b ∧ b ≤ 255) : Calls Try.prog 6 #[.int .u8 a, .int .u8 b] w fun e w' => e = .returned (.bool true) ∧ Below w.heap.size w w' := by
  have s0 := awake_any w
  obtain ⟨s, hs⟩ : ∃ s, 8 + a % 6 = s := ⟨_, rfl⟩
  obtain ⟨e, he⟩ : ∃ e, b % 34 = e := ⟨_, rfl⟩
  have HS : Hid (8 ≤ s ∧ s ≤ 13) := cover (by omega)
  have HE : Hid (0 ≤ e ∧ e ≤ 33) := cover (by omega)
  obtain ⟨l, n, k, hx⟩ : ∃ l n k, stepG s e = (l, n, k) := ⟨_, _, _, rfl⟩
  have hL : Hid (l.length ≤ 20) := cover (by have := stepG_short s e; rw [hx] at this; exact this)
  have F := cover (answers_in HS.out HE.out hx)
  have s1 := cover (fun W => step_at hx W)
  clear hx
  go_enter Try.func6, Try.ntmps6
  go_wp2_with fail
  refine s0.mono ?_
  rintro en w1 ⟨rfl, hb1⟩
  have HB1 := cover hb1
  clear hb1 s0
  go_wp2_with fail
  refine (s1.out _).mono ?_
  rintro en w2 ⟨A, m, rfl, H2⟩
  obtain ⟨w3, hw3⟩ : ∃ w3, Hid (w3 = w2.alloc (.cells (rowC A m n k) 25)) := ⟨_, cover rfl⟩
  obtain ⟨g, hg⟩ : ∃ g, Hid (w2.heap.size = g) := ⟨_, cover rfl⟩
  have H3 : Hid (RowVar w.heap.size w w3 g A m n k l) := cover (by rw [hw3.out, ← hg.out]; exact RowVar.made HB1.out HB1.out.size hL.out H2)
  have HM : Hid (m = l.length ∧ m ≤ 20) := cover ⟨H2.out.1.out.1, by have := H2.out.1.out.1; have := hL.out; omega⟩
  clear s1 HB1 H2
  go_upto_region 5 with fail
  rw [← hw3.out, hg.out]
  clear hw3 hg hs he
  obtain ⟨c0, c1, c2⟩ := H3.out.cells
  go_wp2
  go_loopw [8, 9] (fun cv iv wr => ∃ j : Nat, j ≤ m ∧ iv = .int .i64 j ∧ (∃ q : Nat, cv = .int .i64 q ∧ q ≤ j ∧ Hid (q = (l.take j).countP ansA)) ∧ wr = w3) (fun _ i _ => m - (intOf i).toNat)
  case atStart => exact ⟨0, Nat.zero_le _, rfl, ⟨0, rfl, Nat.le_refl _, cover rfl⟩, rfl⟩
  case round =>
    obtain ⟨j, hj, rfl, ⟨q, rfl, hqj, HQ⟩, rfl⟩ := hrel
    have hm20 : m ≤ 20 := HM.out.2
    by_cases hlt : j < m
    · obtain ⟨ad, y, rfl, hbb, hc, hy⟩ := H3.out.row.at_ hlt
      have HT := cover (count_next l j y hy.out)
      clear hbb
      rcases Bool.eq_false_or_eq_true (y == 24) with h1 | h1
      · have HA : Hid (ansA y = true) := cover (by unfold ansA; rw [h1]; rfl)
        go_wp2
        go_roundw
        case rel => exact ⟨j + 1, by omega, by go_num, ⟨q + 1, by go_num, by omega, cover (by rw [HT.out, if_pos HA.out, HQ.out])⟩, trivial⟩
        case measure => simp [intOf]; omega
      · rcases Bool.eq_false_or_eq_true (y == 26) with h2 | h2
        · have HA : Hid (ansA y = true) := cover (by unfold ansA; rw [h1, h2]; rfl)
          go_wp2
          go_roundw
          case rel => exact ⟨j + 1, by omega, by go_num, ⟨q + 1, by go_num, by omega, cover (by rw [HT.out, if_pos HA.out, HQ.out])⟩, trivial⟩
          case measure => simp [intOf]; omega
        · rcases Bool.eq_false_or_eq_true (y == 28) with h3 | h3
          · have HA : Hid (ansA y = true) := cover (by unfold ansA; rw [h1, h2, h3]; rfl)
            go_wp2
            go_roundw
            case rel => exact ⟨j + 1, by omega, by go_num, ⟨q + 1, by go_num, by omega, cover (by rw [HT.out, if_pos HA.out, HQ.out])⟩, trivial⟩
            case measure => simp [intOf]; omega
          · have HA : Hid (ansA y = false) := cover (by unfold ansA; rw [h1, h2, h3]; rfl)
            go_wp2
            go_roundw
            case rel => exact ⟨j + 1, by omega, by go_num, ⟨q, rfl, by omega, cover (by rw [HT.out, if_neg (by rw [HA.out]; decide), HQ.out]; rfl)⟩, trivial⟩
            case measure => simp [intOf]; omega
    · obtain rfl : j = m := by omega
      have HZ : Hid ((q = 0 ∧ askedA e = false) ∨ (q = 1 ∧ askedA e = true)) := cover (by
        have h1 := HQ.out
        rw [List.take_of_length_le (by have := HM.out.1; omega)] at h1
        rw [h1]; exact F.out)
      have HB : Hid (Below w.heap.size w wr) := cover H3.out.bel
      clear HQ F HM H3 hlt hqj
      obtain ⟨Q, hQ⟩ : ∃ Q, Hid (askedA e = Q) := ⟨_, cover rfl⟩
      go_upto_region 11 with fail
      clear c0 c1 c2
      go_cut [10] (fun v wx => v = .bool Q ∧ wx = wr)
      case first =>
        have he2 := HE.out
        rcases Decidable.em (13 ≤ e) with h1 | h1
        · rcases Decidable.em (e ≤ 27) with h2 | h2
          · have hq : askedA e = ((e - 13) % 3 == 1) := by unfold askedA; rw [decide_eq_true h1, decide_eq_true h2]; rfl
            rw [hQ.out] at hq
            have HQ2 := cover hq
            clear hq
            go_wp2
            go_meet
            exact ⟨by rw [HQ2.out], rfl⟩
          · have hq : askedA e = false := by unfold askedA; rw [decide_eq_false h2]; simp
            rw [hQ.out] at hq
            have HQ2 := cover hq
            have h3 : 27 < e := by omega
            clear hq
            go_wp2
            go_meet
            exact ⟨by rw [HQ2.out], rfl⟩
        · have hq : askedA e = false := by unfold askedA; rw [decide_eq_false h1]; simp
          rw [hQ.out] at hq
          have HQ2 := cover hq
          have h3 : e < 13 := by omega
          clear hq
          go_wp2
          go_meet
          exact ⟨by rw [HQ2.out], rfl⟩
      case rest =>
        obtain ⟨rfl, rfl⟩ := hcut
        rcases HZ.out with ⟨h1, h2⟩ | ⟨h1, h2⟩
        · rw [hQ.out] at h2
          subst h1 h2
          go_wp2
          go_ret
          exact ⟨rfl, HB.out⟩
        · rw [hQ.out] at h2
          subst h1 h2
          go_wp2
          go_ret
          exact ⟨rfl, HB.out⟩
theorem walk_GridAnswers (a b : Int) (w : World) (ha : (Lit.int .u8 a).wf = true) (hb : (Lit.int .u8 b).wf = true) : Calls Try.prog 6 #[.int .u8 a, .int .u8 b] w fun e w' => e = .returned (.bool true) ∧ Below w.heap.size w w' := by
  simp only [Lit.wf, Bool.and_eq_true, decide_eq_true_eq] at ha hb
  exact go_GridAnswers a b w ha hb
end Go.Proofs.Ytlffhnplcgmhlaa
