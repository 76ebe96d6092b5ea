/- The walk of BackPlays. -/
import Derived.Deep.CutBlock
import Derived.Deep.DeepCutAuto
import Derived.Deep.RegionHeld3
import Derived.BigQuiet
import Derived.Deep.QuietTactic
import Derived.Test.YtefbmhkchlhgnaaLAwake
import Derived.Test.YtefbmhkchlhgnaaLRoom
import Derived.Test.YtefbmhkchlhgnaaLRef
namespace Go.Proofs.Ytefbmhkchlhgnaa
open Go.RowKit
set_option linter.unusedVariables false
set_option linter.unusedSimpArgs false

/-- the program's Back, that stands as b, beside the document's, that stands as c -/
structure BkDuo (B : Nat) (W0 W : World) (t r : Nat) (b c : LV (List Int)) : Prop where
  ex : ∃ S T, BkP S W t b ∧ BkR T W r c ∧ (∀ i, S i → B ≤ i) ∧ (∀ i, T i → B ≤ i) ∧ ∀ i, S i → ¬ T i
  bel : Below B W0 W
  siz : B ≤ W.heap.size
section
variable {B t r : Nat} {W0 W W' : World} {b c b' c' : LV (List Int)}
theorem BkDuo.drewN (h : BkDuo B W0 W t r b c) (n : Nat) : BkDuo B W0 (W.drewN n) t r b c := by
  obtain ⟨S, T, h1, h2, h3, h4, h5⟩ := h.ex
  exact ⟨⟨S, T, h1.drewN n, h2.drewN n, h3, h4, h5⟩, below_drewN h.bel n, h.siz⟩
theorem duo_left {S T S' : Foot} (h : BkDuo B W0 W t r b c) (h1 : BkP S W t b) (h2 : BkR T W r c) (h3 : ∀ i, S i → B ≤ i) (h4 : ∀ i, T i → B ≤ i) (h5 : ∀ i, S i → ¬ T i) (k1 : BkP S' W' t b') (k2 : Moves S S' W W') : BkDuo B W0 W' t r b' c ∧ U8Keep W W' := by
  have hu := U8Keep.of_moves h1.nob k2
  refine ⟨⟨⟨S', T, k1, h2.apart k2 hu (fun k hk hs => h5 k hs hk), fun i hi => ?_, h4, fun i hi ht => ?_⟩, k2.below h.bel h3 h.siz, Nat.le_trans h.siz k2.size⟩, hu⟩
  · exact (k2.own i hi).elim (h3 i) (fun h' => Nat.le_trans h.siz h')
  · rcases k2.own i hi with h6 | h6
    · exact h5 i h6 ht
    · have := h2.lt i ht; omega
theorem duo_right {S T T' : Foot} (h : BkDuo B W0 W t r b c) (h1 : BkP S W t b) (h2 : BkR T W r c) (h3 : ∀ i, S i → B ≤ i) (h4 : ∀ i, T i → B ≤ i) (h5 : ∀ i, S i → ¬ T i) (k1 : BkR T' W' r c') (k2 : Moves T T' W W') : BkDuo B W0 W' t r b c' ∧ U8Keep W W' := by
  have hu := U8Keep.of_moves h2.nob k2
  refine ⟨⟨⟨S, T', h1.apart k2 hu (fun k hk hs => h5 k hk hs), k1, h3, fun i hi => ?_, fun i hi ht => ?_⟩, k2.below h.bel h4 h.siz, Nat.le_trans h.siz k2.size⟩, hu⟩
  · exact (k2.own i hi).elim (h4 i) (fun h' => Nat.le_trans h.siz h')
  · rcases k2.own i ht with h6 | h6
    · exact h5 i hi h6
    · have := h1.lt i hi; omega
theorem duo_put (h : BkDuo B W0 W t r b c) (A : Option Addr) (n cp K : Nat) (l : List Int) (hr : Row W K A n l) (hK : K ≤ W.heap.size) (hmax : n ≤ 1000000) :
    Calls Try.prog 10 #[ptr t, .slice A n cp] W fun e W' => e = .returned (.bool (putsL b)) ∧ Hid (BkDuo B W0 W' t r (putL l b) c) := by
  obtain ⟨S, T, h1, h2, h3, h4, h5⟩ := h.ex
  refine (bkput_any h1 A n cp K l hr hK hmax).mono ?_
  rintro e W' ⟨rfl, H⟩
  obtain ⟨S', k1, k2⟩ := H.out
  exact ⟨rfl, cover (duo_left h h1 h2 h3 h4 h5 k1 k2).1⟩
theorem duo_rput (h : BkDuo B W0 W t r b c) (A : Option Addr) (n cp K : Nat) (l : List Int) (hr : Row W K A n l) (hK : K ≤ W.heap.size) (hmax : n ≤ 1000000) :
    Calls Try.prog 16 #[ptr r, .slice A n cp] W fun e W' => e = .returned (.bool (putsL c)) ∧ Hid (BkDuo B W0 W' t r b (putL l c)) := by
  obtain ⟨S, T, h1, h2, h3, h4, h5⟩ := h.ex
  refine (rbput_any h2 A n cp K l hr hK hmax).mono ?_
  rintro e W' ⟨rfl, H⟩
  obtain ⟨S', k1, k2⟩ := H.out
  exact ⟨rfl, cover (duo_right h h1 h2 h3 h4 h5 k1 k2).1⟩
theorem duo_acked (h : BkDuo B W0 W t r b c) (n : Int) : Calls Try.prog 13 #[ptr t, .int .i64 n] W fun e W' => e = .returned (.int .i64 (goneL n b)) ∧ Hid (BkDuo B W0 W' t r (ackL n b) c) := by
  obtain ⟨S, T, h1, h2, h3, h4, h5⟩ := h.ex
  refine (bkacked_any h1 n).mono ?_
  rintro e W' ⟨rfl, H⟩
  obtain ⟨S', k1, k2⟩ := H.out
  exact ⟨rfl, cover (duo_left h h1 h2 h3 h4 h5 k1 k2).1⟩
theorem duo_racked (h : BkDuo B W0 W t r b c) (n : Int) : Calls Try.prog 19 #[ptr r, .int .i64 n] W fun e W' => e = .returned (.int .i64 (goneL n c)) ∧ Hid (BkDuo B W0 W' t r b (ackL n c)) := by
  obtain ⟨S, T, h1, h2, h3, h4, h5⟩ := h.ex
  refine (rbacked_any h2 n).mono ?_
  rintro e W' ⟨rfl, H⟩
  obtain ⟨S', k1, k2⟩ := H.out
  exact ⟨rfl, cover (duo_right h h1 h2 h3 h4 h5 k1 k2).1⟩
theorem duo_again (h : BkDuo B W0 W t r b c) : Calls Try.prog 12 #[ptr t] W fun e W' => e = .returned (.int .i64 b.o) ∧ Hid (BkDuo B W0 W' t r (againL b) c) := by
  obtain ⟨S, T, h1, h2, h3, h4, h5⟩ := h.ex
  refine (bkagain_any h1).mono ?_
  rintro e W' ⟨rfl, H⟩
  obtain ⟨S', k1, k2⟩ := H.out
  exact ⟨rfl, cover (duo_left h h1 h2 h3 h4 h5 k1 k2).1⟩
theorem duo_ragain (h : BkDuo B W0 W t r b c) : Calls Try.prog 20 #[ptr r] W fun e W' => e = .returned (.int .i64 c.o) ∧ Hid (BkDuo B W0 W' t r b (againL c)) := by
  obtain ⟨S, T, h1, h2, h3, h4, h5⟩ := h.ex
  refine (ragain_any h2).mono ?_
  rintro e W' ⟨rfl, H⟩
  obtain ⟨S', k1, k2⟩ := H.out
  exact ⟨rfl, cover (duo_right h h1 h2 h3 h4 h5 k1 k2).1⟩
theorem duo_clear (h : BkDuo B W0 W t r b c) : Calls Try.prog 21 #[ptr t] W fun e W' => e = .returned (.int .i64 b.l.length) ∧ Hid (BkDuo B W0 W' t r (clearL b) c) := by
  obtain ⟨S, T, h1, h2, h3, h4, h5⟩ := h.ex
  refine (bkclear_any h1).mono ?_
  rintro e W' ⟨rfl, H⟩
  obtain ⟨S', k1, k2⟩ := H.out
  exact ⟨rfl, cover (duo_left h h1 h2 h3 h4 h5 k1 k2).1⟩
theorem duo_rclear (h : BkDuo B W0 W t r b c) : Calls Try.prog 22 #[ptr r] W fun e W' => e = .returned (.int .i64 c.l.length) ∧ Hid (BkDuo B W0 W' t r b (clearL c)) := by
  obtain ⟨S, T, h1, h2, h3, h4, h5⟩ := h.ex
  refine (rbclear_any h2).mono ?_
  rintro e W' ⟨rfl, H⟩
  obtain ⟨S', k1, k2⟩ := H.out
  exact ⟨rfl, cover (duo_right h h1 h2 h3 h4 h5 k1 k2).1⟩
theorem duo_next_no (h : BkDuo B W0 W t r b c) (hlt : ¬ b.o < b.l.length) : Calls Try.prog 11 #[ptr t] W fun e W' => e = .returned (.tuple #[.slice none 0 0, .bool false]) ∧ W = W' := by
  obtain ⟨S, T, h1, _⟩ := h.ex; exact bknext_no h1 hlt
theorem duo_rnext_no (h : BkDuo B W0 W t r b c) (hlt : ¬ c.o < c.l.length) : Calls Try.prog 17 #[ptr r] W fun e W' => e = .returned (.tuple #[.slice none 0 0, .bool false]) ∧ ∃ d, W' = W.drewN d := by
  obtain ⟨S, T, _, h2, _⟩ := h.ex; exact rbnext_no h2 hlt
theorem duo_next_yes (h : BkDuo B W0 W t r b c) (hlt : b.o < b.l.length) :
    Calls Try.prog 11 #[ptr t] W fun e W' => ∃ A cp, e = .returned (.tuple #[.slice A (b.l[b.o]).length cp, .bool true]) ∧ Hid (OwnB W' W.heap.size (.slice A (b.l[b.o]).length cp) b.l[b.o] ∧ BkDuo B W0 W' t r (nextL b) c) := by
  obtain ⟨S, T, h1, h2, h3, h4, h5⟩ := h.ex
  refine (bknext_yes h1 hlt).mono ?_
  rintro e W' ⟨A, cp, rfl, H⟩
  obtain ⟨k1, k2, k3⟩ := H.out
  exact ⟨A, cp, rfl, cover ⟨k1, (duo_left h h1 h2 h3 h4 h5 k2 k3).1⟩⟩
theorem duo_rnext_yes (h : BkDuo B W0 W t r b c) (hlt : c.o < c.l.length) :
    Calls Try.prog 17 #[ptr r] W fun e W' => ∃ A cp, e = .returned (.tuple #[.slice A (c.l[c.o]).length cp, .bool true]) ∧ Hid (OwnB W' W.heap.size (.slice A (c.l[c.o]).length cp) c.l[c.o] ∧ BkDuo B W0 W' t r b (nextL c) ∧ U8Keep W W') := by
  obtain ⟨S, T, h1, h2, h3, h4, h5⟩ := h.ex
  refine (rbnext_yes h2 hlt).mono ?_
  rintro e W' ⟨A, cp, rfl, H⟩
  obtain ⟨k1, k2, k3⟩ := H.out
  exact ⟨A, cp, rfl, cover ⟨k1, duo_right h h1 h2 h3 h4 h5 k2 k3⟩⟩
theorem duo_len (h : BkDuo B W0 W t r b c) : Calls Try.prog 14 #[ptr t] W fun e W' => e = .returned (.int .i64 b.l.length) ∧ W' = W := by
  obtain ⟨S, T, h1, _⟩ := h.ex; exact (bklen_any h1).mono fun e w' ⟨he, hw⟩ => ⟨he, hw.symm⟩
theorem duo_out (h : BkDuo B W0 W t r b c) : Calls Try.prog 23 #[ptr t] W fun e W' => e = .returned (.int .i64 b.o) ∧ W' = W := by
  obtain ⟨S, T, h1, _⟩ := h.ex; exact (bkout_any h1).mono fun e w' ⟨he, hw⟩ => ⟨he, hw.symm⟩
theorem duo_waits (h : BkDuo B W0 W t r b c) : Calls Try.prog 24 #[ptr t] W fun e W' => e = .returned (.int .i64 ((b.l.length - b.o : Nat) : Int)) ∧ W' = W := by
  obtain ⟨S, T, h1, _⟩ := h.ex; exact (bkwaits_any h1).mono fun e w' ⟨he, hw⟩ => ⟨he, hw.symm⟩
theorem duo_cells (h : BkDuo B W0 W t r b c) : (∃ AV cV, W.cell? ⟨r, 1, none⟩ = some (.int .i64 c.o) ∧ W.cell? ⟨r, 2, none⟩ = some (.slice AV c.l.length cV)) ∧ c.o ≤ c.l.length ∧ c.l.length ≤ 100000 := by
  obtain ⟨S, T, _, h2, _⟩ := h.ex
  refine ⟨?_, h2.ok.1, Nat.le_trans h2.ok.2 h2.mb⟩
  obtain ⟨V, us, k1, k2, k3, _⟩ := h2.ex
  obtain ⟨AV, cV, rfl, _⟩ := k3.shape
  obtain ⟨_, c1, c2⟩ := three_cells k2
  exact ⟨AV, cV, c1, by rw [← k1, List.length_map]; exact c2⟩
theorem duo_new (m : Nat) (hm : m ≤ 1000) (h : BkOne B W0 W t (zL m)) : BkDuo B W0 (W.alloc (.cells #[.int .i64 m, .int .i64 0, .slice none 0 0] 36)) t W.heap.size (zL m) (zL m) := by
  have hb := (Below.refl W.heap.size W).alloc (Nat.le_refl _) (.cells #[.int .i64 m, .int .i64 0, .slice none 0 0] 36)
  obtain ⟨S, h1, h2⟩ := h.bk
  have hmm : (zL (m : Int) : LV (List Int)).m = m := by unfold zL; simp
  refine ⟨⟨S, fun i => i = W.heap.size ∨ vownF (.slice none 0 0) i, h1.below hb, ⟨LOk.zero _, by rw [hmm]; omega, (fun l hl => by cases hl), .slice none 0 0, [], rfl, by rw [hmm]; exact heap_alloc_new _ _, RowS.nil _, rfl⟩, h2, ?_, ?_⟩, h.bel.trans (hb.mono h.siz), Nat.le_trans h.siz hb.size⟩
  · rintro i (rfl | hi)
    · exact h.siz
    · cases hi
  · rintro i hi (rfl | hi')
    · exact absurd (h1.lt _ hi) (by omega)
    · cases hi'
end
theorem same_one {w : World} {A A' : Option Addr} {c c' B B' : Nat} {l : List Int} (h1 : OwnB w B (.slice A l.length c) l) (h2 : OwnB w B' (.slice A' l.length c') l) (hmax : l.length ≤ 1000000) :
    Calls Try.prog 18 #[.slice A l.length c, .slice A' l.length c'] w fun e w' => e = .returned (.bool true) ∧ ∃ d, w' = w.drewN d := by
  refine (same_any A A' l.length c c' _ _ l l w (OwnB.row h1) (OwnB.row h2) (by omega)).mono ?_
  rintro e w' ⟨rfl, h⟩
  exact ⟨by simp, h⟩

set_option maxRecDepth 100000 in
set_option maxHeartbeats 3200000 in
theorem walk_BackPlays (m : Int) (A : Option Addr) (len cap : Nat) (ds : List LDDV) (w : World) (hlc : len ≤ cap) (hcm : cap ≤ maxLen) (hd : LDDs w w.heap.size A len ds ∧ ∀ q ∈ ds, LDDOk q) :
    Calls Try.prog 4 #[.int .i64 m, .slice A len cap] w fun e w' => e = .returned (.bool true) ∧ Below w.heap.size w w' := by
  obtain ⟨b, hb⟩ : ∃ b, b = w.heap.size := ⟨_, rfl⟩
  have HG := cover hb
  rw [← hb] at hd
  have HD := cover hd
  have s0 := cover (awake_any w)
  clear hb hd
  go_enter Try.func4, Try.ntmps4
  go_wp2_with fail
  refine s0.out.mono ?_
  rintro e w0 ⟨rfl, h0⟩
  have H0 : Hid (Below b w w0 ∧ b ≤ w0.heap.size) := cover (by rw [HG.out]; exact ⟨h0, h0.size⟩)
  clear h0 s0
  go_wp2_with fail
  refine (room_any A len cap ds w0 b (HD.out.1.below H0.out.1)).mono ?_
  rintro e w0' ⟨r, rfl, rfl, HR⟩
  rcases r with _ | _
  · go_wp2
    go_ret
    exact ⟨rfl, by rw [← HG.out]; exact H0.out.1⟩
  have HL : Hid (len ≤ 300 ∧ smallLD ds) := cover (HR.out rfl)
  clear HR
  by_cases hm : (1000 : Int) < m
  · go_wp2
    go_ret
    exact ⟨rfl, by rw [← HG.out]; exact H0.out.1⟩
  have HMM : Hid (m ≤ 100000 ∧ m ≤ 1000) := cover (by omega)
  have hm' : ¬ (1000 : Int) < m := hm
  clear hm
  go_wp2_with fail
  refine (one_new (B := b) (W0 := w) m HMM.out.1 H0.out.1 H0.out.2).mono ?_
  rintro e w1 ⟨t, rfl, h1⟩
  obtain ⟨k, hk⟩ : ∃ k : Nat, k = m.toNat := ⟨_, rfl⟩
  have hz : (zL m : LV (List Int)) = zL (k : Int) := by
    show (⟨m.toNat, 0, []⟩ : LV (List Int)) = ⟨(k : Int).toNat, 0, []⟩
    rw [Int.toNat_natCast, hk]
  have HN : Hid (∀ W, W = w1.alloc (.cells #[.int .i64 k, .int .i64 0, .slice none 0 0] 36) → BkDuo b w W t w1.heap.size (zL k) (zL k)) := cover (by
    rintro W rfl
    have h9 := h1.out.1
    rw [hz] at h9
    exact duo_new k (by have := HMM.out; omega) h9)
  clear h1 H0 hz
  obtain ⟨r, hr⟩ : ∃ r, r = w1.heap.size := ⟨_, rfl⟩
  rw [← hr] at HN
  go_upto_region 6 with fail
  go_cut [6] (fun rv wx => rv = ptr r ∧ Hid (BkDuo b w wx t r (zL k) (zL k)))
  case first =>
    by_cases h0 : (0 : Int) < m
    · have hmk : m = (k : Int) := by omega
      subst hmk
      clear hk hm'
      go_wp2
      go_meet
      exact ⟨by rw [hr], cover (HN.out _ rfl)⟩
    · have hk0 : k = 0 := by omega
      subst hk0
      by_cases h00 : m < 0
      · clear hk hm' h0
        go_wp2
        go_meet
        exact ⟨by rw [hr], cover (HN.out _ rfl)⟩
      · have hm0 : m = 0 := by omega
        subst hm0
        clear hk hm' h0 h00
        go_wp2
        go_meet
        exact ⟨by rw [hr], cover (HN.out _ rfl)⟩
  case rest =>
    obtain ⟨rfl, H2⟩ := hcut
    clear HN hr hk
    go_wp2_with fail
    go_loopw [7] (fun iv wr => ∃ j : Nat, j ≤ len ∧ iv = .int .i64 j ∧ Hid (∃ v, BkDuo b w wr t r v v)) (fun i _ => len - (intOf i).toNat)
    case atStart => exact ⟨0, by omega, rfl, cover ⟨_, H2.out⟩⟩
    case round =>
      clear H2
      obtain ⟨j, hj, rfl, hrel⟩ := hrel
      by_cases hlt : j < len
      · obtain ⟨q, hq⟩ : ∃ q, ds[j]? = some q := ⟨_, List.getElem?_eq_getElem (by rw [HD.out.1.len]; exact hlt)⟩
        obtain ⟨v, h4⟩ := hrel.out
        obtain ⟨ad, hA, hc0⟩ := HD.out.1.at_ j q hq
        subst hA
        have H4 := cover h4
        have HQL : Hid (q.b.length ≤ 200) := cover (HL.out.2 q (List.mem_of_getElem? hq))
        obtain ⟨x, hx⟩ : ∃ x, q.what = x := ⟨_, rfl⟩
        obtain ⟨n, hn⟩ : ∃ n, q.num = n := ⟨_, rfl⟩
        obtain ⟨QA, hQA⟩ : ∃ QA, q.b_A = QA := ⟨_, rfl⟩
        obtain ⟨QC, hQC⟩ : ∃ QC, q.b_c = QC := ⟨_, rfl⟩
        obtain ⟨l, hl⟩ : ∃ l, q.b = l := ⟨_, rfl⟩
        rw [hl] at HQL
        obtain ⟨ln, hln⟩ : ∃ ln, l.length = ln := ⟨_, rfl⟩
        have HC : Hid (∀ W, Below b w W → (W.cell? (ad.add (j * 3)) = some (.int .i64 x) ∧ W.cell? ⟨(ad.add (j * 3)).block, (ad.add (j * 3)).off + 1, none⟩ = some (.int .i64 n) ∧ W.cell? ⟨(ad.add (j * 3)).block, (ad.add (j * 3)).off + 2, none⟩ = some (.slice QA ln QC)) ∧ Row W b QA ln l ∧ ln ≤ 1000000) := cover fun W hW => by
          have hc := hc0.below hW
          have h2 := hc.c2
          have h3 := hc.row_b
          rw [hQA, hl, hln] at h3
          rw [hQA, hQC, hl, hln] at h2
          exact ⟨⟨by rw [← hx]; exact hc.c0, by rw [← hn]; exact hc.c1, h2⟩, h3, by have := HQL.out; omega⟩
        obtain ⟨⟨c0, c1, c2⟩, _, _⟩ := HC.out _ h4.bel
        have hlt' : (j : Int) < (len : Int) := by omega
        have HLT : Hid (j < len ∧ len ≤ 300) := cover ⟨hlt, HL.out.1⟩
        clear hc0 h4 hrel hq hlt hj hx hn hQA hQC hl hln HQL
        go_upto_block 2 with fail
        go_cut [8] (fun okv wx => okv = .bool true ∧ Hid (∃ v, BkDuo b w wx t r v v))
        case first =>
          by_cases d3 : x ≤ 3
          case pos =>
            go_wp2_with fail
            refine (duo_put H4.out QA ln QC b l (HC.out _ H4.out.bel).2.1 H4.out.siz (HC.out _ H4.out.bel).2.2).mono ?_
            rintro e w4 ⟨rfl, H5⟩
            obtain ⟨⟨d0, d1, d2⟩, _, _⟩ := HC.out _ H5.out.bel
            clear c0 c1 c2
            go_wp2_with fail
            refine (duo_rput H5.out QA ln QC b l (HC.out _ H5.out.bel).2.1 H5.out.siz (HC.out _ H5.out.bel).2.2).mono ?_
            rintro e w5 ⟨rfl, H6⟩
            clear d0 d1 d2 H5 H4
            generalize putsL v = rr
            go_wp2
            go_meet
            exact ⟨by simp, cover ⟨_, H6.out⟩⟩
          have hd3 : ¬ x ≤ 3 := d3
          by_cases d6 : x ≤ 6
          case pos =>
            by_cases hnx : v.o < v.l.length
            · go_wp2_with fail
              refine (duo_next_yes H4.out hnx).mono ?_
              rintro e w4 ⟨A4, c4, rfl, h5⟩
              have H5 := cover h5.out.2
              have O5 := cover h5.out.1
              clear h5 c0 c1 c2
              go_wp2_with fail
              refine (duo_rnext_yes H5.out hnx).mono ?_
              rintro e w5 ⟨A5, c5, rfl, h6⟩
              have H6 := cover h6.out.2.1
              have HS : Hid (Calls Try.prog 18 #[.slice A4 (v.l[v.o]).length c4, .slice A5 (v.l[v.o]).length c5] w5 fun e w' => e = .returned (.bool true) ∧ ∃ d, w' = w5.drewN d) := cover (same_one (own_u8 O5.out h6.out.2.2) h6.out.1 (by
                obtain ⟨S, T, k1, k2, _⟩ := H4.out.ex
                exact k2.sh _ (List.getElem_mem _)))
              clear h6 H5 O5 H4
              go_wp2_with fail
              refine HS.out.mono ?_
              rintro e w6 ⟨rfl, d, rfl⟩
              have H7 := cover (H6.out.drewN d)
              generalize w5.drewN d = w6 at H7 ⊢
              clear HS H6
              go_wp2
              go_meet
              exact ⟨rfl, cover ⟨_, H7.out⟩⟩
            · go_wp2_with fail
              refine (duo_next_no H4.out hnx).mono ?_
              rintro e w4 ⟨rfl, rfl⟩
              clear c0 c1 c2
              go_wp2_with fail
              refine (duo_rnext_no H4.out hnx).mono ?_
              rintro e w5 ⟨rfl, d, rfl⟩
              have H6 := cover (H4.out.drewN d)
              generalize wr.drewN d = w5 at H6 ⊢
              have HS : Hid (Calls Try.prog 18 #[.slice none 0 0, .slice none 0 0] w5 fun e w' => e = .returned (.bool true) ∧ ∃ d, w' = w5.drewN d) := cover (same_one (l := []) (OwnB.nil w5 0) (OwnB.nil w5 0) (by decide))
              clear H4
              go_wp2_with fail
              refine HS.out.mono ?_
              rintro e w6 ⟨rfl, d, rfl⟩
              have H7 := cover (H6.out.drewN d)
              generalize w5.drewN d = w6 at H7 ⊢
              clear HS H6
              go_wp2
              go_meet
              exact ⟨rfl, cover ⟨_, H7.out⟩⟩
          have hd6 : ¬ x ≤ 6 := d6
          by_cases d7 : x = 7
          case pos =>
            subst d7
            clear hd3 hd6 d3 d6
            go_wp2_with fail
            refine (duo_acked H4.out n).mono ?_
            rintro e w4 ⟨rfl, H5⟩
            obtain ⟨⟨d0, d1, d2⟩, _, _⟩ := HC.out _ H5.out.bel
            clear c0 c1 c2
            go_wp2_with fail
            refine (duo_racked H5.out n).mono ?_
            rintro e w5 ⟨rfl, H6⟩
            clear d0 d1 d2 H5 H4
            generalize goneL n v = g
            go_wp2
            go_meet
            exact ⟨by simp, cover ⟨_, H6.out⟩⟩
          have hd7 : ¬ x = 7 := d7
          by_cases d8 : x = 8
          case pos =>
            subst d8
            clear hd3 hd6 d3 d6 hd7 d7
            go_wp2_with fail
            refine (duo_again H4.out).mono ?_
            rintro e w4 ⟨rfl, H5⟩
            clear c0 c1 c2
            go_wp2_with fail
            refine (duo_ragain H5.out).mono ?_
            rintro e w5 ⟨rfl, H6⟩
            clear H5 H4
            obtain ⟨o, ho⟩ : ∃ o, o = v.o := ⟨_, rfl⟩
            rw [← ho]
            go_wp2
            go_meet
            exact ⟨by simp, cover ⟨_, H6.out⟩⟩
          have hd8 : ¬ x = 8 := d8
          go_wp2_with fail
          refine (duo_clear H4.out).mono ?_
          rintro e w4 ⟨rfl, H5⟩
          clear c0 c1 c2
          go_wp2_with fail
          refine (duo_rclear H5.out).mono ?_
          rintro e w5 ⟨rfl, H6⟩
          clear H5 H4
          obtain ⟨o, ho⟩ : ∃ o, o = v.l.length := ⟨_, rfl⟩
          rw [← ho]
          go_wp2
          go_meet
          exact ⟨by simp, cover ⟨_, H6.out⟩⟩
        case rest =>
          obtain ⟨rfl, h5⟩ := hcut
          obtain ⟨v', h5⟩ := h5.out
          have H5 := cover h5
          obtain ⟨⟨AV, cV, r1, r2⟩, ho, hl⟩ := duo_cells h5
          obtain ⟨o, hoo⟩ : ∃ o, o = v'.o := ⟨_, rfl⟩
          obtain ⟨L, hL⟩ : ∃ L, L = v'.l.length := ⟨_, rfl⟩
          rw [← hoo] at r1 ho
          rw [← hL] at r2 ho hl
          have CL : Hid (∀ d, Calls Try.prog 14 #[ptr t] (wc.drewN d) fun e W' => e = .returned (.int .i64 L) ∧ W' = wc.drewN d) := cover fun d => by rw [hL]; exact duo_len (h5.drewN d)
          have CO : Hid (∀ d, Calls Try.prog 23 #[ptr t] (wc.drewN d) fun e W' => e = .returned (.int .i64 o) ∧ W' = wc.drewN d) := cover fun d => by rw [hoo]; exact duo_out (h5.drewN d)
          have CW : Hid (∀ d, Calls Try.prog 24 #[ptr t] (wc.drewN d) fun e W' => e = .returned (.int .i64 ((L - o : Nat) : Int)) ∧ W' = wc.drewN d) := cover fun d => by rw [hL, hoo]; exact duo_waits (h5.drewN d)
          have hw0 : wrap64 ((L : Int) - (o : Int)) = ((L - o : Nat) : Int) := (IntWalk.wrap64_in _ ⟨by omega, by omega⟩).trans (by omega)
          have hw1 : ¬ (((L - o : Nat) : Int) ≠ ((L - o : Nat) : Int)) := by simp
          clear h5 hoo hL ho hl c0 c1 c2 H4
          go_upto_region 28 with fail
          go_quiet (first
            | (go_at_call 14; exact Calls.quiet_of_same (CL.out _))
            | (go_at_call 23; exact Calls.quiet_of_same (CO.out _))
            | (go_at_call 24; exact Calls.quiet_of_same (CW.out _)))
          have H6 := cover (H5.out.drewN nq)
          generalize wc.drewN nq = wz at H6 ⊢
          have hlen : (len : Int) ≤ 300 := by have := HLT.out; omega
          clear H5 CL CO CW r1 r2
          go_wp2
          go_roundw
          case rel => exact ⟨j + 1, by have := HLT.out; omega, by go_num, cover ⟨_, H6.out⟩⟩
          case measure =>
            have := HLT.out.1
            simp [intOf]; omega
      · obtain ⟨v, h4⟩ := hrel.out
        have HN := cover h4.bel
        have hlt' : ¬ (j : Int) < (len : Int) := by omega
        clear h4 hrel
        go_wp2
        go_ret
        exact ⟨rfl, by rw [← HG.out]; exact HN.out⟩
end Go.Proofs.Ytefbmhkchlhgnaa
