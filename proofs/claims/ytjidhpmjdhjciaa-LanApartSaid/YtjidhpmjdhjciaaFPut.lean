/- What Put does: to one, or to all others. -/
import Derived.Deep.CutBlock
import Derived.Laws.Cover3
import Derived.Deep.DeepCutAuto
import Derived.Test.YtjidhpmjdhjciaaFHas
import Derived.Test.YtjidhpmjdhjciaaMAdr
namespace Go.Proofs.Ytjidhpmjdhjciaa
open Go.RowKit
set_option linter.unusedVariables false

/-- behind so many rounds of Put: the lan, and how many rows took the frame -/
noncomputable def putTo (s : LS) (f : Int) (b : List Int) (a : Nat) : Nat → LS × Nat
  | 0 => (s, 0)
  | k + 1 => (sendS (putTo s f b a k).1 f ((a + k : Nat) : Int) b, (putTo s f b a k).2 + (sendB (putTo s f b a k).1 f ((a + k : Nat) : Int)).toNat)
theorem send_same (s : LS) (f t : Int) (b : List Int) : (sendS s f t b).n = s.n ∧ (sendS s f t b).m = s.m ∧ (sendS s f t b).life = s.life ∧ (sendS s f t b).now = s.now ∧ (sendS s f t b).lost ≤ s.lost + 1 := by
  unfold sendS
  split
  · split
    · exact ⟨rfl, rfl, rfl, rfl, Nat.le_succ _⟩
    · exact ⟨rfl, rfl, rfl, rfl, Nat.le_refl _⟩
  · exact ⟨rfl, rfl, rfl, rfl, Nat.le_succ _⟩
theorem putTo_same (s : LS) (f : Int) (b : List Int) (a k : Nat) : (putTo s f b a k).1.n = s.n ∧ (putTo s f b a k).1.m = s.m ∧ (putTo s f b a k).1.life = s.life ∧ (putTo s f b a k).1.now = s.now ∧ (putTo s f b a k).1.lost ≤ s.lost + k ∧ (putTo s f b a k).2 ≤ k := by
  induction k with
  | zero => exact ⟨rfl, rfl, rfl, rfl, Nat.le_refl _, Nat.le_refl _⟩
  | succ k ih =>
    obtain ⟨a1, a2, a3, a4, a5⟩ := send_same (putTo s f b a k).1 f ((a + k : Nat) : Int) b
    obtain ⟨b1, b2, b3, b4, b5, b6⟩ := ih
    have : (sendB (putTo s f b a k).1 f ((a + k : Nat) : Int)).toNat ≤ 1 := Bool.toNat_le _
    exact ⟨a1.trans b1, a2.trans b2, a3.trans b3, a4.trans b4, by simp only [putTo]; omega, by simp only [putTo]; omega⟩
/-- the number in a frame's first six bytes -/
def numB (b : List Int) : Int := num6 (b.take 6) (b.getD 5 0)
/-- from which station on, and how many are sent to -/
def putA (s : LS) (b : List Int) : Nat × Nat := if inB s.n (numB b) = true then ((numB b).toNat, 1) else (0, s.n)
/-- Put -/
noncomputable def putR (s : LS) (f : Int) (b : List Int) : LS × Nat := if b.length < 6 then (s, 0) else putTo s f b (putA s b).1 (putA s b).2

theorem arr6 (ad : Addr) (c : Nat) (w : World) : (Instr.arrayAt 58 (.slice (some ad) 6 c)).run Try.prog w = .ok (.pointer (some ad)) w := run_arrayAt w 58 5 6 (some ad) 6 c Try.underlying58 (Nat.le_refl _)
attribute [local go_sem] arr6
theorem put_short {w : World} {l n c : Nat} {A : Option Addr} (f : Int) (h : n < 6) : Calls Try.prog 29 #[ptr l, .int .i64 f, .slice A n c] w fun e w' => e = .returned (.int .i64 0) ∧ w = w' := by
  have h6 : (n : Int) < 6 := by omega
  go_enter Try.func29, Try.ntmps29
  go_wp2
  go_ret
  exact ⟨rfl, rfl⟩
set_option maxRecDepth 100000 in
set_option maxHeartbeats 1600000 in
theorem put_long {S : Foot} {w : World} {l : Nat} {s : LS} (h : LIn S w l s) (f : Int) (ad : Addr) (n c : Nat) (b : List Int) (HR : ∀ w' S', Moves S S' w w' → Row w' w'.heap.size (some ad) n b) (hmax : n ≤ 1000000) (hnow : s.now ≤ 1000000) (hlost : s.lost ≤ 90000000) (hbt : Bts b) (h6 : 6 ≤ n) (hc : n ≤ c) (a m : Nat) (ha : putA s b = (a, m)) :
    Calls Try.prog 29 #[ptr l, .int .i64 f, .slice (some ad) n c] w fun e w' => e = .returned (.int .i64 (putTo s f b a m).2) ∧ Hid (LNow S l (putTo s f b a m).1 w w') := by
  have hr := HR w S (Moves.refl S w)
  have HRR := cover HR
  have HLI := cover h
  have hcount := count_any h
  have hhas : ∀ W, Below w.heap.size w W → Calls Try.prog 55 #[ptr l, .int .i64 (numB b)] W fun e w' => e = .returned (.bool (inB s.n (numB b))) ∧ W = w' := fun W hW => has_any (h.below hW) (numB b)
  have hl := hr.len
  have h16 := h.n16
  have hn1 := h.n1
  have hin : (inB s.n (numB b) = true ∧ numB b = (a : Int) ∧ a < 16 ∧ m = 1) ∨ (inB s.n (numB b) = false ∧ a = 0 ∧ m = s.n) := by
    unfold putA at ha
    by_cases hi : inB s.n (numB b) = true
    · rw [if_pos hi] at ha
      injection ha with e1 e2
      have hi' := hi
      simp [inB] at hi'
      exact .inl ⟨hi, by omega, by omega, e2.symm⟩
    · rw [if_neg hi] at ha
      injection ha with e1 e2
      exact .inr ⟨by simpa using hi, e1.symm, e2.symm⟩
  have HPB := cover (fun k => putTo_same s f b a k)
  have HBT := cover hbt
  obtain ⟨b0, b1, b2, b3, b4, b5, rest, hbb⟩ : ∃ b0 b1 b2 b3 b4 b5 rest, b = b0 :: b1 :: b2 :: b3 :: b4 :: b5 :: rest := by
    match b, hl with
    | b0 :: b1 :: b2 :: b3 :: b4 :: b5 :: rest, _ => exact ⟨b0, b1, b2, b3, b4, b5, rest, rfl⟩
    | [], h | [_], h | [_, _], h | [_, _, _], h | [_, _, _, _], h | [_, _, _, _, _], h => simp at h; omega
  have hb5 := hbt b5 (by rw [hbb]; simp)
  have hnum := number_any b0 b1 b2 b3 b4 b5 hb5.1 (by omega)
  have hnb : num6 [b0, b1, b2, b3, b4, b5] b5 = numB b := by rw [hbb]; rfl
  rw [hnb] at hnum
  rw [hbb] at hr
  have c0 : w.cell? ad = some (.int .u8 b0) := by
    obtain ⟨_, y, e, _, hc0, hy0⟩ := hr.at_ (k := 0) (by omega)
    injection e with e; subst e
    have := hy0.out; simp at this; subst this; exact hc0
  have c1 : w.cell? ⟨ad.block, ad.off + 1, none⟩ = some (.int .u8 b1) := by
    obtain ⟨_, y, e, _, hc0, hy0⟩ := hr.at_ (k := 1) (by omega)
    injection e with e; subst e
    have := hy0.out; simp at this; subst this; exact hc0
  have c2 : w.cell? ⟨ad.block, ad.off + 2, none⟩ = some (.int .u8 b2) := by
    obtain ⟨_, y, e, _, hc0, hy0⟩ := hr.at_ (k := 2) (by omega)
    injection e with e; subst e
    have := hy0.out; simp at this; subst this; exact hc0
  have c3 : w.cell? ⟨ad.block, ad.off + 3, none⟩ = some (.int .u8 b3) := by
    obtain ⟨_, y, e, _, hc0, hy0⟩ := hr.at_ (k := 3) (by omega)
    injection e with e; subst e
    have := hy0.out; simp at this; subst this; exact hc0
  have c4 : w.cell? ⟨ad.block, ad.off + 4, none⟩ = some (.int .u8 b4) := by
    obtain ⟨_, y, e, _, hc0, hy0⟩ := hr.at_ (k := 4) (by omega)
    injection e with e; subst e
    have := hy0.out; simp at this; subst this; exact hc0
  have c5 : w.cell? ⟨ad.block, ad.off + 5, none⟩ = some (.int .u8 b5) := by
    obtain ⟨_, y, e, _, hc0, hy0⟩ := hr.at_ (k := 5) (by omega)
    injection e with e; subst e
    have := hy0.out; simp at this; subst this; exact hc0
  have HHAS := cover hhas
  have h6i : ¬ (n : Int) < 6 := by omega
  obtain ⟨x, hx⟩ : ∃ x, x = numB b := ⟨_, rfl⟩
  obtain ⟨sn, hsn⟩ : ∃ sn, sn = s.n := ⟨_, rfl⟩
  rw [← hx] at hnum hin HHAS
  rw [← hsn] at hin h16 hn1 hcount HHAS
  have HSN := cover hsn
  clear hhas hbb hr hx hsn hb5 hnb h HR hbt ha hl
  go_enter Try.func29, Try.ntmps29
  go_wp2_with fail
  refine hcount.mono ?_
  rintro e w' ⟨rfl, rfl⟩
  clear hcount
  go_wp2_with fail
  refine (hnum w).mono ?_
  rintro e w1 ⟨rfl, hb1⟩
  have H1 := HHAS.out w1 hb1
  have HB1 := cover hb1
  clear hnum hb1 c0 c1 c2 c3 c4 c5
  rcases hin with ⟨i1, i2, i3, i4⟩ | ⟨i1, i2, i3⟩
  · subst i2 i4
    rw [i1] at H1
    clear HHAS
    go_wp2_with fail
    refine H1.mono ?_
    rintro e w' ⟨rfl, rfl⟩
    clear H1
    go_wp2_with fail
    go_loopw [10, 11] (fun u v wr => ∃ k : Nat, k ≤ 1 ∧ u = .int .i64 (putTo s f b a k).2 ∧ v = .int .i64 ((a : Int) + (k : Int)) ∧ Hid (LNow S l (putTo s f b a k).1 w wr)) (fun _ v _ => (a + 1) - (intOf v).toNat)
    case atStart => exact ⟨0, Nat.zero_le _, rfl, by simp, cover (LNow.below HLI.out HB1.out)⟩
    case round =>
      obtain ⟨k, hk, rfl, rfl, hrel⟩ := hrel
      have hpb := HPB.out k
      by_cases hlt : k < 1
      · obtain ⟨S1, hl1, hm1⟩ := hrel.out
        have hS := send_any hl1 f ((a + k : Nat) : Int) (some ad) n c _ b (HRR.out _ _ hm1) (Nat.le_refl _) hmax (by rw [hpb.2.2.2.1]; exact hnow) (by omega)
        have e1 : (putTo s f b a (k + 1)).2 = (putTo s f b a k).2 + (sendB (putTo s f b a k).1 f ((a + k : Nat) : Int)).toNat := rfl
        have e2 : (putTo s f b a (k + 1)).1 = sendS (putTo s f b a k).1 f ((a + k : Nat) : Int) b := rfl
        rw [← e2] at hS
        have E1 := cover e1
        have M1 := cover hm1
        rw [show (((a + k : Nat)) : Int) = (a : Int) + (k : Int) by omega] at hS E1
        have hle := hpb.2.2.2.2.2
        obtain ⟨sb, hsb⟩ : ∃ sb, sb = sendB (putTo s f b a k).1 f ((a : Int) + (k : Int)) := ⟨_, rfl⟩
        rw [← hsb] at hS E1
        obtain ⟨g, hg⟩ : ∃ g, g = (putTo s f b a k).2 := ⟨_, rfl⟩
        rw [← hg] at hle E1 ⊢
        have hlti : (a : Int) + (k : Int) < (a : Int) + 1 := by omega
        clear hpb hl1 hm1 hrel e1 e2 hsb hg
        go_wp2_with fail
        refine hS.mono ?_
        rintro e w2 ⟨rfl, H2⟩
        have HF : Hid (LNow S l (putTo s f b a (k + 1)).1 w w2) := cover (by
          obtain ⟨S3, k1, k2⟩ := H2.out
          exact ⟨S3, k1, M1.out.trans k2⟩)
        clear hS H2
        rcases sb with _ | _
        · go_wp2
          go_roundw
          case rel => exact ⟨k + 1, by omega, by rw [E1.out]; rfl, by go_num, HF⟩
          case measure => simp [intOf]; omega
        · go_wp2
          go_roundw
          case rel => exact ⟨k + 1, by omega, by rw [E1.out]; simp, by go_num, HF⟩
          case measure => simp [intOf]; omega
      · obtain rfl : k = 1 := by omega
        go_wp2
        go_ret
        exact ⟨rfl, hrel⟩
  · subst i2 i3
    rw [i1] at H1
    clear HHAS
    go_wp2_with fail
    refine H1.mono ?_
    rintro e w' ⟨rfl, rfl⟩
    clear H1
    go_wp2_with fail
    go_loopw [10, 11] (fun u v wr => ∃ k : Nat, k ≤ m ∧ u = .int .i64 (putTo s f b 0 k).2 ∧ v = .int .i64 (k : Int) ∧ Hid (LNow S l (putTo s f b 0 k).1 w wr)) (fun _ v _ => (0 + m) - (intOf v).toNat)
    case atStart => exact ⟨0, Nat.zero_le _, rfl, by simp, cover (LNow.below HLI.out HB1.out)⟩
    case round =>
      obtain ⟨k, hk, rfl, rfl, hrel⟩ := hrel
      have hpb := HPB.out k
      by_cases hlt : k < m
      · obtain ⟨S1, hl1, hm1⟩ := hrel.out
        have hS := send_any hl1 f ((0 + k : Nat) : Int) (some ad) n c _ b (HRR.out _ _ hm1) (Nat.le_refl _) hmax (by rw [hpb.2.2.2.1]; exact hnow) (by omega)
        have e1 : (putTo s f b 0 (k + 1)).2 = (putTo s f b 0 k).2 + (sendB (putTo s f b 0 k).1 f ((0 + k : Nat) : Int)).toNat := rfl
        have e2 : (putTo s f b 0 (k + 1)).1 = sendS (putTo s f b 0 k).1 f ((0 + k : Nat) : Int) b := rfl
        rw [← e2] at hS
        have E1 := cover e1
        have M1 := cover hm1
        rw [show (((0 + k : Nat)) : Int) = (k : Int) by omega] at hS E1
        have hle := hpb.2.2.2.2.2
        obtain ⟨sb, hsb⟩ : ∃ sb, sb = sendB (putTo s f b 0 k).1 f (k : Int) := ⟨_, rfl⟩
        rw [← hsb] at hS E1
        obtain ⟨g, hg⟩ : ∃ g, g = (putTo s f b 0 k).2 := ⟨_, rfl⟩
        rw [← hg] at hle E1 ⊢
        have hlti : (k : Int) < (m : Int) := by omega
        clear hpb hl1 hm1 hrel e1 e2 hsb hg
        go_wp2_with fail
        refine hS.mono ?_
        rintro e w2 ⟨rfl, H2⟩
        have HF : Hid (LNow S l (putTo s f b 0 (k + 1)).1 w w2) := cover (by
          obtain ⟨S3, k1, k2⟩ := H2.out
          exact ⟨S3, k1, M1.out.trans k2⟩)
        clear hS H2
        rcases sb with _ | _
        · go_wp2
          go_roundw
          case rel => exact ⟨k + 1, by omega, by rw [E1.out]; rfl, by go_num, HF⟩
          case measure => simp [intOf]; omega
        · go_wp2
          go_roundw
          case rel => exact ⟨k + 1, by omega, by rw [E1.out]; simp, by go_num, HF⟩
          case measure => simp [intOf]; omega
      · obtain rfl : k = m := by omega
        go_wp2
        go_ret
        exact ⟨rfl, hrel⟩
end Go.Proofs.Ytjidhpmjdhjciaa
