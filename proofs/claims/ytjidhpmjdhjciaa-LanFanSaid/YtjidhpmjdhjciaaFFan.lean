/- Put, as a law has it; what it leaves of a fresh lan. -/
import Derived.Test.YtjidhpmjdhjciaaFPut
import Derived.Test.YtjidhpmjdhjciaaFOrd
namespace Go.Proofs.Ytjidhpmjdhjciaa
open Go.RowKit
set_option linter.unusedVariables false

/-- a row of bytes that lies as long as what was there at W and the blocks xs lie -/
def Kept2 (W : World) (xs : List (Nat × Obj)) (A : Option Addr) (n : Nat) (b : List Int) : Prop :=
  ∀ w : World, Below W.heap.size W w → (∀ p ∈ xs, w.heap[p.1]? = some p.2) → Row w w.heap.size A n b
theorem Kept2.of_row {W : World} {xs : List (Nat × Obj)} {A : Option Addr} {n B : Nat} {b : List Int} (h : Row W B A n b) (hB : B ≤ W.heap.size) : Kept2 W xs A n b := fun w hw _ => ((h.more hB).below hw).more hw.size
theorem LHas.kept2 {W w : World} {xs : List (Nat × Obj)} {l : Nat} {s : LS} (h : LHas W xs l s w) {A : Option Addr} {n : Nat} {b : List Int} (hk : Kept2 W xs A n b) : Row w w.heap.size A n b := by
  obtain ⟨S, _, _, h3, h4⟩ := h
  exact hk w h3 (fun p hp => (h4 p hp).1)
theorem row_of_six {w : World} {g o B : Nat} {L : List Int} (h : Six w g o L) (hB : g < B) : Row w B (some ⟨g, o, none⟩) L.length L :=
  ⟨rfl, fun k hk => ⟨_, rfl, hB, by
    have : (⟨g, o, none⟩ : Addr).add k = ⟨g, o + k, none⟩ := by unfold Addr.add; split <;> simp_all
    rw [this]; exact h k hk⟩⟩
theorem own_cap6 {w : World} {base : Nat} {A : Option Addr} {c : Nat} {l : List Int} (h : OwnB w base (.slice A l.length c) l) : l.length ≤ c := by
  rcases h.2 with ⟨hv, h0⟩ | ⟨g, cap, cur, hv, _, _, hc, _⟩
  · omega
  · injection hv with _ _ hv; omega
theorem LHas.keep_more {W w w' : World} {xs ys : List (Nat × Obj)} {l : Nat} {s : LS} (h : LHas W xs l s w) (hb : Below w.heap.size w w') (hy : ∀ p ∈ ys, w'.heap[p.1]? = some p.2 ∧ w.heap.size ≤ p.1) : LHas W (ys ++ xs) l s w' := by
  obtain ⟨S', k1, k2, k3, k4⟩ := h
  refine ⟨S', k1.below hb, k2, k3.trans (hb.mono k3.size), fun p hp => ?_⟩
  rcases List.mem_append.1 hp with hp | hp
  · exact ⟨(hy p hp).1, fun hs => by have := k1.lt _ hs; have := (hy p hp).2; omega⟩
  · exact ⟨(hb.block _ (block_lt (k4 p hp).1)).trans (k4 p hp).1, (k4 p hp).2⟩
theorem put_has {W w : World} {xs : List (Nat × Obj)} {l : Nat} {s : LS} (h : LHas W xs l s w) (f : Int) (A : Option Addr) (n c : Nat) (b : List Int) (hk : Kept2 W xs A n b) (hmax : n ≤ 1000000) (hnow : s.now ≤ 1000000) (hlost : s.lost ≤ 900000) (hbt : Bts b) (hc : n ≤ c) :
    Calls Try.prog 29 #[ptr l, .int .i64 f, .slice A n c] w fun e w' => e = .returned (.int .i64 (putR s f b).2) ∧ Hid (LHas W xs l (putR s f b).1 w') := by
  have hl := (h.kept2 hk).len
  by_cases h6 : n < 6
  · refine (put_short f h6).mono ?_
    rintro e w' ⟨rfl, rfl⟩
    have : putR s f b = (s, 0) := by unfold putR; rw [if_pos (by omega)]
    rw [this]
    exact ⟨rfl, cover h⟩
  · obtain ⟨ad, _, rfl, _⟩ := (h.kept2 hk).at_ (k := 0) (by omega)
    have : putR s f b = putTo s f b (putA s b).1 (putA s b).2 := by unfold putR; rw [if_neg (by omega)]
    rw [this]
    obtain ⟨S, h1, h2, h3, h4⟩ := h
    refine (put_long h1 f ad n c b (fun w' S' hm => hk w' (Moves.below h3 hm h2 h3.size) (fun p hp => hm.at_ (h4 p hp).1 (h4 p hp).2)) hmax hnow hlost hbt (by omega) hc (putA s b).1 (putA s b).2 rfl).mono ?_
    rintro e w' ⟨rfl, H⟩
    exact ⟨rfl, cover (LHas.of_now h2 h3 h4 H.out)⟩
/-- who hears of it -/
def hearsB (n : Nat) (f : Nat) (x : Int) (i : Nat) : Bool := !decide (i = f) && (!decide (x = (f : Int)) && (decide (x = (i : Int)) || decide (x < 0) || decide ((n : Int) ≤ x)))
def wantTo (n : Nat) (f : Nat) (x : Int) : Nat → Nat
  | 0 => 0
  | k + 1 => wantTo n f x k + (hearsB n f x k).toNat
theorem wantTo_le (n f : Nat) (x : Int) (k : Nat) : wantTo n f x k ≤ k := by
  induction k with
  | zero => exact Nat.le_refl _
  | succ k ih => have : (hearsB n f x k).toNat ≤ 1 := Bool.toNat_le _; simp only [wantTo]; omega
theorem fan_send (n f : Nat) (hn : n ≤ 16) (hf : f < n) (b : List Int) (a k : Nat) (hak : a + k ≤ n) :
    (∀ i, i < n → theRow (putTo (LS.fresh n 3 9) f b a k).1 f i = if a ≤ i ∧ i < a + k ∧ i ≠ f then [(b, 0)] else []) ∧ (putTo (LS.fresh n 3 9) f b a k).1.lost = 0 := by
  induction k with
  | zero => exact ⟨fun i hi => by show theRow (LS.fresh n 3 9) f i = _; rw [row_fresh, if_neg (by omega)], rfl⟩
  | succ k ih =>
    obtain ⟨h1, h2⟩ := ih (by omega)
    have hs := putTo_same (LS.fresh n 3 9) f b a k
    have hN : (putTo (LS.fresh n 3 9) f b a k).1.n = n := hs.1
    have hM : (putTo (LS.fresh n 3 9) f b a k).1.m = 3 := hs.2.1
    have e : (putTo (LS.fresh n 3 9) f b a (k + 1)).1 = sendS (putTo (LS.fresh n 3 9) f b a k).1 f ((a + k : Nat) : Int) b := rfl
    rw [e]
    generalize (putTo (LS.fresh n 3 9) f b a k).1 = s at *
    by_cases hkf : a + k = f
    · have ho : ¬ okP s.n f ((a + k : Nat) : Int) := fun h => h.2.2 (by omega)
      rw [sendS_no ho]
      refine ⟨fun i hi => ?_, h2⟩
      rw [h1 i hi]
      by_cases hc : a ≤ i ∧ i < a + k ∧ i ≠ f
      · rw [if_pos hc, if_pos ⟨hc.1, by omega, hc.2.2⟩]
      · rw [if_neg hc, if_neg (by omega)]
    · have ho : okP s.n f ((a + k : Nat) : Int) := by rw [hN]; exact ⟨⟨by omega, by omega⟩, ⟨by omega, by omega⟩, by omega⟩
      have hr0 := h1 (a + k) (by omega)
      rw [if_neg (by omega)] at hr0
      rw [sendS_yes ho (by rw [hr0, hM]; decide), hr0]
      refine ⟨fun i hi => ?_, h2⟩
      by_cases hik : i = a + k
      · subst hik
        rw [row_set ho, if_pos ⟨by omega, by omega, hkf⟩]; rfl
      · have hne : keyP s.n f i ≠ keyP s.n f ((a + k : Nat) : Int) := by
          unfold keyP; omega
        rw [row_ne _ hne, h1 i hi]
        by_cases hc : a ≤ i ∧ i < a + k ∧ i ≠ f
        · rw [if_pos hc, if_pos ⟨hc.1, by omega, hc.2.2⟩]
        · rw [if_neg hc, if_neg (by omega)]
theorem fan_count (n f : Nat) (hn : n ≤ 16) (hf : f < n) (b : List Int) (a k : Nat) (hak : a + k < n) :
    sendB (putTo (LS.fresh n 3 9) f b a k).1 f ((a + k : Nat) : Int) = !decide (a + k = f) := by
  have h1 := (fan_send n f hn hf b a k (by omega)).1 (a + k) hak
  have hs := putTo_same (LS.fresh n 3 9) f b a k
  have hN : (putTo (LS.fresh n 3 9) f b a k).1.n = n := hs.1
  have hM : (putTo (LS.fresh n 3 9) f b a k).1.m = 3 := hs.2.1
  generalize (putTo (LS.fresh n 3 9) f b a k).1 = s at *
  rw [if_neg (by omega)] at h1
  by_cases hkf : a + k = f
  · have ho : ¬ okP s.n f ((a + k : Nat) : Int) := fun h => h.2.2 (by omega)
    rw [sendB_no ho]; simp [hkf]
  · have ho : okP s.n f ((a + k : Nat) : Int) := by rw [hN]; exact ⟨⟨by omega, by omega⟩, ⟨by omega, by omega⟩, by omega⟩
    rw [sendB_yes ho (by rw [h1, hM]; decide)]
    simp [hkf]
/-- what Put leaves of a fresh lan -/
theorem fan_put (n f : Nat) (hn : n ≤ 16) (hf : f < n) (b : List Int) (h6 : 6 ≤ b.length) :
    (∀ i, i < n → theRow (putR (LS.fresh n 3 9) f b).1 f i = if hearsB n f (numB b) i = true then [(b, 0)] else []) ∧ (putR (LS.fresh n 3 9) f b).1.lost = 0 ∧ (putR (LS.fresh n 3 9) f b).2 = wantTo n f (numB b) n ∧
      (putR (LS.fresh n 3 9) f b).1.n = n ∧ (putR (LS.fresh n 3 9) f b).1.now = 0 := by
  have e : putR (LS.fresh n 3 9) f b = putTo (LS.fresh n 3 9) f b (putA (LS.fresh n 3 9) b).1 (putA (LS.fresh n 3 9) b).2 := by unfold putR; rw [if_neg (by omega)]
  rw [e]
  generalize hx : numB b = x
  by_cases hi : 0 ≤ x ∧ x < n
  · have ea : putA (LS.fresh n 3 9) b = (x.toNat, 1) := by
      unfold putA; rw [hx, if_pos (by show (decide (0 ≤ x) && decide (x < (n : Int))) = true; simp; exact hi)]
    rw [ea]
    obtain ⟨y, rfl⟩ : ∃ y : Nat, (y : Int) = x := ⟨x.toNat, by omega⟩
    rw [Int.toNat_natCast]
    have hyn : y + 1 ≤ n := by omega
    obtain ⟨h1, h2⟩ := fan_send n f hn hf b y 1 hyn
    have hs := putTo_same (LS.fresh n 3 9) f b y 1
    refine ⟨fun i hin => ?_, h2, ?_, hs.1, hs.2.2.2.1⟩
    · rw [h1 i hin]
      have : (hearsB n f (y : Int) i = true) ↔ (y ≤ i ∧ i < y + 1 ∧ i ≠ f) := by
        simp [hearsB]; omega
      by_cases hc : y ≤ i ∧ i < y + 1 ∧ i ≠ f
      · rw [if_pos hc, if_pos (this.2 hc)]
      · rw [if_neg hc, if_neg (fun h => hc (this.1 h))]
    · have hc := fan_count n f hn hf b y 0 (by omega)
      have h0 : (putTo (LS.fresh n 3 9) f b y 1).2 = 0 + (sendB (putTo (LS.fresh n 3 9) f b y 0).1 f ((y + 0 : Nat) : Int)).toNat := rfl
      rw [h0, hc]
      have hw : ∀ k, wantTo n f (y : Int) k = (decide (y < k) && !decide (y = f)).toNat := fun k => by
        induction k with
        | zero => simp [wantTo]
        | succ k ih =>
          simp only [wantTo]
          rw [ih]
          by_cases hyf : y = f
          · have : hearsB n f (y : Int) k = false := by simp [hearsB, hyf]
            rw [this]; simp [hyf]
          · by_cases hyk : y = k
            · have : hearsB n f (y : Int) k = true := by subst hyk; simp [hearsB, hyf]; omega
              rw [this]; subst hyk; simp [hyf]
            · have : hearsB n f (y : Int) k = false := by simp [hearsB]; omega
              rw [this]
              have : decide (y < k) = decide (y < k + 1) := by simp; omega
              rw [this]; simp
      rw [hw n]
      have hyd : decide (y < n) = true := by simp; omega
      rw [hyd]; simp
  · have ea : putA (LS.fresh n 3 9) b = (0, n) := by
      unfold putA; rw [hx, if_neg (by show ¬ (decide (0 ≤ x) && decide (x < (n : Int))) = true; simp; omega)]; rfl
    rw [ea]
    obtain ⟨h1, h2⟩ := fan_send n f hn hf b 0 n (by omega)
    have hs := putTo_same (LS.fresh n 3 9) f b 0 n
    have hh : ∀ i, i < n → hearsB n f x i = !decide (i = f) := fun i hin => by
      by_cases h : i = f
      · simp [hearsB, h]
      · simp [hearsB, h]; omega
    refine ⟨fun i hin => ?_, h2, ?_, hs.1, hs.2.2.2.1⟩
    · show theRow (putTo (LS.fresh n 3 9) f b 0 n).1 f i = _
      rw [h1 i hin, hh i hin]
      by_cases hc : i = f
      · rw [if_neg (by omega), if_neg (by simp [hc])]
      · rw [if_pos ⟨by omega, by omega, hc⟩, if_pos (by simp [hc])]
    · have : ∀ k, k ≤ n → (putTo (LS.fresh n 3 9) f b 0 k).2 = wantTo n f x k := fun k => by
        induction k with
        | zero => intro _; rfl
        | succ k ih =>
          intro hk
          have hc := fan_count n f hn hf b 0 k (by omega)
          have h0 : (putTo (LS.fresh n 3 9) f b 0 (k + 1)).2 = (putTo (LS.fresh n 3 9) f b 0 k).2 + (sendB (putTo (LS.fresh n 3 9) f b 0 k).1 f ((0 + k : Nat) : Int)).toNat := rfl
          rw [h0, hc, ih (by omega)]
          simp only [wantTo]
          rw [hh k (by omega), Nat.zero_add]
      exact this n (Nat.le_refl _)
/-- from no station -/
theorem put_from_no (s : LS) (b : List Int) : (putR s (-1) b).2 = 0 := by
  unfold putR
  split
  · rfl
  · generalize (putA s b).1 = a; generalize (putA s b).2 = m
    induction m with
    | zero => rfl
    | succ m ih =>
      have : sendB (putTo s (-1) b a m).1 (-1) ((a + m : Nat) : Int) = false := by
        have ho : ¬ okP (putTo s (-1) b a m).1.n (-1) ((a + m : Nat) : Int) := fun h => by have := h.1.1; omega
        exact sendB_no ho
      simp only [putTo]; rw [this, ih]; rfl
theorem put_few (s : LS) (f : Int) (b : List Int) (h : b.length < 6) : putR s f b = (s, 0) := by unfold putR; rw [if_pos h]
end Go.Proofs.Ytjidhpmjdhjciaa
