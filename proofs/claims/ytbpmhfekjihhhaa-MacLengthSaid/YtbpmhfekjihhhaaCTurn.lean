/- Bits that are turned, one by one, in a row of the call's own. -/
import Derived.Test.YtbpmhfekjihhhaaCTab
import Derived.Test.YtbpmhfekjihhhaaOSame
namespace Go.Proofs.Ytbpmhfekjihhhaa
open Go.RowKit

theorem own_some {w : World} {base e n c : Nat} {A : Option Addr} {xs : List Value} (h : w.ownsRow base e 1 (.slice A n c) n xs) (hn : 0 < n) : ∃ g, A = some ⟨g, 0, none⟩ ∧ base ≤ g ∧ g < w.heap.size := by
  obtain ⟨A', c', hv, hA⟩ := own_shape h
  injection hv with e1 _ e2
  subst e1 e2
  rcases hA with rfl | h'
  · rcases h.2 with ⟨_, h0⟩ | ⟨g', cap, cur, hv, _⟩
    · omega
    · injection hv with hv; cases hv
  · exact h'

theorem bit_at (x : Int) (n : Nat) (h0 : 0 < n) (hn : n ≤ 100000) : ∃ k : Nat, k < n ∧ (wrap64 (x.tmod (n : Int) + (n : Int))).tmod (n : Int) = (k : Int) := by
  have h1 := Int.lt_tmod_of_pos x (show (0 : Int) < (n : Int) by omega)
  have h2 := Int.tmod_lt_of_pos x (show (0 : Int) < (n : Int) by omega)
  generalize x.tmod (n : Int) = r at h1 h2
  rw [IntWalk.wrap64_in (r + n) ⟨by omega, by omega⟩]
  rw [Int.tmod_eq_emod_of_nonneg (by omega)]
  have h3 := Int.emod_nonneg (r + n) (show (n : Int) ≠ 0 by omega)
  have h4 := Int.emod_lt_of_pos (r + n) (show (0 : Int) < (n : Int) by omega)
  exact ⟨((r + n) % (n : Int)).toNat, by omega, by omega⟩

theorem same_or (A A' : Option Addr) (n c c' B B' : Nat) (l l' : List Int) (w w0 : World) (q : Bool) (hq : Hid (decide (l = l') = q)) (h1 : Row w B A n l) (h2 : Row w B' A' n l') (hmax : n ≤ 9223372036854775807) (hb : Below w0.heap.size w0 w) :
    Calls Try.prog 22 #[.slice A n c, .slice A' n c'] w fun e w' => e = .returned (.bool q) ∧ Below w0.heap.size w0 w' :=
  (same_any A A' n c c' B B' l l' w h1 h2 hmax).mono fun e w' ⟨he, d, hw⟩ => ⟨by rw [he, hq.out], by rw [hw]; exact below_drewN hb d⟩
theorem only_tab {g g3 : Nat} {w w' : World} {T : Array Value} {f : Nat → W32} (h : TabIn w g T f) (ho : OnlyB g3 w w') (hne : g ≠ g3) : TabIn w' g T f :=
  ⟨(ho.block g h.lt (fun e => hne (by injection e))).trans h.blk, h.tab⟩

/-- the byte at place q is turned in its bit r -/
def turnAt (l : List Int) (q r : Nat) : List Int := l.set q (xorI (l.getD q 0) ((2 ^ r : Nat) : Int))
theorem turnAt_length (l : List Int) (q r : Nat) : (turnAt l q r).length = l.length := by simp [turnAt]
theorem turnAt_bts {l : List Int} (h : Bts l) (q : Nat) {r : Nat} (hr : r < 8) : Bts (turnAt l q r) := by
  intro x hx
  unfold turnAt at hx
  rcases List.mem_or_eq_of_mem_set hx with h1 | rfl
  · exact h x h1
  · refine xorI_bts (by rw [List.getD_eq_getElem?_getD]; exact h.atD q) ⟨Int.natCast_nonneg _, ?_⟩
    have : (2 : Nat) ^ r ≤ 2 ^ 7 := Nat.pow_le_pow_right (by decide) (by omega)
    generalize (2 : Nat) ^ r = z at this
    omega
theorem turnAt_bit (l : List Int) {q r : Nat} (p : Nat) (hp : p ≠ 8 * q + r) : bitAt (turnAt l q r) p = bitAt l p := by
  unfold bitAt turnAt
  by_cases e : p / 8 = q
  · by_cases hl : q < l.length
    · rw [List.getD_eq_getElem?_getD, List.getElem?_set, if_pos e.symm, if_pos (by omega), e]
      simp only [Option.getD_some, xorI, Int.toNat_natCast, Nat.testBit_xor, Nat.testBit_two_pow]
      rw [decide_eq_false (by omega)]; simp
    · rw [List.set_eq_of_length_le (by omega)]
  · rw [List.getD_eq_getElem?_getD, List.getElem?_set, if_neg (fun h => e h.symm), ← List.getD_eq_getElem?_getD]

/-- so many rounds: those bits from k on that p names are turned -/
def turnTo (l : List Int) (k : Nat) (p : Nat → Bool) : Nat → List Int
  | 0 => l
  | j + 1 => if p j = true then turnAt (turnTo l k p j) ((k + j) / 8) ((k + j) % 8) else turnTo l k p j
theorem turnTo_length (l : List Int) (k : Nat) (p : Nat → Bool) (j : Nat) : (turnTo l k p j).length = l.length := by
  induction j with
  | zero => rfl
  | succ j ih => unfold turnTo; split
                 · rw [turnAt_length, ih]
                 · exact ih
theorem turnTo_bts {l : List Int} (h : Bts l) (k : Nat) (p : Nat → Bool) (j : Nat) : Bts (turnTo l k p j) := by
  induction j with
  | zero => exact h
  | succ j ih => unfold turnTo; split
                 · exact turnAt_bts ih _ (by omega)
                 · exact ih
theorem turnTo_bit (l : List Int) (k : Nat) (p : Nat → Bool) (j q : Nat) (hq : ¬ (k ≤ q ∧ q < k + j)) : bitAt (turnTo l k p j) q = bitAt l q := by
  induction j with
  | zero => rfl
  | succ j ih =>
    unfold turnTo; split
    · rw [turnAt_bit _ _ (by omega)]; exact ih (by omega)
    · exact ih (by omega)
theorem turnTo_far (l : List Int) (k : Nat) (p : Nat → Bool) {j : Nat} (hj : j ≤ 32) (q : Nat) (hq : ¬ (k ≤ q ∧ q < k + 32)) : bitAt (turnTo l k p j) q = bitAt l q := turnTo_bit l k p j q (by omega)

/-- at the head of a round: behind world w0 the row at block g has been turned so far -/
def TurnAt (B g c : Nat) (l : List Int) (k : Nat) (p : Nat → Bool) (j : Nat) (w0 wr : World) : Prop :=
  wr.ownsRow B 5 1 (.slice (some ⟨g, 0, none⟩) l.length c) l.length ((turnTo l k p j).map (Value.int .u8)) ∧ OnlyB g w0 wr
theorem xor8_pow {x : Int} (hx : 0 ≤ x ∧ x ≤ 255) {r : Nat} (hr : r < 8) : bits BinOp.xor IntKind.u8 x (2 ^ r % 256) = xorI x ((2 ^ r : Nat) : Int) := by
  have h1 : (2 : Nat) ^ r ≤ 2 ^ 7 := Nat.pow_le_pow_right (by decide) (by omega)
  have h2 : ((2 : Int) ^ r % 256) = ((2 ^ r : Nat) : Int) := by
    rw [show (2 : Int) ^ r = ((2 ^ r : Nat) : Int) by simp]
    generalize (2 : Nat) ^ r = z at h1
    omega
  rw [h2, u8_xor x _ hx.1 (by omega) (Int.natCast_nonneg _) (by generalize (2 : Nat) ^ r = z at h1; omega)]; rfl
theorem TurnAt.step {B g c k j : Nat} {l : List Int} {p : Nat → Bool} {w0 wr : World} (h : TurnAt B g c l k p j w0 wr) (hb : Bts l) (hq : (k + j) / 8 < l.length) :
    ∃ x, wr.cell? ⟨g, (k + j) / 8, none⟩ = some (.int .u8 x) ∧ wr.frozen? ⟨g, (k + j) / 8, none⟩ = false ∧
      (p j = true → TurnAt B g c l k p (j + 1) w0 (wr.setCell ⟨g, (k + j) / 8, none⟩ (.int .u8 (bits BinOp.xor IntKind.u8 x (2 ^ ((k + j) % 8) % 256))))) ∧
      (p j = false → TurnAt B g c l k p (j + 1) w0 wr) := by
  obtain ⟨ho, hw⟩ := h
  have hl := turnTo_length l k p j
  have hbt := turnTo_bts hb k p j
  have e1 : (turnTo l k p j)[(k + j) / 8]? = some ((turnTo l k p j).getD ((k + j) / 8) 0) := by rw [List.getD_eq_getElem?_getD, List.getElem?_eq_getElem (by omega)]; rfl
  refine ⟨(turnTo l k p j).getD ((k + j) / 8) 0, ?_, ho.frozenAt _, fun hp => ⟨?_, hw.setCell _ _⟩, fun hp => ⟨?_, hw⟩⟩
  · rw [ho.cellAt _ (by omega), List.getElem?_map, e1]; rfl
  · have h1 := (ho.stored ((k + j) / 8) (.int .u8 (bits BinOp.xor IntKind.u8 ((turnTo l k p j).getD ((k + j) / 8) 0) (2 ^ ((k + j) % 8) % 256)))).1
    rw [← List.map_set, xor8_pow (by rw [List.getD_eq_getElem?_getD]; exact hbt.atD _) (by omega)] at h1
    rw [xor8_pow (by rw [List.getD_eq_getElem?_getD]; exact hbt.atD _) (by omega)]
    have e : turnTo l k p (j + 1) = turnAt (turnTo l k p j) ((k + j) / 8) ((k + j) % 8) := by rw [turnTo, if_pos hp]
    rw [e]
    exact h1
  · have e : turnTo l k p (j + 1) = turnTo l k p j := by rw [turnTo, if_neg (by simp [hp])]
    rw [e]
    exact ho
end Go.Proofs.Ytbpmhfekjihhhaa
