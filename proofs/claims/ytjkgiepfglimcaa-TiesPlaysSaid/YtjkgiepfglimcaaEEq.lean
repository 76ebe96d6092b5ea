/- Two keys, or two rows of a key and a number: are they the same? -/
import Derived.ChangeKeysEq
import Derived.Laws.StructEq
import Derived.Test.YtjkgiepfglimcaaEKey
namespace Go.Proofs.Ytjkgiepfglimcaa
open Go.RowKit
set_option linter.unusedVariables false

/-- are two keys the same? -/
def sameE (a b : EK) : Bool := decide (a = b)
theorem sameE_iff {a b : EK} : sameE a b = true ↔ a = b := by simp [sameE]
theorem sameE_refl (a : EK) : sameE a a = true := decide_eq_true rfl
theorem eq1_run (w : World) (d : Nat) (x y : Int) : (Op.equalIn (d + 1) 5 (.int .u8 x) (.int .u8 y)).run Try.prog w = .ok (decide (x = y)) w := by
  simp [Op.equalIn, go_sem]
  rfl
theorem eqStep_run (w : World) (d : Nat) (xs ys : Array Value) (i : Nat) (is : List Nat) (x y : Int) (hx : xs[i]? = some (.int .u8 x)) (hy : ys[i]? = some (.int .u8 y)) :
    (Op.eqItems (d + 1) 5 1 xs ys (i :: is)).run Try.prog w = if x = y then (Op.eqItems (d + 1) 5 1 xs ys is).run Try.prog w else .ok false w := by
  have hk : Try.prog.plainKey 5 = true := by kernel_rfl
  rw [Op.eqItems.eq_2, Nat.mul_one]
  simp only [Sem.run_bind, run_part_plain w hk hx, run_part_plain w hk hy, Result.andThen_ok]
  rw [eq1_run w d x y, Result.andThen_ok]
  by_cases h : x = y
  · simp [h]
  · simp [h]
/-- six bytes -/
theorem eq6_run (w : World) (d : Nat) (a0 a1 a2 a3 a4 a5 b0 b1 b2 b3 b4 b5 : Int) :
    (Op.equalIn (d + 1 + 1) 26 (.agg #[.int .u8 a0, .int .u8 a1, .int .u8 a2, .int .u8 a3, .int .u8 a4, .int .u8 a5]) (.agg #[.int .u8 b0, .int .u8 b1, .int .u8 b2, .int .u8 b3, .int .u8 b4, .int .u8 b5])).run Try.prog w = .ok (decide ([a0, a1, a2, a3, a4, a5] = [b0, b1, b2, b3, b4, b5])) w := by
  obtain ⟨i, hi⟩ := info_of_underlying Try.underlying5
  have hc : Try.prog.cellsOf 5 = 1 := by kernel_rfl
  rw [run_equalIn_array w (d + 1) _ _ Try.underlying26 hi, hc, show List.range 6 = [0, 1, 2, 3, 4, 5] from rfl]
  rw [eqStep_run w d _ _ 0 _ a0 b0 rfl rfl, eqStep_run w d _ _ 1 _ a1 b1 rfl rfl, eqStep_run w d _ _ 2 _ a2 b2 rfl rfl, eqStep_run w d _ _ 3 _ a3 b3 rfl rfl, eqStep_run w d _ _ 4 _ a4 b4 rfl rfl, eqStep_run w d _ _ 5 _ a5 b5 rfl rfl]
  by_cases h0 : a0 = b0 <;> by_cases h1 : a1 = b1 <;> by_cases h2 : a2 = b2 <;> by_cases h3 : a3 = b3 <;> by_cases h4 : a4 = b4 <;> by_cases h5 : a5 = b5 <;> simp [h0, h1, h2, h3, h4, h5, Op.eqItems]
theorem eq_int (w : World) (d : Nat) (x y : Int) : (Op.equalIn (d + 1) 3 (.int .i64 x) (.int .i64 y)).run Try.prog w = .ok (decide (x = y)) w := by
  simp [Op.equalIn, go_sem]
  rfl
theorem fields_key : Try.prog.underlying 40 = some (.struct (Try.prog.fieldsOf 40)) := by
  unfold Program.fieldsOf; rw [Try.underlying40]
theorem sameE_parts (a b : EK) : sameE a b = (decide ([a.a0, a.a1, a.a2, a.a3, a.a4, a.a5] = [b.a0, b.a1, b.a2, b.a3, b.a4, b.a5]) && (decide (a.near = b.near) && decide (a.there_ = b.there_))) := by
  obtain ⟨a0, a1, a2, a3, a4, a5, a6, a7⟩ := a
  obtain ⟨b0, b1, b2, b3, b4, b5, b6, b7⟩ := b
  unfold sameE
  rw [Bool.eq_iff_iff]
  simp only [Bool.and_eq_true, decide_eq_true_eq, EK.mk.injEq, List.cons.injEq, and_true]
  constructor
  · rintro ⟨h0, h1, h2, h3, h4, h5, h6, h7⟩; exact ⟨⟨h0, h1, h2, h3, h4, h5⟩, h6, h7⟩
  · rintro ⟨⟨h0, h1, h2, h3, h4, h5⟩, h6, h7⟩; exact ⟨h0, h1, h2, h3, h4, h5, h6, h7⟩
set_option maxRecDepth 100000 in
theorem eqK_run (w : World) (d : Nat) (a b : EK) : (Op.equalIn (d + 1 + 1 + 1) 40 (keyV a) (keyV b)).run Try.prog w = .ok (sameE a b) w := by
  rw [run_equalIn_struct w (d + 1 + 1) _ _ _ fields_key (by kernel_rfl), sameE_parts]
  have e6 := eq6_run w d a.a0 a.a1 a.a2 a.a3 a.a4 a.a5 b.a0 b.a1 b.a2 b.a3 b.a4 b.a5
  have en := eq_int w (d + 1) a.near b.near
  have et := eq_int w (d + 1) a.there_ b.there_
  generalize decide ([a.a0, a.a1, a.a2, a.a3, a.a4, a.a5] = [b.a0, b.a1, b.a2, b.a3, b.a4, b.a5]) = s6 at e6 ⊢
  generalize decide (a.near = b.near) = sn at en ⊢
  generalize decide (a.there_ = b.there_) = st at et ⊢
  simp only [Program.fieldsOf, Try.underlying40]
  simp [Op.eqFields, part, Try.isAgg26, Try.sizeOf26, Try.isAgg3, Result.andThen, e6, en, et]
  cases s6 <;> cases sn <;> cases st <;> rfl
/-- '==' of two keys -/
theorem eqK_at (w : World) (a b : EK) : (Op.equalIn 10000 40 (keyV a) (keyV b)).run Try.prog w = .ok (sameE a b) w := eqK_run w 9997 a b
/-- a key, and what it has -/
abbrev rowV (k : EK) (x : Int) : Value := .agg #[.int .u8 k.a0, .int .u8 k.a1, .int .u8 k.a2, .int .u8 k.a3, .int .u8 k.a4, .int .u8 k.a5, .int .i64 k.near, .int .i64 k.there_, .int .i64 x]
def sameR (a : EK) (x : Int) (b : EK) (y : Int) : Bool := decide (a = b ∧ x = y)
theorem sameR_self (a : EK) (x : Int) : sameR a x a x = true := decide_eq_true ⟨rfl, rfl⟩
theorem sameR_parts (a : EK) (x : Int) (b : EK) (y : Int) : sameR a x b y = (sameE a b && decide (x = y)) := by
  unfold sameR sameE
  rw [Bool.eq_iff_iff]
  simp
theorem fields_row : Try.prog.underlying 44 = some (.struct (Try.prog.fieldsOf 44)) := by
  unfold Program.fieldsOf; rw [Try.underlying44]
set_option maxRecDepth 100000 in
theorem eqR_run (w : World) (a : EK) (x : Int) (b : EK) (y : Int) : (Op.equalIn 10000 44 (rowV a x) (rowV b y)).run Try.prog w = .ok (sameR a x b y) w := by
  rw [run_equalIn_struct w 9999 _ _ _ fields_row (by kernel_rfl), sameR_parts]
  have e6 := eqK_run w 9996 a b
  have en := eq_int w 9998 x y
  generalize sameE a b = s6 at e6 ⊢
  generalize decide (x = y) = sn at en ⊢
  simp only [Program.fieldsOf, Try.underlying44]
  simp [Op.eqFields, part, Try.isAgg40, Try.sizeOf40, Try.isAgg3, Result.andThen, e6, en]
  cases s6 <;> cases sn <;> rfl
end Go.Proofs.Ytjkgiepfglimcaa
