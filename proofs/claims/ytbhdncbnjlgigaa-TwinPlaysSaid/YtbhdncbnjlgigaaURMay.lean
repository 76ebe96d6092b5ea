/- What the document's own flag, Code, mayU and May answer. -/
import Derived.Test.YtbhdncbnjlgigaaRows
import Derived.Test.YtbhdncbnjlgigaaOWords
import Derived.Test.YtbhdncbnjlgigaaUMath
namespace Go.Proofs.Ytbhdncbnjlgigaa
open Go.RowKit
set_option linter.unusedVariables false

/-- may it be, as a Boolean -/
noncomputable def mayB (p : PV) : Bool := @decide (MayP p) (Classical.propDecidable _)
noncomputable def mayUB (p : PV) : Bool := @decide (p.ns = 0 ∧ p.nr = 0 ∧ MayU p) (Classical.propDecidable _)
theorem mayB_yes {p : PV} (h : MayP p) : mayB p = true := by simp [mayB, h]
theorem mayB_no {p : PV} (h : ¬ MayP p) : mayB p = false := by simp [mayB, h]
theorem mayB_iff {p : PV} : mayB p = true ↔ MayP p := by simp [mayB]
theorem mayUB_yes {p : PV} (h : p.ns = 0 ∧ p.nr = 0 ∧ MayU p) : mayUB p = true := by simp [mayUB, h]
theorem mayUB_no {p : PV} (h : ¬ (p.ns = 0 ∧ p.nr = 0 ∧ MayU p)) : mayUB p = false := by simp [mayUB, h]

theorem even_or (x : Int) : (x % 2 = 0 ∧ x.tmod 2 = 0) ∨ (x % 2 ≠ 0 ∧ x.tmod 2 ≠ 0) := by
  rcases Int.emod_two_eq x with h | h
  · exact .inl ⟨h, Int.tmod_eq_zero_of_dvd (by omega)⟩
  · refine .inr ⟨by omega, fun hc => ?_⟩
    have := Int.dvd_of_tmod_eq_zero hc
    omega

set_option maxHeartbeats 3200000 in
theorem ref_mayU_any (p : PV) (A : Option Addr) (c : Nat) (w : World) :
    Calls Try.prog 26 #[.agg #[.int .i64 p.to, .int .i64 p.frm, .bool p.resp, .int .i64 p.form, .int .i64 p.kind, .int .i64 p.ns, .int .i64 p.nr, .bool p.poll, .slice A p.info.length c]] w fun e w' => e = .returned (.bool (mayUB p)) ∧ Below w.heap.size w w' := by
  by_cases h1 : p.ns = 0
  case neg =>
    have HM : Hid (mayUB p = false) := cover (mayUB_no (fun e => h1 e.1))
    go_enter Try.func26, Try.ntmps26
    go_wp2
    go_ret
    exact ⟨ret_bool (by first | exact HM.out.symm | (rw [HM.out, beq_eq_false_iff_ne]; omega) | (rw [HM.out, beq_iff_eq]; omega)), (Below.refl _ _).alloc (Nat.le_refl _) _⟩
  by_cases h2 : p.nr = 0
  case neg =>
    have HM : Hid (mayUB p = false) := cover (mayUB_no (fun e => h2 e.2.1))
    go_enter Try.func26, Try.ntmps26
    go_wp2
    go_ret
    exact ⟨ret_bool (by first | exact HM.out.symm | (rw [HM.out, beq_eq_false_iff_ne]; omega) | (rw [HM.out, beq_iff_eq]; omega)), (Below.refl _ _).alloc (Nat.le_refl _) _⟩
  by_cases k0 : p.kind = 0
  case pos =>
    rcases hr : p.resp with _ | _
    case false =>
      have HM : Hid (mayUB p = true) := cover (mayUB_yes ⟨h1, h2, .inl ⟨k0, hr⟩⟩)
      go_enter Try.func26, Try.ntmps26
      go_wp2
      go_ret
      exact ⟨ret_bool (by first | exact HM.out.symm | (rw [HM.out, beq_eq_false_iff_ne]; omega) | (rw [HM.out, beq_iff_eq]; omega)), (Below.refl _ _).alloc (Nat.le_refl _) _⟩
    case true =>
      have HM : Hid (mayUB p = false) := cover (mayUB_no (by rintro ⟨e1, e2, e3⟩; rcases e3 with e | e | e | e | e | e | e <;> first | omega | (rw [hr] at e; exact absurd e.2 (by decide))))
      go_enter Try.func26, Try.ntmps26
      go_wp2
      go_ret
      exact ⟨ret_bool (by first | exact HM.out.symm | (rw [HM.out, beq_eq_false_iff_ne]; omega) | (rw [HM.out, beq_iff_eq]; omega)), (Below.refl _ _).alloc (Nat.le_refl _) _⟩
  by_cases k1 : p.kind = 1
  case pos =>
    have HM : Hid (mayUB p = true) := cover (mayUB_yes ⟨h1, h2, .inr (.inl k1)⟩)
    go_enter Try.func26, Try.ntmps26
    go_wp2
    go_ret
    exact ⟨ret_bool (by first | exact HM.out.symm | (rw [HM.out, beq_eq_false_iff_ne]; omega) | (rw [HM.out, beq_iff_eq]; omega)), (Below.refl _ _).alloc (Nat.le_refl _) _⟩
  by_cases k2 : p.kind = 2
  case pos =>
    have HM : Hid (mayUB p = true) := cover (mayUB_yes ⟨h1, h2, .inr (.inr (.inl k2))⟩)
    go_enter Try.func26, Try.ntmps26
    go_wp2
    go_ret
    exact ⟨ret_bool (by first | exact HM.out.symm | (rw [HM.out, beq_eq_false_iff_ne]; omega) | (rw [HM.out, beq_iff_eq]; omega)), (Below.refl _ _).alloc (Nat.le_refl _) _⟩
  by_cases k3 : p.kind = 3
  case pos =>
    rcases hr : p.resp with _ | _
    case true =>
      have HM : Hid (mayUB p = false) := cover (mayUB_no (by rintro ⟨e1, e2, e3⟩; rcases e3 with e | e | e | e | e | e | e <;> first | omega | (rw [hr] at e; exact absurd e.2.1 (by decide))))
      go_enter Try.func26, Try.ntmps26
      go_wp2
      go_ret
      exact ⟨ret_bool (by first | exact HM.out.symm | (rw [HM.out, beq_eq_false_iff_ne]; omega) | (rw [HM.out, beq_iff_eq]; omega)), (Below.refl _ _).alloc (Nat.le_refl _) _⟩
    case false =>
      by_cases hl : p.info.length = 4
      case neg =>
        have hl2 : ¬ ((p.info.length : Int) = 4) := by omega
        have HM : Hid (mayUB p = false) := cover (mayUB_no (by rintro ⟨e1, e2, e3⟩; rcases e3 with e | e | e | e | e | e | e <;> omega))
        go_enter Try.func26, Try.ntmps26
        go_wp2
        go_ret
        exact ⟨ret_bool (by first | exact HM.out.symm | (rw [HM.out, beq_eq_false_iff_ne]; omega) | (rw [HM.out, beq_iff_eq]; omega)), (Below.refl _ _).alloc (Nat.le_refl _) _⟩
      have hl2 : (p.info.length : Int) = 4 := by omega
      rcases even_or p.to with ⟨he, ht⟩ | ⟨he, ht⟩
      · have HM : Hid (mayUB p = true) := cover (mayUB_yes ⟨h1, h2, .inr (.inr (.inr (.inl ⟨.inl k3, hr, hl, he⟩)))⟩)
        go_enter Try.func26, Try.ntmps26
        go_wp2
        go_ret
        exact ⟨ret_bool (by first | exact HM.out.symm | (rw [HM.out, beq_eq_false_iff_ne]; omega) | (rw [HM.out, beq_iff_eq]; omega)), (Below.refl _ _).alloc (Nat.le_refl _) _⟩
      · have HM : Hid (mayUB p = false) := cover (mayUB_no (by rintro ⟨e1, e2, e3⟩; rcases e3 with e | e | e | e | e | e | e <;> omega))
        go_enter Try.func26, Try.ntmps26
        go_wp2
        go_ret
        exact ⟨ret_bool (by first | exact HM.out.symm | (rw [HM.out, beq_eq_false_iff_ne]; omega) | (rw [HM.out, beq_iff_eq]; omega)), (Below.refl _ _).alloc (Nat.le_refl _) _⟩
  by_cases k4 : p.kind = 4
  case pos =>
    rcases hr : p.resp with _ | _
    case true =>
      have HM : Hid (mayUB p = false) := cover (mayUB_no (by rintro ⟨e1, e2, e3⟩; rcases e3 with e | e | e | e | e | e | e <;> first | omega | (rw [hr] at e; exact absurd e.2.1 (by decide))))
      go_enter Try.func26, Try.ntmps26
      go_wp2
      go_ret
      exact ⟨ret_bool (by first | exact HM.out.symm | (rw [HM.out, beq_eq_false_iff_ne]; omega) | (rw [HM.out, beq_iff_eq]; omega)), (Below.refl _ _).alloc (Nat.le_refl _) _⟩
    case false =>
      by_cases hl : p.info.length = 4
      case neg =>
        have hl2 : ¬ ((p.info.length : Int) = 4) := by omega
        have HM : Hid (mayUB p = false) := cover (mayUB_no (by rintro ⟨e1, e2, e3⟩; rcases e3 with e | e | e | e | e | e | e <;> omega))
        go_enter Try.func26, Try.ntmps26
        go_wp2
        go_ret
        exact ⟨ret_bool (by first | exact HM.out.symm | (rw [HM.out, beq_eq_false_iff_ne]; omega) | (rw [HM.out, beq_iff_eq]; omega)), (Below.refl _ _).alloc (Nat.le_refl _) _⟩
      have hl2 : (p.info.length : Int) = 4 := by omega
      rcases even_or p.to with ⟨he, ht⟩ | ⟨he, ht⟩
      · have HM : Hid (mayUB p = true) := cover (mayUB_yes ⟨h1, h2, .inr (.inr (.inr (.inl ⟨.inr k4, hr, hl, he⟩)))⟩)
        go_enter Try.func26, Try.ntmps26
        go_wp2
        go_ret
        exact ⟨ret_bool (by first | exact HM.out.symm | (rw [HM.out, beq_eq_false_iff_ne]; omega) | (rw [HM.out, beq_iff_eq]; omega)), (Below.refl _ _).alloc (Nat.le_refl _) _⟩
      · have HM : Hid (mayUB p = false) := cover (mayUB_no (by rintro ⟨e1, e2, e3⟩; rcases e3 with e | e | e | e | e | e | e <;> omega))
        go_enter Try.func26, Try.ntmps26
        go_wp2
        go_ret
        exact ⟨ret_bool (by first | exact HM.out.symm | (rw [HM.out, beq_eq_false_iff_ne]; omega) | (rw [HM.out, beq_iff_eq]; omega)), (Below.refl _ _).alloc (Nat.le_refl _) _⟩
  by_cases k5 : p.kind = 5
  case pos =>
    rcases hr : p.resp with _ | _
    case false =>
      have HM : Hid (mayUB p = false) := cover (mayUB_no (by rintro ⟨e1, e2, e3⟩; rcases e3 with e | e | e | e | e | e | e <;> first | omega | (rw [hr] at e; exact absurd e.2.1 (by decide))))
      go_enter Try.func26, Try.ntmps26
      go_wp2
      go_ret
      exact ⟨ret_bool (by first | exact HM.out.symm | (rw [HM.out, beq_eq_false_iff_ne]; omega) | (rw [HM.out, beq_iff_eq]; omega)), (Below.refl _ _).alloc (Nat.le_refl _) _⟩
    case true =>
      by_cases hl : p.info.length = 4
      case neg =>
        have hl2 : ¬ ((p.info.length : Int) = 4) := by omega
        have HM : Hid (mayUB p = false) := cover (mayUB_no (by rintro ⟨e1, e2, e3⟩; rcases e3 with e | e | e | e | e | e | e <;> omega))
        go_enter Try.func26, Try.ntmps26
        go_wp2
        go_ret
        exact ⟨ret_bool (by first | exact HM.out.symm | (rw [HM.out, beq_eq_false_iff_ne]; omega) | (rw [HM.out, beq_iff_eq]; omega)), (Below.refl _ _).alloc (Nat.le_refl _) _⟩
      have hl2 : (p.info.length : Int) = 4 := by omega
      rcases even_or p.to with ⟨he, ht⟩ | ⟨he, ht⟩
      · have HM : Hid (mayUB p = true) := cover (mayUB_yes ⟨h1, h2, .inr (.inr (.inr (.inr (.inl ⟨.inl k5, hr, hl, he⟩))))⟩)
        go_enter Try.func26, Try.ntmps26
        go_wp2
        go_ret
        exact ⟨ret_bool (by first | exact HM.out.symm | (rw [HM.out, beq_eq_false_iff_ne]; omega) | (rw [HM.out, beq_iff_eq]; omega)), (Below.refl _ _).alloc (Nat.le_refl _) _⟩
      · have HM : Hid (mayUB p = false) := cover (mayUB_no (by rintro ⟨e1, e2, e3⟩; rcases e3 with e | e | e | e | e | e | e <;> omega))
        go_enter Try.func26, Try.ntmps26
        go_wp2
        go_ret
        exact ⟨ret_bool (by first | exact HM.out.symm | (rw [HM.out, beq_eq_false_iff_ne]; omega) | (rw [HM.out, beq_iff_eq]; omega)), (Below.refl _ _).alloc (Nat.le_refl _) _⟩
  by_cases k6 : p.kind = 6
  case pos =>
    rcases hr : p.resp with _ | _
    case false =>
      have HM : Hid (mayUB p = false) := cover (mayUB_no (by rintro ⟨e1, e2, e3⟩; rcases e3 with e | e | e | e | e | e | e <;> first | omega | (rw [hr] at e; exact absurd e.2.1 (by decide))))
      go_enter Try.func26, Try.ntmps26
      go_wp2
      go_ret
      exact ⟨ret_bool (by first | exact HM.out.symm | (rw [HM.out, beq_eq_false_iff_ne]; omega) | (rw [HM.out, beq_iff_eq]; omega)), (Below.refl _ _).alloc (Nat.le_refl _) _⟩
    case true =>
      by_cases hl : p.info.length = 4
      case neg =>
        have hl2 : ¬ ((p.info.length : Int) = 4) := by omega
        have HM : Hid (mayUB p = false) := cover (mayUB_no (by rintro ⟨e1, e2, e3⟩; rcases e3 with e | e | e | e | e | e | e <;> omega))
        go_enter Try.func26, Try.ntmps26
        go_wp2
        go_ret
        exact ⟨ret_bool (by first | exact HM.out.symm | (rw [HM.out, beq_eq_false_iff_ne]; omega) | (rw [HM.out, beq_iff_eq]; omega)), (Below.refl _ _).alloc (Nat.le_refl _) _⟩
      have hl2 : (p.info.length : Int) = 4 := by omega
      rcases even_or p.to with ⟨he, ht⟩ | ⟨he, ht⟩
      · have HM : Hid (mayUB p = true) := cover (mayUB_yes ⟨h1, h2, .inr (.inr (.inr (.inr (.inl ⟨.inr k6, hr, hl, he⟩))))⟩)
        go_enter Try.func26, Try.ntmps26
        go_wp2
        go_ret
        exact ⟨ret_bool (by first | exact HM.out.symm | (rw [HM.out, beq_eq_false_iff_ne]; omega) | (rw [HM.out, beq_iff_eq]; omega)), (Below.refl _ _).alloc (Nat.le_refl _) _⟩
      · have HM : Hid (mayUB p = false) := cover (mayUB_no (by rintro ⟨e1, e2, e3⟩; rcases e3 with e | e | e | e | e | e | e <;> omega))
        go_enter Try.func26, Try.ntmps26
        go_wp2
        go_ret
        exact ⟨ret_bool (by first | exact HM.out.symm | (rw [HM.out, beq_eq_false_iff_ne]; omega) | (rw [HM.out, beq_iff_eq]; omega)), (Below.refl _ _).alloc (Nat.le_refl _) _⟩
  by_cases k7 : p.kind = 7
  case pos =>
    rcases hr : p.resp with _ | _
    case false =>
      have HM : Hid (mayUB p = false) := cover (mayUB_no (by rintro ⟨e1, e2, e3⟩; rcases e3 with e | e | e | e | e | e | e <;> first | omega | (rw [hr] at e; exact absurd e.2.1 (by decide))))
      go_enter Try.func26, Try.ntmps26
      go_wp2
      go_ret
      exact ⟨ret_bool (by first | exact HM.out.symm | (rw [HM.out, beq_eq_false_iff_ne]; omega) | (rw [HM.out, beq_iff_eq]; omega)), (Below.refl _ _).alloc (Nat.le_refl _) _⟩
    case true =>
      by_cases hl : p.info.length = 5
      case neg =>
        have hl2 : ¬ ((p.info.length : Int) = 5) := by omega
        have HM : Hid (mayUB p = false) := cover (mayUB_no (by rintro ⟨e1, e2, e3⟩; rcases e3 with e | e | e | e | e | e | e <;> omega))
        go_enter Try.func26, Try.ntmps26
        go_wp2
        go_ret
        exact ⟨ret_bool (by first | exact HM.out.symm | (rw [HM.out, beq_eq_false_iff_ne]; omega) | (rw [HM.out, beq_iff_eq]; omega)), (Below.refl _ _).alloc (Nat.le_refl _) _⟩
      have hl2 : (p.info.length : Int) = 5 := by omega
      rcases even_or p.to with ⟨he, ht⟩ | ⟨he, ht⟩
      · have HM : Hid (mayUB p = true) := cover (mayUB_yes ⟨h1, h2, .inr (.inr (.inr (.inr (.inr (.inl ⟨k7, hr, hl, he⟩)))))⟩)
        go_enter Try.func26, Try.ntmps26
        go_wp2
        go_ret
        exact ⟨ret_bool (by first | exact HM.out.symm | (rw [HM.out, beq_eq_false_iff_ne]; omega) | (rw [HM.out, beq_iff_eq]; omega)), (Below.refl _ _).alloc (Nat.le_refl _) _⟩
      · have HM : Hid (mayUB p = false) := cover (mayUB_no (by rintro ⟨e1, e2, e3⟩; rcases e3 with e | e | e | e | e | e | e <;> omega))
        go_enter Try.func26, Try.ntmps26
        go_wp2
        go_ret
        exact ⟨ret_bool (by first | exact HM.out.symm | (rw [HM.out, beq_eq_false_iff_ne]; omega) | (rw [HM.out, beq_iff_eq]; omega)), (Below.refl _ _).alloc (Nat.le_refl _) _⟩
  by_cases k8 : p.kind = 8
  case pos =>
    rcases even_or p.to with ⟨he, ht⟩ | ⟨he, ht⟩
    · have HM : Hid (mayUB p = true) := cover (mayUB_yes ⟨h1, h2, .inr (.inr (.inr (.inr (.inr (.inr ⟨.inl k8, he⟩)))))⟩)
      go_enter Try.func26, Try.ntmps26
      go_wp2
      go_ret
      exact ⟨ret_bool (by first | exact HM.out.symm | (rw [HM.out, beq_eq_false_iff_ne]; omega) | (rw [HM.out, beq_iff_eq]; omega)), (Below.refl _ _).alloc (Nat.le_refl _) _⟩
    · have HM : Hid (mayUB p = false) := cover (mayUB_no (by rintro ⟨e1, e2, e3⟩; rcases e3 with e | e | e | e | e | e | e <;> omega))
      go_enter Try.func26, Try.ntmps26
      go_wp2
      go_ret
      exact ⟨ret_bool (by first | exact HM.out.symm | (rw [HM.out, beq_eq_false_iff_ne]; omega) | (rw [HM.out, beq_iff_eq]; omega)), (Below.refl _ _).alloc (Nat.le_refl _) _⟩
  by_cases k9 : p.kind = 9
  case pos =>
    rcases even_or p.to with ⟨he, ht⟩ | ⟨he, ht⟩
    · have HM : Hid (mayUB p = true) := cover (mayUB_yes ⟨h1, h2, .inr (.inr (.inr (.inr (.inr (.inr ⟨.inr k9, he⟩)))))⟩)
      go_enter Try.func26, Try.ntmps26
      go_wp2
      go_ret
      exact ⟨ret_bool (by first | exact HM.out.symm | (rw [HM.out, beq_eq_false_iff_ne]; omega) | (rw [HM.out, beq_iff_eq]; omega)), (Below.refl _ _).alloc (Nat.le_refl _) _⟩
    · have HM : Hid (mayUB p = false) := cover (mayUB_no (by rintro ⟨e1, e2, e3⟩; rcases e3 with e | e | e | e | e | e | e <;> omega))
      go_enter Try.func26, Try.ntmps26
      go_wp2
      go_ret
      exact ⟨ret_bool (by first | exact HM.out.symm | (rw [HM.out, beq_eq_false_iff_ne]; omega) | (rw [HM.out, beq_iff_eq]; omega)), (Below.refl _ _).alloc (Nat.le_refl _) _⟩
  have HM : Hid (mayUB p = false) := cover (mayUB_no (by rintro ⟨e1, e2, e3⟩; rcases e3 with e | e | e | e | e | e | e <;> omega))
  go_enter Try.func26, Try.ntmps26
  go_wp2
  go_ret
  exact ⟨ret_bool (by first | exact HM.out.symm | (rw [HM.out, beq_eq_false_iff_ne]; omega) | (rw [HM.out, beq_iff_eq]; omega)), (Below.refl _ _).alloc (Nat.le_refl _) _⟩

set_option maxHeartbeats 1600000 in
theorem ref_may_any (p : PV) (A : Option Addr) (c : Nat) (w : World) :
    Calls Try.prog 18 #[.agg #[.int .i64 p.to, .int .i64 p.frm, .bool p.resp, .int .i64 p.form, .int .i64 p.kind, .int .i64 p.ns, .int .i64 p.nr, .bool p.poll, .slice A p.info.length c]] w fun e w' => e = .returned (.bool (mayB p)) ∧ Below w.heap.size w w' := by
  obtain ⟨w1, hw1⟩ : ∃ w1, Hid (w1 = w.alloc (.cells #[.int .i64 p.to, .int .i64 p.frm, .bool p.resp, .int .i64 p.form, .int .i64 p.kind, .int .i64 p.ns, .int .i64 p.nr, .bool p.poll, .slice A p.info.length c] 30)) := ⟨_, cover rfl⟩
  have H1 : Hid (Below w.heap.size w w1) := cover (by rw [hw1.out]; exact (Below.refl _ _).alloc (Nat.le_refl _) _)
  by_cases c0 : p.to < 0
  case pos =>
    have HM : Hid (mayB p = false) := cover (mayB_no (fun e => by obtain ⟨⟨⟨e1, e2⟩, ⟨e3, e4, e5⟩, ⟨e6, e7⟩, ⟨e8, e9⟩, e10⟩, _⟩ := e; omega))
    go_enter Try.func18, Try.ntmps18
    go_wp2
    go_ret
    exact ⟨ret_bool (by first | exact HM.out.symm | (rw [HM.out, beq_eq_false_iff_ne]; omega) | (rw [HM.out, beq_iff_eq]; omega)), (Below.refl _ _).alloc (Nat.le_refl _) _⟩
  by_cases c1 : 255 < p.to
  case pos =>
    have HM : Hid (mayB p = false) := cover (mayB_no (fun e => by obtain ⟨⟨⟨e1, e2⟩, ⟨e3, e4, e5⟩, ⟨e6, e7⟩, ⟨e8, e9⟩, e10⟩, _⟩ := e; omega))
    go_enter Try.func18, Try.ntmps18
    go_wp2
    go_ret
    exact ⟨ret_bool (by first | exact HM.out.symm | (rw [HM.out, beq_eq_false_iff_ne]; omega) | (rw [HM.out, beq_iff_eq]; omega)), (Below.refl _ _).alloc (Nat.le_refl _) _⟩
  by_cases c2 : p.frm < 0
  case pos =>
    have HM : Hid (mayB p = false) := cover (mayB_no (fun e => by obtain ⟨⟨⟨e1, e2⟩, ⟨e3, e4, e5⟩, ⟨e6, e7⟩, ⟨e8, e9⟩, e10⟩, _⟩ := e; omega))
    go_enter Try.func18, Try.ntmps18
    go_wp2
    go_ret
    exact ⟨ret_bool (by first | exact HM.out.symm | (rw [HM.out, beq_eq_false_iff_ne]; omega) | (rw [HM.out, beq_iff_eq]; omega)), (Below.refl _ _).alloc (Nat.le_refl _) _⟩
  by_cases c3 : 254 < p.frm
  case pos =>
    have HM : Hid (mayB p = false) := cover (mayB_no (fun e => by obtain ⟨⟨⟨e1, e2⟩, ⟨e3, e4, e5⟩, ⟨e6, e7⟩, ⟨e8, e9⟩, e10⟩, _⟩ := e; omega))
    go_enter Try.func18, Try.ntmps18
    go_wp2
    go_ret
    exact ⟨ret_bool (by first | exact HM.out.symm | (rw [HM.out, beq_eq_false_iff_ne]; omega) | (rw [HM.out, beq_iff_eq]; omega)), (Below.refl _ _).alloc (Nat.le_refl _) _⟩
  rcases even_or p.frm with ⟨he, ht⟩ | ⟨he, ht⟩
  case inr =>
    have ht1 : p.frm.tmod 2 = 1 := by rw [Int.tmod_eq_emod_of_nonneg (by omega)] at ht ⊢; omega
    have HM : Hid (mayB p = false) := cover (mayB_no (fun e => by obtain ⟨⟨⟨e1, e2⟩, ⟨e3, e4, e5⟩, ⟨e6, e7⟩, ⟨e8, e9⟩, e10⟩, _⟩ := e; omega))
    go_enter Try.func18, Try.ntmps18
    go_wp2
    go_ret
    exact ⟨ret_bool (by first | exact HM.out.symm | (rw [HM.out, beq_eq_false_iff_ne]; omega) | (rw [HM.out, beq_iff_eq]; omega)), (Below.refl _ _).alloc (Nat.le_refl _) _⟩
  have ht1 : ¬ p.frm.tmod 2 = 1 := by omega
  by_cases c5 : p.ns < 0
  case pos =>
    have HM : Hid (mayB p = false) := cover (mayB_no (fun e => by obtain ⟨⟨⟨e1, e2⟩, ⟨e3, e4, e5⟩, ⟨e6, e7⟩, ⟨e8, e9⟩, e10⟩, _⟩ := e; omega))
    go_enter Try.func18, Try.ntmps18
    go_wp2
    go_ret
    exact ⟨ret_bool (by first | exact HM.out.symm | (rw [HM.out, beq_eq_false_iff_ne]; omega) | (rw [HM.out, beq_iff_eq]; omega)), (Below.refl _ _).alloc (Nat.le_refl _) _⟩
  by_cases c6 : 127 < p.ns
  case pos =>
    have HM : Hid (mayB p = false) := cover (mayB_no (fun e => by obtain ⟨⟨⟨e1, e2⟩, ⟨e3, e4, e5⟩, ⟨e6, e7⟩, ⟨e8, e9⟩, e10⟩, _⟩ := e; omega))
    go_enter Try.func18, Try.ntmps18
    go_wp2
    go_ret
    exact ⟨ret_bool (by first | exact HM.out.symm | (rw [HM.out, beq_eq_false_iff_ne]; omega) | (rw [HM.out, beq_iff_eq]; omega)), (Below.refl _ _).alloc (Nat.le_refl _) _⟩
  by_cases c7 : p.nr < 0
  case pos =>
    have HM : Hid (mayB p = false) := cover (mayB_no (fun e => by obtain ⟨⟨⟨e1, e2⟩, ⟨e3, e4, e5⟩, ⟨e6, e7⟩, ⟨e8, e9⟩, e10⟩, _⟩ := e; omega))
    go_enter Try.func18, Try.ntmps18
    go_wp2
    go_ret
    exact ⟨ret_bool (by first | exact HM.out.symm | (rw [HM.out, beq_eq_false_iff_ne]; omega) | (rw [HM.out, beq_iff_eq]; omega)), (Below.refl _ _).alloc (Nat.le_refl _) _⟩
  by_cases c8 : 127 < p.nr
  case pos =>
    have HM : Hid (mayB p = false) := cover (mayB_no (fun e => by obtain ⟨⟨⟨e1, e2⟩, ⟨e3, e4, e5⟩, ⟨e6, e7⟩, ⟨e8, e9⟩, e10⟩, _⟩ := e; omega))
    go_enter Try.func18, Try.ntmps18
    go_wp2
    go_ret
    exact ⟨ret_bool (by first | exact HM.out.symm | (rw [HM.out, beq_eq_false_iff_ne]; omega) | (rw [HM.out, beq_iff_eq]; omega)), (Below.refl _ _).alloc (Nat.le_refl _) _⟩
  by_cases c9 : 1040 < (p.info.length : Int)
  case pos =>
    have HM : Hid (mayB p = false) := cover (mayB_no (fun e => by obtain ⟨⟨⟨e1, e2⟩, ⟨e3, e4, e5⟩, ⟨e6, e7⟩, ⟨e8, e9⟩, e10⟩, _⟩ := e; omega))
    go_enter Try.func18, Try.ntmps18
    go_wp2
    go_ret
    exact ⟨ret_bool (by first | exact HM.out.symm | (rw [HM.out, beq_eq_false_iff_ne]; omega) | (rw [HM.out, beq_iff_eq]; omega)), (Below.refl _ _).alloc (Nat.le_refl _) _⟩
  have HN : Hid (MayN p) := cover ⟨by omega, by omega, by omega, by omega, by omega⟩
  by_cases f0 : p.form = 0
  case pos =>
    by_cases k0 : p.kind = 0
    case neg =>
      have HM : Hid (mayB p = false) := cover (mayB_no (fun e => by rcases e.2 with f | f | f <;> omega))
      go_enter Try.func18, Try.ntmps18
      go_wp2
      go_ret
      exact ⟨ret_bool (by first | exact HM.out.symm | (rw [HM.out, beq_eq_false_iff_ne]; omega) | (rw [HM.out, beq_iff_eq]; omega)), (Below.refl _ _).alloc (Nat.le_refl _) _⟩
    rcases even_or p.to with ⟨ge, gt⟩ | ⟨ge, gt⟩
    · have HM : Hid (mayB p = true) := cover (mayB_yes ⟨HN.out, .inl ⟨f0, k0, ge⟩⟩)
      go_enter Try.func18, Try.ntmps18
      go_wp2
      go_ret
      exact ⟨ret_bool (by first | exact HM.out.symm | (rw [HM.out, beq_eq_false_iff_ne]; omega) | (rw [HM.out, beq_iff_eq]; omega)), (Below.refl _ _).alloc (Nat.le_refl _) _⟩
    · have HM : Hid (mayB p = false) := cover (mayB_no (fun e => by rcases e.2 with f | f | f <;> omega))
      go_enter Try.func18, Try.ntmps18
      go_wp2
      go_ret
      exact ⟨ret_bool (by first | exact HM.out.symm | (rw [HM.out, beq_eq_false_iff_ne]; omega) | (rw [HM.out, beq_iff_eq]; omega)), (Below.refl _ _).alloc (Nat.le_refl _) _⟩
  by_cases f1 : p.form = 1
  case pos =>
    by_cases k0 : 0 ≤ p.kind
    case neg =>
      have HM : Hid (mayB p = false) := cover (mayB_no (fun e => by rcases e.2 with f | f | f <;> omega))
      go_enter Try.func18, Try.ntmps18
      go_wp2
      go_ret
      exact ⟨ret_bool (by first | exact HM.out.symm | (rw [HM.out, beq_eq_false_iff_ne]; omega) | (rw [HM.out, beq_iff_eq]; omega)), (Below.refl _ _).alloc (Nat.le_refl _) _⟩
    by_cases k2 : p.kind ≤ 2
    case neg =>
      have HM : Hid (mayB p = false) := cover (mayB_no (fun e => by rcases e.2 with f | f | f <;> omega))
      go_enter Try.func18, Try.ntmps18
      go_wp2
      go_ret
      exact ⟨ret_bool (by first | exact HM.out.symm | (rw [HM.out, beq_eq_false_iff_ne]; omega) | (rw [HM.out, beq_iff_eq]; omega)), (Below.refl _ _).alloc (Nat.le_refl _) _⟩
    by_cases n0 : p.ns = 0
    case neg =>
      have HM : Hid (mayB p = false) := cover (mayB_no (fun e => by rcases e.2 with f | f | f <;> omega))
      go_enter Try.func18, Try.ntmps18
      go_wp2
      go_ret
      exact ⟨ret_bool (by first | exact HM.out.symm | (rw [HM.out, beq_eq_false_iff_ne]; omega) | (rw [HM.out, beq_iff_eq]; omega)), (Below.refl _ _).alloc (Nat.le_refl _) _⟩
    by_cases l0 : p.info.length = 0
    case neg =>
      have l1 : ¬ ((p.info.length : Int) = 0) := by omega
      have HM : Hid (mayB p = false) := cover (mayB_no (fun e => by rcases e.2 with f | f | f <;> omega))
      go_enter Try.func18, Try.ntmps18
      go_wp2
      go_ret
      exact ⟨ret_bool (by first | exact HM.out.symm | (rw [HM.out, beq_eq_false_iff_ne]; omega) | (rw [HM.out, beq_iff_eq]; omega)), (Below.refl _ _).alloc (Nat.le_refl _) _⟩
    have l1 : (p.info.length : Int) = 0 := by omega
    rcases even_or p.to with ⟨ge, gt⟩ | ⟨ge, gt⟩
    · have HM : Hid (mayB p = true) := cover (mayB_yes ⟨HN.out, .inr (.inl ⟨f1, ⟨k0, k2⟩, n0, l0, ge⟩)⟩)
      go_enter Try.func18, Try.ntmps18
      go_wp2
      go_ret
      exact ⟨ret_bool (by first | exact HM.out.symm | (rw [HM.out, beq_eq_false_iff_ne]; omega) | (rw [HM.out, beq_iff_eq]; omega)), (Below.refl _ _).alloc (Nat.le_refl _) _⟩
    · have HM : Hid (mayB p = false) := cover (mayB_no (fun e => by rcases e.2 with f | f | f <;> omega))
      go_enter Try.func18, Try.ntmps18
      go_wp2
      go_ret
      exact ⟨ret_bool (by first | exact HM.out.symm | (rw [HM.out, beq_eq_false_iff_ne]; omega) | (rw [HM.out, beq_iff_eq]; omega)), (Below.refl _ _).alloc (Nat.le_refl _) _⟩
  by_cases f2 : p.form = 2
  case pos =>
    have HM : Hid (mayB p = mayUB p) := cover (by
      by_cases hu : p.ns = 0 ∧ p.nr = 0 ∧ MayU p
      · rw [mayUB_yes hu]; exact mayB_yes ⟨HN.out, .inr (.inr ⟨f2, hu.1, hu.2.1, hu.2.2⟩)⟩
      · rw [mayUB_no hu]; exact mayB_no (fun e => by rcases e.2 with f | f | f <;> first | exact f0 f.1 | exact f1 f.1 | exact hu f.2))
    go_enter Try.func18, Try.ntmps18
    have hu := ref_mayU_any p A c w1
    rw [f2] at hu hw1
    go_wp2_with fail
    rw [← hw1.out]
    refine hu.mono ?_
    rintro e w2 ⟨rfl, hb2⟩
    have H2 := cover (H1.out.trans (hb2.mono H1.out.size))
    clear hb2
    go_wp2
    go_ret
    exact ⟨ret_bool HM.out.symm, H2.out⟩
  have HM : Hid (mayB p = false) := cover (mayB_no (fun e => by rcases e.2 with f | f | f <;> first | exact f0 f.1 | exact f1 f.1 | exact f2 f.1))
  go_enter Try.func18, Try.ntmps18
  go_wp2
  go_ret
  exact ⟨ret_bool (by first | exact HM.out.symm | (rw [HM.out, beq_eq_false_iff_ne]; omega) | (rw [HM.out, beq_iff_eq]; omega)), (Below.refl _ _).alloc (Nat.le_refl _) _⟩
end Go.Proofs.Ytbhdncbnjlgigaa
