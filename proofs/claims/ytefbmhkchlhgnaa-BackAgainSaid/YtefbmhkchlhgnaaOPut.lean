/- What Put hands back. -/
import Derived.Test.YtefbmhkchlhgnaaOWidth
namespace Go.Proofs.Ytefbmhkchlhgnaa
open Go.RowKit

theorem u8_info : (Try.prog.info? 5).map (fun i => (i.zero, i.size, i.bytes)) = some (some (.int .u8 0), 1, 1) := by kernel_rfl

theorem pow_256 (k : Nat) : (2 : Int) ^ (8 * k) = 256 ^ k := by
  rw [Int.pow_mul]; rfl

theorem put_row (n : Int) (k j : Nat) (h : j < k) :
    ((List.replicate (k - j) 0 ++ low n j).map (Value.int .u8))[k - 1 - j]? = some (.int .u8 0) ∧
    ((List.replicate (k - j) 0 ++ low n j).map (Value.int .u8)).set (k - 1 - j) (.int .u8 (n / 2 ^ (8 * j) % 256)) = (List.replicate (k - (j + 1)) 0 ++ low n (j + 1)).map (Value.int .u8) := by
  obtain ⟨m, rfl⟩ : ∃ m, k = m + 1 + j := ⟨k - 1 - j, by omega⟩
  have e1 : m + 1 + j - j = m + 1 := by omega
  have e2 : m + 1 + j - 1 - j = m := by omega
  have e3 : m + 1 + j - (j + 1) = m := by omega
  have e4 : List.replicate (m + 1) (0 : Int) = List.replicate m 0 ++ [0] := by rw [List.replicate_succ']
  rw [e1, e2, e3, e4, pow_256, low]
  constructor
  · simp
  · simp

/-- what the ways of Put's loop hold -/
def PutRow (w : World) (n : Int) (k j : Nat) (wr : World) : Prop :=
  wr.ownsRow w.heap.size 5 1 (.slice (some ⟨w.heap.size, 0, none⟩) k k) k ((List.replicate (k - j) 0 ++ low n j).map (Value.int .u8)) ∧ Below w.heap.size w wr
theorem PutRow.step {w wr : World} {n : Int} {k j : Nat} (h : PutRow w n k j wr) (hj : j < k) :
    wr.cell? ⟨w.heap.size, k - 1 - j, none⟩ = some (.int .u8 0) ∧ wr.frozen? ⟨w.heap.size, k - 1 - j, none⟩ = false ∧
    PutRow w n k (j + 1) (wr.setCell ⟨w.heap.size, k - 1 - j, none⟩ (.int .u8 (n / 2 ^ (8 * j) % 256))) := by
  obtain ⟨r1, r2⟩ := put_row n k j hj
  have hst := h.1.stored (k - 1 - j) (.int .u8 (n / 2 ^ (8 * j) % 256))
  rw [r2] at hst
  exact ⟨(h.1.cellAt _ (by omega)).trans r1, h.1.frozenAt _, hst.1, h.2.setCell (Nat.le_refl _) _⟩

/-- new bytes of a known number, as the walk wants them -/
def NewB (k : Nat) (l : List Int) (w : World) (e : Ending) (w' : World) : Prop :=
  ∃ A c, e = .returned (.slice A k c) ∧ k ≤ c ∧ Row w' w'.heap.size A k l ∧ Below w.heap.size w w'
end Go.Proofs.Ytefbmhkchlhgnaa
