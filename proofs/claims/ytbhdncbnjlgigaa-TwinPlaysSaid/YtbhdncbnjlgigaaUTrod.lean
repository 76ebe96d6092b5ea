/- How a unit's cells read, as a part of something longer. -/
import Derived.Deep.Slices
import Derived.Test.YtbhdncbnjlgigaaUIn
namespace Go.Proofs.Ytbhdncbnjlgigaa
open Go.RowKit
set_option linter.unusedVariables false

def wide64 (x : Int) : Prop := -9223372036854775808 ≤ x ∧ x ≤ 9223372036854775807
def PWide (p : PV) : Prop := wide64 p.to ∧ wide64 p.frm ∧ wide64 p.form ∧ wide64 p.kind ∧ wide64 p.ns ∧ wide64 p.nr
section
variable {H : Type} {enc : TypeId × Value → H} {W : World}
set_option maxRecDepth 100000 in
open Go.ChangeShapes Go.WideShapes Go.ChangeAt in
theorem pdu_of_trod {fuel : Nat} {cs : List Value} {x : DataW H × List MemPlace} (hl : cs.length = 9) (hf : DataW.trod enc Try.prog W 0 (fun _ => true) true fuel 30 cs = some x) :
    ∃ (q : PV) (A : Option Addr) (cap : Nat), cs = [.int .i64 q.to, .int .i64 q.frm, .bool q.resp, .int .i64 q.form, .int .i64 q.kind, .int .i64 q.ns, .int .i64 q.nr, .bool q.poll, .slice A q.info.length cap] ∧ q.info.length ≤ cap ∧ cap ≤ maxLen ∧ Row W W.heap.size A q.info.length q.info ∧ Bts q.info ∧ (A = none → cap = 0) ∧ PWide q := by
  have hi : Try.prog.cellsOf 3 = 1 := by kernel_rfl
  have hb : Try.prog.cellsOf 4 = 1 := by kernel_rfl
  have h1 : Try.prog.cellsOf 28 = 1 := by kernel_rfl
  obtain ⟨xs, n, _, _, _, hlen, hg⟩ := DataW.trod_struct Try.underlying30 hf
  match cs, hl with
  | [c0, c1, c2, c3, c4, c5, c6, c7, c8], _ =>
    match xs, hlen with
    | [y0, y1, y2, y3, y4, y5, y6, y7, y8], _ =>
      have g0 := hg 0 _ rfl
      have g1 := hg 1 _ rfl
      have g2 := hg 2 _ rfl
      have g3 := hg 3 _ rfl
      have g4 := hg 4 _ rfl
      have g5 := hg 5 _ rfl
      have g6 := hg 6 _ rfl
      have g7 := hg 7 _ rfl
      have g8 := hg 8 _ rfl
      simp [hi, hb, h1] at g0 g1 g2 g3 g4 g5 g6 g7 g8
      obtain ⟨a0, e0, _, w0⟩ := DataW.trod_int Try.underlying3 g0
      obtain ⟨a1, e1, _, w1⟩ := DataW.trod_int Try.underlying3 g1
      obtain ⟨a2, e2, _⟩ := DataW.trod_bool Try.underlying4 g2
      obtain ⟨a3, e3, _, w3⟩ := DataW.trod_int Try.underlying3 g3
      obtain ⟨a4, e4, _, w4⟩ := DataW.trod_int Try.underlying3 g4
      obtain ⟨a5, e5, _, w5⟩ := DataW.trod_int Try.underlying3 g5
      obtain ⟨a6, e6, _, w6⟩ := DataW.trod_int Try.underlying3 g6
      obtain ⟨a7, e7, _⟩ := DataW.trod_bool Try.underlying4 g7
      obtain ⟨A, len, cap, dl, e8, k1, k2, k3, k4, k5⟩ := row_of_trod_u g8
      injection e0 with e0; injection e1 with e1; injection e2 with e2; injection e3 with e3; injection e4 with e4; injection e5 with e5; injection e6 with e6; injection e7 with e7
      subst e0 e1 e2 e3 e4 e5 e6 e7 e8
      obtain rfl : dl.length = len := k3.len
      exact ⟨⟨a0, a1, a2, a3, a4, a5, a6, a7, dl⟩, A, cap, rfl, k1, k2, k3, k4, k5, i64_of_wf w0, i64_of_wf w1, i64_of_wf w3, i64_of_wf w4, i64_of_wf w5, i64_of_wf w6⟩
end
end Go.Proofs.Ytbhdncbnjlgigaa
