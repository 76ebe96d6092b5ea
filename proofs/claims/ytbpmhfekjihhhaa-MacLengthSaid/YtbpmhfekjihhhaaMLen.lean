/- Plain facts on frames whose length lies, or behind whose data something stands. -/
import Derived.Test.YtbpmhfekjihhhaaMUse
import Derived.Test.YtbpmhfekjihhhaaMSeal
namespace Go.Proofs.Ytbpmhfekjihhhaa
open Go.RowKit
set_option linter.unusedVariables false

theorem getD_set_ne {l : List Int} {i j : Nat} {a : Int} (h : i ≠ j) : (l.set i a).getD j 0 = l.getD j 0 := by
  rw [List.getD_eq_getElem?_getD, List.getD_eq_getElem?_getD, List.getElem?_set_ne h]
section
variable {to d l b : List Int} {f0 : Int}
theorem errD_seal {c : List Int} (h : 60 ≤ c.length) : errD (sealB c) = if okF c = true then 0 else 4 := by
  cases hq : okF c with
  | true => rw [errD_ok (by rw [sealB_length]; omega) (okOpen_seal _) (by rw [openB_seal]; exact hq)]; rfl
  | false => rw [errD_form (by rw [sealB_length]; omega) (okOpen_seal _) (by rw [openB_seal]; exact hq)]; rfl
theorem lenF_set (h1 : to.length = 6) (h2 : (f0 :: l).length = 6) (N : Nat) (hb : bodyB to (f0 :: l) d = b) : lenF ((b.set 12 ((N : Int) / 256)).set 13 ((N : Int) % 256)) = N := by
  have h := body_drop12 (d := d) h1 h2
  have e : (((b.set 12 ((N : Int) / 256)).set 13 ((N : Int) % 256)).drop 12).take 2 = [(N : Int) / 256, (N : Int) % 256] := by
    rw [← hb, List.drop_set, if_neg (by decide), List.drop_set, if_neg (by decide), h]
    simp [low]
  unfold lenF
  rw [e, getv_cons, getv_cons, getv_nil]
  simp; omega
theorem okF_set (h1 : to.length = 6) (h2 : (f0 :: l).length = 6) (hg : grp f0 = false) (N : Nat) (hb : bodyB to (f0 :: l) d = b) {c : List Int} (hc : (b.set 12 ((N : Int) / 256)).set 13 ((N : Int) % 256) = c) :
    okF c = (decide (N ≤ 1500) && decide (14 + max N 46 = b.length) && allZ (c.drop (14 + N))) := by
  have e1 := lenF_set h1 h2 N hb
  have e2 : c.getD 6 0 = f0 := by rw [← hc, getD_set_ne (by decide), getD_set_ne (by decide), ← hb]; exact body_x6 h1
  have e3 : c.length = b.length := by rw [← hc]; simp
  have e4 : 60 ≤ b.length := by rw [← hb]; exact body64 h1 h2
  rw [hc] at e1
  unfold okF
  rw [e1, e2, hg, List.length_drop, e3, List.drop_drop]
  have e5 : decide (b.length - 14 = max N 46) = decide (14 + max N 46 = b.length) := by
    rw [decide_eq_decide]; omega
  rw [e5]; simp
theorem okF_pad (h1 : to.length = 6) (h2 : (f0 :: l).length = 6) (hn : d.length < 46) {r : Nat} {x : Int} (hx : x ≠ 0) (hb : bodyB to (f0 :: l) d = b) (hr : r < 46 - d.length) : okF (b.set (14 + d.length + r) x) = false := by
  have hl : b.length = 60 := by rw [← hb, bodyB_length _ h1 h2]; omega
  have e1 : lenF (b.set (14 + d.length + r) x) = d.length := by
    unfold lenF
    have e : ((b.set (14 + d.length + r) x).drop 12).take 2 = (b.drop 12).take 2 := by
      rw [List.drop_set, if_neg (by omega), List.take_set_of_le (by omega)]
    rw [e, ← hb]
    exact lenF_body h1 h2 (by omega)
  unfold okF
  rw [e1, allZ_no (k := r) (x := x) (by rw [List.drop_drop, List.getElem?_drop, List.getElem?_set_self (by omega)]) hx]
  simp
end
end Go.Proofs.Ytbpmhfekjihhhaa
