/- Plain facts on frames as rows of bytes. -/
import Derived.Test.YtbpmhfekjihhhaaOMath
import Derived.Test.YtbpmhfekjihhhaaCBurst
import Derived.Test.YtbpmhfekjihhhaaMZero
namespace Go.Proofs.Ytbpmhfekjihhhaa
open Go.RowKit

/-- what is sealed of a frame -/
def bodyB (to fr d : List Int) : List Int := to ++ (fr ++ (low d.length 2 ++ (d ++ List.replicate (46 - d.length) 0)))
theorem bodyB_length {to fr : List Int} (d : List Int) (h1 : to.length = 6) (h2 : fr.length = 6) : (bodyB to fr d).length = 14 + (d.length + (46 - d.length)) := by
  unfold bodyB; simp [h1, h2, low_length]; omega
theorem zeros_bts (k : Nat) : Bts (List.replicate k 0) := fun x hx => by
  rw [(List.mem_replicate.1 hx).2]; decide
theorem bodyB_bts {to fr d : List Int} (h1 : Bts to) (h2 : Bts fr) (h3 : Bts d) : Bts (bodyB to fr d) :=
  h1.append (h2.append ((low_bts _ _).append (h3.append (zeros_bts _))))
/-- what Encode says is wrong -/
def encE (x : Int) (d : List Int) : Int := if grp x = true then 1 else if 1500 < d.length then 3 else 0
/-- what Encode hands back -/
def encO (to fr d : List Int) (x : Int) : List Int := if encE x d = 0 then sealB (bodyB to fr d) else []
/-- the length that a frame's head says -/
def lenF (x : List Int) : Nat := (getv ((x.drop 12).take 2)).toNat
/-- is what was sealed a frame? -/
def okF (x : List Int) : Bool := !grp (x.getD 6 0) && decide (lenF x ≤ 1500) && decide ((x.drop 14).length = max (lenF x) 46) && allZ ((x.drop 14).drop (lenF x))
def toF (x : List Int) : List Int := if okF x = true then x.take 6 else [0, 0, 0, 0, 0, 0]
def frF (x : List Int) : List Int := if okF x = true then (x.drop 6).take 6 else [0, 0, 0, 0, 0, 0]
def daF (x : List Int) : List Int := if okF x = true then (x.drop 14).take (lenF x) else []
theorem lenF_val {x : List Int} (h : Bts x) : getv ((x.drop 12).take 2) = (lenF x : Int) := by
  have := getv_bd ((h.drop 12).take 2)
  unfold lenF; omega
theorem lenF_lt {x : List Int} (h : Bts x) : lenF x < 65536 := by
  have h1 := getv_bd ((h.drop 12).take 2)
  have h2 : ((x.drop 12).take 2).length ≤ 2 := by rw [List.length_take]; omega
  have h3 := pow256_mono h2
  have h4 : (256 : Int) ^ 2 = 65536 := by decide
  unfold lenF; omega
/-- what Decode says is wrong -/
def errD (l : List Int) : Int := if l.length < 64 then 2 else if okOpen l = false then 5 else if okF (openB l) = false then 4 else 0
def toD (l : List Int) : List Int := if errD l = 0 then toF (openB l) else [0, 0, 0, 0, 0, 0]
def frD (l : List Int) : List Int := if errD l = 0 then frF (openB l) else [0, 0, 0, 0, 0, 0]
def daD (l : List Int) : List Int := if errD l = 0 then daF (openB l) else []
theorem errD_short {l : List Int} (h : l.length < 64) : errD l = 2 := by unfold errD; rw [if_pos h]
theorem errD_sum {l : List Int} (h : ¬ l.length < 64) (h1 : okOpen l = false) : errD l = 5 := by unfold errD; rw [if_neg h, if_pos h1]
theorem errD_form {l : List Int} (h : ¬ l.length < 64) (h1 : okOpen l = true) (h2 : okF (openB l) = false) : errD l = 4 := by unfold errD; rw [if_neg h, if_neg (by rw [h1]; decide), if_pos h2]
theorem errD_ok {l : List Int} (h : ¬ l.length < 64) (h1 : okOpen l = true) (h2 : okF (openB l) = true) : errD l = 0 := by unfold errD; rw [if_neg h, if_neg (by rw [h1]; decide), if_neg (by rw [h2]; decide)]
theorem openB_bts {l : List Int} (h : Bts l) : Bts (openB l) := by
  unfold openB; split
  · exact h.take _
  · exact Bts.nil
theorem openB_length {l : List Int} (h : okOpen l = true) : (openB l).length = l.length - 4 := by
  unfold openB; rw [if_pos h, List.length_take]; omega
end Go.Proofs.Ytbpmhfekjihhhaa
