/- QueuePlays, of all arguments. -/
import Derived.Test.YthfmkhjafkhpdaaWQueuePlays
namespace Go.Proofs.Ythfmkhjafkhpdaa
open Go.RowKit
set_option linter.unusedVariables false

set_option maxRecDepth 100000 in
theorem walk_QueuePlays (most : Int) (A : Option Addr) (len cap : Nat) (ds : List (Int × Int × Int)) (w : World) (hw : (Lit.int .i64 most).wf = true) (hlc : len ≤ cap) (hcm : cap ≤ maxLen) (hd : Deeds w w.heap.size A len ds ∧ ∀ q ∈ ds, -9223372036854775808 ≤ q.2.2 ∧ q.2.2 ≤ 9223372036854775807) :
    Calls Try.prog 4 #[.int .i64 most, .slice A len cap] w fun e w' => e = .returned (.bool true) ∧ Below w.heap.size w w' := by
  unfold maxLen at hcm
  by_cases hl : 200 < len
  · clear hd
    go_enter Try.func4, Try.ntmps4
    go_wp2_with fail
    refine (awake_any w).mono ?_
    rintro e w0 ⟨rfl, hb0⟩
    go_wp2
    go_ret
    exact ⟨rfl, hb0⟩
  · have hl' : len ≤ 200 := by omega
    by_cases hm : 1000 < most
    · clear hd
      go_enter Try.func4, Try.ntmps4
      go_wp2_with fail
      refine (awake_any w).mono ?_
      rintro e w0 ⟨rfl, hb0⟩
      go_wp2
      go_ret
      exact ⟨rfl, hb0⟩
    · exact plays_in most A len cap ds w hlc hl' (by omega) hd.1 hd.2
end Go.Proofs.Ythfmkhjafkhpdaa
