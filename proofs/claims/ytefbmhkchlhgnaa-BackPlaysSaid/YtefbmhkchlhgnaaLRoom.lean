/- The law's own word: are deeds few and small? -/
import Derived.Deep.CutBlock
import Derived.Deep.DeepCutAuto
import Derived.Deep.RegionHeld3
import Derived.Test.YtefbmhkchlhgnaaLDDeeds
namespace Go.Proofs.Ytefbmhkchlhgnaa
open Go.RowKit
set_option linter.unusedVariables false
set_option linter.unusedSimpArgs false

/-- they are small -/
def smallLD (ds : List LDDV) : Prop := ∀ q ∈ ds, q.b.length ≤ 200
/-- what room answers -/
def RoomOut (len : Nat) (ds : List LDDV) (w : World) (e : Ending) (w' : World) : Prop := ∃ r : Bool, e = .returned (.bool r) ∧ w' = w ∧ Hid (r = true → len ≤ 300 ∧ smallLD ds)
set_option maxRecDepth 100000 in
set_option maxHeartbeats 1600000 in
theorem room_any (A : Option Addr) (len cap : Nat) (ds : List LDDV) (w : World) (B : Nat) (hd : LDDs w B A len ds) :
    Calls Try.prog 15 #[.slice A len cap] w (RoomOut len ds w) := by
  have HD := cover hd
  clear hd
  by_cases hlong : (300 : Int) < (len : Int)
  · go_enter Try.func15, Try.ntmps15
    go_wp2
    go_ret
    exact ⟨false, rfl, rfl, cover fun h => (by cases h)⟩
  have HM : Hid ((len : Int) ≤ 300) := cover (by omega)
  have hl : ¬ (300 : Int) < (len : Int) := hlong
  have hlb : len ≤ 100000 := by omega
  clear hlong
  go_enter Try.func15, Try.ntmps15
  go_wp2_with fail
  clear hl
  go_loopw [3] (fun iv wr => ∃ j : Nat, (j ≤ len ∧ iv = .int .i64 j) ∧ wr = w ∧ Hid (smallLD (ds.take j))) (fun iv _ => len - (intOf iv).toNat)
  case atStart => exact ⟨0, ⟨Nat.zero_le _, rfl⟩, rfl, cover (fun q hq => by cases hq)⟩
  case round =>
    obtain ⟨j, ⟨hj, rfl⟩, rfl, hsm⟩ := hrel
    by_cases hlt : j < len
    · obtain ⟨q, hq⟩ : ∃ q, ds[j]? = some q := ⟨_, List.getElem?_eq_getElem (by rw [HD.out.len]; exact hlt)⟩
      obtain ⟨ad, hA, hc⟩ := HD.out.at_ j q hq
      subst hA
      have c2 := hc.c2
      obtain ⟨lb, hlb⟩ : ∃ lb, Hid (q.b.length = lb) := ⟨_, cover rfl⟩
      rw [hlb.out] at c2
      have HQ := cover hq
      have HLT := cover hlt
      have hlt' : (j : Int) < (len : Int) := by omega
      clear hc hq hlt
      by_cases h1 : (200 : Int) < (lb : Int)
      · go_wp2
        go_ret
        exact ⟨false, rfl, rfl, cover fun h => (by cases h)⟩
      have H1 : Hid (lb ≤ 200) := cover (by omega)
      have h1' : ¬ (200 : Int) < (lb : Int) := h1
      clear h1
      have HN : Hid (smallLD (ds.take (j + 1))) := cover (by
        intro x hx
        rw [List.take_add_one, HQ.out] at hx
        rcases List.mem_append.1 hx with hx | hx
        · exact hsm.out x hx
        · simp at hx
          subst hx
          have := H1.out
          have := hlb.out
          omega)
      go_wp2
      go_roundw
      case rel => exact ⟨j + 1, ⟨by have := HLT.out; omega, by go_num⟩, trivial, HN⟩
      case measure =>
        have := HLT.out
        simp [intOf]; omega
    · have hlt' : ¬ (j : Int) < (len : Int) := by omega
      have HN : Hid ((len : Int) ≤ 300 ∧ smallLD ds) := cover (by
        have h0 := hsm.out
        rw [List.take_of_length_le (by rw [HD.out.len]; omega)] at h0
        exact ⟨HM.out, h0⟩)
      go_wp2
      go_ret
      exact ⟨true, rfl, rfl, cover fun _ => ⟨by have := HN.out.1; omega, HN.out.2⟩⟩
end Go.Proofs.Ytefbmhkchlhgnaa
