/- What bytes.Equal answers. -/
import Derived.Laws.BytesArg
import Derived.Test.YtefbmhkchlhgnaaRows
import Derived.Test.YtefbmhkchlhgnaaOWords
namespace Go.Proofs.Ytefbmhkchlhgnaa
open Go.RowKit

theorem bytes_to_string {P : Program} {w : World} {B n : Nat} {A : Option Addr} {l : List Int} (c : Nat) (hr : Row w B A n l) (src e dst : TypeId)
    (hs : P.underlying src = some (.slice e)) (he : P.underlying e = some (.int .u8)) (hd : P.underlying dst = some .string) :
    (convert src dst (.slice A n c)).run P w = .ok (.string (strOfNums l)) w := by
  rcases A with _ | ad
  · have hl : l = [] := by
      rcases l with _ | ⟨y, l⟩
      · rfl
      · obtain ⟨ad, e, _⟩ := hr.cells 0 (by simp); cases e
    subst hl
    exact run_convert_bytes_nil w src e hs he n c dst hd
  · have hl : (loadCells ad n).run P w = .ok (l.map (Value.int .u8)).toArray w := by
      have := run_loadCells_list (P := P) w ad (l.map (Value.int .u8)) (fun j v hj => hr.news j v hj)
      simpa [hr.len] using this
    rw [run_convert_bytes_string w src dst e _ n c hs he hd, run_bytesToString w _ n c l hl, foldl_push_bytes]
    simp [strOfNums, ByteArray.empty, ByteArray.emptyWithCapacity]
    rfl
theorem str_list (l : List Int) : (strOfNums l).toList = l.map fun n => UInt8.ofNat n.toNat := by
  rw [ByteArray.toList_eq]; rfl
theorem str_beq {a b : List Int} (ha : Bts a) (hb : Bts b) : ((strOfNums a).toList == (strOfNums b).toList) = decide (a = b) := by
  rw [str_list, str_list]
  by_cases h : a = b
  · subst h; simp
  · rw [decide_eq_false h, beq_eq_false_iff_ne]
    intro h1
    apply h
    have hl : a.length = b.length := by
      have := congrArg List.length h1; simpa using this
    apply List.ext_getElem hl
    intro i h2 h3
    have h4 := congrArg (fun l => l[i]?) h1
    simp only [List.getElem?_map, List.getElem?_eq_getElem h2, List.getElem?_eq_getElem h3, Option.map_some, Option.some.injEq] at h4
    have h5 := congrArg UInt8.toNat h4
    have b1 := ha.at h2
    have b2 := hb.at h3
    simp only [UInt8.toNat_ofNat'] at h5
    rw [Nat.mod_eq_of_lt (by omega), Nat.mod_eq_of_lt (by omega)] at h5
    omega

end Go.Proofs.Ytefbmhkchlhgnaa
