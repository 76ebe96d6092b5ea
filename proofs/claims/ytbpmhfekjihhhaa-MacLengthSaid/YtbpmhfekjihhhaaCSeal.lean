/- What Seal and Open hand back. -/
import Derived.Test.YtbpmhfekjihhhaaCTail
import Derived.Test.YtbpmhfekjihhhaaOConcat
import Derived.Test.YtbpmhfekjihhhaaOEqual
namespace Go.Proofs.Ytbpmhfekjihhhaa
open Go.RowKit

/-- what a table seals -/
def sealT (f : Nat → W32) (l : List Int) : List Int := l ++ le4 (moreT f 0 l)
theorem flatten_two (a b : List Int) : [a, b].flatten = a ++ b := by simp

set_option maxHeartbeats 400000 in
theorem seal_any (T : Array Value) (f : Nat → W32) (A : Option Addr) (n c B : Nat) (l : List Int) (w : World) (ht : IsTab T f) (hr : Row w B A n l) (hB : B ≤ w.heap.size) (hb : Bts l) (hc : n ≤ c) (hnil : A = none → c = 0) (hmax : n ≤ 35184372088832) :
    Calls Try.prog 36 #[.agg T, .slice A n c] w (GivesB w (sealT f l)) := by
  obtain rfl : l.length = n := hr.len
  have hr' := hr.alloc hB (.cells T 26)
  have HM := cover (tail_any T f A _ c B l (w.alloc (.cells T 26)) ht hr' (by simp; omega) hb (by omega))
  have HN := cover hnil
  clear hr hb hnil
  go_enter Try.func36, Try.ntmps36
  go_wp2_with (refine wpList_load_row rfl _ _ rfl w.heap.size rfl _ T (0, 0) _ (heap_alloc_new _ _) Try.underlying26 rfl (by rw [ht.size]; kernel_rfl) ?_)
  refine HM.out.mono ?_
  rintro e w1 ⟨A1, c1, rfl, ho1, hb1⟩
  have h0 : Below w.heap.size w w1 := ((Below.refl _ _).alloc (Nat.le_refl _) _).trans (hb1.mono (by simp))
  have hrow1 : Row w1 w1.heap.size A l.length l := (hr'.below (hb1.mono (by simp; omega))).more (by have := h0.size; omega)
  have hro1 := ho1.row
  have hcap1 := own_cap ho1
  have hni1 := own_nil_cap ho1
  have H1 := cover (And.intro hrow1 (And.intro hro1 (And.intro hcap1 hni1)))
  clear ho1 hb1 hrow1 hro1 hcap1 hni1 hr'
  have hs1 := h0.size
  go_wp2_with fail
  refine (concat_any _ 2 2 (w1.heap.size + 1) [l, le4 (moreT f 0 l)] _ (RowsB.two _ rfl H1.out.1 H1.out.2.1 hc H1.out.2.2.1 HN.out H1.out.2.2.2) (by simp) (by decide) (by simp [totL, le4_length]; omega)).mono ?_
  rintro e w2 ⟨A2, c2, rfl, ho2, hb2⟩
  have hb3 : Below w.heap.size w w2 := (h0.alloc hs1 _).trans (hb2.mono (by simp; omega))
  rw [flatten_two] at ho2
  have HO : Hid (OwnB w2 w.heap.size (.slice A2 (sealT f l).length c2) (sealT f l)) := cover (ho2.mono (by simp; omega))
  clear ho2 hb2
  go_wp2
  go_ret
  exact ⟨A2, c2, ret_slice (by unfold sealT; rw [List.length_append]; rfl), HO.out, hb3⟩
end Go.Proofs.Ytbpmhfekjihhhaa
