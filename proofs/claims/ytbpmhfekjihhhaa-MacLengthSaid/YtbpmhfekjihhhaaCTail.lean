/- What tail hands back: a sum's four bytes, the lowest first. -/
import Derived.Test.YtbpmhfekjihhhaaCMore
import Derived.Test.YtbpmhfekjihhhaaORev
namespace Go.Proofs.Ytbpmhfekjihhhaa
open Go.RowKit

theorem le4_low (v : W32) : (low (rg v) 4).reverse = le4 v := by
  have := v.isLt
  have p3 : (256 : Int) ^ 3 = 16777216 := by decide
  have p2 : (256 : Int) ^ 2 = 65536 := by decide
  unfold rg le4 low low low low low
  simp only [List.reverse_cons, List.reverse_nil, List.nil_append, List.cons_append, p3, p2, Int.pow_zero, Int.pow_one]
  simp only [List.cons.injEq, and_true]
  refine ⟨?_, ?_, ?_, ?_⟩ <;> omega
theorem fits_rg (v : W32) : fitsB (rg v) 4 = true := by
  have := rg_bd v
  have p4 : (256 : Int) ^ 4 = 4294967296 := by decide
  rw [fitsB_iff]
  exact ⟨by decide, by decide, this.1, by rw [show (4 : Int).toNat = 4 from rfl, p4]; exact this.2⟩
/-- Put's four bytes, as Reverse wants them -/
def Four (v : W32) (w : World) (e : Ending) (w' : World) : Prop :=
  ∃ g c, e = .returned (.slice (some ⟨g, 0, none⟩) 4 c) ∧ w'.ownsRow w.heap.size 5 1 (.slice (some ⟨g, 0, none⟩) 4 c) 4 ((low (rg v) 4).map (Value.int .u8)) ∧ w.heap.size ≤ g ∧ Below w.heap.size w w'
theorem put_four (v : W32) (w : World) : Calls Try.prog 35 #[.int .i64 (rg v), .int .i64 4] w (Four v w) := by
  have h := put_yes (rg v) 4 w (by decide) (by decide) (rg_bd v).1 (by rw [show (256 : Int) ^ 4 = 4294967296 by decide]; exact (rg_bd v).2)
  refine h.mono fun e w' ⟨A, c, he, ho, hb⟩ => ?_
  have hl : (low (rg v) 4).length = 4 := low_length _ _
  unfold OwnB at ho
  rw [hl] at he ho
  obtain ⟨A', c', hv, hA⟩ := own_shape ho
  injection hv with e1 _ e2
  subst e1 e2
  rcases hA with rfl | ⟨g, rfl, hg, _⟩
  · rcases ho.2 with ⟨_, h0⟩ | ⟨g, cap, cur, hv, _⟩
    · omega
    · injection hv with hv; cases hv
  · exact ⟨g, c, he, ho, hg, hb⟩
theorem reverse_four (v : W32) (base g c : Nat) (w : World) (ho : w.ownsRow base 5 1 (.slice (some ⟨g, 0, none⟩) 4 c) 4 ((low (rg v) 4).map (Value.int .u8))) :
    Calls Try.prog 61 #[.slice (some ⟨g, 0, none⟩) 4 c] w fun e w' => e = .returned (.tuple #[]) ∧ w'.ownsRow base 5 1 (.slice (some ⟨g, 0, none⟩) 4 c) 4 ((le4 v).map (Value.int .u8)) ∧ OnlyB g w w' := by
  have hl : (low (rg v) 4).length = 4 := low_length _ _
  have h := reverse_own base g c (low (rg v) 4) w (by rw [hl]; exact ho) (by rw [hl]; decide)
  rw [hl, le4_low] at h
  exact h

set_option maxHeartbeats 400000 in
theorem tail_any (T : Array Value) (f : Nat → W32) (A : Option Addr) (n c B : Nat) (l : List Int) (w : World) (ht : IsTab T f) (hr : Row w B A n l) (hB : B ≤ w.heap.size) (hb : Bts l) (hmax : n ≤ 9223372036854775807) :
    Calls Try.prog 47 #[.agg T, .slice A n c] w (GivesB w (le4 (moreT f 0 l))) := by
  have hr' := hr.alloc hB (.cells T 26)
  have HM := cover (sum_any T f A n c B l (w.alloc (.cells T 26)) ht hr' (by simp; omega) hb hmax)
  have hbd := rg_bd (moreT f 0 l)
  obtain ⟨v, hv⟩ : ∃ v, Hid (moreT f 0 l = v) := ⟨_, cover rfl⟩
  rw [hv.out] at hbd ⊢
  rw [hv.out] at HM
  clear hr hb hv hr'
  go_enter Try.func47, Try.ntmps47
  go_wp2_with (refine wpList_load_row rfl _ _ rfl w.heap.size rfl _ T (0, 0) _ (heap_alloc_new _ _) Try.underlying26 rfl (by rw [ht.size]; kernel_rfl) ?_)
  refine HM.out.mono ?_
  rintro e w1 ⟨rfl, hb1⟩
  go_wp2_with fail
  refine (put_four v w1).mono ?_
  rintro e w2 ⟨g, c2, rfl, ho2, hg, hb2⟩
  have HO := cover ho2
  clear ho2
  go_wp2_with fail
  refine (reverse_four v _ g c2 w2 HO.out).mono ?_
  rintro e w3 ⟨rfl, ho3, hb3⟩
  have h0 : Below w.heap.size w w1 := ((Below.refl _ _).alloc (Nat.le_refl _) _).trans (hb1.mono (by simp))
  have hs := h0.size
  go_wp2
  go_ret
  exact ⟨_, _, rfl, own_base ho3 hs, below_only (h0.trans (hb2.mono hs)) hb3 (by omega) (h0.trans (hb2.mono hs)).size⟩
end Go.Proofs.Ytbpmhfekjihhhaa
