/- What readAddr does. -/
import Derived.Laws.CopyOwn
import Derived.Deep.RegionHeld3
import Derived.Deep.RegionLaw
import Derived.Test.YtbpmhfekjihhhaaMFrm
import Derived.Test.YtbpmhfekjihhhaaMMath
import Derived.Test.YtbpmhfekjihhhaaONum
namespace Go.Proofs.Ytbpmhfekjihhhaa
open Go.RowKit
set_option linter.unusedVariables false

theorem six_list {L : List Int} (h : L.length = 6) : ∃ x0 x1 x2 x3 x4 x5, L = [x0, x1, x2, x3, x4, x5] := by
  match L, h with
  | [x0, x1, x2, x3, x4, x5], _ => exact ⟨x0, x1, x2, x3, x4, x5, rfl⟩
theorem only_below {g B : Nat} {a b c : World} (h : OnlyB g a b) (k : Below B b c) (hB : a.heap.size ≤ B) : OnlyB g a c :=
  ⟨k.os.trans h.os, k.tape.trans h.tape, k.output.trans h.output, Nat.le_trans h.size k.size, fun i hi hne => (k.block i (by omega)).trans (h.block i hi hne)⟩
/-- readAddr has answered -/
def AddrB (T : TypeId) (B g : Nat) (l : List Int) (w : World) (e : Ending) (w' : World) : Prop :=
  ∃ x0 x1 x2 x3 x4 x5 : Int, e = .returned (.agg #[.int .u8 x0, .int .u8 x1, .int .u8 x2, .int .u8 x3, .int .u8 x4, .int .u8 x5]) ∧ Hid (l.take 6 = [x0, x1, x2, x3, x4, x5]) ∧ Rd T w' B g (l.drop 6) false ∧ OnlyB g w w'
theorem own_src {w : World} {base c : Nat} {A : Option Addr} {L : List Int} (h : OwnB w base (.slice A L.length c) L) (hL : 0 < L.length) : ∃ ad, A = some ad ∧ ∀ (j : Nat) (v : Value), (L.map (Value.int .u8))[j]? = some v → w.cell? (ad.add j) = some v := by
  have hr := h.row
  obtain ⟨ad, x, rfl, _⟩ := hr.at_ hL
  exact ⟨ad, rfl, hr.news⟩
theorem adr_size : (Try.prog.info? 33).map (fun x => x.size) = some 6 := by kernel_rfl
theorem six_one (x0 x1 x2 x3 x4 x5 : Int) : ((#[.int .u8 x0, .int .u8 x1, .int .u8 x2, .int .u8 x3, .int .u8 x4, .int .u8 x5] : Array Value).all fun x => x.oneCell') = true := by simp [Value.oneCell']
abbrev noughts6 : List Value := [.int .u8 0, .int .u8 0, .int .u8 0, .int .u8 0, .int .u8 0, .int .u8 0]

set_option maxHeartbeats 1600000 in
theorem readAddr_any (B g : Nat) (l : List Int) (w : World) (hr : Rd 88 w B g l false) (h6 : 6 ≤ l.length) (hmax : l.length ≤ 140737488355328) :
    Calls Try.prog 52 #[.pointer (some ⟨g, 0, none⟩)] w (AddrB 88 B g l w) := by
  have hle := hr.le
  have hlt := hr.lt
  obtain ⟨x0, x1, x2, x3, x4, x5, hL⟩ := six_list (L := l.take 6) (by rw [List.length_take]; omega)
  have HL := cover hL
  clear hL
  have hbw : Below w.heap.size w (w.alloc (.cells noughts6.toArray 33)).drew := ((Below.refl _ _).alloc (Nat.le_refl _) _).drew
  have hr1 : Rd 88 (w.alloc (.cells noughts6.toArray 33)).drew B g l false := hr.below hbw hlt
  have hraw := raw_yes B g 6 l _ hr1 h6 hmax
  have HRaw := cover hraw
  have h0 : Hid ((w.alloc (.cells noughts6.toArray 33)).drew.heap[w.heap.size]? = some (.cells noughts6.toArray 33 (0, 0))) := cover (heap_alloc_new _ _)
  have hone : Hid (∀ v ∈ [Value.int .u8 x0, .int .u8 x1, .int .u8 x2, .int .u8 x3, .int .u8 x4, .int .u8 x5], v.oneCell' = true) := cover (fun v hv => by simp at hv; rcases hv with rfl | rfl | rfl | rfl | rfl | rfl <;> rfl)
  have HBW := cover hbw
  clear hr hr1 hraw hbw
  go_enter Try.func52, Try.ntmps52
  go_wp2_with fail
  go_region_held3 (fun w' => w.heap.size ≤ w'.heap.size) (first | exact hsX | exact HBW.out.size)
    (first
      | (go_at_call 55; refine HRaw.out.mono ?_; rintro e w3 ⟨A3, c3, rfl, ho3, hr3, hon3⟩; have hsX : w.heap.size ≤ w3.heap.size := Nat.le_trans HBW.out.size hon3.size; have h3 : Hid (w3.heap[w.heap.size]? = some (.cells noughts6.toArray 33 (0, 0))) := cover ((hon3.block w.heap.size (by simp [World.drew]) (fun e => by injection e with e; omega)).trans h0.out); have hsrc := cover (own_src (L := [x0, x1, x2, x3, x4, x5]) (by rw [HL.out] at ho3; exact ho3) (Nat.zero_lt_succ _)))
      | (refine step_copy_splice rfl _ _ _ _ (by rfl) 5 Try.underlying28 (by kernel_rfl) (some ⟨w.heap.size, 0, none⟩) A3 6 6 6 c3 (by rfl) (by rfl) w.heap.size 0 noughts6 33 h3.out [.int .u8 x0, .int .u8 x1, .int .u8 x2, .int .u8 x3, .int .u8 x4, .int .u8 x5] (by rfl) (fun _ => ⟨rfl, hsrc.out⟩) (Nat.le_refl 6) hone.out w.heap.size w3 (Below.refl _ _) (Nat.le_refl _) ?_; intro w4 h4 hb4; have hsX : w.heap.size ≤ w4.heap.size := Nat.le_trans hsX hb4.size))
  have h4' : w4.heap[w.heap.size]? = some (.cells #[.int .u8 x0, .int .u8 x1, .int .u8 x2, .int .u8 x3, .int .u8 x4, .int .u8 x5] 33 (0, 0)) := h4.out
  have hon4 : OnlyB g w w4 := only_below ((OnlyB.of_below HBW.out).trans hon3) hb4 (Nat.le_refl _)
  have hr4 := hr3.below hb4 hlt
  have hset : Below w.heap.size w4 (w4.setRow w.heap.size #[.int .u8 x0, .int .u8 x1, .int .u8 x2, .int .u8 x3, .int .u8 x4, .int .u8 x5]) := Go.below_setRow (Below.refl _ _) (Nat.le_refl _) _
  have HF := cover (And.intro (hr4.below hset hlt) (only_below hon4 hset (Nat.le_refl _)))
  have H4 := cover h4'
  clear h4 hon4 hr4 hset h4' hr3 hon3 hb4
  go_wp2_with (first
    | (refine wpList_load_row rfl _ _ rfl w.heap.size rfl 33 #[.int .u8 x0, .int .u8 x1, .int .u8 x2, .int .u8 x3, .int .u8 x4, .int .u8 x5] (0, 0) _ H4.out Try.underlying33 rfl adr_size ?_)
    | (refine wpList_store_row rfl _ _ _ rfl w.heap.size #[.int .u8 x0, .int .u8 x1, .int .u8 x2, .int .u8 x3, .int .u8 x4, .int .u8 x5] rfl rfl 33 #[.int .u8 x0, .int .u8 x1, .int .u8 x2, .int .u8 x3, .int .u8 x4, .int .u8 x5] H4.out adr_size rfl (six_one _ _ _ _ _ _) ?_))
  exact bodyPost_ret (v := .agg #[.int .u8 x0, .int .u8 x1, .int .u8 x2, .int .u8 x3, .int .u8 x4, .int .u8 x5]) (results_cell_row (by rfl) _ _ w.heap.size _ #[.int .u8 x0, .int .u8 x1, .int .u8 x2, .int .u8 x3, .int .u8 x4, .int .u8 x5] (0, 0) _ rfl (setRow_heap _ _ _ _ _ _ H4.out) Try.underlying33 rfl adr_size) rfl ⟨_, _, _, _, _, _, rfl, HL, HF.out.1, HF.out.2⟩
end Go.Proofs.Ytbpmhfekjihhhaa
