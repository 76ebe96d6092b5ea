/- maps.DeleteFunc, as Close asks it: who is closed is in no group any more. -/
import Derived.Deep.LoopGhost
import Derived.Laws.IdiomRangeMap
import Derived.Test.YtnegbiofnjdfaaaSFun
namespace Go.Proofs.Ytnegbiofnjdfaaa
open Go.RowKit
set_option linter.unusedVariables false

theorem grown_of_below {w w' : World} (h : Below w.heap.size w w') (row : Option Nat) : w.grownBy w' row := ⟨h.os, h.tape, h.output, h.size, fun i hi _ => h.block i hi⟩
set_option maxHeartbeats 800000 in
theorem over_any (n x g : Int) (box : Nat) (W : World) (hc : W.cell? ⟨box, 0, none⟩ = some (.int .i64 n)) :
    Calls Try.prog 37 (#[seatV x g, .agg #[]] ++ #[ptr box]) W fun e w' => e = .returned (.bool (x == n)) ∧ W.grownBy w' none := by
  have hlt : box < W.heap.size := cell_in hc
  have hcc : ((W.alloc (.cells #[.int .i64 x, .int .i64 g] 59)).alloc (.cells #[] 57)).cell? ⟨box, 0, none⟩ = some (.int .i64 n) := cell_alloc_lt _ (cell_alloc_lt _ hc)
  have hc2 : ((W.alloc (.cells #[.int .i64 x, .int .i64 g] 59)).alloc (.cells #[] 57)).cell? ⟨W.heap.size, 0, none⟩ = some (.int .i64 x) := cell_alloc_lt _ (by rw [cell_of_row _ _ _ _ _ _ (heap_alloc_new _ _)]; rfl)
  clear hc
  go_enter Try.func37, Try.ntmps37
  go_wp2
  go_ret
  exact ⟨rfl, grown_of_below (((Below.refl _ _).alloc (Nat.le_refl _) _).alloc (by simp) _) _⟩
/-- at the head of a round: who was not asked about yet is there still; of those that were, none of him that goes -/
structure DelAt (w : World) (b n : Nat) (l : List SV) (k : Int) (left : Lit → Bool) (cnt : Nat) (wr : World) : Prop where
  ex : ∃ D : DU, wr.ranges Try.prog 59 unitElem b w.heap.size n D left cnt ∧ ∀ x g, I64 x → I64 g → Maps.has D (kS x g) = (memS l x g && (decide (x ≠ k) || left (kS x g)))
  grown : w.grownBy wr (some b)
set_option maxRecDepth 100000 in
set_option maxHeartbeats 4000000 in
theorem del_any {w : World} {b box : Nat} {l : List SV} (h : SeatIn w b l) (k : Int) (hk : I64 k) (hbox : w.cell? ⟨box, 0, none⟩ = some (.int .i64 k)) (hne : box ≠ b) :
    Calls Try.prog 36 #[.map (some b), .func (.func 37) #[] #[ptr box]] w fun e w' => e = .returned (.tuple #[]) ∧ Hid (SeatIn w' b (closeS l k) ∧ w.grownBy w' (some b)) := by
  obtain ⟨D0, hown, hD0⟩ := h.ex
  obtain ⟨n, hn⟩ : ∃ n, n = Maps.size D0 := ⟨_, rfl⟩
  rw [← hn] at hown
  clear hn h
  have eg : ∀ args w, (callFunc 37 args).run Try.prog w = .ok (.enter 37 args) w := enters_of Try.func37 (by kernel_rfl) rfl
  have HD := cover hD0
  have HB := cover hbox
  have hbl : box < w.heap.size := cell_in hbox
  clear hD0 hbox
  go_enter Try.func36, Try.ntmps36
  go_wp2_with (first
    | (at_range; refine wpList_range_own _ rfl _ 50 rfl 59 57 lawS Try.underlying50 unitElem b n _ rfl hown ?_; intro w0 hrg0 hg0 hs0)
    | go_in)
  go_frame
  go_loopw [8] (fun _ wr => ∃ (left : Lit → Bool) (cnt : Nat), Hid (DelAt w b n l k left cnt wr)) (fun _ wr => wr.rangeLeft b w.heap.size)
  case atStart => exact ⟨_, _, cover ⟨⟨D0, hrg0, fun x g hx hg => by
    rw [HD.out x g hx hg]
    cases memS l x g <;> simp⟩, hg0.but _⟩⟩
  case round =>
    obtain ⟨left, cnt, hrel⟩ := hrel
    obtain ⟨⟨D, hrg, hD⟩, hgw⟩ := hrel.out
    clear hrel
    go_wp2_with (first
      | (at_next; refine wpList_next_ranges _ rfl _ rfl 59 lawS unitElem (fun (p : Int × Int) => seatV p.1 p.2) (fun (_ : Unit) => Value.agg #[]) (fun key kl hkey => by obtain ⟨x, g, rfl, _⟩ := key_S_inv hkey; exact ⟨(x, g), rfl⟩) (fun v _ hv => by obtain ⟨rfl, _⟩ := unitElem_inv hv; exact ⟨(), rfl⟩) b w.heap.size n _ _ _ rfl hrg ?_ ?_)
      | go_in)
    · intro _ hl0
      have HF : Hid (SeatIn wr b (closeS l k) ∧ w.grownBy wr (some b)) := cover ⟨⟨D, own_tight hrg.owns, fun x g hx hg => by
        rw [hD x g hx hg, hl0, mem_close]
        by_cases e : x = k
        · rw [if_pos e]; simp [e]
        · rw [if_neg e]; simp [e]⟩, hgw⟩
      clear hD hgw hrg hl0
      go_wp2
      go_end0
      exact ⟨rfl, HF⟩
    · intro x g kl yd yp w1 cnt1 hkey hlx hv hat hrg1 hlt hg1 hs1 hen
      obtain ⟨x', g', e1, rfl, hx, hg⟩ := key_S_inv hkey
      obtain ⟨rfl, rfl⟩ : x = x' ∧ g = g' := by simpa using e1
      have hgw1 := hgw.andThen hg1 (fun j hj => by cases hj; exact Or.inl (Nat.le_refl _))
      have hbw := hrg1.owns.lt
      have hrl := hrg1.lt
      have hc1 : w1.cell? ⟨box, 0, none⟩ = some (.int .i64 k) := hgw1.cell HB.out (by simpa using hne)
      clear hv hat hkey e1
      go_wp2_with fail
      obtain ⟨w2, hw2⟩ : ∃ w2, w2 = (w1.alloc (.cells #[.int .i64 x, .int .i64 g] 59)).alloc (.cells #[] 57) := ⟨_, rfl⟩
      rw [← hw2]
      have hb2 : Below w1.heap.size w1 w2 := by rw [hw2]; exact ((Below.refl _ _).alloc (Nat.le_refl _) _).alloc (by simp) _
      have hblk2 : w2.heap[w1.heap.size]? = some (.cells #[.int .i64 x, .int .i64 g] 59 (0, 0)) := by
        rw [hw2, Below.heap_alloc _ _ _ (by simp)]; exact heap_alloc_new _ _
      rw [hs1] at hblk2
      clear hw2
      have hrg2 := hrg1.kept (grown_of_below hb2 none) (by simp) (by simp)
      have hgw2 := hgw1.andThen (grown_of_below hb2 none) (fun j hj => by cases hj)
      have hc2 := (hb2.cell (p := ⟨box, 0, none⟩) (cell_in hc1)).trans hc1
      clear hrg1 hgw1 hc1 hg1 hb2
      refine (over_any k x g box w2 hc2).mono ?_
      rintro e w3 ⟨rfl, hg3⟩
      have hrg3 := hrg2.kept hg3 (by simp) (by simp)
      have hgw3 := hgw2.andThen hg3 (fun j hj => by cases hj)
      have hblk3 := (hg3.block _ (block_lt hblk2) (by simp)).trans hblk2
      clear hrg2 hgw2 hblk2 hg3 hc2
      by_cases hxk : x = k
      · have hxx : (x == k) = true := by simpa using hxk
        have hcs0 : w3.cell? ⟨wr.heap.size, 0, none⟩ = some (.int .i64 x) := by rw [cell_of_row _ _ _ _ _ _ hblk3]; rfl
        have hcs1 : w3.cell? ⟨wr.heap.size, 1, none⟩ = some (.int .i64 g) := by rw [cell_of_row _ _ _ _ _ _ hblk3]; rfl
        have HD2 := cover hD
        have HG3 := cover hgw3
        have HXK := cover hxk
        clear hD hgw hgw3 hblk3 hxk
        go_wp2_with (first
          | (at_delete; refine wpList_delete_ranges _ rfl _ _ 50 59 rfl 57 lawS Try.underlying50 unitElem b w.heap.size n _ _ _ rfl hrg3 (seatV x g) _ rfl (key_S hx hg) ?_; intro w4 cnt4 hrg4 hle4 hturn4; go_frame)
          | go_in)
        rw [Maps.strike_twice] at hrg4
        go_roundw
        case rel =>
          refine ⟨_, cnt4, cover ⟨⟨_, hrg4, fun x2 g2 hx2 hg2 => ?_⟩, HG3.out.andThen hturn4.grown (fun j hj => by cases hj; exact Or.inr rfl)⟩⟩
          by_cases he : x2 = x ∧ g2 = g
          · obtain ⟨rfl, rfl⟩ := he
            rw [Maps.has_del_same, WideAt.sameKey_self (lawS.key (key_S hx hg))]
            simp [HXK.out]
          · have hk2 : kS x2 g2 ≠ kS x g := fun e => he (kS_inj hx2 hg2 hx hg e)
            rw [Maps.has_del_other hk2, HD2.out x2 g2 hx2 hg2, Maps.sameKey_ne hk2]
            simp
        case measure => rw [hrg4.left_eq, hrg.left_eq]; omega
      · have hxx : (x == k) = false := by simpa using hxk
        have HN : Hid (DelAt w b n l k (fun z => left z && !z.sameKey (kS x g)) cnt1 w3) := cover ⟨⟨D, hrg3, fun x2 g2 hx2 hg2 => by
          rw [hD x2 g2 hx2 hg2]
          by_cases he : x2 = x ∧ g2 = g
          · obtain ⟨rfl, rfl⟩ := he
            simp [hxk]
          · rw [Maps.sameKey_ne (fun e => he (kS_inj hx2 hg2 hx hg e))]
            simp⟩, hgw3⟩
        have e1 := hrg3.left_eq
        have e2 := hrg.left_eq
        clear hD hgw hgw3 hblk3 hrg3 hrg
        go_wp2
        go_roundw
        case rel => exact ⟨_, _, HN⟩
        case measure => rw [e1, e2]; exact hlt
end Go.Proofs.Ytnegbiofnjdfaaa
