/- A lan is made. -/
import Derived.Test.YtjidhpmjdhjciaaFSend
namespace Go.Proofs.Ytjidhpmjdhjciaa
open Go.RowKit
set_option linter.unusedVariables false

def outB (n most : Int) : Bool := decide (n < 1) || decide (most < n)
theorem outside_yes (n most : Int) (w : World) (h : n < 1 ∨ most < n) : Calls Try.prog 31 #[.int .i64 n, .int .i64 most] w fun e w' => e = .returned (.bool true) ∧ w = w' := by
  by_cases h1 : n < 1
  · clear h
    go_enter Try.func31, Try.ntmps31
    go_wp2
    go_ret
    exact ⟨rfl, rfl⟩
  · have h2 : most < n := by omega
    clear h
    go_enter Try.func31, Try.ntmps31
    go_wp2
    go_ret
    exact ⟨rfl, rfl⟩
theorem outside_no (n most : Int) (w : World) (h : 1 ≤ n ∧ n ≤ most) : Calls Try.prog 31 #[.int .i64 n, .int .i64 most] w fun e w' => e = .returned (.bool false) ∧ w = w' := by
  obtain ⟨h1, h2⟩ := h
  have h3 : ¬ (n < 1) := by omega
  have h4 : ¬ (most < n) := by omega
  go_enter Try.func31, Try.ntmps31
  go_wp2
  go_ret
  exact ⟨rfl, rfl⟩
def newOk (a b c : Int) : Prop := (1 ≤ a ∧ a ≤ 16) ∧ (1 ≤ b ∧ b ≤ 64) ∧ (1 ≤ c ∧ c ≤ 10000)
theorem new_no (a b c : Int) (w : World) (h : ¬ newOk a b c) : Calls Try.prog 13 #[.int .i64 a, .int .i64 b, .int .i64 c] w fun e w' => e = .returned (.tuple #[.pointer none, .int .i64 1]) ∧ w = w' := by
  by_cases h1 : 1 ≤ a ∧ a ≤ 16
  · have HA := outside_no a 16 w h1
    by_cases h2 : 1 ≤ b ∧ b ≤ 64
    · have HB := outside_no b 64 w h2
      have HC := outside_yes c 10000 w (by
        by_cases h3 : 1 ≤ c ∧ c ≤ 10000
        · exact absurd ⟨h1, h2, h3⟩ h
        · omega)
      clear h h1 h2
      go_enter Try.func13, Try.ntmps13
      go_wp2_with (go_at_call 31; (first | (with_reducible refine HA.mono ?_) | (with_reducible refine HB.mono ?_) | (with_reducible refine HC.mono ?_)); rintro e w' ⟨rfl, rfl⟩)
      go_ret2
      exact ⟨rfl, rfl⟩
    · have HB := outside_yes b 64 w (by omega)
      clear h h1 h2
      go_enter Try.func13, Try.ntmps13
      go_wp2_with (go_at_call 31; (first | (with_reducible refine HA.mono ?_) | (with_reducible refine HB.mono ?_)); rintro e w' ⟨rfl, rfl⟩)
      go_ret2
      exact ⟨rfl, rfl⟩
  · have HA := outside_yes a 16 w (by omega)
    clear h h1
    go_enter Try.func13, Try.ntmps13
    go_wp2_with (go_at_call 31; refine HA.mono ?_; rintro e w' ⟨rfl, rfl⟩)
    go_ret2
    exact ⟨rfl, rfl⟩

/-- a queue, or none, as a pointer -/
def pv : Option Nat → Value
  | none => .pointer none
  | some q => ptr q
theorem pv_one (o : Option Nat) : (pv o).oneCell' = true := by cases o <;> simp [pv, Value.oneCell']
/-- so many rows are made -/
structure NewAt (W : World) (l n m life k : Nat) (w : World) : Prop where
  ex : ∃ (qs : List (Option Nat)) (A : Option Addr) (c : Nat), qs.length = k ∧ w.heap[l]? = some (.cells #[.int .i64 n, .int .i64 life, .int .i64 0, .int .i64 0, .slice A k c] 69 (0, 0)) ∧
    w.ownsRow W.heap.size 70 1 (.slice A k c) k (qs.map pv) ∧ (∀ j, j < k → (qs[j]? = some none ↔ diag n j)) ∧ (∀ q, some q ∈ qs → W.heap.size ≤ q ∧ FQ (qfoot q none [] []) w q m []) ∧ (qs.filterMap id).Nodup
  bel : Below W.heap.size W w
  l_le : W.heap.size ≤ l
theorem ptr_info : (Try.prog.info? 70).map (fun i => (i.zero, i.size, i.bytes)) = some (some (.pointer none), 1, 8) := by kernel_rfl
theorem foot_one {q k : Nat} (h : qfoot q none [] [] k) : k = q := by
  rcases h with h | h | h | ⟨v, hv, _⟩
  · exact h
  · cases h
  · cases h
  · cases hv
/-- one more is made -/
theorem NewAt.step {W : World} {l n m life k : Nat} {w w1 w2 : World} {x : Option Nat} {A A' : Option Addr} {c c' : Nat} {qs : List (Option Nat)} (hlen : qs.length = k) (hl : w.heap[l]? = some (.cells #[.int .i64 n, .int .i64 life, .int .i64 0, .int .i64 0, .slice A k c] 69 (0, 0)))
    (hdg : ∀ j, j < k → (qs[j]? = some none ↔ diag n j)) (hq : ∀ q, some q ∈ qs → W.heap.size ≤ q ∧ FQ (qfoot q none [] []) w q m []) (hnd : (qs.filterMap id).Nodup) (hb : Below W.heap.size W w) (hll : W.heap.size ≤ l)
    (hown : w.ownsRow W.heap.size 70 1 (.slice A k c) k (qs.map pv)) (hx : x = none ↔ diag n k) (hb1 : Below w.heap.size w w1) (hxq : ∀ q, x = some q → w.heap.size ≤ q ∧ FQ (qfoot q none [] []) w1 q m [])
    (hown' : w2.ownsRow W.heap.size 70 1 (.slice A' (k + 1) c') (k + 1) (qs.map pv ++ [pv x])) (hgrow : w1.grownBy w2 (Value.slice A k c).ownBlock) :
    NewAt W l n m life (k + 1) (w2.setCell ⟨l, 4, none⟩ (.slice A' (k + 1) c')) := by
  have hob : ∀ g, (Value.slice A k c).ownBlock = some g → W.heap.size ≤ g ∧ g < w.heap.size ∧ ∃ cur, w.heap[g]? = some (.cells cur 70 (0, 0)) := fun g hg => by
    refine ⟨(hown.lt g hg).1, (hown.lt g hg).2, ?_⟩
    rcases hown.2 with ⟨hv, _⟩ | ⟨g', cap, cur, hv, _, hh, _⟩
    · rw [hv] at hg; simp [Value.ownBlock] at hg
    · rw [hv] at hg
      have : g' = g := by simpa [Value.ownBlock] using hg
      subst this; exact ⟨cur, hh⟩
  have hkeep : ∀ j o, w.heap[j]? = some o → (Value.slice A k c).ownBlock ≠ some j → w2.heap[j]? = some o := fun j o hj hn => by
    have h1 := (hb1.block j (block_lt hj)).trans hj
    exact (hgrow.block j (block_lt h1) (fun e => hn e.symm)).trans h1
  have hl2 := hkeep l _ hl (fun e => by obtain ⟨_, _, cur, hh⟩ := hob l e; exact type_ne hl hh (by decide) rfl)
  have hs1 := hb1.size
  have hq2 : ∀ q w0, FQ (qfoot q none [] []) w0 q m [] → ((w0 = w ∧ q < w.heap.size) ∨ (w0 = w1 ∧ w.heap.size ≤ q)) → FQ (qfoot q none [] []) (w2.setCell ⟨l, 4, none⟩ (.slice A' (k + 1) c')) q m [] := fun q w0 h0 hc => by
    obtain ⟨G, ps, vs, h1, h2, h3, h4, h5⟩ := h0.ex
    obtain ⟨A0, c0, hh, _⟩ := h1.ex
    refine h0.keep fun i hi => ?_
    have := foot_one hi
    subst this
    rcases hc with ⟨rfl, hc⟩ | ⟨rfl, hc⟩
    · have hne : i ≠ l := type_ne hh hl (by decide)
      rw [set_other _ _ hne, hh]
      exact hkeep i _ hh (fun e => by obtain ⟨_, _, cur, hg⟩ := hob i e; exact type_ne hh hg (by decide) rfl)
    · have hne : i ≠ l := by have := block_lt hl; omega
      rw [set_other _ _ hne]
      exact hgrow.block i (block_lt hh) (fun e => by have := (hob i e.symm).2.1; omega)
  refine ⟨⟨qs ++ [x], A', c', by simp [hlen], by rw [set_block hl2]; rfl, ?_, ?_, ?_, ?_⟩, ?_, hll⟩
  · rw [List.map_append]
    have : (w2.setCell ⟨l, 4, none⟩ (.slice A' (k + 1) c')).ownsRow W.heap.size 70 1 (.slice A' (k + 1) c') (k + 1) (qs.map pv ++ [pv x]) := ownsRow_setCell_other hown' (fun e => by
      obtain ⟨h8, h9⟩ := hown'.lt l e
      rcases hown'.2 with ⟨hv, h0⟩ | ⟨g', cap, cur, hv, _, hh, _⟩
      · omega
      · rw [hv] at e
        have : g' = l := by simpa [Value.ownBlock] using e
        subst this; exact type_ne hl2 hh (by decide) rfl) _
    exact this
  · intro j hj
    by_cases hjk : j < k
    · rw [List.getElem?_append_left (by omega)]; exact hdg j hjk
    · obtain rfl : j = k := by omega
      rw [List.getElem?_append_right (by omega), hlen]
      simp [hx]
  · intro q hm
    rcases List.mem_append.1 hm with hm | hm
    · obtain ⟨h1, h2⟩ := hq q hm
      exact ⟨h1, hq2 q w h2 (.inl ⟨rfl, h2.lt q h2.q_in⟩)⟩
    · simp at hm
      obtain ⟨h1, h2⟩ := hxq q hm.symm
      exact ⟨Nat.le_trans hb.size h1, hq2 q w1 h2 (.inr ⟨rfl, h1⟩)⟩
  · rw [List.filterMap_append]
    rcases x with _ | q
    · simpa using hnd
    · obtain ⟨h1, _⟩ := hxq q rfl
      refine List.nodup_append.2 ⟨hnd, by simp, fun a ha b hb' => ?_⟩
      simp at hb' ha
      subst hb'
      obtain ⟨h2, h3⟩ := hq a ha
      have := h3.lt a h3.q_in
      omega
  · exact ((hb.trans (hb1.mono hb.size)).grown hgrow (Nat.le_trans hb.size hs1) (fun g hg => (hob g hg).1)).setCell hll _
end Go.Proofs.Ytjidhpmjdhjciaa
