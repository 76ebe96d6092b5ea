/- maps.Keys of such a map, and its walk: each key comes once. -/
import Derived.WalkKit
import Derived.OwnWalkIn
import Derived.TacticsInMore
import Derived.LoopNIn
import Derived.LoopIn
import Derived.RegionIn
import Derived.Sort.MapsRangeIn
import Derived.Test.YtjkgiepfglimcaaQRange
import Derived.Test.YtjkgiepfglimcaaEMap
namespace Go.Proofs.Ytjkgiepfglimcaa
open Go.RowKit Go.Shelf
set_option linter.unusedVariables false
attribute [local go_sem] Oper.semAt_some

theorem keyV_inj {a b : EK} (h : keyV a = keyV b) : a = b := by
  obtain ⟨_, _, _, _, _, _, _, _⟩ := a
  obtain ⟨_, _, _, _, _, _, _, _⟩ := b
  simpa using h
theorem keys_any (mb : Option Nat) (w : World) : Calls Try.prog 33 #[.map mb] w fun e w' => e = .returned (.func (.func 39) #[] #[ptr w.heap.size]) ∧ w' = w.alloc (.cells #[.map mb] 62) := by
  have hmf : ∀ (fn : Fn) (first cap : Array Value) (w : World), (Instr.makeFunc fn first cap).run Try.prog w = .ok (.func fn first cap) w := fun _ _ _ _ => rfl
  go_enter Try.func33, Try.ntmps33
  go_wp2
  go_ret
  exact ⟨rfl, rfl⟩
theorem ranges_keep {P : Program} {k : TypeId} {R : RU} {w w' : World} {b r n : Nat} {D : DU} {left : Lit → Bool} {cnt : Nat} (h : w.ranges P k R b r n D left cnt) (hb : w'.heap[b]? = w.heap[b]?) (hr : w'.heap[r]? = w.heap[r]?) : w'.ranges P k R b r n D left cnt := by
  obtain ⟨es, clock, since, seen, c0, h1, h2, h3, h4, h5, h6⟩ := h
  exact ⟨es, clock, since, seen, c0, hb.trans h1, h2, h3, h4, hr.trans h5, h6⟩
set_option maxRecDepth 100000 in
set_option maxHeartbeats 1600000 in
/-- the walk, for every body that keeps the map and what the walk has made -/
theorem keys1_in {n : Nat} (lp : Nat) {W : World} {mb bq nn : Nat} {D0 : DU} (hown : W.ownsMap Try.prog 28 elI.R mb nn D0) (hq : W.cell? ⟨bq, 0, none⟩ = some (.map (some mb))) (J : Nat → List EK → World → Prop)
    (hst : ∀ kb ss A A', J kb ss A → A.grownBy A' none → J kb ss A')
    (hit : ∀ kb ss A A', W.heap.size ≤ kb → J kb ss A → A.grownBy A' (some kb) → J kb ss A')
    (h0 : ∀ kb, W.heap.size ≤ kb → J kb [] W)
    (hY : ∀ kb ss k W1, OkE k → J kb ss W1 → W.heap.size ≤ kb → kb < W1.heap.size → mb < W.heap.size → ss.length < Maps.size D0 → ∀ m, YieldAt Fence.wide m Try.prog lp #[keyV k] W1 fun e W' =>
      e = .returned (.bool true) ∧ J kb (ss ++ [k]) W' ∧ W1.heap.size ≤ W'.heap.size ∧ W'.heap[kb]? = W1.heap[kb]? ∧ W'.heap[mb]? = W1.heap[mb]?) :
    CallsIn Fence.wide n Try.prog 39 #[.func (.yield lp) #[] #[], ptr bq] W fun e W' => (∃ v, e = .returned v) ∧ ∃ kb ss, W.heap.size ≤ kb ∧ GotE D0 (fun _ => false) ss ∧ J kb ss W' := by
  obtain ⟨s, hs⟩ : ∃ s, s = W.heap.size := ⟨_, rfl⟩
  have hmb : mb < s := by rw [hs]; exact hown.lt
  refine callsIn_wide.2 ((callsIn_wide (n := 9)).1 ?_)
  refine callsIn_of_wp Try.func39 rfl trivial ?_ rfl
  simp only [Try.ntmps39, List.size_toArray, List.length_cons, List.length_nil, Nat.reduceAdd, Nat.reduceSub, Array.replicate_succ, Array.replicate_zero, List.push_toArray, List.append_toArray, List.nil_append, List.cons_append]
  gi_wp2_with (first
    | (gi_at_range; refine wpListIn_range_own _ rfl _ 62 rfl 28 3 lawE Try.underlying62 elI.R mb nn _ rfl hown ?_; intro w0 hrg0 hg0 hs0)
    | gi_in)
  go_frame
  have HJ0 := cover (hst s [] W w0 (h0 s (by omega)) hg0)
  have HR0 := cover hrg0
  gi_loopw [3] (fun _ wr => ∃ (left : Lit → Bool) (cnt : Nat) (ss : List EK), Hid (wr.ranges Try.prog 28 elI.R mb W.heap.size nn D0 left cnt ∧ ss.length + cnt ≤ Maps.size D0 ∧ GotE D0 left ss ∧ J W.heap.size ss wr))
    (fun _ wr => wr.rangeLeft mb W.heap.size)
  case atStart => exact ⟨_, _, [], cover ⟨HR0.out, by simp, GotE.start D0, by rw [← hs]; exact HJ0.out⟩⟩
  case round =>
    obtain ⟨left, cnt, ss, hrel⟩ := hrel
    obtain ⟨hrg, hcs, hC, hJs⟩ := hrel.out
    gi_wp2_with (first
      | (gi_at_next; refine wpListIn_next_ranges _ rfl _ rfl 28 lawE elI.R (fun k : EK => keyV k) id (fun key kl hk => by obtain ⟨k, rfl, _⟩ := key_E_inv hk; exact ⟨k, rfl⟩) (fun v _ _ => ⟨v, rfl⟩) mb W.heap.size nn _ _ _ rfl hrg ?_ ?_)
      | gi_in)
    · intro hc0 hl0
      have HC : Hid (GotE D0 (fun _ => false) ss ∧ J W.heap.size ss wr) := cover ⟨by
        have : left = fun _ => false := funext hl0
        rw [← this]; exact hC, hJs⟩
      clear hrel hrg hC hJs hl0
      gi_wp2
      go_end0
      exact ⟨⟨_, rfl⟩, W.heap.size, ss, Nat.le_refl _, HC.out⟩
    · intro x c kl yd yp w2 cnt2 hkey hlk hv hat hrg2 hlt hg2 hs2 hen
      obtain ⟨k', e1, rfl, hk⟩ := key_E_inv hkey
      obtain rfl : x = k' := keyV_inj e1
      have hJ2 : J W.heap.size ss w2 := hit _ ss wr w2 (Nat.le_refl _) hJs hg2
      have HG := cover (And.intro hrg2 (And.intro (hC.step hk hlk hat) (And.intro hJ2 (And.intro hlt (And.intro hcs (And.intro hrg.left_eq (And.intro hrg2.lt hrg2.owns.lt)))))))
      have HK := cover hk
      clear hs2 hrel hrg hC hJs hg2 hkey hlk hat e1 hv hJ2
      obtain ⟨w3, hw3⟩ : ∃ w3, w3 = w2.alloc (.cells #[.int .u8 x.a0, .int .u8 x.a1, .int .u8 x.a2, .int .u8 x.a3, .int .u8 x.a4, .int .u8 x.a5, .int .i64 x.near, .int .i64 x.there_] 28) := ⟨_, rfl⟩
      have hg3 : w2.grownBy w3 none := by rw [hw3]; exact World.grownBy_alloc _ _ _
      have hb3 : Below w2.heap.size w2 w3 := by rw [hw3]; exact (Below.refl _ _).alloc (Nat.le_refl _) _
      have hrg3 := HG.out.1.alloc (.cells #[.int .u8 x.a0, .int .u8 x.a1, .int .u8 x.a2, .int .u8 x.a3, .int .u8 x.a4, .int .u8 x.a5, .int .i64 x.near, .int .i64 x.there_] 28)
      rw [← hw3] at hrg3
      have hcnt : cnt2 < cnt := by have := HG.out.1.left_eq; have := HG.out.2.2.2.1; have := HG.out.2.2.2.2.2.1; omega
      obtain ⟨fn, tmps, assign, body, hy, hR⟩ := hY W.heap.size ss x w3 HK.out (hst _ _ _ _ HG.out.2.2.1 hg3) (Nat.le_refl _) (by have := hb3.size; have := HG.out.2.2.2.2.2.2.1; omega) (by omega) (by have := HG.out.2.2.2.2.1; omega) 8
      have HRG := cover hrg3
      have hsz3 := hb3.size
      have HCN : Hid (cnt2 < cnt) := cover hcnt
      subst hw3
      clear hg3 hb3 hrg3 hcnt
      gi_wp2_with fail
      refine hR.mono ?_
      clear hR hy
      rintro e W3 ⟨rfl, hJ3, hs3, hk3, hm3⟩
      have HN : Hid (W3.ranges Try.prog 28 elI.R mb W.heap.size nn D0 (fun z => left z && !z.sameKey (kE x)) cnt2 ∧ (ss ++ [x]).length + cnt2 ≤ Maps.size D0 ∧ GotE D0 (fun z => left z && !z.sameKey (kE x)) (ss ++ [x]) ∧ J W.heap.size (ss ++ [x]) W3) := cover ⟨ranges_keep HRG.out hm3 hk3, by have := HG.out.2.2.2.2.1; have := HCN.out; simp; omega, HG.out.2.1, hJ3⟩
      have HL : Hid (wr.rangeLeft mb W.heap.size = cnt) := cover HG.out.2.2.2.2.2.1
      clear hJ3 hs3 hk3 hm3 HRG HG
      gi_wp2
      go_roundw
      case rel => exact ⟨_, cnt2, _, HN⟩
      case measure => rw [HN.out.1.left_eq, HL.out]; exact HCN.out
end Go.Proofs.Ytjkgiepfglimcaa
