/- Who takes what: slices of addresses; slices.Index, slices.Contains, Takes. -/
import Derived.BigQuiet
import Derived.Deep.QuietTactic
import Derived.Test.YtbpmhfekjihhhaaMAdr
namespace Go.Proofs.Ytbpmhfekjihhhaa
open Go.RowKit
attribute [local go_sem] run_eq6 undef

/-- the slice value '.slice A n _' reads as these addresses; all cells lie below block B -/
structure AdrsB (w : World) (B : Nat) (A : Option Addr) (n : Nat) (gs : List (List Int)) : Prop where
  len : gs.length = n
  cells : ∀ k (h : k < gs.length), ∃ ad a0 a1 a2 a3 a4 a5, A = some ad ∧ ad.block < B ∧ gs[k] = [a0, a1, a2, a3, a4, a5] ∧ w.cell? (ad.add (k * 6)) = some (.int .u8 a0) ∧ w.cell? ⟨(ad.add (k * 6)).block, (ad.add (k * 6)).off + 1, none⟩ = some (.int .u8 a1) ∧ w.cell? ⟨(ad.add (k * 6)).block, (ad.add (k * 6)).off + 2, none⟩ = some (.int .u8 a2) ∧ w.cell? ⟨(ad.add (k * 6)).block, (ad.add (k * 6)).off + 3, none⟩ = some (.int .u8 a3) ∧ w.cell? ⟨(ad.add (k * 6)).block, (ad.add (k * 6)).off + 4, none⟩ = some (.int .u8 a4) ∧ w.cell? ⟨(ad.add (k * 6)).block, (ad.add (k * 6)).off + 5, none⟩ = some (.int .u8 a5)
/-- is it one of them? -/
def hasB (gs : List (List Int)) (L : List Int) : Bool := gs.any (sameL L ·)
theorem hasB_next {gs : List (List Int)} {k : Nat} {x L : List Int} (h : gs[k]? = some x) : hasB (gs.take (k + 1)) L = (hasB (gs.take k) L || sameL L x) := by
  unfold hasB; rw [List.take_add_one, h]; simp
theorem hasB_yes {gs : List (List Int)} {k : Nat} {x L : List Int} (h : gs[k]? = some x) (hs : sameL L x = true) : hasB gs L = true := by
  unfold hasB; rw [List.any_eq_true]; exact ⟨x, List.mem_of_getElem? h, hs⟩
/-- a place, or none -/
def IdxB (q : Bool) (w0 : World) (e : Ending) (w' : World) : Prop := ∃ i : Int, e = .returned (.int .i64 i) ∧ decide (0 ≤ i) = q ∧ Below w0.heap.size w0 w'
section
variable {w w' : World} {B B' n : Nat} {A : Option Addr} {gs : List (List Int)}
theorem AdrsB.none_ : AdrsB w B A 0 [] := ⟨rfl, fun k h => by simp at h⟩
theorem AdrsB.keep (h : AdrsB w B A n gs) (hk : ∀ p : Addr, p.block < B → w'.cell? p = w.cell? p) : AdrsB w' B A n gs :=
  ⟨h.len, fun k hl => by
    obtain ⟨ad, a0, a1, a2, a3, a4, a5, e, hb, hg, h0, h1, h2, h3, h4, h5⟩ := h.cells k hl
    have hx : ∀ q : Addr, q.block = (ad.add (k * 6)).block → w'.cell? q = w.cell? q := fun q hq => hk _ (by rw [hq, addr_add_block]; exact hb)
    exact ⟨ad, a0, a1, a2, a3, a4, a5, e, hb, hg, (hx _ rfl).trans h0, (hx ⟨(ad.add (k * 6)).block, (ad.add (k * 6)).off + 1, none⟩ rfl).trans h1, (hx ⟨(ad.add (k * 6)).block, (ad.add (k * 6)).off + 2, none⟩ rfl).trans h2, (hx ⟨(ad.add (k * 6)).block, (ad.add (k * 6)).off + 3, none⟩ rfl).trans h3, (hx ⟨(ad.add (k * 6)).block, (ad.add (k * 6)).off + 4, none⟩ rfl).trans h4, (hx ⟨(ad.add (k * 6)).block, (ad.add (k * 6)).off + 5, none⟩ rfl).trans h5⟩⟩
theorem AdrsB.below (h : AdrsB w B A n gs) (hb : Below B w w') : AdrsB w' B A n gs := h.keep fun _ hp => hb.cell hp
theorem AdrsB.alloc (h : AdrsB w B A n gs) (hB : B ≤ w.heap.size) (o : Obj) : AdrsB (w.alloc o) B A n gs := h.keep fun p hp => World.cell?_alloc_lt w o p (by omega)
end

set_option maxHeartbeats 800000 in
theorem index_any (A : Option Addr) (n c B : Nat) (gs : List (List Int)) (b0 b1 b2 b3 b4 b5 : Int) (w : World) (hr : AdrsB w B A n gs) (hB : B ≤ w.heap.size) (hmax : n ≤ 9223372036854775807) :
    Calls Try.prog 60 #[.slice A n c, .agg #[.int .u8 b0, .int .u8 b1, .int .u8 b2, .int .u8 b3, .int .u8 b4, .int .u8 b5]] w (IdxB (hasB gs [b0, b1, b2, b3, b4, b5]) w) := by
  have HL := cover hr.len
  have hb0 := six_boxed w b0 b1 b2 b3 b4 b5
  have hr1 := hr.alloc hB (.cells #[.int .u8 b0, .int .u8 b1, .int .u8 b2, .int .u8 b3, .int .u8 b4, .int .u8 b5] 33)
  have hbel : Below w.heap.size w (w.alloc (.cells #[.int .u8 b0, .int .u8 b1, .int .u8 b2, .int .u8 b3, .int .u8 b4, .int .u8 b5] 33)) := (Below.refl _ _).alloc (Nat.le_refl _) _
  obtain ⟨g, hg⟩ : ∃ g, w.heap.size = g := ⟨_, rfl⟩
  rw [hg] at hb0
  have hc0 := hb0.all
  clear hb0
  go_enter Try.func60, Try.ntmps60
  go_wp2
  go_loopw [8] (fun i wr => ∃ k : Nat, k ≤ n ∧ i = .int .i64 k ∧ Hid (hasB (gs.take k) [b0, b1, b2, b3, b4, b5] = false) ∧ ∃ d, wr = (w.alloc (.cells #[.int .u8 b0, .int .u8 b1, .int .u8 b2, .int .u8 b3, .int .u8 b4, .int .u8 b5] 33)).drewN d) (fun i _ => n - (intOf i).toNat)
  case atStart => exact ⟨0, Nat.zero_le _, rfl, cover rfl, 0, rfl⟩
  case round =>
    obtain ⟨k, hk, rfl, hno, d, rfl⟩ := hrel
    by_cases hlt : k < n
    · obtain ⟨ad, a0, a1, a2, a3, a4, a5, rfl, hblk, hgk, h0, h1, h2, h3, h4, h5⟩ := hr1.cells k (by rw [HL.out]; exact hlt)
      go_wp2_with fail
      go_quiet (fail)
      rcases hq : sameL [b0, b1, b2, b3, b4, b5] [a0, a1, a2, a3, a4, a5] with _ | _
      · go_wp2
        go_roundw
        case rel => exact ⟨k + 1, by omega, by go_num, cover (by rw [hasB_next (by rw [List.getElem?_eq_getElem (by rw [HL.out]; exact hlt), hgk]), hno.out, hq]; rfl), d + nq, rfl⟩
        case measure => simp [intOf]; omega
      · go_wp2
        go_ret
        refine ⟨k, rfl, ?_, below_drewN (below_drewN hbel _) _⟩
        rw [hasB_yes (by rw [List.getElem?_eq_getElem (by rw [HL.out]; exact hlt), hgk]) hq]
        simp
    · obtain rfl : k = n := by omega
      go_wp2
      go_ret
      refine ⟨-1, rfl, ?_, below_drewN hbel _⟩
      rw [← List.take_of_length_le (l := gs) (i := k) (by rw [HL.out]; omega), hno.out]
      rfl
theorem contains_any (A : Option Addr) (n c B : Nat) (gs : List (List Int)) (b0 b1 b2 b3 b4 b5 : Int) (q : Bool) (w : World) (hq : Hid (hasB gs [b0, b1, b2, b3, b4, b5] = q)) (hr : AdrsB w B A n gs) (hB : B ≤ w.heap.size) (hmax : n ≤ 9223372036854775807) :
    Calls Try.prog 44 #[.slice A n c, .agg #[.int .u8 b0, .int .u8 b1, .int .u8 b2, .int .u8 b3, .int .u8 b4, .int .u8 b5]] w fun e w' => e = .returned (.bool q) ∧ Below w.heap.size w w' := by
  have hc0 := (six_boxed w b0 b1 b2 b3 b4 b5).all
  have hr1 := hr.alloc hB (.cells #[.int .u8 b0, .int .u8 b1, .int .u8 b2, .int .u8 b3, .int .u8 b4, .int .u8 b5] 33)
  have hbel : Below w.heap.size w (w.alloc (.cells #[.int .u8 b0, .int .u8 b1, .int .u8 b2, .int .u8 b3, .int .u8 b4, .int .u8 b5] 33)) := (Below.refl _ _).alloc (Nat.le_refl _) _
  go_enter Try.func44, Try.ntmps44
  go_wp2_with fail
  refine (index_any A n c B gs b0 b1 b2 b3 b4 b5 _ hr1 (by simp; omega) hmax).mono ?_
  rintro e w1 ⟨i, rfl, hi, hb1⟩
  rw [hq.out] at hi
  go_wp2
  go_ret
  exact ⟨rfl, hbel.trans (hb1.mono (by simp))⟩

/-- a contract, asked some time behind world W0 -/
theorem from_below {f : Nat} {args : Array Value} {x : Ending} (h : ∀ W, Calls Try.prog f args W fun e w' => e = x ∧ Below W.heap.size W w') (W0 : World) :
    ∀ W', Below W0.heap.size W0 W' → Calls Try.prog f args W' fun e w' => e = x ∧ Below W0.heap.size W0 w' :=
  fun W' hb => (h W').mono fun _ _ ⟨he, hb'⟩ => ⟨he, hb.trans (hb'.mono hb.size)⟩
/-- who takes what goes to L -/
def takesB (me : List Int) (gs : List (List Int)) (L : List Int) (x : Int) : Bool := sameL L me || sameL L [255, 255, 255, 255, 255, 255] || (grp x && hasB gs L)

/-- the two addresses that were handed in lie behind world w; w2 is the world then -/
structure Boxed (w w2 : World) (M L : List Int) : Prop where
  one : Six w2 w.heap.size 0 M
  two : Six w2 (w.heap.size + 1) 0 L
  bel : Below w.heap.size w w2
  siz : w2.heap.size = w.heap.size + 2
theorem boxed_two (w : World) (m0 m1 m2 m3 m4 m5 t0 t1 t2 t3 t4 t5 : Int) : Boxed w ((w.alloc (.cells #[.int .u8 m0, .int .u8 m1, .int .u8 m2, .int .u8 m3, .int .u8 m4, .int .u8 m5] 33)).alloc (.cells #[.int .u8 t0, .int .u8 t1, .int .u8 t2, .int .u8 t3, .int .u8 t4, .int .u8 t5] 33)) [m0, m1, m2, m3, m4, m5] [t0, t1, t2, t3, t4, t5] := by
  refine ⟨(six_boxed w m0 m1 m2 m3 m4 m5).alloc (by simp) _, ?_, ((Below.refl _ _).alloc (Nat.le_refl _) _).alloc (by simp) _, by simp⟩
  have h := six_boxed (w.alloc (.cells #[.int .u8 m0, .int .u8 m1, .int .u8 m2, .int .u8 m3, .int .u8 m4, .int .u8 m5] 33)) t0 t1 t2 t3 t4 t5
  have e : (w.alloc (.cells #[.int .u8 m0, .int .u8 m1, .int .u8 m2, .int .u8 m3, .int .u8 m4, .int .u8 m5] 33)).heap.size = w.heap.size + 1 := by simp
  rw [e] at h
  exact h
theorem Boxed.all {w w2 w1 : World} {m0 m1 m2 m3 m4 m5 t0 t1 t2 t3 t4 t5 : Int} (h : Boxed w w2 [m0, m1, m2, m3, m4, m5] [t0, t1, t2, t3, t4, t5]) (hb : Below w2.heap.size w2 w1) :
    (World.cell? w1 ⟨w.heap.size, 0, none⟩ = some (.int .u8 m0) ∧ World.cell? w1 ⟨w.heap.size, 1, none⟩ = some (.int .u8 m1) ∧ World.cell? w1 ⟨w.heap.size, 2, none⟩ = some (.int .u8 m2) ∧ World.cell? w1 ⟨w.heap.size, 3, none⟩ = some (.int .u8 m3) ∧ World.cell? w1 ⟨w.heap.size, 4, none⟩ = some (.int .u8 m4) ∧ World.cell? w1 ⟨w.heap.size, 5, none⟩ = some (.int .u8 m5)) ∧ (World.cell? w1 ⟨(w.heap.size + 1), 0, none⟩ = some (.int .u8 t0) ∧ World.cell? w1 ⟨(w.heap.size + 1), 1, none⟩ = some (.int .u8 t1) ∧ World.cell? w1 ⟨(w.heap.size + 1), 2, none⟩ = some (.int .u8 t2) ∧ World.cell? w1 ⟨(w.heap.size + 1), 3, none⟩ = some (.int .u8 t3) ∧ World.cell? w1 ⟨(w.heap.size + 1), 4, none⟩ = some (.int .u8 t4) ∧ World.cell? w1 ⟨(w.heap.size + 1), 5, none⟩ = some (.int .u8 t5)) ∧ Below w2.heap.size w2 w1 := by
  have hs := h.siz
  exact ⟨(h.one.below hb (by omega)).all, (h.two.below hb (by omega)).all, hb⟩

set_option maxHeartbeats 1600000 in
theorem takes_at (m0 m1 m2 m3 m4 m5 : Int) (A : Option Addr) (n c B : Nat) (gs : List (List Int)) (t0 t1 t2 t3 t4 t5 : Int) (w w2 : World) (q1 q2 q3 q4 : Bool) (hr : AdrsB w2 B A n gs) (hB : B ≤ w2.heap.size) (hmax : n ≤ 9223372036854775807)
    (hw2 : Hid (w2 = (w.alloc (.cells #[.int .u8 m0, .int .u8 m1, .int .u8 m2, .int .u8 m3, .int .u8 m4, .int .u8 m5] 33)).alloc (.cells #[.int .u8 t0, .int .u8 t1, .int .u8 t2, .int .u8 t3, .int .u8 t4, .int .u8 t5] 33))) (HB : Hid (Boxed w w2 [m0, m1, m2, m3, m4, m5] [t0, t1, t2, t3, t4, t5]))
    (h1 : sameL [t0, t1, t2, t3, t4, t5] [m0, m1, m2, m3, m4, m5] = q1) (h2 : sameL [t0, t1, t2, t3, t4, t5] [255, 255, 255, 255, 255, 255] = q2) (h3 : Hid (grp t0 = q3)) (h4 : Hid (hasB gs [t0, t1, t2, t3, t4, t5] = q4)) :
    Calls Try.prog 25 #[.agg #[.int .u8 m0, .int .u8 m1, .int .u8 m2, .int .u8 m3, .int .u8 m4, .int .u8 m5], .slice A n c, .agg #[.int .u8 t0, .int .u8 t1, .int .u8 t2, .int .u8 t3, .int .u8 t4, .int .u8 t5]] w fun e w' => e = .returned (.bool (q1 || q2 || (q3 && q4))) ∧ Below w.heap.size w w' := by
  have HA := cover (from_below all_any w2)
  have HG := cover (from_below (group_any t0 t1 t2 t3 t4 t5) w2)
  rw [h3.out] at HG
  have HC := cover (fun W' (hb : Below w2.heap.size w2 W') => (contains_any A n c B gs t0 t1 t2 t3 t4 t5 q4 W' h4 (hr.below (hb.mono hB)) (by have := hb.size; omega) hmax).mono fun _ _ ⟨he, hb'⟩ => And.intro he (hb.trans (hb'.mono hb.size)))
  have hcc := HB.out.all (Below.refl _ _)
  have hs2 := HB.out.bel.size
  clear hr
  rcases q1 with _ | _
  · rcases q2 with _ | _
    · rcases q3 with _ | _
      · go_enter Try.func25, Try.ntmps25
        go_wp2_with fail
        rw [← hw2.out]
        first
          | (go_region_with (first
              | (go_at_call 15; refine (HA.out _ (Below.refl _ _).drew).mono ?_; rintro e w1 ⟨rfl, hbX⟩; have hcX := HB.out.all hbX)
              | (go_at_call 17; refine (HG.out _ hbX).mono ?_; rintro e w3 ⟨rfl, hbY⟩; have hcY := HB.out.all hbY)))
          | fail
        all_goals
          go_wp2
          go_ret
          exact ⟨rfl, HB.out.bel.trans (hbY.mono hs2)⟩
      · go_enter Try.func25, Try.ntmps25
        go_wp2_with fail
        rw [← hw2.out]
        go_region_held3 (fun w' => (World.cell? w' ⟨w.heap.size, 0, none⟩ = some (.int .u8 m0) ∧ World.cell? w' ⟨w.heap.size, 1, none⟩ = some (.int .u8 m1) ∧ World.cell? w' ⟨w.heap.size, 2, none⟩ = some (.int .u8 m2) ∧ World.cell? w' ⟨w.heap.size, 3, none⟩ = some (.int .u8 m3) ∧ World.cell? w' ⟨w.heap.size, 4, none⟩ = some (.int .u8 m4) ∧ World.cell? w' ⟨w.heap.size, 5, none⟩ = some (.int .u8 m5)) ∧ (World.cell? w' ⟨(w.heap.size + 1), 0, none⟩ = some (.int .u8 t0) ∧ World.cell? w' ⟨(w.heap.size + 1), 1, none⟩ = some (.int .u8 t1) ∧ World.cell? w' ⟨(w.heap.size + 1), 2, none⟩ = some (.int .u8 t2) ∧ World.cell? w' ⟨(w.heap.size + 1), 3, none⟩ = some (.int .u8 t3) ∧ World.cell? w' ⟨(w.heap.size + 1), 4, none⟩ = some (.int .u8 t4) ∧ World.cell? w' ⟨(w.heap.size + 1), 5, none⟩ = some (.int .u8 t5)) ∧ Below w2.heap.size w2 w') (first | exact HB.out.all hbX | exact HB.out.all (Below.refl _ _).drew)
          (first
            | (go_at_call 15; refine (HA.out _ ?_).mono ?_; (go_split_ands; assumption); rintro e w1 ⟨rfl, hbX⟩)
            | (go_at_call 17; refine (HG.out _ ?_).mono ?_; (go_split_ands; assumption); rintro e w1 ⟨rfl, hbX⟩)
            | (go_at_call 44; refine (HC.out _ ?_).mono ?_; (go_split_ands; assumption); rintro e w1 ⟨rfl, hbX⟩))
        go_wp2
        go_ret
        exact ⟨rfl, HB.out.bel.trans (hbX.mono hs2)⟩
    · go_enter Try.func25, Try.ntmps25
      go_wp2_with fail
      rw [← hw2.out]
      first
        | (go_region_with (first
            | (go_at_call 15; refine (HA.out _ (Below.refl _ _).drew).mono ?_; rintro e w1 ⟨rfl, hbX⟩; have hcX := HB.out.all hbX)))
        | fail
      all_goals
        go_wp2
        go_ret
        exact ⟨rfl, HB.out.bel.trans (hbX.mono hs2)⟩
  · go_enter Try.func25, Try.ntmps25
    go_wp2_with fail
    rw [← hw2.out]
    go_quiet (fail)
    go_wp2
    go_ret
    exact ⟨rfl, below_drewN HB.out.bel _⟩
theorem takes_any (m0 m1 m2 m3 m4 m5 : Int) (A : Option Addr) (n c B : Nat) (gs : List (List Int)) (t0 t1 t2 t3 t4 t5 : Int) (w : World) (hr : AdrsB w B A n gs) (hB : B ≤ w.heap.size) (hmax : n ≤ 9223372036854775807) :
    Calls Try.prog 25 #[.agg #[.int .u8 m0, .int .u8 m1, .int .u8 m2, .int .u8 m3, .int .u8 m4, .int .u8 m5], .slice A n c, .agg #[.int .u8 t0, .int .u8 t1, .int .u8 t2, .int .u8 t3, .int .u8 t4, .int .u8 t5]] w fun e w' => e = .returned (.bool (takesB [m0, m1, m2, m3, m4, m5] gs [t0, t1, t2, t3, t4, t5] t0)) ∧ Below w.heap.size w w' :=
  takes_at m0 m1 m2 m3 m4 m5 A n c B gs t0 t1 t2 t3 t4 t5 w _ _ _ _ _ ((hr.alloc hB _).alloc (by simp; omega) _) (by simp; omega) hmax (cover rfl) (cover (boxed_two w m0 m1 m2 m3 m4 m5 t0 t1 t2 t3 t4 t5)) rfl rfl (cover rfl) (cover rfl)
end Go.Proofs.Ytbpmhfekjihhhaa
