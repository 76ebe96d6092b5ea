/- A law's Twin, or two side by side; the law's first question. -/
import Derived.Deep.CutBlock
import Derived.Deep.DeepCutAuto
import Derived.Deep.RegionHeld3
import Derived.Test.YtbhdncbnjlgigaaBRef
namespace Go.Proofs.Ytbhdncbnjlgigaa
open Go.RowKit
set_option linter.unusedVariables false
set_option linter.unusedSimpArgs false

/-- a law's Twin: it and all that is made since lies from block B on -/
structure TwOne (B : Nat) (W0 W : World) (t : Nat) (v : BV) : Prop where
  tw : TwP W t v
  lo : B ≤ t
  bel : Below B W0 W
  siz : B ≤ W.heap.size
theorem TwOne.below {B t : Nat} {W0 W W' : World} {v : BV} (h : TwOne B W0 W t v) (hb : Below W.heap.size W W') : TwOne B W0 W' t v :=
  ⟨h.tw.below hb, h.lo, h.bel.trans (hb.mono h.siz), Nat.le_trans h.siz hb.size⟩
theorem TwOne.turn {B t : Nat} {W0 W W' : World} {v v' : BV} (h : TwOne B W0 W t v) (h' : TwP W' t v' ∧ OnlyB t W W') : TwOne B W0 W' t v' :=
  ⟨h'.1, h.lo, below_only h.bel h'.2 h.lo h.siz, Nat.le_trans h.siz h'.2.size⟩
theorem TwOne.made {B t : Nat} {W0 W W' : World} {v : BV} (hb : Below B W0 W) (hs : B ≤ W.heap.size) (h' : TwP W' t v ∧ Below W.heap.size W W' ∧ W.heap.size ≤ t) : TwOne B W0 W' t v :=
  ⟨h'.1, Nat.le_trans hs h'.2.2, hb.trans (h'.2.1.mono hs), Nat.le_trans hs h'.2.1.size⟩
/-- a sent unit that a law keeps in a variable -/
theorem sent_var (w : World) (b : Bool) (A : Option Addr) (c : Nat) : ∃ X, Hid (X = (w.alloc (.cells zp 30)).setRow w.heap.size (sentC b A c)) ∧ Hid (X.heap[w.heap.size]? = some (.cells (sentC b A c) 30 (0, 0))) ∧ Hid (Below w.heap.size w X) :=
  ⟨_, cover rfl, cover (setRow_heap _ _ _ _ _ _ (heap_alloc_new _ _)), cover (Go.below_setRow ((Below.refl _ _).alloc (Nat.le_refl _) _) (Nat.le_refl _) _)⟩
theorem sent_size' (b : Bool) (A : Option Addr) (c : Nat) : (Try.prog.info? 30).map (fun x => x.size) = some (sentC b A c).size := by cases b <;> exact pdu_size
theorem sent_one' (b : Bool) (A : Option Addr) (c : Nat) : ((sentC b A c).all fun x => x.oneCell') = true := by
  cases b
  · exact zp_one
  · exact tst_one _ _ _
theorem sent_nine (b : Bool) (A : Option Addr) (c : Nat) : (zp : Array Value).size = (sentC b A c).size := by cases b <;> rfl
theorem okB_of {n w : Int} (h1 : 1 ≤ n) (h2 : n ≤ 100) (h3 : 1 ≤ w) (h4 : w ≤ 10000) : okB n w := ⟨⟨h1, h2⟩, h3, h4⟩

set_option maxHeartbeats 1600000 in
theorem awake_any (w : World) : Calls Try.prog 7 #[] w fun e w' => e = .returned (.bool true) ∧ Below w.heap.size w w' := by
  obtain ⟨b, hb⟩ : ∃ b, w.heap.size = b := ⟨_, rfl⟩
  rw [hb]
  have s1 := new_yes (n := 1) (wt := 2) (okB_of (by omega) (by omega) (by omega) (by omega)) w
  have H0 : Hid (Below b w w ∧ b ≤ w.heap.size) := cover ⟨Below.refl _ _, by omega⟩
  clear hb
  go_enter Try.func7, Try.ntmps7
  go_wp2_with fail
  refine s1.mono ?_
  rintro e w1 ⟨t, rfl, H1'⟩
  have H1 := cover (TwOne.made H0.out.1 H0.out.2 H1'.out)
  clear s1 H1' H0
  have s2 := cover (start_any H1.out.tw)
  rw [show startB (zB 1 2) = ⟨1, 2, 1, 1, 2⟩ by rfl, show startsB (zB 1 2) = true by rfl] at s2
  go_wp2_with fail
  refine s2.out.mono ?_
  rintro e w2 ⟨rfl, H2'⟩
  have H2 := cover (H1.out.turn H2'.out)
  clear s2 H2' H1
  obtain ⟨w3, hw3, G3, hb3⟩ := sent_var w2 true none 0
  have H3 := cover (H2.out.below hb3.out)
  obtain ⟨g, hg⟩ : ∃ g, g = w2.heap.size := ⟨_, rfl⟩
  have HNE : Hid (g ≠ t) := cover (by have := H2.out.tw.lt; omega)
  have G3' : Hid (w3.heap[g]? = some (.cells (tstC false none 0) 30 (0, 0))) := cover (by rw [hg]; exact G3.out)
  clear H2 G3 hb3
  go_upto_region 5 with (refine wpList_store_row rfl _ _ _ rfl w2.heap.size (tstC false none 0) rfl rfl 30 zp (heap_alloc_new _ _) pdu_size rfl (tst_one _ _ _) ?_; rw [show World.setRow (World.alloc w2 _) w2.heap.size (tstC false none 0) = w3 from hw3.out.symm])
  rw [← hg]
  clear hw3 hg
  have s4 := cover (tick_any H3.out.tw)
  rw [show tickB ⟨1, 2, 1, 1, 2⟩ = ⟨1, 2, 1, 1, 1⟩ by rfl, show ticksB ⟨1, 2, 1, 1, 2⟩ = false by rfl] at s4
  go_wp2_with fail
  refine s4.out.mono ?_
  rintro e w4 ⟨rfl, H4'⟩
  have G4 := cover (only_keeps G3'.out H4'.out.2 HNE.out)
  have H4 := cover (H3.out.turn H4'.out)
  clear s4 H4' H3 G3'
  have s5 := cover (tick_any H4.out.tw)
  rw [show tickB ⟨1, 2, 1, 1, 1⟩ = ⟨1, 2, 2, 1, 0⟩ by rfl, show ticksB ⟨1, 2, 1, 1, 1⟩ = false by rfl] at s5
  go_wp2_with fail
  refine s5.out.mono ?_
  rintro e w5 ⟨rfl, H5'⟩
  have G5 := only_keeps G4.out H5'.out.2 HNE.out
  have H5 := cover (H4.out.turn H5'.out)
  clear s5 H5' H4 G4
  obtain ⟨p0, p1, p2, p3, p4, p5, p6, p7, p8⟩ := pdu_cells G5
  obtain ⟨u, hh, _⟩ := H5.out.tw.hd
  have s6 := cover (state_any hh)
  clear hh G5
  go_wp2_with fail
  refine s6.out.mono ?_
  rintro e w6 ⟨rfl, rfl⟩
  go_wp2
  go_ret
  exact ⟨rfl, H5.out.bel⟩
end Go.Proofs.Ytbhdncbnjlgigaa
