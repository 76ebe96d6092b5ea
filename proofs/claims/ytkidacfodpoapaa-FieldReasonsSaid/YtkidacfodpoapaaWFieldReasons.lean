/- The walk of FieldReasons. -/
import Derived.Test.YtkidacfodpoapaaGAwake
import Derived.Test.YtkidacfodpoapaaGRPReas
import Derived.Test.YtkidacfodpoapaaGRReas
namespace Go.Proofs.Ytkidacfodpoapaa
open Go.RowKit
set_option linter.unusedVariables false
set_option linter.unusedSimpArgs false

/-- a reason is as it is -/
theorem run_same9 (w : World) (r : RsV) : (Op.equalIn 10000 39 (.agg #[.int .i64 r.ctl, .int .i64 r.vs, .int .i64 r.vr, .bool r.rsp, .bool r.w, .bool r.x, .bool r.y, .bool r.z, .bool r.v]) (.agg #[.int .i64 r.ctl, .int .i64 r.vs, .int .i64 r.vr, .bool r.rsp, .bool r.w, .bool r.x, .bool r.y, .bool r.z, .bool r.v])).run Try.prog w = .ok true w := by
  have h := Try.underlying39
  go_simp
theorem encRs_len (r : RsV) : (encRs r).length = 5 := rfl
theorem putRs_yes {r : RsV} (h : OkR r) : putRs r = (encRs r, 0) := if_pos h
theorem putRs_no {r : RsV} (h : ¬ OkR r) : putRs r = ([], 1) := if_neg h
theorem putRs_le (r : RsV) : (putRs r).1.length ≤ 5 := by unfold putRs; split <;> simp [encRs]
attribute [local go_sem] run_same9

set_option maxHeartbeats 3200000 in
theorem walk_FieldReasons (r : RsV) (A : Option Addr) (n c : Nat) (l : List Int) (w : World) (hlc : n ≤ c) (hcm : c ≤ maxLen) (hr : Row w w.heap.size A n l ∧ Bts l ∧ (A = none → c = 0)) :
    Calls Try.prog 4 #[.agg #[.int .i64 r.ctl, .int .i64 r.vs, .int .i64 r.vr, .bool r.rsp, .bool r.w, .bool r.x, .bool r.y, .bool r.z, .bool r.v], .slice A n c] w fun e w' => e = .returned (.bool true) ∧ Below w.heap.size w w' := by
  obtain ⟨hrow, hb, hnil⟩ := hr
  obtain rfl : l.length = n := hrow.len
  have HR := cover hrow
  have HB := cover hb
  clear hrow hb
  obtain ⟨w1, hw1⟩ : ∃ w1, Hid (w1 = w.alloc (.cells #[.int .i64 r.ctl, .int .i64 r.vs, .int .i64 r.vr, .bool r.rsp, .bool r.w, .bool r.x, .bool r.y, .bool r.z, .bool r.v] 39)) := ⟨_, cover rfl⟩
  have H1 : Hid (Below w.heap.size w w1) := cover (by rw [hw1.out]; exact (Below.refl _ _).alloc (Nat.le_refl _) _)
  have G1 : Hid (w1.heap[w.heap.size]? = some (.cells #[.int .i64 r.ctl, .int .i64 r.vs, .int .i64 r.vr, .bool r.rsp, .bool r.w, .bool r.x, .bool r.y, .bool r.z, .bool r.v] 39 (0, 0))) := cover (by rw [hw1.out]; exact heap_alloc_new _ _)
  have hs1 : w.heap.size < w1.heap.size := block_lt G1.out
  go_enter Try.func4, Try.ntmps4
  go_wp2_with fail
  rw [← hw1.out]
  refine (awake_any w1).mono ?_
  rintro e w2 ⟨rfl, hb2⟩
  have H2 := cover (H1.out.trans (hb2.mono (by omega)))
  have G2 := cover ((hb2.block _ hs1).trans G1.out)
  have hs2 : w.heap.size < w2.heap.size := block_lt G2.out
  clear hb2
  by_cases hbig : 50 < l.length
  · have hbig' : (50 : Int) < (l.length : Int) := by omega
    go_wp2
    go_ret
    exact ⟨rfl, H2.out⟩
  have hbig' : ¬ (50 : Int) < (l.length : Int) := by omega
  have hmax : l.length ≤ 50 := by omega
  go_wp2_with (refine wpList_load_row rfl _ _ rfl w.heap.size rfl 39 #[.int .i64 r.ctl, .int .i64 r.vs, .int .i64 r.vr, .bool r.rsp, .bool r.w, .bool r.x, .bool r.y, .bool r.z, .bool r.v] (0, 0) _ G2.out Try.underlying39 rfl ref_reason_size ?_)
  refine (law_reason_any r w2).mono ?_
  rintro e w3 ⟨rfl, hb3⟩
  have H3 := cover (H2.out.trans (hb3.mono (by omega)))
  have G3 := cover ((hb3.block _ hs2).trans G2.out)
  have hs3 : w.heap.size < w3.heap.size := block_lt G3.out
  clear hb3
  go_wp2_with fail
  refine (putReason_any r w3).mono ?_
  obtain ⟨⟨x, e1⟩, hx⟩ : ∃ y, Hid (putRs r = y) := ⟨_, cover rfl⟩
  have hxl : x.length ≤ 5 := by have := putRs_le r; rw [hx.out] at this; exact this
  rw [hx.out]
  rintro e w4 ⟨A4, c4, rfl, ho4, hb4⟩
  have H4 := cover (H3.out.trans (hb4.mono (by omega)))
  have G4 := cover ((hb4.block _ hs3).trans G3.out)
  have O4 := cover ho4
  have hs4 : w.heap.size < w4.heap.size := block_lt G4.out
  clear hb4 ho4
  go_wp2_with (refine wpList_load_row rfl _ _ rfl w.heap.size rfl 39 #[.int .i64 r.ctl, .int .i64 r.vs, .int .i64 r.vr, .bool r.rsp, .bool r.w, .bool r.x, .bool r.y, .bool r.z, .bool r.v] (0, 0) _ G4.out Try.underlying39 rfl ref_reason_size ?_)
  refine (ref_putReason_any r w4).mono ?_
  rw [hx.out]
  rintro e w5 ⟨A5, c5, rfl, ho5, hb5⟩
  have H5 := cover (H4.out.trans (hb5.mono (by omega)))
  have G5 := cover ((hb5.block _ hs4).trans G4.out)
  have O45 := cover (ownB_below O4.out hb5)
  have O5 := cover ho5
  have hs5 : w.heap.size < w5.heap.size := block_lt G5.out
  clear hb5 ho5
  go_wp2_with fail
  refine (getReason_any A l.length c w.heap.size l w5 (HR.out.below H5.out) (by omega) HB.out (by omega)).mono ?_
  obtain ⟨⟨p, e2⟩, hp⟩ : ∃ y, Hid (getRs l = y) := ⟨_, cover rfl⟩
  rw [hp.out]
  rintro e w6 ⟨rfl, hb6⟩
  obtain ⟨w7, hw7⟩ : ∃ w7, Hid (w7 = (w6.alloc (.cells zrs 30)).setRow w6.heap.size #[.int .i64 p.ctl, .int .i64 p.vs, .int .i64 p.vr, .bool p.rsp, .bool p.w, .bool p.x, .bool p.y, .bool p.z, .bool p.v]) := ⟨_, cover rfl⟩
  have P7 : Hid (w7.heap[w6.heap.size]? = some (.cells #[.int .i64 p.ctl, .int .i64 p.vs, .int .i64 p.vr, .bool p.rsp, .bool p.w, .bool p.x, .bool p.y, .bool p.z, .bool p.v] 30 (0, 0))) := cover (by rw [hw7.out]; exact setRow_heap _ _ _ _ _ _ (heap_alloc_new _ _))
  have hb7 : Below w6.heap.size w6 w7 := by rw [hw7.out]; exact Go.below_setRow ((Below.refl _ _).alloc (Nat.le_refl _) _) (Nat.le_refl _) _
  have hs56 := hb6.size
  have hb57 := hb6.trans (hb7.mono hs56)
  have H7 := cover (H5.out.trans (hb57.mono (by omega)))
  have G7 := cover ((hb57.block _ hs5).trans G5.out)
  have O47 := cover (ownB_below O45.out hb57)
  have O57 := cover (ownB_below O5.out hb57)
  have hs7 : w6.heap.size < w7.heap.size := block_lt P7.out
  have hp7 : w.heap.size < w6.heap.size := by omega
  clear hb6 hb7 hb57
  go_wp2_with (refine wpList_store_row rfl _ _ _ rfl w6.heap.size #[.int .i64 p.ctl, .int .i64 p.vs, .int .i64 p.vr, .bool p.rsp, .bool p.w, .bool p.x, .bool p.y, .bool p.z, .bool p.v] rfl rfl 30 zrs (heap_alloc_new _ _) reason_size rfl (reason_one _ _ _ _ _ _ _ _ _) ?_; rw [← hw7.out])
  refine (ref_getReason_any A l.length c w.heap.size l w7 (HR.out.below H7.out) (by omega) HB.out hlc (by omega)).mono ?_
  rw [hp.out]
  rintro e w8 ⟨rfl, hb8⟩
  obtain ⟨w9, hw9⟩ : ∃ w9, Hid (w9 = (w8.alloc (.cells zrs 39)).setRow w8.heap.size #[.int .i64 p.ctl, .int .i64 p.vs, .int .i64 p.vr, .bool p.rsp, .bool p.w, .bool p.x, .bool p.y, .bool p.z, .bool p.v]) := ⟨_, cover rfl⟩
  have Q9 : Hid (w9.heap[w8.heap.size]? = some (.cells #[.int .i64 p.ctl, .int .i64 p.vs, .int .i64 p.vr, .bool p.rsp, .bool p.w, .bool p.x, .bool p.y, .bool p.z, .bool p.v] 39 (0, 0))) := cover (by rw [hw9.out]; exact setRow_heap _ _ _ _ _ _ (heap_alloc_new _ _))
  have hb9 : Below w8.heap.size w8 w9 := by rw [hw9.out]; exact Go.below_setRow ((Below.refl _ _).alloc (Nat.le_refl _) _) (Nat.le_refl _) _
  have hs78 := hb8.size
  have hb79 := hb8.trans (hb9.mono hs78)
  have H9 := cover (H7.out.trans (hb79.mono (by omega)))
  have G9 := cover ((hb79.block _ (by omega)).trans G7.out)
  have P9 := cover ((hb79.block _ hs7).trans P7.out)
  have O49 := cover (ownB_below O47.out hb79)
  have O59 := cover (ownB_below O57.out hb79)
  have hs9 : w8.heap.size < w9.heap.size := block_lt Q9.out
  have hs97 : w6.heap.size < w9.heap.size := by omega
  clear hb8 hb9 hb79
  go_wp2_with (refine wpList_store_row rfl _ _ _ rfl w8.heap.size #[.int .i64 p.ctl, .int .i64 p.vs, .int .i64 p.vr, .bool p.rsp, .bool p.w, .bool p.x, .bool p.y, .bool p.z, .bool p.v] rfl rfl 39 zrs (heap_alloc_new _ _) ref_reason_size rfl (reason_one _ _ _ _ _ _ _ _ _) ?_; rw [← hw9.out])
  have CP := cover (reason_cells P9.out)
  have CQ := cover (reason_cells Q9.out)
  have HS1 : Hid (∀ W, Below w9.heap.size w9 W → Calls Try.prog 12 #[.slice A4 x.length c4, .slice A5 x.length c5] W fun e w' => e = .returned (.bool true) ∧ Below w9.heap.size w9 w') :=
    cover (fun W hb => (same_any A4 A5 x.length c4 c5 _ _ x x W (O49.out.row.below hb) (O59.out.row.below hb) (by omega)).mono (by
      rintro e w' ⟨he, d, rfl⟩
      exact ⟨by rw [he, decide_eq_true rfl], below_drewN hb d⟩))
  have HS2 : Hid (∀ W, Below w9.heap.size w9 W → Calls Try.prog 18 #[.agg #[.int .i64 p.ctl, .int .i64 p.vs, .int .i64 p.vr, .bool p.rsp, .bool p.w, .bool p.x, .bool p.y, .bool p.z, .bool p.v]] W fun e w' => e = .returned (.agg #[.int .i64 p.ctl, .int .i64 p.vs, .int .i64 p.vr, .bool p.rsp, .bool p.w, .bool p.x, .bool p.y, .bool p.z, .bool p.v]) ∧ Below w9.heap.size w9 w') :=
    cover (fun W hb => (law_why_any p W).mono (by
      rintro e w' ⟨he, hb'⟩
      exact ⟨he, hb.trans (hb'.mono hb.size)⟩))
  obtain ⟨p0, p1, p2, p3, p4, p5, p6, p7, p8⟩ := CP.out
  obtain ⟨q0, q1, q2, q3, q4, q5, q6, q7, q8⟩ := CQ.out
  go_upto_region 9 with fail
  go_region_held3 (fun w' => (World.cell? w' ⟨w6.heap.size, 0, none⟩ = some (.int .i64 p.ctl) ∧ World.cell? w' ⟨w6.heap.size, 1, none⟩ = some (.int .i64 p.vs) ∧ World.cell? w' ⟨w6.heap.size, 2, none⟩ = some (.int .i64 p.vr) ∧ World.cell? w' ⟨w6.heap.size, 3, none⟩ = some (.bool p.rsp) ∧ World.cell? w' ⟨w6.heap.size, 4, none⟩ = some (.bool p.w) ∧ World.cell? w' ⟨w6.heap.size, 5, none⟩ = some (.bool p.x) ∧ World.cell? w' ⟨w6.heap.size, 6, none⟩ = some (.bool p.y) ∧ World.cell? w' ⟨w6.heap.size, 7, none⟩ = some (.bool p.z) ∧ World.cell? w' ⟨w6.heap.size, 8, none⟩ = some (.bool p.v)) ∧ (World.cell? w' ⟨w8.heap.size, 0, none⟩ = some (.int .i64 p.ctl) ∧ World.cell? w' ⟨w8.heap.size, 1, none⟩ = some (.int .i64 p.vs) ∧ World.cell? w' ⟨w8.heap.size, 2, none⟩ = some (.int .i64 p.vr) ∧ World.cell? w' ⟨w8.heap.size, 3, none⟩ = some (.bool p.rsp) ∧ World.cell? w' ⟨w8.heap.size, 4, none⟩ = some (.bool p.w) ∧ World.cell? w' ⟨w8.heap.size, 5, none⟩ = some (.bool p.x) ∧ World.cell? w' ⟨w8.heap.size, 6, none⟩ = some (.bool p.y) ∧ World.cell? w' ⟨w8.heap.size, 7, none⟩ = some (.bool p.z) ∧ World.cell? w' ⟨w8.heap.size, 8, none⟩ = some (.bool p.v)) ∧ Below w9.heap.size w9 w')
    (first | exact ⟨CP.out, CQ.out, (Below.refl _ _).drew⟩ | exact ⟨reason_below CP.out hbX hs97, reason_below CQ.out hbX hs9, hbX⟩)
    (first
      | (go_at_call 12; refine (HS1.out _ ?_).mono ?_; (go_split_ands; assumption); rintro e w10 ⟨rfl, hbX⟩)
      | (go_at_call 18; refine (HS2.out _ ?_).mono ?_; (go_split_ands; assumption); rintro e w10 ⟨rfl, hbX⟩))
  have hs10 := hbX.size
  have H10 := cover (H9.out.trans (hbX.mono (by omega)))
  have G10 := cover ((hbX.block _ (by omega)).trans G9.out)
  have P10 := cover ((hbX.block _ hs97).trans P9.out)
  have O10 := cover (ownB_below O49.out hbX)
  clear hbX p0 p1 p2 p3 p4 p5 p6 p7 p8 q0 q1 q2 q3 q4 q5 q6 q7 q8 HS1 HS2 CP CQ P9 Q9 G9 G7 G5 G4 G3 G2 G1 P7 O4 O45 O47 O49 O5 O57 O59 H1 H2 H3 H4 H5 H7
  by_cases hok : OkR r
  case neg =>
    have hxx := hx.out
    rw [putRs_no hok] at hxx
    injection hxx with ex ee
    have HOX := cover O10
    clear hx O10
    subst ex
    subst ee
    clear hok
    by_cases he2 : e2 = 0
    · subst he2
      obtain ⟨okp, hpl⟩ := enc_getRs HB.out hp.out
      have HPL : Hid (putRs p = (l, 0)) := cover (by rw [putRs_yes okp, hpl])
      clear okp hpl
      go_wp2_with (refine wpList_load_row rfl _ _ rfl w6.heap.size rfl 30 #[.int .i64 p.ctl, .int .i64 p.vs, .int .i64 p.vr, .bool p.rsp, .bool p.w, .bool p.x, .bool p.y, .bool p.z, .bool p.v] (0, 0) _ P10.out Try.underlying30 rfl reason_size ?_)
      refine (putReason_any p w10).mono ?_
      rw [HPL.out]
      rintro e y1 ⟨A20, c20, rfl, ho20, hb20⟩
      have HY := cover (H10.out.trans (hb20.mono H10.out.size))
      have OY := cover ho20.row
      clear hb20 ho20
      go_wp2_with fail
      refine (same_any A20 A l.length c20 c y1.heap.size w.heap.size l l y1 OY.out (HR.out.below HY.out) (by omega)).mono ?_
      rintro e y2 ⟨rfl, dd, rfl⟩
      rw [decide_eq_true rfl]
      go_wp2
      go_ret
      exact ⟨rfl, below_drewN HY.out dd⟩
    · have he2' : (e2 == 0) = false := by simpa using he2
      go_wp2
      go_ret
      exact ⟨rfl, H10.out⟩
  case pos =>
    have hxx := hx.out
    rw [putRs_yes hok] at hxx
    injection hxx with ex ee
    have HX : Hid (getRs x = (r, 0) ∧ Bts x) := cover (by rw [← ex]; exact ⟨getRs_enc hok, encRs_bts hok⟩)
    subst ee
    clear ex hx hok
    go_wp2_with fail
    refine (getReason_any A4 x.length c4 w10.heap.size x w10 O10.out.row (Nat.le_refl _) HX.out.2 (by omega)).mono ?_
    rw [HX.out.1]
    rintro e w11 ⟨rfl, hb11⟩
    obtain ⟨w12, hw12⟩ : ∃ w12, Hid (w12 = (w11.alloc (.cells zrs 30)).setRow w11.heap.size #[.int .i64 r.ctl, .int .i64 r.vs, .int .i64 r.vr, .bool r.rsp, .bool r.w, .bool r.x, .bool r.y, .bool r.z, .bool r.v]) := ⟨_, cover rfl⟩
    have Z12 : Hid (w12.heap[w11.heap.size]? = some (.cells #[.int .i64 r.ctl, .int .i64 r.vs, .int .i64 r.vr, .bool r.rsp, .bool r.w, .bool r.x, .bool r.y, .bool r.z, .bool r.v] 30 (0, 0))) := cover (by rw [hw12.out]; exact setRow_heap _ _ _ _ _ _ (heap_alloc_new _ _))
    have hb12 : Below w11.heap.size w11 w12 := by rw [hw12.out]; exact Go.below_setRow ((Below.refl _ _).alloc (Nat.le_refl _) _) (Nat.le_refl _) _
    have hs11 := hb11.size
    have hb := hb11.trans (hb12.mono hs11)
    have H12 := cover (H10.out.trans (hb.mono (by omega)))
    have G12 := cover ((hb.block _ (by omega)).trans G10.out)
    have P12 := cover ((hb.block _ (by omega)).trans P10.out)
    have hs12 : w11.heap.size < w12.heap.size := block_lt Z12.out
    have hr12 : w.heap.size < w12.heap.size := by omega
    clear hb hb11 hb12
    go_wp2_with (refine wpList_store_row rfl _ _ _ rfl w11.heap.size #[.int .i64 r.ctl, .int .i64 r.vs, .int .i64 r.vr, .bool r.rsp, .bool r.w, .bool r.x, .bool r.y, .bool r.z, .bool r.v] rfl rfl 30 zrs (heap_alloc_new _ _) reason_size rfl (reason_one _ _ _ _ _ _ _ _ _) ?_; rw [← hw12.out])
    have CZ := cover (reason_cells Z12.out)
    have CR := cover (reason_cells G12.out)
    have HS3 : Hid (∀ W, Below w12.heap.size w12 W → Calls Try.prog 18 #[.agg #[.int .i64 r.ctl, .int .i64 r.vs, .int .i64 r.vr, .bool r.rsp, .bool r.w, .bool r.x, .bool r.y, .bool r.z, .bool r.v]] W fun e w' => e = .returned (.agg #[.int .i64 r.ctl, .int .i64 r.vs, .int .i64 r.vr, .bool r.rsp, .bool r.w, .bool r.x, .bool r.y, .bool r.z, .bool r.v]) ∧ Below w12.heap.size w12 w') :=
      cover (fun W hb => (law_why_any r W).mono (by
        rintro e w' ⟨he, hb'⟩
        exact ⟨he, hb.trans (hb'.mono hb.size)⟩))
    obtain ⟨p0, p1, p2, p3, p4, p5, p6, p7, p8⟩ := CZ.out
    obtain ⟨q0, q1, q2, q3, q4, q5, q6, q7, q8⟩ := CR.out
    go_upto_region 13 with fail
    go_region_held3 (fun w' => (World.cell? w' ⟨w11.heap.size, 0, none⟩ = some (.int .i64 r.ctl) ∧ World.cell? w' ⟨w11.heap.size, 1, none⟩ = some (.int .i64 r.vs) ∧ World.cell? w' ⟨w11.heap.size, 2, none⟩ = some (.int .i64 r.vr) ∧ World.cell? w' ⟨w11.heap.size, 3, none⟩ = some (.bool r.rsp) ∧ World.cell? w' ⟨w11.heap.size, 4, none⟩ = some (.bool r.w) ∧ World.cell? w' ⟨w11.heap.size, 5, none⟩ = some (.bool r.x) ∧ World.cell? w' ⟨w11.heap.size, 6, none⟩ = some (.bool r.y) ∧ World.cell? w' ⟨w11.heap.size, 7, none⟩ = some (.bool r.z) ∧ World.cell? w' ⟨w11.heap.size, 8, none⟩ = some (.bool r.v)) ∧ (World.cell? w' ⟨w.heap.size, 0, none⟩ = some (.int .i64 r.ctl) ∧ World.cell? w' ⟨w.heap.size, 1, none⟩ = some (.int .i64 r.vs) ∧ World.cell? w' ⟨w.heap.size, 2, none⟩ = some (.int .i64 r.vr) ∧ World.cell? w' ⟨w.heap.size, 3, none⟩ = some (.bool r.rsp) ∧ World.cell? w' ⟨w.heap.size, 4, none⟩ = some (.bool r.w) ∧ World.cell? w' ⟨w.heap.size, 5, none⟩ = some (.bool r.x) ∧ World.cell? w' ⟨w.heap.size, 6, none⟩ = some (.bool r.y) ∧ World.cell? w' ⟨w.heap.size, 7, none⟩ = some (.bool r.z) ∧ World.cell? w' ⟨w.heap.size, 8, none⟩ = some (.bool r.v)) ∧ Below w12.heap.size w12 w')
      (first | exact ⟨CZ.out, CR.out, (Below.refl _ _).drew⟩ | exact ⟨reason_below CZ.out hbX hs12, reason_below CR.out hbX hr12, hbX⟩)
      ((go_at_call 18; refine (HS3.out _ ?_).mono ?_; (go_split_ands; assumption); rintro e w13 ⟨rfl, hbX⟩))
    have hs13 := hbX.size
    have H13 := cover (H12.out.trans (hbX.mono (by omega)))
    have P13 := cover ((hbX.block _ (by omega)).trans P12.out)
    clear hbX p0 p1 p2 p3 p4 p5 p6 p7 p8 q0 q1 q2 q3 q4 q5 q6 q7 q8
    by_cases he2 : e2 = 0
    · subst he2
      obtain ⟨okp, hpl⟩ := enc_getRs HB.out hp.out
      have HPL : Hid (putRs p = (l, 0)) := cover (by rw [putRs_yes okp, hpl])
      clear okp hpl
      go_wp2_with (refine wpList_load_row rfl _ _ rfl w6.heap.size rfl 30 #[.int .i64 p.ctl, .int .i64 p.vs, .int .i64 p.vr, .bool p.rsp, .bool p.w, .bool p.x, .bool p.y, .bool p.z, .bool p.v] (0, 0) _ P13.out Try.underlying30 rfl reason_size ?_)
      refine (putReason_any p w13).mono ?_
      rw [HPL.out]
      rintro e y1 ⟨A20, c20, rfl, ho20, hb20⟩
      have HY := cover (H13.out.trans (hb20.mono H13.out.size))
      have OY := cover ho20.row
      clear hb20 ho20
      go_wp2_with fail
      refine (same_any A20 A l.length c20 c y1.heap.size w.heap.size l l y1 OY.out (HR.out.below HY.out) (by omega)).mono ?_
      rintro e y2 ⟨rfl, dd, rfl⟩
      rw [decide_eq_true rfl]
      go_wp2
      go_ret
      exact ⟨rfl, below_drewN HY.out dd⟩
    · have he2' : (e2 == 0) = false := by simpa using he2
      go_wp2
      go_ret
      exact ⟨rfl, H13.out⟩
end Go.Proofs.Ytkidacfodpoapaa
