/- What bit and control hand back. -/
import Derived.BigQuiet
import Derived.Deep.QuietTactic
import Derived.Deep.CutBlock
import Derived.Deep.DeepCutAuto
import Derived.Test.YtohegiphdgihpaaOPut
import Derived.Test.YtohegiphdgihpaaUMay
namespace Go.Proofs.Ytohegiphdgihpaa
open Go.RowKit
set_option linter.unusedVariables false
set_option linter.unusedSimpArgs false

theorem bit_any (b : Bool) (m : Int) (w : World) : Calls Try.prog 25 #[.bool b, .int .i64 m] w fun e w' => e = .returned (.int .i64 (if b then m else 0)) ∧ w' = w := by
  cases b
  · go_enter Try.func25, Try.ntmps25
    go_wp2
    go_ret
    exact ⟨rfl, rfl⟩
  · go_enter Try.func25, Try.ntmps25
    go_wp2
    go_ret
    exact ⟨rfl, rfl⟩

/-- which row a unit that may be has -/
theorem row_yes {p : PV} (h : Fits p) : ∃ r, rowOf p.form p.kind = (r, true) ∧ r.code = (if p.form = 0 then 0 else if p.form = 1 then 1 + 4 * p.kind else codeI p.kind) := by
  rcases h.2 with ⟨f, k⟩ | ⟨f, k, _⟩ | ⟨f, _, _, k⟩
  · rw [f, k]; exact ⟨_, rfl, rfl⟩
  · obtain ⟨n, hn⟩ : ∃ n : Nat, p.kind = (n : Int) := ⟨p.kind.toNat, by omega⟩
    have h3 : n < 3 := by omega
    rw [f, hn]
    match n, h3 with
    | 0, _ | 1, _ | 2, _ => exact ⟨_, rfl, rfl⟩
  · obtain ⟨n, hn⟩ : ∃ n : Nat, p.kind = (n : Int) := ⟨p.kind.toNat, by omega⟩
    have h3 : n < 10 := by omega
    rw [f, hn]
    match n, h3 with
    | 0, _ | 1, _ | 2, _ | 3, _ | 4, _ | 5, _ | 6, _ | 7, _ | 8, _ | 9, _ => exact ⟨_, rfl, rfl⟩

theorem or_two {n : Int} (b : Bool) (h0 : 0 ≤ n) (h1 : n ≤ 127) : bits BinOp.or IntKind.i64 (wrap64 (n * 2)) (fl b) = 2 * n + fl b := by
  have h : ∀ b : Bool, ∀ m : Nat, m < 128 → bits BinOp.or IntKind.i64 (wrap64 ((m : Int) * 2)) (fl b) = 2 * (m : Int) + fl b := by decide +kernel
  obtain ⟨m, rfl⟩ : ∃ m : Nat, n = (m : Int) := ⟨n.toNat, by omega⟩
  exact h b m (by omega)
theorem or_zero {n : Int} (h0 : 0 ≤ n) (h1 : n ≤ 127) : bits BinOp.or IntKind.i64 0 (wrap64 (n * 2)) = 2 * n := by
  have h : ∀ m : Nat, m < 128 → bits BinOp.or IntKind.i64 0 (wrap64 ((m : Int) * 2)) = 2 * (m : Int) := by decide +kernel
  obtain ⟨m, rfl⟩ : ∃ m : Nat, n = (m : Int) := ⟨n.toNat, by omega⟩
  exact h m (by omega)
theorem or_code {k : Int} (b : Bool) (h0 : 0 ≤ k) (h9 : k ≤ 9) : bits BinOp.or IntKind.i64 (codeI k) (16 * fl b) = codeI k + 16 * fl b := by
  have h : ∀ b : Bool, ∀ m : Nat, m < 10 → bits BinOp.or IntKind.i64 (codeI (m : Int)) (16 * fl b) = codeI (m : Int) + 16 * fl b := by decide +kernel
  obtain ⟨m, rfl⟩ : ∃ m : Nat, k = (m : Int) := ⟨k.toNat, by omega⟩
  exact h b m (by omega)
theorem or_pair {a b : Int} (h0 : 0 ≤ a) (h1 : a ≤ 255) (hb : 0 ≤ b ∧ b ≤ 255) : bits BinOp.or IntKind.i64 (wrap64 (a * 256)) b = a * 256 + b := by
  have h := or_byte a b h0 (by omega) hb
  rwa [IntWalk.wrap64_in b ⟨by omega, by omega⟩] at h
theorem low_two {a b : Int} (ha : 0 ≤ a ∧ a ≤ 255) (hb : 0 ≤ b ∧ b ≤ 255) : low (a * 256 + b) 2 = [a, b] := by
  have e1 : (a * 256 + b) / 256 ^ 1 % 256 = a := by rw [Int.pow_one]; omega
  have e0 : (a * 256 + b) / 256 ^ 0 % 256 = b := by rw [Int.pow_zero]; omega
  unfold low low low
  rw [e1, e0]
theorem low_one {a : Int} (ha : 0 ≤ a ∧ a ≤ 255) : low a 1 = [a] := by
  have e0 : a / 256 ^ 0 % 256 = a := by rw [Int.pow_zero]; omega
  unfold low low
  rw [e0]
theorem bit_one (b : Bool) (w : World) : Calls Try.prog 25 #[.bool b, .int .i64 1] w fun e w' => e = .returned (.int .i64 (fl b)) ∧ w' = w := bit_any b 1 w
theorem bit_16 (b : Bool) (w : World) : Calls Try.prog 25 #[.bool b, .int .i64 16] w fun e w' => e = .returned (.int .i64 (16 * fl b)) ∧ w' = w :=
  (bit_any b 16 w).mono fun e w' h => ⟨by rw [h.1]; cases b <;> rfl, h.2⟩

set_option maxHeartbeats 800000 in
theorem control_i (p : PV) (A : Option Addr) (c : Nat) (w : World) (hm : Hid (MayP p)) (f0 : p.form = 0) :
    Calls Try.prog 27 #[.agg #[.int .i64 p.to, .int .i64 p.frm, .bool p.resp, .int .i64 p.form, .int .i64 p.kind, .int .i64 p.ns, .int .i64 p.nr, .bool p.poll, .slice A p.info.length c]] w (GivesB w (ctl p)) := by
  obtain ⟨w1, hw1⟩ : ∃ w1, Hid (w1 = w.alloc (.cells #[.int .i64 p.to, .int .i64 p.frm, .bool p.resp, .int .i64 p.form, .int .i64 p.kind, .int .i64 p.ns, .int .i64 p.nr, .bool p.poll, .slice A p.info.length c] 25)) := ⟨_, cover rfl⟩
  have H1 : Hid (Below w.heap.size w w1) := cover (by rw [hw1.out]; exact (Below.refl _ _).alloc (Nat.le_refl _) _)
  have hs1 : w.heap.size < w1.heap.size := by rw [hw1.out]; simp
  have G1 : Hid (w1.heap[w.heap.size]? = some (.cells #[.int .i64 p.to, .int .i64 p.frm, .bool p.resp, .int .i64 p.form, .int .i64 p.kind, .int .i64 p.ns, .int .i64 p.nr, .bool p.poll, .slice A p.info.length c] 25 (0, 0))) := cover (by rw [hw1.out]; exact heap_alloc_new _ _)
  obtain ⟨r, hr, hrc⟩ := row_yes hm.out.fits
  have hpoll := fl_le p.poll
  obtain ⟨⟨_, _, ⟨hn0, hn1⟩, ⟨hr0, hr1⟩, _⟩, hf⟩ := hm.out
  have e1 : bits BinOp.or IntKind.i64 r.code (wrap64 (p.ns * 2)) = 2 * p.ns := by rw [hrc, if_pos f0]; exact or_zero hn0 hn1
  have e2 : bits BinOp.or IntKind.i64 (wrap64 (p.nr * 2)) (fl p.poll) = 2 * p.nr + fl p.poll := or_two _ hr0 hr1
  have e3 : bits BinOp.or IntKind.i64 (wrap64 (2 * p.ns * 256)) (2 * p.nr + fl p.poll) = 2 * p.ns * 256 + (2 * p.nr + fl p.poll) := or_pair (by omega) (by omega) ⟨by omega, by omega⟩
  have HV : Hid ((0 ≤ 2 * p.ns ∧ 2 * p.ns ≤ 255) ∧ (0 ≤ 2 * p.nr + fl p.poll ∧ 2 * p.nr + fl p.poll ≤ 255)) := cover ⟨⟨by omega, by omega⟩, ⟨by omega, by omega⟩⟩
  have HRC := cover hrc
  have HR := cover hr
  clear hr hrc hpoll hf hn0 hn1 hr0 hr1
  rw [f0] at hw1 G1
  have HF := cover f0
  go_enter Try.func27, Try.ntmps27
  go_wp2_with fail
  rw [← hw1.out]
  refine (ruleOf_any 0 p.kind w1).mono ?_
  rw [← f0, HR.out]
  rintro e w2 ⟨rfl, hb2⟩
  rw [f0]
  have hs2 := hb2.size
  have G2 := cover ((hb2.block w.heap.size (by omega)).trans G1.out)
  have H2 := cover (H1.out.trans (hb2.mono (by omega)))
  clear hb2
  obtain ⟨w3, hw3⟩ : ∃ w3, Hid (w3 = (w2.alloc (.cells zr 53)).setRow w2.heap.size #[.int .i64 r.code, .bool r.cmd, .bool r.rsp, .bool r.grp, .int .i64 r.least, .int .i64 r.most]) := ⟨_, cover rfl⟩
  have G3 : Hid (w3.heap[w2.heap.size]? = some (.cells #[.int .i64 r.code, .bool r.cmd, .bool r.rsp, .bool r.grp, .int .i64 r.least, .int .i64 r.most] 53 (0, 0))) := cover (by rw [hw3.out]; exact setRow_heap _ _ _ _ _ _ (heap_alloc_new _ _))
  have hb3 : Below w2.heap.size w2 w3 := by rw [hw3.out]; exact Go.below_setRow ((Below.refl _ _).alloc (Nat.le_refl _) _) (Nat.le_refl _) _
  have hs3 := hb3.size
  have G3p := cover ((hb3.block w.heap.size (by omega)).trans G2.out)
  have H3 := cover (H2.out.trans (hb3.mono (by omega)))
  clear hb3
  obtain ⟨c0, c1, c2, c3, c4, c5⟩ := rule_cells G3.out
  obtain ⟨p0, p1, p2, p3, p4, p5, p6, p7, p8⟩ := pdu_cells G3p.out
  go_wp2_with (refine wpList_store_row rfl _ _ _ rfl w2.heap.size #[.int .i64 r.code, .bool r.cmd, .bool r.rsp, .bool r.grp, .int .i64 r.least, .int .i64 r.most] rfl rfl 53 zr (heap_alloc_new _ _) rule_size rfl (rule_one _ _ _ _ _ _) ?_; rw [← hw3.out])
  go_quiet ((go_at_call 25; exact Calls.quiet_of_same (bit_one _ _)))
  go_wp2_with fail
  refine (put_yes (2 * p.ns * 256 + (2 * p.nr + fl p.poll)) 2 _ (by decide) (by decide) (by have := HV.out; omega) (by have := HV.out; simp; omega)).mono ?_
  rintro e w4 ⟨A4, c4, rfl, ho4, hb4⟩
  have HL : Hid (low (2 * p.ns * 256 + (2 * p.nr + fl p.poll)) 2 = ctl p) := cover (by
    rw [low_two HV.out.1 HV.out.2]; unfold ctl; rw [if_pos HF.out])
  rw [HL.out] at ho4 ⊢
  have HO := cover (ho4.mono (show w.heap.size ≤ _ by simp only [World.drewN, World.drew]; omega))
  have H4 := cover ((below_drewN H3.out _).trans (hb4.mono (by simp only [World.drewN, World.drew]; omega)))
  clear ho4 hb4
  go_wp2
  go_ret
  exact ⟨A4, c4, rfl, HO.out, H4.out⟩

set_option maxHeartbeats 800000 in
theorem control_s (p : PV) (A : Option Addr) (c : Nat) (w : World) (hm : Hid (MayP p)) (f0 : p.form = 1) :
    Calls Try.prog 27 #[.agg #[.int .i64 p.to, .int .i64 p.frm, .bool p.resp, .int .i64 p.form, .int .i64 p.kind, .int .i64 p.ns, .int .i64 p.nr, .bool p.poll, .slice A p.info.length c]] w (GivesB w (ctl p)) := by
  obtain ⟨w1, hw1⟩ : ∃ w1, Hid (w1 = w.alloc (.cells #[.int .i64 p.to, .int .i64 p.frm, .bool p.resp, .int .i64 p.form, .int .i64 p.kind, .int .i64 p.ns, .int .i64 p.nr, .bool p.poll, .slice A p.info.length c] 25)) := ⟨_, cover rfl⟩
  have H1 : Hid (Below w.heap.size w w1) := cover (by rw [hw1.out]; exact (Below.refl _ _).alloc (Nat.le_refl _) _)
  have hs1 : w.heap.size < w1.heap.size := by rw [hw1.out]; simp
  have G1 : Hid (w1.heap[w.heap.size]? = some (.cells #[.int .i64 p.to, .int .i64 p.frm, .bool p.resp, .int .i64 p.form, .int .i64 p.kind, .int .i64 p.ns, .int .i64 p.nr, .bool p.poll, .slice A p.info.length c] 25 (0, 0))) := cover (by rw [hw1.out]; exact heap_alloc_new _ _)
  obtain ⟨r, hr, hrc⟩ := row_yes hm.out.fits
  have hpoll := fl_le p.poll
  obtain ⟨⟨_, _, ⟨hn0, hn1⟩, ⟨hr0, hr1⟩, _⟩, hf⟩ := hm.out
  have hk : 0 ≤ p.kind ∧ p.kind ≤ 2 := by rcases hf with h | h | h <;> omega
  rw [if_neg (by omega), if_pos f0] at hrc
  have e2 : bits BinOp.or IntKind.i64 (wrap64 (p.nr * 2)) (fl p.poll) = 2 * p.nr + fl p.poll := or_two _ hr0 hr1
  have e3 : bits BinOp.or IntKind.i64 (wrap64 (r.code * 256)) (2 * p.nr + fl p.poll) = r.code * 256 + (2 * p.nr + fl p.poll) := or_pair (by omega) (by omega) ⟨by omega, by omega⟩
  have HV : Hid ((0 ≤ r.code ∧ r.code ≤ 255) ∧ (0 ≤ 2 * p.nr + fl p.poll ∧ 2 * p.nr + fl p.poll ≤ 255)) := cover ⟨⟨by omega, by omega⟩, ⟨by omega, by omega⟩⟩
  have HRC := cover hrc
  have HR := cover hr
  clear hr hrc hpoll hf hn0 hn1 hr0 hr1
  rw [f0] at hw1 G1
  have HF := cover f0
  go_enter Try.func27, Try.ntmps27
  go_wp2_with fail
  rw [← hw1.out]
  refine (ruleOf_any 1 p.kind w1).mono ?_
  rw [← f0, HR.out]
  rintro e w2 ⟨rfl, hb2⟩
  rw [f0]
  have hs2 := hb2.size
  have G2 := cover ((hb2.block w.heap.size (by omega)).trans G1.out)
  have H2 := cover (H1.out.trans (hb2.mono (by omega)))
  clear hb2
  obtain ⟨w3, hw3⟩ : ∃ w3, Hid (w3 = (w2.alloc (.cells zr 53)).setRow w2.heap.size #[.int .i64 r.code, .bool r.cmd, .bool r.rsp, .bool r.grp, .int .i64 r.least, .int .i64 r.most]) := ⟨_, cover rfl⟩
  have G3 : Hid (w3.heap[w2.heap.size]? = some (.cells #[.int .i64 r.code, .bool r.cmd, .bool r.rsp, .bool r.grp, .int .i64 r.least, .int .i64 r.most] 53 (0, 0))) := cover (by rw [hw3.out]; exact setRow_heap _ _ _ _ _ _ (heap_alloc_new _ _))
  have hb3 : Below w2.heap.size w2 w3 := by rw [hw3.out]; exact Go.below_setRow ((Below.refl _ _).alloc (Nat.le_refl _) _) (Nat.le_refl _) _
  have hs3 := hb3.size
  have G3p := cover ((hb3.block w.heap.size (by omega)).trans G2.out)
  have H3 := cover (H2.out.trans (hb3.mono (by omega)))
  clear hb3
  obtain ⟨c0, c1, c2, c3, c4, c5⟩ := rule_cells G3.out
  obtain ⟨p0, p1, p2, p3, p4, p5, p6, p7, p8⟩ := pdu_cells G3p.out
  go_wp2_with (refine wpList_store_row rfl _ _ _ rfl w2.heap.size #[.int .i64 r.code, .bool r.cmd, .bool r.rsp, .bool r.grp, .int .i64 r.least, .int .i64 r.most] rfl rfl 53 zr (heap_alloc_new _ _) rule_size rfl (rule_one _ _ _ _ _ _) ?_; rw [← hw3.out])
  go_quiet ((go_at_call 25; exact Calls.quiet_of_same (bit_one _ _)))
  go_wp2_with fail
  refine (put_yes (r.code * 256 + (2 * p.nr + fl p.poll)) 2 _ (by decide) (by decide) (by have := HV.out; omega) (by have := HV.out; simp; omega)).mono ?_
  rintro e w4 ⟨A4, c4, rfl, ho4, hb4⟩
  have HL : Hid (low (r.code * 256 + (2 * p.nr + fl p.poll)) 2 = ctl p) := cover (by
    rw [low_two HV.out.1 HV.out.2]; unfold ctl; rw [if_neg (by rw [HF.out]; decide), if_pos HF.out, HRC.out])
  rw [HL.out] at ho4 ⊢
  have HO := cover (ho4.mono (show w.heap.size ≤ _ by simp only [World.drewN, World.drew]; omega))
  have H4 := cover ((below_drewN H3.out _).trans (hb4.mono (by simp only [World.drewN, World.drew]; omega)))
  clear ho4 hb4
  go_wp2
  go_ret
  exact ⟨A4, c4, rfl, HO.out, H4.out⟩

set_option maxHeartbeats 800000 in
theorem control_u (p : PV) (A : Option Addr) (c : Nat) (w : World) (hm : Hid (MayP p)) (f0 : p.form = 2) :
    Calls Try.prog 27 #[.agg #[.int .i64 p.to, .int .i64 p.frm, .bool p.resp, .int .i64 p.form, .int .i64 p.kind, .int .i64 p.ns, .int .i64 p.nr, .bool p.poll, .slice A p.info.length c]] w (GivesB w (ctl p)) := by
  obtain ⟨w1, hw1⟩ : ∃ w1, Hid (w1 = w.alloc (.cells #[.int .i64 p.to, .int .i64 p.frm, .bool p.resp, .int .i64 p.form, .int .i64 p.kind, .int .i64 p.ns, .int .i64 p.nr, .bool p.poll, .slice A p.info.length c] 25)) := ⟨_, cover rfl⟩
  have H1 : Hid (Below w.heap.size w w1) := cover (by rw [hw1.out]; exact (Below.refl _ _).alloc (Nat.le_refl _) _)
  have hs1 : w.heap.size < w1.heap.size := by rw [hw1.out]; simp
  have G1 : Hid (w1.heap[w.heap.size]? = some (.cells #[.int .i64 p.to, .int .i64 p.frm, .bool p.resp, .int .i64 p.form, .int .i64 p.kind, .int .i64 p.ns, .int .i64 p.nr, .bool p.poll, .slice A p.info.length c] 25 (0, 0))) := cover (by rw [hw1.out]; exact heap_alloc_new _ _)
  obtain ⟨r, hr, hrc⟩ := row_yes hm.out.fits
  have hpoll := fl_le p.poll
  obtain ⟨⟨_, _, ⟨hn0, hn1⟩, ⟨hr0, hr1⟩, _⟩, hf⟩ := hm.out
  have hk : 0 ≤ p.kind ∧ p.kind ≤ 9 := by
    rcases hf with h | h | h
    · omega
    · omega
    · exact h.2.2.2.range
  rw [if_neg (by omega), if_neg (by omega)] at hrc
  have hc4 := codeI_U hk.1 hk.2
  have e3 : bits BinOp.or IntKind.i64 r.code (16 * fl p.poll) = r.code + 16 * fl p.poll := by rw [hrc]; exact or_code _ hk.1 hk.2
  have HV : Hid (0 ≤ r.code + 16 * fl p.poll ∧ r.code + 16 * fl p.poll ≤ 255) := cover ⟨by omega, by omega⟩
  clear hc4
  have HRC := cover hrc
  have HR := cover hr
  clear hr hrc hpoll hf hn0 hn1 hr0 hr1
  rw [f0] at hw1 G1
  have HF := cover f0
  go_enter Try.func27, Try.ntmps27
  go_wp2_with fail
  rw [← hw1.out]
  refine (ruleOf_any 2 p.kind w1).mono ?_
  rw [← f0, HR.out]
  rintro e w2 ⟨rfl, hb2⟩
  rw [f0]
  have hs2 := hb2.size
  have G2 := cover ((hb2.block w.heap.size (by omega)).trans G1.out)
  have H2 := cover (H1.out.trans (hb2.mono (by omega)))
  clear hb2
  obtain ⟨w3, hw3⟩ : ∃ w3, Hid (w3 = (w2.alloc (.cells zr 53)).setRow w2.heap.size #[.int .i64 r.code, .bool r.cmd, .bool r.rsp, .bool r.grp, .int .i64 r.least, .int .i64 r.most]) := ⟨_, cover rfl⟩
  have G3 : Hid (w3.heap[w2.heap.size]? = some (.cells #[.int .i64 r.code, .bool r.cmd, .bool r.rsp, .bool r.grp, .int .i64 r.least, .int .i64 r.most] 53 (0, 0))) := cover (by rw [hw3.out]; exact setRow_heap _ _ _ _ _ _ (heap_alloc_new _ _))
  have hb3 : Below w2.heap.size w2 w3 := by rw [hw3.out]; exact Go.below_setRow ((Below.refl _ _).alloc (Nat.le_refl _) _) (Nat.le_refl _) _
  have hs3 := hb3.size
  have G3p := cover ((hb3.block w.heap.size (by omega)).trans G2.out)
  have H3 := cover (H2.out.trans (hb3.mono (by omega)))
  clear hb3
  obtain ⟨c0, c1, c2, c3, c4, c5⟩ := rule_cells G3.out
  obtain ⟨p0, p1, p2, p3, p4, p5, p6, p7, p8⟩ := pdu_cells G3p.out
  go_wp2_with (refine wpList_store_row rfl _ _ _ rfl w2.heap.size #[.int .i64 r.code, .bool r.cmd, .bool r.rsp, .bool r.grp, .int .i64 r.least, .int .i64 r.most] rfl rfl 53 zr (heap_alloc_new _ _) rule_size rfl (rule_one _ _ _ _ _ _) ?_; rw [← hw3.out])
  refine (bit_16 _ _).mono ?_
  rintro e w' ⟨rfl, rfl⟩
  go_wp2_with fail
  refine (put_yes (r.code + 16 * fl p.poll) 1 _ (by decide) (by decide) HV.out.1 (by have := HV.out; simp; omega)).mono ?_
  rintro e w4 ⟨A4, c4, rfl, ho4, hb4⟩
  have HL : Hid (low (r.code + 16 * fl p.poll) 1 = ctl p) := cover (by
    rw [low_one HV.out, HRC.out]; unfold ctl; rw [if_neg (by rw [HF.out]; decide), if_neg (by rw [HF.out]; decide)])
  rw [HL.out] at ho4 ⊢
  have HO := cover (ho4.mono (show w.heap.size ≤ _ by omega))
  have H4 := cover (H3.out.trans (hb4.mono (by omega)))
  clear ho4 hb4
  go_wp2
  go_ret
  exact ⟨A4, c4, rfl, HO.out, H4.out⟩
theorem control_any (p : PV) (A : Option Addr) (c : Nat) (w : World) (hm : MayP p) :
    Calls Try.prog 27 #[.agg #[.int .i64 p.to, .int .i64 p.frm, .bool p.resp, .int .i64 p.form, .int .i64 p.kind, .int .i64 p.ns, .int .i64 p.nr, .bool p.poll, .slice A p.info.length c]] w (GivesB w (ctl p)) := by
  rcases hm.2 with h | h | h
  · exact control_i p A c w (cover hm) h.1
  · exact control_s p A c w (cover hm) h.1
  · exact control_u p A c w (cover hm) h.1
end Go.Proofs.Ytohegiphdgihpaa
