/- What the document's own Code and Control hand back. -/
import Derived.Deep.RegionHeld3
import Derived.Test.YtohegiphdgihpaaUEnc
namespace Go.Proofs.Ytohegiphdgihpaa
open Go.RowKit
set_option linter.unusedVariables false
set_option linter.unusedSimpArgs false

theorem codeI_far {k : Int} (h : k < 0 ∨ 10 ≤ k) : codeI k = 0 := by
  unfold codeI
  rw [if_neg (by omega), if_neg (by omega), if_neg (by omega), if_neg (by omega), if_neg (by omega), if_neg (by omega), if_neg (by omega), if_neg (by omega), if_neg (by omega), if_neg (by omega)]
set_option maxHeartbeats 1600000 in
theorem ref_code_any (k : Int) (w : World) : Calls Try.prog 20 #[.int .i64 k] w fun e w' => e = .returned (.int .i64 (codeI k)) ∧ Below w.heap.size w w' := by
  by_cases h0 : k < 0
  · have HC := cover (codeI_far (.inl h0))
    go_enter Try.func20, Try.ntmps20
    go_wp2
    go_ret
    exact ⟨ret_int HC.out.symm, (Below.refl _ _).alloc (Nat.le_refl _) _⟩
  · by_cases h9 : 10 ≤ k
    · have HC := cover (codeI_far (.inr h9))
      go_enter Try.func20, Try.ntmps20
      go_wp2
      go_ret
      exact ⟨ret_int HC.out.symm, (Below.refl _ _).alloc (Nat.le_refl _) _⟩
    · obtain ⟨n, rfl⟩ : ∃ n : Nat, k = (n : Int) := ⟨k.toNat, by omega⟩
      have hn : n < 10 := by omega
      clear h0 h9
      match n, hn with
      | 0, _ | 1, _ | 2, _ | 3, _ | 4, _ | 5, _ | 6, _ | 7, _ | 8, _ | 9, _ =>
        go_enter Try.func20, Try.ntmps20
        go_wp2
        go_ret
        exact ⟨rfl, (Below.refl _ _).alloc (Nat.le_refl _) _⟩

theorem ownB_made (w : World) (l : List Int) (a : Array Value) (h : a.toList = l.map (Value.int .u8)) (hl : l.length ≤ 100) : OwnB (w.alloc (.cells a 5)) w.heap.size (.slice (some ⟨w.heap.size, 0, none⟩) l.length l.length) l := by
  have hs : a.size = l.length := by rw [← Array.length_toList, h, List.length_map]
  exact ⟨by simp, .inr ⟨w.heap.size, l.length, a, rfl, Nat.le_refl _, heap_alloc_new w _, Nat.le_refl _, by unfold maxLen; omega, by omega, by rw [h, Nat.mul_one, List.take_of_length_le (by simp)]⟩⟩
theorem w64 {x : Int} (h : 0 ≤ x ∧ x ≤ 255) : IntKind.i64.wrap x = x := by rw [IntKind.wrap_i64]; omega
theorem w8 {x : Int} (h : 0 ≤ x ∧ x ≤ 255) : IntKind.u8.wrap x = x := by rw [IntKind.wrap_u8]; omega

set_option maxHeartbeats 800000 in
theorem ref_control_i (p : PV) (A : Option Addr) (c : Nat) (w : World) (hm : Hid (MayP p)) (f0 : p.form = 0) :
    Calls Try.prog 30 #[.agg #[.int .i64 p.to, .int .i64 p.frm, .bool p.resp, .int .i64 p.form, .int .i64 p.kind, .int .i64 p.ns, .int .i64 p.nr, .bool p.poll, .slice A p.info.length c]] w (GivesB w (ctl p)) := by
  obtain ⟨w1, hw1⟩ : ∃ w1, Hid (w1 = w.alloc (.cells #[.int .i64 p.to, .int .i64 p.frm, .bool p.resp, .int .i64 p.form, .int .i64 p.kind, .int .i64 p.ns, .int .i64 p.nr, .bool p.poll, .slice A p.info.length c] 25)) := ⟨_, cover rfl⟩
  have H1 : Hid (Below w.heap.size w w1) := cover (by rw [hw1.out]; exact (Below.refl _ _).alloc (Nat.le_refl _) _)
  have hs1 : w.heap.size < w1.heap.size := by rw [hw1.out]; simp
  have hgp : w1.heap[w.heap.size]? = some (.cells #[.int .i64 p.to, .int .i64 p.frm, .bool p.resp, .int .i64 p.form, .int .i64 p.kind, .int .i64 p.ns, .int .i64 p.nr, .bool p.poll, .slice A p.info.length c] 25 (0, 0)) := by rw [hw1.out]; exact heap_alloc_new _ _
  have N1 := cover (pdu_cells hgp)
  clear hgp
  have hpoll := fl_le p.poll
  obtain ⟨⟨_, _, ⟨hn0, hn1⟩, ⟨hr0, hr1⟩, _⟩, hf⟩ := hm.out
  have HL : Hid (ctl p = [2 * p.ns, 2 * p.nr + fl p.poll]) := cover (by unfold ctl; rw [if_pos f0])
  have E : Hid (IntKind.u8.wrap (IntKind.i64.wrap (2 * p.ns)) = 2 * p.ns ∧ IntKind.u8.wrap (IntKind.i64.wrap (IntKind.i64.wrap (2 * p.nr) + fl p.poll)) = 2 * p.nr + fl p.poll) := cover ⟨by rw [w64 ⟨by omega, by omega⟩, w8 ⟨by omega, by omega⟩], by rw [w64 (x := 2 * p.nr) ⟨by omega, by omega⟩, w64 ⟨by omega, by omega⟩, w8 ⟨by omega, by omega⟩]⟩
  clear hf
  have HF : Hid (∀ W, Below w1.heap.size w1 W → Calls Try.prog 29 #[.bool p.poll] W fun e w' => e = .returned (.int .i64 (fl p.poll)) ∧ Below w1.heap.size w1 w') :=
    cover (fun W hb => (flag_any p.poll W).mono fun e w' h => ⟨h.1, by rw [h.2]; exact hb⟩)
  rw [f0] at hw1 N1
  obtain ⟨p0, p1, p2, p3, p4, p5, p6, p7, p8⟩ := N1.out
  clear hn0 hn1 hr0 hr1 hpoll
  go_enter Try.func30, Try.ntmps30
  go_upto_region 3 with fail
  rw [← hw1.out]
  go_region_held3 (fun w' => w'.cell? ⟨w.heap.size, 5, none⟩ = some (.int .i64 p.ns) ∧ w'.cell? ⟨w.heap.size, 6, none⟩ = some (.int .i64 p.nr) ∧ w'.cell? ⟨w.heap.size, 7, none⟩ = some (.bool p.poll) ∧ Below w1.heap.size w1 w')
    (first | exact ⟨p5, p6, p7, (Below.refl _ _).drew⟩ | exact ⟨(hbX.cell (p := ⟨w.heap.size, 5, none⟩) hs1).trans p5, (hbX.cell (p := ⟨w.heap.size, 6, none⟩) hs1).trans p6, (hbX.cell (p := ⟨w.heap.size, 7, none⟩) hs1).trans p7, hbX⟩ | exact ⟨((hbX.alloc hbX.size _).cell (p := ⟨w.heap.size, 5, none⟩) hs1).trans p5, ((hbX.alloc hbX.size _).cell (p := ⟨w.heap.size, 6, none⟩) hs1).trans p6, ((hbX.alloc hbX.size _).cell (p := ⟨w.heap.size, 7, none⟩) hs1).trans p7, hbX.alloc hbX.size _⟩)
    ((go_at_call 29; refine (HF.out _ ?_).mono ?_; (go_split_ands; assumption); rintro e w2 ⟨rfl, hbX⟩))
  rw [E.out.1, E.out.2]
  have HO := cover (ownB_made w2 [2 * p.ns, 2 * p.nr + fl p.poll] #[.int .u8 (2 * p.ns), .int .u8 (2 * p.nr + fl p.poll)] rfl (by simp))
  have H2 := cover ((H1.out.trans (hbX.mono H1.out.size)).alloc (Nat.le_trans H1.out.size hbX.size) (.cells #[.int .u8 (2 * p.ns), .int .u8 (2 * p.nr + fl p.poll)] 5))
  have hs2 := Nat.le_trans H1.out.size hbX.size
  clear hbX
  go_wp2
  go_ret
  exact ⟨_, _, by rw [HL.out]; rfl, by rw [HL.out]; exact HO.out.mono hs2, H2.out⟩

set_option maxHeartbeats 800000 in
theorem ref_control_s (p : PV) (A : Option Addr) (c : Nat) (w : World) (hm : Hid (MayP p)) (f0 : p.form = 1) :
    Calls Try.prog 30 #[.agg #[.int .i64 p.to, .int .i64 p.frm, .bool p.resp, .int .i64 p.form, .int .i64 p.kind, .int .i64 p.ns, .int .i64 p.nr, .bool p.poll, .slice A p.info.length c]] w (GivesB w (ctl p)) := by
  obtain ⟨w1, hw1⟩ : ∃ w1, Hid (w1 = w.alloc (.cells #[.int .i64 p.to, .int .i64 p.frm, .bool p.resp, .int .i64 p.form, .int .i64 p.kind, .int .i64 p.ns, .int .i64 p.nr, .bool p.poll, .slice A p.info.length c] 25)) := ⟨_, cover rfl⟩
  have H1 : Hid (Below w.heap.size w w1) := cover (by rw [hw1.out]; exact (Below.refl _ _).alloc (Nat.le_refl _) _)
  have hs1 : w.heap.size < w1.heap.size := by rw [hw1.out]; simp
  have hgp : w1.heap[w.heap.size]? = some (.cells #[.int .i64 p.to, .int .i64 p.frm, .bool p.resp, .int .i64 p.form, .int .i64 p.kind, .int .i64 p.ns, .int .i64 p.nr, .bool p.poll, .slice A p.info.length c] 25 (0, 0)) := by rw [hw1.out]; exact heap_alloc_new _ _
  have N1 := cover (pdu_cells hgp)
  clear hgp
  have hpoll := fl_le p.poll
  obtain ⟨⟨_, _, ⟨hn0, hn1⟩, ⟨hr0, hr1⟩, _⟩, hf⟩ := hm.out
  have hk : 0 ≤ p.kind ∧ p.kind ≤ 2 := by rcases hf with h | h | h <;> omega
  have HL : Hid (ctl p = [1 + 4 * p.kind, 2 * p.nr + fl p.poll]) := cover (by unfold ctl; rw [if_neg (by omega), if_pos f0])
  have E : Hid (IntKind.u8.wrap (IntKind.i64.wrap (1 + IntKind.i64.wrap (4 * p.kind))) = 1 + 4 * p.kind ∧ IntKind.u8.wrap (IntKind.i64.wrap (IntKind.i64.wrap (2 * p.nr) + fl p.poll)) = 2 * p.nr + fl p.poll) := cover ⟨by rw [w64 (x := 4 * p.kind) ⟨by omega, by omega⟩, w64 ⟨by omega, by omega⟩, w8 ⟨by omega, by omega⟩], by rw [w64 (x := 2 * p.nr) ⟨by omega, by omega⟩, w64 ⟨by omega, by omega⟩, w8 ⟨by omega, by omega⟩]⟩
  clear hk
  clear hf
  have HF : Hid (∀ W, Below w1.heap.size w1 W → Calls Try.prog 29 #[.bool p.poll] W fun e w' => e = .returned (.int .i64 (fl p.poll)) ∧ Below w1.heap.size w1 w') :=
    cover (fun W hb => (flag_any p.poll W).mono fun e w' h => ⟨h.1, by rw [h.2]; exact hb⟩)
  rw [f0] at hw1 N1
  obtain ⟨p0, p1, p2, p3, p4, p5, p6, p7, p8⟩ := N1.out
  clear hn0 hn1 hr0 hr1 hpoll
  go_enter Try.func30, Try.ntmps30
  go_upto_region 5 with fail
  rw [← hw1.out]
  go_region_held3 (fun w' => w'.cell? ⟨w.heap.size, 4, none⟩ = some (.int .i64 p.kind) ∧ w'.cell? ⟨w.heap.size, 6, none⟩ = some (.int .i64 p.nr) ∧ w'.cell? ⟨w.heap.size, 7, none⟩ = some (.bool p.poll) ∧ Below w1.heap.size w1 w')
    (first | exact ⟨p4, p6, p7, (Below.refl _ _).drew⟩ | exact ⟨(hbX.cell (p := ⟨w.heap.size, 4, none⟩) hs1).trans p4, (hbX.cell (p := ⟨w.heap.size, 6, none⟩) hs1).trans p6, (hbX.cell (p := ⟨w.heap.size, 7, none⟩) hs1).trans p7, hbX⟩ | exact ⟨((hbX.alloc hbX.size _).cell (p := ⟨w.heap.size, 4, none⟩) hs1).trans p4, ((hbX.alloc hbX.size _).cell (p := ⟨w.heap.size, 6, none⟩) hs1).trans p6, ((hbX.alloc hbX.size _).cell (p := ⟨w.heap.size, 7, none⟩) hs1).trans p7, hbX.alloc hbX.size _⟩)
    ((go_at_call 29; refine (HF.out _ ?_).mono ?_; (go_split_ands; assumption); rintro e w2 ⟨rfl, hbX⟩))
  rw [E.out.1, E.out.2]
  have HO := cover (ownB_made w2 [1 + 4 * p.kind, 2 * p.nr + fl p.poll] #[.int .u8 (1 + 4 * p.kind), .int .u8 (2 * p.nr + fl p.poll)] rfl (by simp))
  have H2 := cover ((H1.out.trans (hbX.mono H1.out.size)).alloc (Nat.le_trans H1.out.size hbX.size) (.cells #[.int .u8 (1 + 4 * p.kind), .int .u8 (2 * p.nr + fl p.poll)] 5))
  have hs2 := Nat.le_trans H1.out.size hbX.size
  clear hbX
  go_wp2
  go_ret
  exact ⟨_, _, by rw [HL.out]; rfl, by rw [HL.out]; exact HO.out.mono hs2, H2.out⟩

set_option maxHeartbeats 800000 in
theorem ref_control_u (p : PV) (A : Option Addr) (c : Nat) (w : World) (hm : Hid (MayP p)) (f0 : p.form = 2) :
    Calls Try.prog 30 #[.agg #[.int .i64 p.to, .int .i64 p.frm, .bool p.resp, .int .i64 p.form, .int .i64 p.kind, .int .i64 p.ns, .int .i64 p.nr, .bool p.poll, .slice A p.info.length c]] w (GivesB w (ctl p)) := by
  obtain ⟨w1, hw1⟩ : ∃ w1, Hid (w1 = w.alloc (.cells #[.int .i64 p.to, .int .i64 p.frm, .bool p.resp, .int .i64 p.form, .int .i64 p.kind, .int .i64 p.ns, .int .i64 p.nr, .bool p.poll, .slice A p.info.length c] 25)) := ⟨_, cover rfl⟩
  have H1 : Hid (Below w.heap.size w w1) := cover (by rw [hw1.out]; exact (Below.refl _ _).alloc (Nat.le_refl _) _)
  have hs1 : w.heap.size < w1.heap.size := by rw [hw1.out]; simp
  have hgp : w1.heap[w.heap.size]? = some (.cells #[.int .i64 p.to, .int .i64 p.frm, .bool p.resp, .int .i64 p.form, .int .i64 p.kind, .int .i64 p.ns, .int .i64 p.nr, .bool p.poll, .slice A p.info.length c] 25 (0, 0)) := by rw [hw1.out]; exact heap_alloc_new _ _
  have N1 := cover (pdu_cells hgp)
  clear hgp
  have hpoll := fl_le p.poll
  obtain ⟨⟨_, _, ⟨hn0, hn1⟩, ⟨hr0, hr1⟩, _⟩, hf⟩ := hm.out
  have hk : 0 ≤ p.kind ∧ p.kind ≤ 9 := by
    rcases hf with h | h | h
    · omega
    · omega
    · exact h.2.2.2.range
  have hc4 := codeI_U hk.1 hk.2
  have HL : Hid (ctl p = [codeI p.kind + 16 * fl p.poll]) := cover (by unfold ctl; rw [if_neg (by omega), if_neg (by omega)])
  have hv : 0 ≤ codeI p.kind + 16 * fl p.poll ∧ codeI p.kind + 16 * fl p.poll ≤ 255 := ⟨by omega, by omega⟩
  have E : Hid (IntKind.u8.wrap (IntKind.i64.wrap (codeI p.kind + IntKind.i64.wrap (16 * fl p.poll))) = codeI p.kind + 16 * fl p.poll) := cover (by rw [w64 (x := 16 * fl p.poll) ⟨by omega, by omega⟩, w64 hv, w8 hv])
  have HC : Hid (∀ W, Below w1.heap.size w1 W → Calls Try.prog 20 #[.int .i64 p.kind] W fun e w' => e = .returned (.int .i64 (codeI p.kind)) ∧ Below w1.heap.size w1 w') :=
    cover (fun W hb => (ref_code_any p.kind W).mono fun e w' h => ⟨h.1, hb.trans (h.2.mono hb.size)⟩)
  clear hk hc4 hv
  clear hf
  have HF : Hid (∀ W, Below w1.heap.size w1 W → Calls Try.prog 29 #[.bool p.poll] W fun e w' => e = .returned (.int .i64 (fl p.poll)) ∧ Below w1.heap.size w1 w') :=
    cover (fun W hb => (flag_any p.poll W).mono fun e w' h => ⟨h.1, by rw [h.2]; exact hb⟩)
  rw [f0] at hw1 N1
  obtain ⟨p0, p1, p2, p3, p4, p5, p6, p7, p8⟩ := N1.out
  clear hn0 hn1 hr0 hr1 hpoll
  go_enter Try.func30, Try.ntmps30
  go_upto_region 6 with fail
  rw [← hw1.out]
  go_region_held3 (fun w' => w'.cell? ⟨w.heap.size, 4, none⟩ = some (.int .i64 p.kind) ∧ w'.cell? ⟨w.heap.size, 7, none⟩ = some (.bool p.poll) ∧ Below w1.heap.size w1 w')
    (first | exact ⟨p4, p7, (Below.refl _ _).drew⟩ | exact ⟨(hbX.cell (p := ⟨w.heap.size, 4, none⟩) hs1).trans p4, (hbX.cell (p := ⟨w.heap.size, 7, none⟩) hs1).trans p7, hbX⟩ | exact ⟨((hbX.alloc hbX.size _).cell (p := ⟨w.heap.size, 4, none⟩) hs1).trans p4, ((hbX.alloc hbX.size _).cell (p := ⟨w.heap.size, 7, none⟩) hs1).trans p7, hbX.alloc hbX.size _⟩)
    (first | (go_at_call 29; refine (HF.out _ ?_).mono ?_; (go_split_ands; assumption); rintro e w3 ⟨rfl, hbX⟩) | (go_at_call 20; refine (HC.out _ ?_).mono ?_; (go_split_ands; assumption); rintro e w3 ⟨rfl, hbX⟩))
  rw [E.out]
  have HO := cover (ownB_made w3 [codeI p.kind + 16 * fl p.poll] #[.int .u8 (codeI p.kind + 16 * fl p.poll)] rfl (by simp))
  have H2 := cover ((H1.out.trans (hbX.mono H1.out.size)).alloc (Nat.le_trans H1.out.size hbX.size) (.cells #[.int .u8 (codeI p.kind + 16 * fl p.poll)] 5))
  have hs2 := Nat.le_trans H1.out.size hbX.size
  clear hbX
  go_wp2
  go_ret
  exact ⟨_, _, by rw [HL.out]; rfl, by rw [HL.out]; exact HO.out.mono hs2, H2.out⟩
theorem ref_control_any (p : PV) (A : Option Addr) (c : Nat) (w : World) (hm : MayP p) :
    Calls Try.prog 30 #[.agg #[.int .i64 p.to, .int .i64 p.frm, .bool p.resp, .int .i64 p.form, .int .i64 p.kind, .int .i64 p.ns, .int .i64 p.nr, .bool p.poll, .slice A p.info.length c]] w (GivesB w (ctl p)) := by
  rcases hm.2 with h | h | h
  · exact ref_control_i p A c w (cover hm) h.1
  · exact ref_control_s p A c w (cover hm) h.1
  · exact ref_control_u p A c w (cover hm) h.1
end Go.Proofs.Ytohegiphdgihpaa
