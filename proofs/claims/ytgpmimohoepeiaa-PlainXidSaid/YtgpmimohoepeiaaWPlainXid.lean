/- The walk of PlainXid. -/
import Derived.Deep.CutBlock
import Derived.Deep.DeepCutAuto
import Derived.Test.YtgpmimohoepeiaaFHeld
import Derived.Test.YtgpmimohoepeiaaMAdr
import Derived.Test.YtgpmimohoepeiaaHUse
import Derived.Test.YtgpmimohoepeiaaHRHear
import Derived.Test.YtgpmimohoepeiaaHAwake
namespace Go.Proofs.Ytgpmimohoepeiaa
open Go.RowKit
set_option linter.unusedVariables false
set_option linter.unusedSimpArgs false

/-- what a station's SAPs answer to who asks what they can -/
theorem xid_sent {l : List SV} {p : PV} (h : IsOne p) (hk : p.kind = 1) (hr : p.resp = false) (hf : p.frm = 2) (hp : p.poll = true) : sentP l p = (askedS l p).map (fun x => (⟨2, x, true, 2, 1, 0, 0, true, [129, typS (clsS l x), 128]⟩ : PV)) ∧ askedS l p = (if p.to = 0 ∨ p.to = 255 then [0] else []) ++ hearS l p.to := by
  refine ⟨?_, by unfold askedS; rw [if_neg (by omega)]⟩
  rw [sentP_cmd h (by omega) hr]
  refine List.map_congr_left fun x _ => ?_
  unfold ansV
  rw [if_pos hk, hf, hk, hp]
theorem mask_127 {x : Int} (h : 0 ≤ x ∧ x ≤ 255) : bits BinOp.and IntKind.u8 x 127 = x % 128 ∧ bits BinOp.and IntKind.i64 x 127 = x % 128 := by
  have hh : ∀ m : Nat, m < 256 → bits BinOp.and IntKind.u8 (m : Int) 127 = (m : Int) % 128 ∧ bits BinOp.and IntKind.i64 (m : Int) 127 = (m : Int) % 128 := by decide +kernel
  obtain ⟨m, rfl⟩ : ∃ m : Nat, x = (m : Int) := ⟨x.toNat, by omega⟩
  exact hh m (by omega)
/-- those who hear and what has been sent back, as the law goes through them -/
structure XAt (B : Nat) (w1 : World) (A6 : Option Addr) (n c6 : Nat) (A5 : Option Addr) (c5 : Nat) (L : List Int) (l : List SV) (r s : Nat) (wr : World) : Prop where
  row : wr.ownsRow 0 3 1 (.slice A6 n c6) n (L.map (Value.int .i64))
  pdu : PdusIn B wr (.slice A5 n c5) (L.map (fun x => (⟨2, x, true, 2, 1, 0, 0, true, [129, typS (clsS l x), 128]⟩ : PV)))
  has : RHas B wr r l
  bel : Below B w1 wr
theorem XAt.below {B : Nat} {w1 wr w' : World} {A6 A5 : Option Addr} {n c6 c5 r s : Nat} {L : List Int} {l : List SV} (h : XAt B w1 A6 n c6 A5 c5 L l r s wr) (hB : B ≤ wr.heap.size) (hb : Below wr.heap.size wr w') : XAt B w1 A6 n c6 A5 c5 L l r s w' :=
  ⟨own_blocks h.row hb, h.pdu.below hb, h.has.below hb, h.bel.trans (hb.mono hB)⟩
set_option maxRecDepth 100000 in
set_option maxHeartbeats 1600000 in
theorem walk_PlainXid_z (A : Option Addr) (len cap : Nat) (ds : List (Int × Int × Int)) (tt wd : Int) (w : World) (hlc : len ≤ cap) (hd : Deeds w w.heap.size A len ds ∧ ∀ q ∈ ds, (-9223372036854775808 ≤ q.1 ∧ q.1 ≤ 9223372036854775807) ∧ (-9223372036854775808 ≤ q.2.1 ∧ q.2.1 ≤ 9223372036854775807) ∧ (-9223372036854775808 ≤ q.2.2 ∧ q.2.2 ≤ 9223372036854775807))
    (ht : 0 ≤ tt ∧ tt ≤ 255) (hwd : 0 ≤ wd ∧ wd ≤ 255) (htc : tt = 0) :
    Calls Try.prog 8 #[.slice A len cap, .int .u8 tt, .int .u8 wd] w fun e w' => e = .returned (.bool true) ∧ Below w.heap.size w w' := by
  have HTC := cover htc
  clear htc
  obtain ⟨b, hb⟩ : ∃ b, w.heap.size = b := ⟨_, rfl⟩
  rw [hb] at hd ⊢
  have HDD := cover hd
  have HSz : Hid (∀ W, Below b w W → b ≤ W.heap.size) := cover fun W hW => by rw [← hb]; exact hW.size
  have HAW := cover (awake_any w)
  rw [hb] at HAW
  clear hd hb
  go_enter Try.func8, Try.ntmps8
  go_wp2_with fail
  refine HAW.out.mono ?_
  rintro e w2 ⟨rfl, hb2⟩
  clear HAW
  by_cases h100 : 100 < len
  · have hl : (100 : Int) < (len : Int) := by omega
    have HN := cover hb2
    clear HDD HSz hb2
    go_wp2
    go_ret
    exact ⟨rfl, HN.out⟩
  have hl : ¬ (100 : Int) < (len : Int) := by omega
  go_wp2_with fail
  refine (made_any (B := b) hlc (by omega) (HSz.out w2 hb2) (HDD.out.1.below hb2) HDD.out.2).mono ?_
  rintro e w3 ⟨s, r, l, rfl, H3⟩
  have hb3 : Below b w w3 := hb2.trans H3.out.bel
  obtain ⟨wm, hwm⟩ : ∃ wm : Int, wm = wd % 128 := ⟨_, rfl⟩
  have hm0 : IntKind.i64.wrap tt = tt := by rw [IntKind.wrap_i64]; omega
  have hm1 : IntKind.i64.wrap wd = wd := by rw [IntKind.wrap_i64]; omega
  have hm2 : bits BinOp.and IntKind.i64 wd 127 = wm := by rw [hwm]; exact (mask_127 hwd).2
  have HW := cover hwm
  have s4 := askXid_any 2 tt wm w3
  rw [show askX 2 tt wm = ((⟨tt, 2, false, 2, 1, 0, 0, true, [129, 7, 2 * wm]⟩ : PV), 0) from by
    unfold askX
    rw [if_pos (by omega)]
    exact askP_yes ⟨by unfold OkSap xidQ; simp, ht⟩ (by simp)] at s4
  obtain ⟨p, hp⟩ : ∃ p : PV, p = ⟨tt, 2, false, 2, 1, 0, 0, true, [129, 7, 2 * wm]⟩ := ⟨_, rfl⟩
  have HP : Hid (IsOne p ∧ p.kind = 1 ∧ p.to = tt ∧ p.frm = 2 ∧ p.info = [129, 7, 2 * wm] ∧ p.info.length = 3 ∧ p.resp = false ∧ p.poll = true) := cover (by
    rw [hp]
    exact ⟨one_ask (q := xidQ 2 tt) rfl (by unfold xidQ; simp) rfl rfl rfl (by unfold OkSap xidQ; simp) ht (by simp), rfl, rfl, rfl, rfl, rfl, rfl, rfl⟩)
  rw [← hp] at s4
  have HA4 := cover s4
  clear hp s4 hwm
  go_wp2_with fail
  refine HA4.out.mono ?_
  rintro e v4 ⟨A4, c4, rfl, HO⟩
  obtain ⟨w4, hw4, HV4, hbx⟩ := var_new (r := (p, 0)) HO.out.1 HO.out.2
  have hb4 : Below b w w4 := hb3.trans (hbx.out.mono (HSz.out w3 hb3))
  have H4 := cover (H3.out.below hbx.out)
  obtain ⟨g4, hg4⟩ : ∃ g, g = v4.heap.size := ⟨_, rfl⟩
  have HG4 := cover hg4
  rw [← hg4] at HV4
  clear HO hbx H3 hb3 hb2 HA4 hg4 hm1 hm2
  obtain ⟨L, hL⟩ : ∃ L, L = askedS l p := ⟨_, rfl⟩
  have hl17 : L.length ≤ 17 := by rw [hL]; exact asked_len H4.out.has.ok _
  obtain ⟨hsx, hax⟩ := xid_sent (l := l) HP.out.1 HP.out.2.1 HP.out.2.2.2.2.2.2.1 HP.out.2.2.2.1 HP.out.2.2.2.2.2.2.2
  have HLE : Hid (L = (if tt = 0 ∨ tt = 255 then [0] else []) ++ hearS l tt) := cover (by rw [hL, hax, HP.out.2.2.1])
  have HLM : Hid (∀ x ∈ L, x = 0 ∨ (1 ≤ clsS l x ∧ clsS l x ≤ 4)) := cover fun x hx => by
    rw [HLE.out] at hx
    rcases List.mem_append.1 hx with hx | hx
    · split at hx
      · exact .inl (by simpa using hx)
      · cases hx
    · exact .inr (cls_ok H4.out.has.ok (hear_active hx))
  have HC0 : Hid (clsS l 0 = 0) := cover (clsS_no (by
    cases hh : hasS l 0 with
    | false => rfl
    | true => exact absurd (ok_has H4.out.has.ok hh).1 (by omega)))
  rw [← hL] at hsx
  obtain ⟨n, hn⟩ : ∃ n, n = L.length := ⟨_, rfl⟩
  have HNL := cover hn
  rw [← hn] at hl17
  have HHE : Hid (∀ W, Below w4.heap.size w4 W → Calls Try.prog 13 #[ptr s, .agg #[.int .u8 2, .int .u8 0, .int .u8 0, .int .u8 0, .int .u8 0, .int .u8 1], .agg #[.int .i64 p.to, .int .i64 p.frm, .bool p.resp, .int .i64 p.form, .int .i64 p.kind, .int .i64 p.ns, .int .i64 p.nr, .bool p.poll, .slice A4 p.info.length c4]] W (HearOut [] (L.map (fun x => (⟨2, x, true, 2, 1, 0, 0, true, [129, typS (clsS l x), 128]⟩ : PV))) W)) := cover fun W hW => by
    have s5 := hear_go (H4.out.has.below hW) ⟨2, 0, 0, 0, 0, 1⟩ p A4 c4 (HV4.out.below hW).row (by rw [HP.out.2.2.2.2.2.1]; omega)
    rw [toldP_cmd (by rw [HP.out.2.1]; decide) HP.out.2.2.2.2.2.2.1, hsx] at s5
    exact s5
  have HST : Hid (∀ W : World, Calls Try.prog 26 #[.int .i64 1] W fun e w' => e = .returned (.agg #[.int .u8 2, .int .u8 0, .int .u8 0, .int .u8 0, .int .u8 0, .int .u8 1]) ∧ Below W.heap.size W w') := cover fun W => ref_station_in 1 (by omega) (by omega) W
  clear hL hn hax hsx
  have HS : Hid (∀ W', Below w4.heap.size w4 W' → (fun W' : World => (W'.cell? ⟨g4, 0, none⟩ = some (.int .i64 p.to) ∧ W'.cell? ⟨g4, 1, none⟩ = some (.int .i64 p.frm) ∧ W'.cell? ⟨g4, 2, none⟩ = some (.bool p.resp) ∧ W'.cell? ⟨g4, 3, none⟩ = some (.int .i64 p.form) ∧ W'.cell? ⟨g4, 4, none⟩ = some (.int .i64 p.kind) ∧ W'.cell? ⟨g4, 5, none⟩ = some (.int .i64 p.ns) ∧ W'.cell? ⟨g4, 6, none⟩ = some (.int .i64 p.nr) ∧ W'.cell? ⟨g4, 7, none⟩ = some (.bool p.poll) ∧ W'.cell? ⟨g4, 8, none⟩ = some (.slice A4 p.info.length c4)) ∧ Below w4.heap.size w4 W') W') := cover fun W' hb' => by
    exact ⟨pdu_cells (HV4.out.below hb').hd, hb'⟩
  have mixed : Try.prog.follows .mixedOrders = true := by kernel_rfl
  have hb0 : Below w4.heap.size w4 w4.drew := (Below.refl _ _).drew
  have h3 : (fun W' : World => (W'.cell? ⟨g4, 0, none⟩ = some (.int .i64 p.to) ∧ W'.cell? ⟨g4, 1, none⟩ = some (.int .i64 p.frm) ∧ W'.cell? ⟨g4, 2, none⟩ = some (.bool p.resp) ∧ W'.cell? ⟨g4, 3, none⟩ = some (.int .i64 p.form) ∧ W'.cell? ⟨g4, 4, none⟩ = some (.int .i64 p.kind) ∧ W'.cell? ⟨g4, 5, none⟩ = some (.int .i64 p.ns) ∧ W'.cell? ⟨g4, 6, none⟩ = some (.int .i64 p.nr) ∧ W'.cell? ⟨g4, 7, none⟩ = some (.bool p.poll) ∧ W'.cell? ⟨g4, 8, none⟩ = some (.slice A4 p.info.length c4)) ∧ Below w4.heap.size w4 W') w4.drew := HS.out _ hb0
  go_wp2_with (refine wpList_store_row rfl _ _ _ rfl v4.heap.size #[.int .i64 p.to, .int .i64 p.frm, .bool p.resp, .int .i64 p.form, .int .i64 p.kind, .int .i64 p.ns, .int .i64 p.nr, .bool p.poll, .slice A4 p.info.length c4] rfl rfl 29 zp (heap_alloc_new _ _) pdu_size rfl (pdu_one _ _ _ _ _ _ _ _ _ _ _) ?_; rw [← hw4.out, ← HG4.out])
  refine (wpIn_wide (n := 0)).1 ?_
  refine held_begin (fun W' : World => (W'.cell? ⟨g4, 0, none⟩ = some (.int .i64 p.to) ∧ W'.cell? ⟨g4, 1, none⟩ = some (.int .i64 p.frm) ∧ W'.cell? ⟨g4, 2, none⟩ = some (.bool p.resp) ∧ W'.cell? ⟨g4, 3, none⟩ = some (.int .i64 p.form) ∧ W'.cell? ⟨g4, 4, none⟩ = some (.int .i64 p.kind) ∧ W'.cell? ⟨g4, 5, none⟩ = some (.int .i64 p.ns) ∧ W'.cell? ⟨g4, 6, none⟩ = some (.int .i64 p.nr) ∧ W'.cell? ⟨g4, 7, none⟩ = some (.bool p.poll) ∧ W'.cell? ⟨g4, 8, none⟩ = some (.slice A4 p.info.length c4)) ∧ Below w4.heap.size w4 W') 99 mixed ?_
  refine hold_take 0 _ rfl (by kernel_rfl) (by kernel_rfl) (by kernel_rfl) (by kernel_rfl) (by kernel_rfl) (fun _ _ _ h => h) (by rfl) (fun _ => rfl) h3 (fun w' hS => by obtain ⟨⟨q0, q1, q2, q3, q4, q5, q6, q7, q8⟩, qq⟩ := hS; go_simp; rfl) ?_
  simp only [Act.put, List.setIfInBounds_toArray, List.set_cons_zero, List.set_cons_succ]
  refine hold_take 2 _ rfl (by kernel_rfl) (by kernel_rfl) (by kernel_rfl) (by kernel_rfl) (by kernel_rfl) (fun _ _ _ h => h) (by rfl) (fun _ => rfl) h3 (fun w' hS => by obtain ⟨⟨q0, q1, q2, q3, q4, q5, q6, q7, q8⟩, qq⟩ := hS; go_simp; rfl) ?_
  simp only [Act.put, List.setIfInBounds_toArray, List.set_cons_zero, List.set_cons_succ]
  refine hold_one 1 (by kernel_rfl) rfl (by rfl) fun K hK => ?_
  go_simp
  refine ⟨trivial, rfl, (callsIn_wide.2 (HST.out _)).mono ?_⟩
  rintro e w5 ⟨rfl, hb5'⟩
  have hb5 : Below w4.heap.size w4 w5 := hb0.trans (hb5'.mono hb0.size)
  refine hK _ _ (.inr (HS.out _ hb5)) ?_
  clear hK K
  refine hold_one 3 (by kernel_rfl) rfl (by rfl) fun K hK => ?_
  go_simp
  refine ⟨trivial, rfl, (callsIn_wide.2 (HHE.out _ hb5)).mono ?_⟩
  rintro e w6 ⟨A5', c5', A5, c5, rfl, H6⟩
  have hb6 : Below w4.heap.size w4 w6 := hb5.trans (H6.out.2.2.mono hb5.size)
  have h6 := HS.out _ hb6
  rw [List.length_map, ← HNL.out] at H6 ⊢
  refine hK _ _ (.inr h6) ?_
  clear hK K
  refine hold_take 4 _ rfl (by kernel_rfl) (by kernel_rfl) (by kernel_rfl) (by kernel_rfl) (by kernel_rfl) (fun _ _ _ h => h) (by rfl) (fun _ => rfl) h6 (fun w' hS => by obtain ⟨⟨q0, q1, q2, q3, q4, q5, q6, q7, q8⟩, qq⟩ := hS; go_simp; rfl) ?_
  simp only [Act.put, List.setIfInBounds_toArray, List.set_cons_zero, List.set_cons_succ]
  refine hold_take 5 _ rfl (by kernel_rfl) (by kernel_rfl) (by kernel_rfl) (by kernel_rfl) (by kernel_rfl) (fun _ _ _ h => h) (by rfl) (fun _ => rfl) h6 (fun w' hS => by obtain ⟨⟨q0, q1, q2, q3, q4, q5, q6, q7, q8⟩, qq⟩ := hS; go_simp; rfl) ?_
  simp only [Act.put, List.setIfInBounds_toArray, List.set_cons_zero, List.set_cons_succ]
  refine hold_take 6 _ rfl (by kernel_rfl) (by kernel_rfl) (by kernel_rfl) (by kernel_rfl) (by kernel_rfl) (fun _ _ _ h => h) (by rfl) (fun _ => rfl) h6 (fun w' hS => by obtain ⟨⟨q0, q1, q2, q3, q4, q5, q6, q7, q8⟩, qq⟩ := hS; go_simp; rfl) ?_
  simp only [Act.put, List.setIfInBounds_toArray, List.set_cons_zero, List.set_cons_succ]
  refine hold_take 7 _ rfl (by kernel_rfl) (by kernel_rfl) (by kernel_rfl) (by kernel_rfl) (by kernel_rfl) (fun _ _ _ h => h) (by rfl) (fun _ => rfl) h6 (fun w' hS => by obtain ⟨⟨q0, q1, q2, q3, q4, q5, q6, q7, q8⟩, qq⟩ := hS; go_simp; rfl) ?_
  simp only [Act.put, List.setIfInBounds_toArray, List.set_cons_zero, List.set_cons_succ]
  refine hold_take 8 _ rfl (by kernel_rfl) (by kernel_rfl) (by kernel_rfl) (by kernel_rfl) (by kernel_rfl) (fun _ _ _ h => h) (by rfl) (fun _ => rfl) h6 (fun w' hS => by obtain ⟨⟨q0, q1, q2, q3, q4, q5, q6, q7, q8⟩, qq⟩ := hS; go_simp; rfl) ?_
  simp only [Act.put, List.setIfInBounds_toArray, List.set_cons_zero, List.set_cons_succ]
  refine held_done (by kernel_rfl) ?_ _
  have hbw6 : Below b w w6 := hb4.trans (hb6.mono (HSz.out w4 hb4))
  have HV6 := cover (HV4.out.below hb6)
  have HP6 := cover (H6.out.2.1.mono (B' := b) (by have := HSz.out w4 hb4; have := hb5.size; omega))
  have H6b := cover (H4.out.below hb6)
  have s7 := rhears_has H6b.out.ref tt
  have HH7 := cover s7
  clear h3 h6 hb0 hb5 hb5' hb6 H6 HS HHE HST HV4 H4 hw4 s7 hb4
  go_wp2_with fail
  refine HH7.out.mono ?_
  rintro e w7 ⟨A7, c7, rfl, H7⟩
  have hbw7 : Below b w w7 := hbw6.trans (H7.out.2.mono (HSz.out w6 hbw6))
  have HV7 := cover (HV6.out.below H7.out.2)
  have HP7 := cover (HP6.out.below H7.out.2)
  have H7b := cover (H6b.out.below H7.out.2)
  have HR7 := cover (own_base (base' := 0) H7.out.1 (Nat.zero_le _))
  have hz0 : ((((([] : List IV).length : Nat) : Int)) != 0) = false := by decide
  have hnn : ((n : Int) != (n : Int)) = false := by simp
  obtain ⟨m, hm⟩ : ∃ m, m = (hearS l tt).length := ⟨_, rfl⟩
  have hm16 : m ≤ 16 := by rw [hm]; exact hear_len16 H7b.out.has.ok _
  rw [← hm] at HR7 ⊢
  clear HH7 H7 H6b HP6 HV6 hbw6
  have htz : (tt == 0) = true := by rw [HTC.out]; rfl
  have htb : (tt == 255) = false := by rw [HTC.out]; rfl
  have HLZ : Hid (L = 0 :: hearS l tt) := cover (by rw [HLE.out, if_pos (by have := HTC.out; omega)]; rfl)
  have hnm : n = m + 1 := by rw [HNL.out, HLZ.out, hm]; rfl
  obtain ⟨g7, hg7⟩ : ∃ g, g = w7.heap.size := ⟨_, rfl⟩
  obtain ⟨w8, hw8⟩ : ∃ w8, w8 = w7.alloc (.cells #[.int .i64 0] 3) := ⟨_, rfl⟩
  have hm8 : Below w7.heap.size w7 w8 := by rw [hw8]; exact (Below.refl _ _).alloc (Nat.le_refl _) _
  have hb8 : Below b w w8 := hbw7.trans (hm8.mono (HSz.out w7 hbw7))
  have hn8 : w8.heap[g7]? = some (.cells #[.int .i64 0] 3 (0, 0)) := by rw [hw8, hg7]; exact heap_alloc_new _ _
  have HAZ := cover (append_zero (base := w7.heap.size) hn8 (by rw [hg7]; exact Nat.le_refl _) hm8.size (own_blocks HR7.out hm8) (by omega))
  have HW8 := cover (And.intro hw8 hg7)
  have HM8 := cover hm8
  have HM := cover hm
  have HNM := cover hnm
  clear hw8 hg7 hn8 hm8 HR7 hm
  go_wp2_with (at_builtin; rw [← HW8.out.1, ← HW8.out.2]; refine appends_list rfl _ _ _ rfl _ _ rfl rfl HAZ.out ?_; rintro v9 w9 ⟨⟨A9, c9, hv9⟩, H9⟩; rw [← HNM.out] at hv9; subst hv9)
  have hb9 : Below w7.heap.size w7 w9 := H9.out.2 _ HM8.out
  have hbw9 : Below b w w9 := hbw7.trans (hb9.mono (HSz.out w7 hbw7))
  have HX : Hid (XAt b w A9 n c9 A5 c5 L l r s w9) := cover ⟨by
    have h := H9.out.1
    rw [← HLZ.out, ← HNM.out] at h
    exact h, HP7.out.below hb9, H7b.out.ref.below hb9, hbw9⟩
  have HV9 := cover (HV7.out.below hb9)
  clear HAZ HW8 HM8 HM H9 hb8 hbw7 hb9 HP7 H7b HV7 HNM HLZ hm16
  go_loopw [14] (fun i wr => ∃ j : Nat, j ≤ n ∧ i = .int .i64 j ∧ Hid (Below w9.heap.size w9 wr)) (fun i _ => n - (intOf i).toNat)
  case atStart => exact ⟨0, Nat.zero_le _, rfl, cover (Below.refl _ _)⟩
  case round =>
    obtain ⟨j, hj, rfl, hrel⟩ := hrel
    by_cases hlt : j < n
    · obtain ⟨x, hx⟩ : ∃ x, L[j]? = some x := ⟨_, List.getElem?_eq_getElem (by rw [← HNL.out]; exact hlt)⟩
      have hXr := HX.out.below (HSz.out _ HX.out.bel) hrel.out
      have hbr : Below b w wr := hXr.bel
      obtain ⟨g, hA, hgl, _, hc0⟩ := own_cell hXr.row (j := j) (x := .int .i64 x) (by rw [List.getElem?_map, hx]; rfl)
      obtain ⟨gp, cc, Ai, mi, hv1, hcc, _, hgil, hci, hii, _⟩ := hXr.pdu.at_ (i := j) (p := ⟨2, x, true, 2, 1, 0, 0, true, [129, typS (clsS l x), 128]⟩) (by rw [List.getElem?_map, hx]; rfl)
      have hA5 : A5 = some ⟨gp, 0, none⟩ := by injection hv1
      have hc5 : c5 = cc := by injection hv1
      rw [List.length_map, ← HNL.out] at hcc
      subst hA hA5 hc5
      have hjc : j < c5 := by omega
      have hxm := HLM.out x (List.mem_of_getElem? hx)
      have HS : Hid (∀ W', Below wr.heap.size wr W' → (fun W' : World => W'.cell? ⟨g, j, none⟩ = some (.int .i64 x) ∧ W'.cell? ⟨gp, j * 9, none⟩ = some (.int .i64 2) ∧ W'.cell? ⟨gp, j * 9 + 1, none⟩ = some (.int .i64 x) ∧ W'.cell? ⟨gp, j * 9 + 2, none⟩ = some (.bool true) ∧ W'.cell? ⟨gp, j * 9 + 4, none⟩ = some (.int .i64 1) ∧ W'.cell? ⟨gp, j * 9 + 7, none⟩ = some (.bool true) ∧ W'.cell? ⟨gp, j * 9 + 8, none⟩ = some (.slice Ai 3 mi) ∧ Below wr.heap.size wr W') W') := cover fun W' hb' => by
        have e : ∀ {q : Addr} {v : Value}, q.block < wr.heap.size → wr.cell? q = some v → W'.cell? q = some v := fun hq hv => (hb'.cell hq).trans hv
        exact ⟨e hgl hc0, e hgil (hci 0 (by decide)), e hgil (hci 1 (by decide)), e hgil (hci 2 (by decide)), e hgil (hci 4 (by decide)), e hgil (hci 7 (by decide)), e hgil (hci 8 (by decide)), hb'⟩
      have mixed : Try.prog.follows .mixedOrders = true := by kernel_rfl
      by_cases hx0 : x = 0
      · have hxz : (x != 0) = false := by rw [hx0]; rfl
        have htv : typS (clsS l x) = 7 := by rw [hx0, HC0.out]; rfl
        have hbW : Below wr.heap.size wr wr := Below.refl _ _
        have HTV := cover htv
        clear hx0
        have hrowi : Row wr wr.heap.size Ai 3 [129, 7, 128] := by
          have h := OwnB.row (ownB_below hii hbW)
          rw [show (⟨2, x, true, 2, 1, 0, 0, true, [129, typS (clsS l x), 128]⟩ : PV).info = [129, 7, 128] from by rw [← HTV.out]] at h
          exact h
        have HRI := cover hrowi
        have hb0 : Below wr.heap.size wr wr.drew := (Below.refl _ _).drew
        have hbW0 : Below wr.heap.size wr wr.drew := hbW.trans (hb0.mono hbW.size)
        have h3 : (fun W' : World => W'.cell? ⟨g, j, none⟩ = some (.int .i64 x) ∧ W'.cell? ⟨gp, j * 9, none⟩ = some (.int .i64 2) ∧ W'.cell? ⟨gp, j * 9 + 1, none⟩ = some (.int .i64 x) ∧ W'.cell? ⟨gp, j * 9 + 2, none⟩ = some (.bool true) ∧ W'.cell? ⟨gp, j * 9 + 4, none⟩ = some (.int .i64 1) ∧ W'.cell? ⟨gp, j * 9 + 7, none⟩ = some (.bool true) ∧ W'.cell? ⟨gp, j * 9 + 8, none⟩ = some (.slice Ai 3 mi) ∧ Below wr.heap.size wr W') wr.drew := HS.out _ hbW0
        clear hx hv1 hci hii hrowi hXr htv hxm
        go_wp2_with fail
        clear hc0
        refine (wpIn_wide (n := 0)).1 ?_
        refine held_begin (fun W' : World => W'.cell? ⟨g, j, none⟩ = some (.int .i64 x) ∧ W'.cell? ⟨gp, j * 9, none⟩ = some (.int .i64 2) ∧ W'.cell? ⟨gp, j * 9 + 1, none⟩ = some (.int .i64 x) ∧ W'.cell? ⟨gp, j * 9 + 2, none⟩ = some (.bool true) ∧ W'.cell? ⟨gp, j * 9 + 4, none⟩ = some (.int .i64 1) ∧ W'.cell? ⟨gp, j * 9 + 7, none⟩ = some (.bool true) ∧ W'.cell? ⟨gp, j * 9 + 8, none⟩ = some (.slice Ai 3 mi) ∧ Below wr.heap.size wr W') 99 mixed ?_
        refine hold_take 0 _ rfl (by kernel_rfl) (by kernel_rfl) (by kernel_rfl) (by kernel_rfl) (by kernel_rfl) (fun _ _ _ h => h) (by rfl) (fun _ => rfl) h3 (fun w' hS => by obtain ⟨q0, q1, q2, q3, q4, q5, q6, q7⟩ := hS; go_simp; rfl) ?_
        simp only [Act.put, List.setIfInBounds_toArray, List.set_cons_zero, List.set_cons_succ]
        refine hold_take 1 _ rfl (by kernel_rfl) (by kernel_rfl) (by kernel_rfl) (by kernel_rfl) (by kernel_rfl) (fun _ _ _ h => h) (by rfl) (fun _ => rfl) h3 (fun w' hS => by obtain ⟨q0, q1, q2, q3, q4, q5, q6, q7⟩ := hS; go_simp; rfl) ?_
        simp only [Act.put, List.setIfInBounds_toArray, List.set_cons_zero, List.set_cons_succ]
        refine hold_take 2 _ rfl (by kernel_rfl) (by kernel_rfl) (by kernel_rfl) (by kernel_rfl) (by kernel_rfl) (fun _ _ _ h => h) (by rfl) (fun _ => rfl) h3 (fun w' hS => by obtain ⟨q0, q1, q2, q3, q4, q5, q6, q7⟩ := hS; go_simp; rfl) ?_
        simp only [Act.put, List.setIfInBounds_toArray, List.set_cons_zero, List.set_cons_succ]
        refine hold_take 3 _ rfl (by kernel_rfl) (by kernel_rfl) (by kernel_rfl) (by kernel_rfl) (by kernel_rfl) (fun _ _ _ h => h) (by rfl) (fun _ => rfl) h3 (fun w' hS => by obtain ⟨q0, q1, q2, q3, q4, q5, q6, q7⟩ := hS; go_simp; rfl) ?_
        simp only [Act.put, List.setIfInBounds_toArray, List.set_cons_zero, List.set_cons_succ]
        refine hold_take 4 _ rfl (by kernel_rfl) (by kernel_rfl) (by kernel_rfl) (by kernel_rfl) (by kernel_rfl) (fun _ _ _ h => h) (by rfl) (fun _ => rfl) h3 (fun w' hS => by obtain ⟨q0, q1, q2, q3, q4, q5, q6, q7⟩ := hS; go_simp; rfl) ?_
        simp only [Act.put, List.setIfInBounds_toArray, List.set_cons_zero, List.set_cons_succ]
        refine hold_take 5 _ rfl (by kernel_rfl) (by kernel_rfl) (by kernel_rfl) (by kernel_rfl) (by kernel_rfl) (fun _ _ _ h => h) (by rfl) (fun _ => rfl) h3 (fun w' hS => by obtain ⟨q0, q1, q2, q3, q4, q5, q6, q7⟩ := hS; go_simp; rfl) ?_
        simp only [Act.put, List.setIfInBounds_toArray, List.set_cons_zero, List.set_cons_succ]
        refine hold_take 6 _ rfl (by kernel_rfl) (by kernel_rfl) (by kernel_rfl) (by kernel_rfl) (by kernel_rfl) (fun _ _ _ h => h) (by rfl) (fun _ => rfl) h3 (fun w' hS => by obtain ⟨q0, q1, q2, q3, q4, q5, q6, q7⟩ := hS; go_simp; rfl) ?_
        simp only [Act.put, List.setIfInBounds_toArray, List.set_cons_zero, List.set_cons_succ]
        refine hold_take 7 _ rfl (by kernel_rfl) (by kernel_rfl) (by kernel_rfl) (by kernel_rfl) (by kernel_rfl) (fun _ _ _ h => h) (by rfl) (fun _ => rfl) h3 (fun w' hS => by obtain ⟨q0, q1, q2, q3, q4, q5, q6, q7⟩ := hS; go_simp; rfl) ?_
        simp only [Act.put, List.setIfInBounds_toArray, List.set_cons_zero, List.set_cons_succ]
        refine hold_take 8 _ rfl (by kernel_rfl) (by kernel_rfl) (by kernel_rfl) (by kernel_rfl) (by kernel_rfl) (fun _ _ _ h => h) (by rfl) (fun _ => rfl) h3 (fun w' hS => by obtain ⟨q0, q1, q2, q3, q4, q5, q6, q7⟩ := hS; go_simp; rfl) ?_
        simp only [Act.put, List.setIfInBounds_toArray, List.set_cons_zero, List.set_cons_succ]
        refine hold_take 9 (.bool false) rfl (by kernel_rfl) (by kernel_rfl) (by kernel_rfl) (by kernel_rfl) (by kernel_rfl) (fun _ _ _ h => h) (by rfl) (fun _ => rfl) h3 (fun w' hS => by obtain ⟨q0, q1, q2, q3, q4, q5, q6, q7⟩ := hS; go_simp; (first | done | rfl | simp)) ?_
        simp only [Act.put, List.setIfInBounds_toArray, List.set_cons_zero, List.set_cons_succ]
        refine hold_take 10 (.bool false) rfl (by kernel_rfl) (by kernel_rfl) (by kernel_rfl) (by kernel_rfl) (by kernel_rfl) (fun _ _ _ h => h) (by rfl) (fun _ => rfl) h3 (fun w' hS => by obtain ⟨q0, q1, q2, q3, q4, q5, q6, q7⟩ := hS; go_simp; (first | done | rfl | simp)) ?_
        simp only [Act.put, List.setIfInBounds_toArray, List.set_cons_zero, List.set_cons_succ]
        refine hold_take 11 _ rfl (by kernel_rfl) (by kernel_rfl) (by kernel_rfl) (by kernel_rfl) (by kernel_rfl) (fun _ _ _ h => h) (by rfl) (fun _ => rfl) h3 (fun w' hS => by obtain ⟨q0, q1, q2, q3, q4, q5, q6, q7⟩ := hS; go_simp; rfl) ?_
        simp only [Act.put, List.setIfInBounds_toArray, List.set_cons_zero, List.set_cons_succ]
        refine hold_take 12 _ rfl (by kernel_rfl) (by kernel_rfl) (by kernel_rfl) (by kernel_rfl) (by kernel_rfl) (fun _ _ _ h => h) (by rfl) (fun _ => rfl) h3 (fun w' hS => by obtain ⟨q0, q1, q2, q3, q4, q5, q6, q7⟩ := hS; go_simp; rfl) ?_
        simp only [Act.put, List.setIfInBounds_toArray, List.set_cons_zero, List.set_cons_succ]
        refine hold_take 13 _ rfl (by kernel_rfl) (by kernel_rfl) (by kernel_rfl) (by kernel_rfl) (by kernel_rfl) (fun _ _ _ h => h) (by rfl) (fun _ => rfl) h3 (fun w' hS => by obtain ⟨q0, q1, q2, q3, q4, q5, q6, q7⟩ := hS; go_simp; rfl) ?_
        simp only [Act.put, List.setIfInBounds_toArray, List.set_cons_zero, List.set_cons_succ]
        refine hold_take 14 _ rfl (by kernel_rfl) (by kernel_rfl) (by kernel_rfl) (by kernel_rfl) (by kernel_rfl) (fun _ _ _ h => h) (by rfl) (fun _ => rfl) h3 (fun w' hS => by obtain ⟨q0, q1, q2, q3, q4, q5, q6, q7⟩ := hS; go_simp; rfl) ?_
        simp only [Act.put, List.setIfInBounds_toArray, List.set_cons_zero, List.set_cons_succ]
        refine hold_take 15 _ rfl (by kernel_rfl) (by kernel_rfl) (by kernel_rfl) (by kernel_rfl) (by kernel_rfl) (fun _ _ _ h => h) (by rfl) (fun _ => rfl) h3 (fun w' hS => by obtain ⟨q0, q1, q2, q3, q4, q5, q6, q7⟩ := hS; go_simp; rfl) ?_
        simp only [Act.put, List.setIfInBounds_toArray, List.set_cons_zero, List.set_cons_succ]
        refine hold_take 16 (.bool false) rfl (by kernel_rfl) (by kernel_rfl) (by kernel_rfl) (by kernel_rfl) (by kernel_rfl) (fun _ _ _ h => h) (by rfl) (fun _ => rfl) h3 (fun w' hS => by obtain ⟨q0, q1, q2, q3, q4, q5, q6, q7⟩ := hS; go_simp; (first | done | rfl | simp)) ?_
        simp only [Act.put, List.setIfInBounds_toArray, List.set_cons_zero, List.set_cons_succ]
        refine hold_take 17 (.bool false) rfl (by kernel_rfl) (by kernel_rfl) (by kernel_rfl) (by kernel_rfl) (by kernel_rfl) (fun _ _ _ h => h) (by rfl) (fun _ => rfl) h3 (fun w' hS => by obtain ⟨q0, q1, q2, q3, q4, q5, q6, q7⟩ := hS; go_simp; (first | done | rfl | simp)) ?_
        simp only [Act.put, List.setIfInBounds_toArray, List.set_cons_zero, List.set_cons_succ]
        refine hold_take 18 (.bool false) rfl (by kernel_rfl) (by kernel_rfl) (by kernel_rfl) (by kernel_rfl) (by kernel_rfl) (fun _ _ _ h => h) (by rfl) (fun _ => rfl) h3 (fun w' hS => by obtain ⟨q0, q1, q2, q3, q4, q5, q6, q7⟩ := hS; go_simp; (first | done | rfl | simp)) ?_
        simp only [Act.put, List.setIfInBounds_toArray, List.set_cons_zero, List.set_cons_succ]
        refine hold_take 19 _ rfl (by kernel_rfl) (by kernel_rfl) (by kernel_rfl) (by kernel_rfl) (by kernel_rfl) (fun _ _ _ h => h) (by rfl) (fun _ => rfl) h3 (fun w' hS => by obtain ⟨q0, q1, q2, q3, q4, q5, q6, q7⟩ := hS; go_simp; rfl) ?_
        simp only [Act.put, List.setIfInBounds_toArray, List.set_cons_zero, List.set_cons_succ]
        refine hold_take 20 _ rfl (by kernel_rfl) (by kernel_rfl) (by kernel_rfl) (by kernel_rfl) (by kernel_rfl) (fun _ _ _ h => h) (by rfl) (fun _ => rfl) h3 (fun w' hS => by obtain ⟨q0, q1, q2, q3, q4, q5, q6, q7⟩ := hS; go_simp; rfl) ?_
        simp only [Act.put, List.setIfInBounds_toArray, List.set_cons_zero, List.set_cons_succ]
        refine hold_take 21 _ rfl (by kernel_rfl) (by kernel_rfl) (by kernel_rfl) (by kernel_rfl) (by kernel_rfl) (fun _ _ _ h => h) (by rfl) (fun _ => rfl) h3 (fun w' hS => by obtain ⟨q0, q1, q2, q3, q4, q5, q6, q7⟩ := hS; go_simp; rfl) ?_
        simp only [Act.put, List.setIfInBounds_toArray, List.set_cons_zero, List.set_cons_succ]
        refine hold_take 22 _ rfl (by kernel_rfl) (by kernel_rfl) (by kernel_rfl) (by kernel_rfl) (by kernel_rfl) (fun _ _ _ h => h) (by rfl) (fun _ => rfl) h3 (fun w' hS => by obtain ⟨q0, q1, q2, q3, q4, q5, q6, q7⟩ := hS; go_simp; rfl) ?_
        simp only [Act.put, List.setIfInBounds_toArray, List.set_cons_zero, List.set_cons_succ]
        refine hold_take 23 _ rfl (by kernel_rfl) (by kernel_rfl) (by kernel_rfl) (by kernel_rfl) (by kernel_rfl) (fun _ _ _ h => h) (by rfl) (fun _ => rfl) h3 (fun w' hS => by obtain ⟨q0, q1, q2, q3, q4, q5, q6, q7⟩ := hS; go_simp; rfl) ?_
        simp only [Act.put, List.setIfInBounds_toArray, List.set_cons_zero, List.set_cons_succ]
        refine hold_take 24 (.bool false) rfl (by kernel_rfl) (by kernel_rfl) (by kernel_rfl) (by kernel_rfl) (by kernel_rfl) (fun _ _ _ h => h) (by rfl) (fun _ => rfl) h3 (fun w' hS => by obtain ⟨q0, q1, q2, q3, q4, q5, q6, q7⟩ := hS; go_simp; (first | done | rfl | simp)) ?_
        simp only [Act.put, List.setIfInBounds_toArray, List.set_cons_zero, List.set_cons_succ]
        refine hold_take 25 (.bool false) rfl (by kernel_rfl) (by kernel_rfl) (by kernel_rfl) (by kernel_rfl) (by kernel_rfl) (fun _ _ _ h => h) (by rfl) (fun _ => rfl) h3 (fun w' hS => by obtain ⟨q0, q1, q2, q3, q4, q5, q6, q7⟩ := hS; go_simp; (first | done | rfl | simp)) ?_
        simp only [Act.put, List.setIfInBounds_toArray, List.set_cons_zero, List.set_cons_succ]
        refine hold_take 26 (.bool false) rfl (by kernel_rfl) (by kernel_rfl) (by kernel_rfl) (by kernel_rfl) (by kernel_rfl) (fun _ _ _ h => h) (by rfl) (fun _ => rfl) h3 (fun w' hS => by obtain ⟨q0, q1, q2, q3, q4, q5, q6, q7⟩ := hS; go_simp; (first | done | rfl | simp)) ?_
        simp only [Act.put, List.setIfInBounds_toArray, List.set_cons_zero, List.set_cons_succ]
        refine hold_take 27 _ rfl (by kernel_rfl) (by kernel_rfl) (by kernel_rfl) (by kernel_rfl) (by kernel_rfl) (fun _ _ _ h => h) (by rfl) (fun _ => rfl) h3 (fun w' hS => by obtain ⟨q0, q1, q2, q3, q4, q5, q6, q7⟩ := hS; go_simp; rfl) ?_
        simp only [Act.put, List.setIfInBounds_toArray, List.set_cons_zero, List.set_cons_succ]
        refine hold_take 28 _ rfl (by kernel_rfl) (by kernel_rfl) (by kernel_rfl) (by kernel_rfl) (by kernel_rfl) (fun _ _ _ h => h) (by rfl) (fun _ => rfl) h3 (fun w' hS => by obtain ⟨q0, q1, q2, q3, q4, q5, q6, q7⟩ := hS; go_simp; rfl) ?_
        simp only [Act.put, List.setIfInBounds_toArray, List.set_cons_zero, List.set_cons_succ]
        refine hold_take 29 _ rfl (by kernel_rfl) (by kernel_rfl) (by kernel_rfl) (by kernel_rfl) (by kernel_rfl) (fun _ _ _ h => h) (by rfl) (fun _ => rfl) h3 (fun w' hS => by obtain ⟨q0, q1, q2, q3, q4, q5, q6, q7⟩ := hS; go_simp; rfl) ?_
        simp only [Act.put, List.setIfInBounds_toArray, List.set_cons_zero, List.set_cons_succ]
        refine hold_take 30 _ rfl (by kernel_rfl) (by kernel_rfl) (by kernel_rfl) (by kernel_rfl) (by kernel_rfl) (fun _ _ _ h => h) (by rfl) (fun _ => rfl) h3 (fun w' hS => by obtain ⟨q0, q1, q2, q3, q4, q5, q6, q7⟩ := hS; go_simp; rfl) ?_
        simp only [Act.put, List.setIfInBounds_toArray, List.set_cons_zero, List.set_cons_succ]
        refine hold_take 31 _ rfl (by kernel_rfl) (by kernel_rfl) (by kernel_rfl) (by kernel_rfl) (by kernel_rfl) (fun _ _ _ h => h) (by rfl) (fun _ => rfl) h3 (fun w' hS => by obtain ⟨q0, q1, q2, q3, q4, q5, q6, q7⟩ := hS; go_simp; rfl) ?_
        simp only [Act.put, List.setIfInBounds_toArray, List.set_cons_zero, List.set_cons_succ]
        refine hold_take 32 (.bool false) rfl (by kernel_rfl) (by kernel_rfl) (by kernel_rfl) (by kernel_rfl) (by kernel_rfl) (fun _ _ _ h => h) (by rfl) (fun _ => rfl) h3 (fun w' hS => by obtain ⟨q0, q1, q2, q3, q4, q5, q6, q7⟩ := hS; go_simp; (first | done | rfl | simp)) ?_
        simp only [Act.put, List.setIfInBounds_toArray, List.set_cons_zero, List.set_cons_succ]
        refine hold_take 33 (.bool false) rfl (by kernel_rfl) (by kernel_rfl) (by kernel_rfl) (by kernel_rfl) (by kernel_rfl) (fun _ _ _ h => h) (by rfl) (fun _ => rfl) h3 (fun w' hS => by obtain ⟨q0, q1, q2, q3, q4, q5, q6, q7⟩ := hS; go_simp; (first | done | rfl | simp)) ?_
        simp only [Act.put, List.setIfInBounds_toArray, List.set_cons_zero, List.set_cons_succ]
        refine hold_take 34 (.bool false) rfl (by kernel_rfl) (by kernel_rfl) (by kernel_rfl) (by kernel_rfl) (by kernel_rfl) (fun _ _ _ h => h) (by rfl) (fun _ => rfl) h3 (fun w' hS => by obtain ⟨q0, q1, q2, q3, q4, q5, q6, q7⟩ := hS; go_simp; (first | done | rfl | simp)) ?_
        simp only [Act.put, List.setIfInBounds_toArray, List.set_cons_zero, List.set_cons_succ]
        refine hold_take 35 _ rfl (by kernel_rfl) (by kernel_rfl) (by kernel_rfl) (by kernel_rfl) (by kernel_rfl) (fun _ _ _ h => h) (by rfl) (fun _ => rfl) h3 (fun w' hS => by obtain ⟨q0, q1, q2, q3, q4, q5, q6, q7⟩ := hS; go_simp; rfl) ?_
        simp only [Act.put, List.setIfInBounds_toArray, List.set_cons_zero, List.set_cons_succ]
        refine hold_take 36 _ rfl (by kernel_rfl) (by kernel_rfl) (by kernel_rfl) (by kernel_rfl) (by kernel_rfl) (fun _ _ _ h => h) (by rfl) (fun _ => rfl) h3 (fun w' hS => by obtain ⟨q0, q1, q2, q3, q4, q5, q6, q7⟩ := hS; go_simp; rfl) ?_
        simp only [Act.put, List.setIfInBounds_toArray, List.set_cons_zero, List.set_cons_succ]
        refine hold_take 37 _ rfl (by kernel_rfl) (by kernel_rfl) (by kernel_rfl) (by kernel_rfl) (by kernel_rfl) (fun _ _ _ h => h) (by rfl) (fun _ => rfl) h3 (fun w' hS => by obtain ⟨q0, q1, q2, q3, q4, q5, q6, q7⟩ := hS; go_simp; rfl) ?_
        simp only [Act.put, List.setIfInBounds_toArray, List.set_cons_zero, List.set_cons_succ]
        refine hold_take 38 _ rfl (by kernel_rfl) (by kernel_rfl) (by kernel_rfl) (by kernel_rfl) (by kernel_rfl) (fun _ _ _ h => h) (by rfl) (fun _ => rfl) h3 (fun w' hS => by obtain ⟨q0, q1, q2, q3, q4, q5, q6, q7⟩ := hS; go_simp; rfl) ?_
        simp only [Act.put, List.setIfInBounds_toArray, List.set_cons_zero, List.set_cons_succ]
        refine hold_take 39 _ rfl (by kernel_rfl) (by kernel_rfl) (by kernel_rfl) (by kernel_rfl) (by kernel_rfl) (fun _ _ _ h => h) (by rfl) (fun _ => rfl) h3 (fun w' hS => by obtain ⟨q0, q1, q2, q3, q4, q5, q6, q7⟩ := hS; go_simp; rfl) ?_
        simp only [Act.put, List.setIfInBounds_toArray, List.set_cons_zero, List.set_cons_succ]
        refine hold_take 40 (.bool false) rfl (by kernel_rfl) (by kernel_rfl) (by kernel_rfl) (by kernel_rfl) (by kernel_rfl) (fun _ _ _ h => h) (by rfl) (fun _ => rfl) h3 (fun w' hS => by obtain ⟨q0, q1, q2, q3, q4, q5, q6, q7⟩ := hS; go_simp; (first | done | rfl | simp)) ?_
        simp only [Act.put, List.setIfInBounds_toArray, List.set_cons_zero, List.set_cons_succ]
        refine hold_take 41 (.bool false) rfl (by kernel_rfl) (by kernel_rfl) (by kernel_rfl) (by kernel_rfl) (by kernel_rfl) (fun _ _ _ h => h) (by rfl) (fun _ => rfl) h3 (fun w' hS => by obtain ⟨q0, q1, q2, q3, q4, q5, q6, q7⟩ := hS; go_simp; (first | done | rfl | simp)) ?_
        simp only [Act.put, List.setIfInBounds_toArray, List.set_cons_zero, List.set_cons_succ]
        refine hold_take 42 (.bool false) rfl (by kernel_rfl) (by kernel_rfl) (by kernel_rfl) (by kernel_rfl) (by kernel_rfl) (fun _ _ _ h => h) (by rfl) (fun _ => rfl) h3 (fun w' hS => by obtain ⟨q0, q1, q2, q3, q4, q5, q6, q7⟩ := hS; go_simp; (first | done | rfl | simp)) ?_
        simp only [Act.put, List.setIfInBounds_toArray, List.set_cons_zero, List.set_cons_succ]
        refine hold_take 43 _ rfl (by kernel_rfl) (by kernel_rfl) (by kernel_rfl) (by kernel_rfl) (by kernel_rfl) (fun _ _ _ h => h) (by rfl) (fun _ => rfl) h3 (fun w' hS => by obtain ⟨q0, q1, q2, q3, q4, q5, q6, q7⟩ := hS; go_simp; rfl) ?_
        simp only [Act.put, List.setIfInBounds_toArray, List.set_cons_zero, List.set_cons_succ]
        refine hold_take 44 _ rfl (by kernel_rfl) (by kernel_rfl) (by kernel_rfl) (by kernel_rfl) (by kernel_rfl) (fun _ _ _ h => h) (by rfl) (fun _ => rfl) h3 (fun w' hS => by obtain ⟨q0, q1, q2, q3, q4, q5, q6, q7⟩ := hS; go_simp; rfl) ?_
        simp only [Act.put, List.setIfInBounds_toArray, List.set_cons_zero, List.set_cons_succ]
        refine hold_take 45 _ rfl (by kernel_rfl) (by kernel_rfl) (by kernel_rfl) (by kernel_rfl) (by kernel_rfl) (fun _ _ _ h => h) (by rfl) (fun _ => rfl) h3 (fun w' hS => by obtain ⟨q0, q1, q2, q3, q4, q5, q6, q7⟩ := hS; go_simp; rfl) ?_
        simp only [Act.put, List.setIfInBounds_toArray, List.set_cons_zero, List.set_cons_succ]
        refine hold_take 46 _ rfl (by kernel_rfl) (by kernel_rfl) (by kernel_rfl) (by kernel_rfl) (by kernel_rfl) (fun _ _ _ h => h) (by rfl) (fun _ => rfl) h3 (fun w' hS => by obtain ⟨q0, q1, q2, q3, q4, q5, q6, q7⟩ := hS; go_simp; rfl) ?_
        simp only [Act.put, List.setIfInBounds_toArray, List.set_cons_zero, List.set_cons_succ]
        refine hold_take 47 _ rfl (by kernel_rfl) (by kernel_rfl) (by kernel_rfl) (by kernel_rfl) (by kernel_rfl) (fun _ _ _ h => h) (by rfl) (fun _ => rfl) h3 (fun w' hS => by obtain ⟨q0, q1, q2, q3, q4, q5, q6, q7⟩ := hS; go_simp; rfl) ?_
        simp only [Act.put, List.setIfInBounds_toArray, List.set_cons_zero, List.set_cons_succ]
        refine hold_take 48 _ rfl (by kernel_rfl) (by kernel_rfl) (by kernel_rfl) (by kernel_rfl) (by kernel_rfl) (fun _ _ _ h => h) (by rfl) (fun _ => rfl) h3 (fun w' hS => by obtain ⟨q0, q1, q2, q3, q4, q5, q6, q7⟩ := hS; go_simp; rfl) ?_
        simp only [Act.put, List.setIfInBounds_toArray, List.set_cons_zero, List.set_cons_succ]
        refine hold_take 49 (.int .u8 7) rfl (by kernel_rfl) (by kernel_rfl) (by kernel_rfl) (by kernel_rfl) (by kernel_rfl) (fun _ _ _ h => h) (by rfl) (fun _ => rfl) h3 (fun w' hS => by obtain ⟨q0, q1, q2, q3, q4, q5, q6, q7⟩ := hS; go_simp; (first | done | rfl | simp)) ?_
        simp only [Act.put, List.setIfInBounds_toArray, List.set_cons_zero, List.set_cons_succ]
        refine hold_one 50 (by kernel_rfl) rfl (by rfl) fun K hK => ?_
        obtain ⟨z, hz⟩ : ∃ z, z = wr.drew.heap.size := ⟨_, rfl⟩
        obtain ⟨wz, hwz⟩ : ∃ wz, wz = wr.drew.alloc (.cells #[.int .u8 129, .int .u8 7, .int .u8 128] 5) := ⟨_, rfl⟩
        have hmz : Below wr.drew.heap.size wr.drew wz := by rw [hwz]; exact (Below.refl _ _).alloc (Nat.le_refl _) _
        have hBz : Below wr.heap.size wr wz := hbW0.trans (hmz.mono hbW0.size)
        have hSz := HS.out _ hBz
        have hrz : Row wz (z + 1) (some ⟨z, 0, none⟩) 3 [129, 7, 128] := by rw [hwz, hz]; exact RowK.made _ [129, 7, 128] _ _ rfl
        have s9 := same_any Ai (some ⟨z, 0, none⟩) 3 mi 3 wr.heap.size (z + 1) [129, 7, 128] [129, 7, 128] wz (HRI.out.below (hb0.trans (hmz.mono hb0.size))) hrz (by decide)
        rw [decide_eq_true rfl] at s9
        refine run_in (fun c h => by cases h) (fun _ _ => trivial) (v := .slice (some ⟨z, 0, none⟩) 3 3) (w' := wz) (by rw [hwz, hz]; go_simp) ?_
        refine hK _ _ (.inr hSz) ?_
        clear hK K hwz hz hmz hrz
        simp only [Act.put, List.setIfInBounds_toArray, List.set_cons_zero, List.set_cons_succ]
        refine hold_one 51 (by kernel_rfl) rfl (by rfl) fun K hK => ?_
        go_simp
        refine ⟨trivial, rfl, (callsIn_wide.2 s9).mono ?_⟩
        rintro e wy ⟨rfl, dd, rfl⟩
        have hBy : Below wr.heap.size wr (wz.drewN dd) := below_drewN hBz dd
        have hSy := HS.out _ hBy
        refine hK _ _ (.inr hSy) ?_
        clear hK K s9
        refine hold_take 52 (.bool false) rfl (by kernel_rfl) (by kernel_rfl) (by kernel_rfl) (by kernel_rfl) (by kernel_rfl) (fun _ _ _ h => h) (by rfl) (fun _ => rfl) hSy (fun w' hS => by obtain ⟨q0, q1, q2, q3, q4, q5, q6, q7⟩ := hS; go_simp; (first | done | rfl | simp)) ?_
        simp only [Act.put, List.setIfInBounds_toArray, List.set_cons_zero, List.set_cons_succ]
        refine hold_take 53 (.bool false) rfl (by kernel_rfl) (by kernel_rfl) (by kernel_rfl) (by kernel_rfl) (by kernel_rfl) (fun _ _ _ h => h) (by rfl) (fun _ => rfl) hSy (fun w' hS => by obtain ⟨q0, q1, q2, q3, q4, q5, q6, q7⟩ := hS; go_simp; (first | done | rfl | simp)) ?_
        simp only [Act.put, List.setIfInBounds_toArray, List.set_cons_zero, List.set_cons_succ]
        refine held_done (by kernel_rfl) ?_ _
        have HN8 := cover (hrel.out.trans (hBy.mono hrel.out.size))
        clear h3 hSz hSy hBz hBy hb0 hbW0 HS hrel HRI
        go_wp2
        go_roundw
        case rel => exact ⟨j + 1, by omega, by go_num, HN8⟩
        case measure => simp [intOf]; omega
      · have hxz : (x != 0) = true := by simpa using hx0
        obtain ⟨cl, hcl⟩ : ∃ cl, cl = clsS l x := ⟨_, rfl⟩
        have hcl4 : 1 ≤ cl ∧ cl ≤ 4 := by rw [hcl]; exact (hxm.resolve_left hx0)
        have s6 := rclass_has hXr.has x
        rw [← hcl] at s6
        have s7 := rtypes_any cl (by omega) (by omega) wr
        rw [if_neg (by omega)] at s7
        obtain ⟨tv, htve⟩ : ∃ tv, tv = typS cl := ⟨_, rfl⟩
        rw [← htve] at s7
        have htb7 : 0 ≤ tv ∧ tv ≤ 7 := by rw [htve]; exact typ_small cl
        have htv : typS (clsS l x) = tv := by rw [htve, hcl]
        have hw8 : IntKind.u8.wrap tv = tv := by rw [IntKind.wrap_u8]; omega
        have HTV := cover htv
        clear hx0 hcl htve htv hxm hv1
        go_wp2_with fail
        refine s6.mono ?_
        rintro e w9 ⟨rfl, rfl⟩
        go_wp2_with fail
        refine s7.mono ?_
        rintro e w9 ⟨rfl, hbW⟩
        have hrowi : Row w9 w9.heap.size Ai 3 [129, tv, 128] := by
          have h := OwnB.row (ownB_below hii hbW)
          rw [show (⟨2, x, true, 2, 1, 0, 0, true, [129, typS (clsS l x), 128]⟩ : PV).info = [129, tv, 128] from by rw [← HTV.out]] at h
          exact h
        have HRI := cover hrowi
        have hb0 : Below w9.heap.size w9 w9.drew := (Below.refl _ _).drew
        have hbW0 : Below wr.heap.size wr w9.drew := hbW.trans (hb0.mono hbW.size)
        have h3 : (fun W' : World => W'.cell? ⟨g, j, none⟩ = some (.int .i64 x) ∧ W'.cell? ⟨gp, j * 9, none⟩ = some (.int .i64 2) ∧ W'.cell? ⟨gp, j * 9 + 1, none⟩ = some (.int .i64 x) ∧ W'.cell? ⟨gp, j * 9 + 2, none⟩ = some (.bool true) ∧ W'.cell? ⟨gp, j * 9 + 4, none⟩ = some (.int .i64 1) ∧ W'.cell? ⟨gp, j * 9 + 7, none⟩ = some (.bool true) ∧ W'.cell? ⟨gp, j * 9 + 8, none⟩ = some (.slice Ai 3 mi) ∧ Below wr.heap.size wr W') w9.drew := HS.out _ hbW0
        clear hx hci hii hrowi hXr s6 s7
        go_wp2_with fail
        clear hc0
        refine (wpIn_wide (n := 0)).1 ?_
        refine held_begin (fun W' : World => W'.cell? ⟨g, j, none⟩ = some (.int .i64 x) ∧ W'.cell? ⟨gp, j * 9, none⟩ = some (.int .i64 2) ∧ W'.cell? ⟨gp, j * 9 + 1, none⟩ = some (.int .i64 x) ∧ W'.cell? ⟨gp, j * 9 + 2, none⟩ = some (.bool true) ∧ W'.cell? ⟨gp, j * 9 + 4, none⟩ = some (.int .i64 1) ∧ W'.cell? ⟨gp, j * 9 + 7, none⟩ = some (.bool true) ∧ W'.cell? ⟨gp, j * 9 + 8, none⟩ = some (.slice Ai 3 mi) ∧ Below wr.heap.size wr W') 99 mixed ?_
        refine hold_take 0 _ rfl (by kernel_rfl) (by kernel_rfl) (by kernel_rfl) (by kernel_rfl) (by kernel_rfl) (fun _ _ _ h => h) (by rfl) (fun _ => rfl) h3 (fun w' hS => by obtain ⟨q0, q1, q2, q3, q4, q5, q6, q7⟩ := hS; go_simp; rfl) ?_
        simp only [Act.put, List.setIfInBounds_toArray, List.set_cons_zero, List.set_cons_succ]
        refine hold_take 1 _ rfl (by kernel_rfl) (by kernel_rfl) (by kernel_rfl) (by kernel_rfl) (by kernel_rfl) (fun _ _ _ h => h) (by rfl) (fun _ => rfl) h3 (fun w' hS => by obtain ⟨q0, q1, q2, q3, q4, q5, q6, q7⟩ := hS; go_simp; rfl) ?_
        simp only [Act.put, List.setIfInBounds_toArray, List.set_cons_zero, List.set_cons_succ]
        refine hold_take 2 _ rfl (by kernel_rfl) (by kernel_rfl) (by kernel_rfl) (by kernel_rfl) (by kernel_rfl) (fun _ _ _ h => h) (by rfl) (fun _ => rfl) h3 (fun w' hS => by obtain ⟨q0, q1, q2, q3, q4, q5, q6, q7⟩ := hS; go_simp; rfl) ?_
        simp only [Act.put, List.setIfInBounds_toArray, List.set_cons_zero, List.set_cons_succ]
        refine hold_take 3 _ rfl (by kernel_rfl) (by kernel_rfl) (by kernel_rfl) (by kernel_rfl) (by kernel_rfl) (fun _ _ _ h => h) (by rfl) (fun _ => rfl) h3 (fun w' hS => by obtain ⟨q0, q1, q2, q3, q4, q5, q6, q7⟩ := hS; go_simp; rfl) ?_
        simp only [Act.put, List.setIfInBounds_toArray, List.set_cons_zero, List.set_cons_succ]
        refine hold_take 4 _ rfl (by kernel_rfl) (by kernel_rfl) (by kernel_rfl) (by kernel_rfl) (by kernel_rfl) (fun _ _ _ h => h) (by rfl) (fun _ => rfl) h3 (fun w' hS => by obtain ⟨q0, q1, q2, q3, q4, q5, q6, q7⟩ := hS; go_simp; rfl) ?_
        simp only [Act.put, List.setIfInBounds_toArray, List.set_cons_zero, List.set_cons_succ]
        refine hold_take 5 _ rfl (by kernel_rfl) (by kernel_rfl) (by kernel_rfl) (by kernel_rfl) (by kernel_rfl) (fun _ _ _ h => h) (by rfl) (fun _ => rfl) h3 (fun w' hS => by obtain ⟨q0, q1, q2, q3, q4, q5, q6, q7⟩ := hS; go_simp; rfl) ?_
        simp only [Act.put, List.setIfInBounds_toArray, List.set_cons_zero, List.set_cons_succ]
        refine hold_take 6 _ rfl (by kernel_rfl) (by kernel_rfl) (by kernel_rfl) (by kernel_rfl) (by kernel_rfl) (fun _ _ _ h => h) (by rfl) (fun _ => rfl) h3 (fun w' hS => by obtain ⟨q0, q1, q2, q3, q4, q5, q6, q7⟩ := hS; go_simp; rfl) ?_
        simp only [Act.put, List.setIfInBounds_toArray, List.set_cons_zero, List.set_cons_succ]
        refine hold_take 7 _ rfl (by kernel_rfl) (by kernel_rfl) (by kernel_rfl) (by kernel_rfl) (by kernel_rfl) (fun _ _ _ h => h) (by rfl) (fun _ => rfl) h3 (fun w' hS => by obtain ⟨q0, q1, q2, q3, q4, q5, q6, q7⟩ := hS; go_simp; rfl) ?_
        simp only [Act.put, List.setIfInBounds_toArray, List.set_cons_zero, List.set_cons_succ]
        refine hold_take 8 _ rfl (by kernel_rfl) (by kernel_rfl) (by kernel_rfl) (by kernel_rfl) (by kernel_rfl) (fun _ _ _ h => h) (by rfl) (fun _ => rfl) h3 (fun w' hS => by obtain ⟨q0, q1, q2, q3, q4, q5, q6, q7⟩ := hS; go_simp; rfl) ?_
        simp only [Act.put, List.setIfInBounds_toArray, List.set_cons_zero, List.set_cons_succ]
        refine hold_take 9 (.bool false) rfl (by kernel_rfl) (by kernel_rfl) (by kernel_rfl) (by kernel_rfl) (by kernel_rfl) (fun _ _ _ h => h) (by rfl) (fun _ => rfl) h3 (fun w' hS => by obtain ⟨q0, q1, q2, q3, q4, q5, q6, q7⟩ := hS; go_simp; (first | done | rfl | simp)) ?_
        simp only [Act.put, List.setIfInBounds_toArray, List.set_cons_zero, List.set_cons_succ]
        refine hold_take 10 (.bool false) rfl (by kernel_rfl) (by kernel_rfl) (by kernel_rfl) (by kernel_rfl) (by kernel_rfl) (fun _ _ _ h => h) (by rfl) (fun _ => rfl) h3 (fun w' hS => by obtain ⟨q0, q1, q2, q3, q4, q5, q6, q7⟩ := hS; go_simp; (first | done | rfl | simp)) ?_
        simp only [Act.put, List.setIfInBounds_toArray, List.set_cons_zero, List.set_cons_succ]
        refine hold_take 11 _ rfl (by kernel_rfl) (by kernel_rfl) (by kernel_rfl) (by kernel_rfl) (by kernel_rfl) (fun _ _ _ h => h) (by rfl) (fun _ => rfl) h3 (fun w' hS => by obtain ⟨q0, q1, q2, q3, q4, q5, q6, q7⟩ := hS; go_simp; rfl) ?_
        simp only [Act.put, List.setIfInBounds_toArray, List.set_cons_zero, List.set_cons_succ]
        refine hold_take 12 _ rfl (by kernel_rfl) (by kernel_rfl) (by kernel_rfl) (by kernel_rfl) (by kernel_rfl) (fun _ _ _ h => h) (by rfl) (fun _ => rfl) h3 (fun w' hS => by obtain ⟨q0, q1, q2, q3, q4, q5, q6, q7⟩ := hS; go_simp; rfl) ?_
        simp only [Act.put, List.setIfInBounds_toArray, List.set_cons_zero, List.set_cons_succ]
        refine hold_take 13 _ rfl (by kernel_rfl) (by kernel_rfl) (by kernel_rfl) (by kernel_rfl) (by kernel_rfl) (fun _ _ _ h => h) (by rfl) (fun _ => rfl) h3 (fun w' hS => by obtain ⟨q0, q1, q2, q3, q4, q5, q6, q7⟩ := hS; go_simp; rfl) ?_
        simp only [Act.put, List.setIfInBounds_toArray, List.set_cons_zero, List.set_cons_succ]
        refine hold_take 14 _ rfl (by kernel_rfl) (by kernel_rfl) (by kernel_rfl) (by kernel_rfl) (by kernel_rfl) (fun _ _ _ h => h) (by rfl) (fun _ => rfl) h3 (fun w' hS => by obtain ⟨q0, q1, q2, q3, q4, q5, q6, q7⟩ := hS; go_simp; rfl) ?_
        simp only [Act.put, List.setIfInBounds_toArray, List.set_cons_zero, List.set_cons_succ]
        refine hold_take 15 _ rfl (by kernel_rfl) (by kernel_rfl) (by kernel_rfl) (by kernel_rfl) (by kernel_rfl) (fun _ _ _ h => h) (by rfl) (fun _ => rfl) h3 (fun w' hS => by obtain ⟨q0, q1, q2, q3, q4, q5, q6, q7⟩ := hS; go_simp; rfl) ?_
        simp only [Act.put, List.setIfInBounds_toArray, List.set_cons_zero, List.set_cons_succ]
        refine hold_take 16 (.bool false) rfl (by kernel_rfl) (by kernel_rfl) (by kernel_rfl) (by kernel_rfl) (by kernel_rfl) (fun _ _ _ h => h) (by rfl) (fun _ => rfl) h3 (fun w' hS => by obtain ⟨q0, q1, q2, q3, q4, q5, q6, q7⟩ := hS; go_simp; (first | done | rfl | simp)) ?_
        simp only [Act.put, List.setIfInBounds_toArray, List.set_cons_zero, List.set_cons_succ]
        refine hold_take 17 (.bool false) rfl (by kernel_rfl) (by kernel_rfl) (by kernel_rfl) (by kernel_rfl) (by kernel_rfl) (fun _ _ _ h => h) (by rfl) (fun _ => rfl) h3 (fun w' hS => by obtain ⟨q0, q1, q2, q3, q4, q5, q6, q7⟩ := hS; go_simp; (first | done | rfl | simp)) ?_
        simp only [Act.put, List.setIfInBounds_toArray, List.set_cons_zero, List.set_cons_succ]
        refine hold_take 18 (.bool false) rfl (by kernel_rfl) (by kernel_rfl) (by kernel_rfl) (by kernel_rfl) (by kernel_rfl) (fun _ _ _ h => h) (by rfl) (fun _ => rfl) h3 (fun w' hS => by obtain ⟨q0, q1, q2, q3, q4, q5, q6, q7⟩ := hS; go_simp; (first | done | rfl | simp)) ?_
        simp only [Act.put, List.setIfInBounds_toArray, List.set_cons_zero, List.set_cons_succ]
        refine hold_take 19 _ rfl (by kernel_rfl) (by kernel_rfl) (by kernel_rfl) (by kernel_rfl) (by kernel_rfl) (fun _ _ _ h => h) (by rfl) (fun _ => rfl) h3 (fun w' hS => by obtain ⟨q0, q1, q2, q3, q4, q5, q6, q7⟩ := hS; go_simp; rfl) ?_
        simp only [Act.put, List.setIfInBounds_toArray, List.set_cons_zero, List.set_cons_succ]
        refine hold_take 20 _ rfl (by kernel_rfl) (by kernel_rfl) (by kernel_rfl) (by kernel_rfl) (by kernel_rfl) (fun _ _ _ h => h) (by rfl) (fun _ => rfl) h3 (fun w' hS => by obtain ⟨q0, q1, q2, q3, q4, q5, q6, q7⟩ := hS; go_simp; rfl) ?_
        simp only [Act.put, List.setIfInBounds_toArray, List.set_cons_zero, List.set_cons_succ]
        refine hold_take 21 _ rfl (by kernel_rfl) (by kernel_rfl) (by kernel_rfl) (by kernel_rfl) (by kernel_rfl) (fun _ _ _ h => h) (by rfl) (fun _ => rfl) h3 (fun w' hS => by obtain ⟨q0, q1, q2, q3, q4, q5, q6, q7⟩ := hS; go_simp; rfl) ?_
        simp only [Act.put, List.setIfInBounds_toArray, List.set_cons_zero, List.set_cons_succ]
        refine hold_take 22 _ rfl (by kernel_rfl) (by kernel_rfl) (by kernel_rfl) (by kernel_rfl) (by kernel_rfl) (fun _ _ _ h => h) (by rfl) (fun _ => rfl) h3 (fun w' hS => by obtain ⟨q0, q1, q2, q3, q4, q5, q6, q7⟩ := hS; go_simp; rfl) ?_
        simp only [Act.put, List.setIfInBounds_toArray, List.set_cons_zero, List.set_cons_succ]
        refine hold_take 23 _ rfl (by kernel_rfl) (by kernel_rfl) (by kernel_rfl) (by kernel_rfl) (by kernel_rfl) (fun _ _ _ h => h) (by rfl) (fun _ => rfl) h3 (fun w' hS => by obtain ⟨q0, q1, q2, q3, q4, q5, q6, q7⟩ := hS; go_simp; rfl) ?_
        simp only [Act.put, List.setIfInBounds_toArray, List.set_cons_zero, List.set_cons_succ]
        refine hold_take 24 (.bool false) rfl (by kernel_rfl) (by kernel_rfl) (by kernel_rfl) (by kernel_rfl) (by kernel_rfl) (fun _ _ _ h => h) (by rfl) (fun _ => rfl) h3 (fun w' hS => by obtain ⟨q0, q1, q2, q3, q4, q5, q6, q7⟩ := hS; go_simp; (first | done | rfl | simp)) ?_
        simp only [Act.put, List.setIfInBounds_toArray, List.set_cons_zero, List.set_cons_succ]
        refine hold_take 25 (.bool false) rfl (by kernel_rfl) (by kernel_rfl) (by kernel_rfl) (by kernel_rfl) (by kernel_rfl) (fun _ _ _ h => h) (by rfl) (fun _ => rfl) h3 (fun w' hS => by obtain ⟨q0, q1, q2, q3, q4, q5, q6, q7⟩ := hS; go_simp; (first | done | rfl | simp)) ?_
        simp only [Act.put, List.setIfInBounds_toArray, List.set_cons_zero, List.set_cons_succ]
        refine hold_take 26 (.bool false) rfl (by kernel_rfl) (by kernel_rfl) (by kernel_rfl) (by kernel_rfl) (by kernel_rfl) (fun _ _ _ h => h) (by rfl) (fun _ => rfl) h3 (fun w' hS => by obtain ⟨q0, q1, q2, q3, q4, q5, q6, q7⟩ := hS; go_simp; (first | done | rfl | simp)) ?_
        simp only [Act.put, List.setIfInBounds_toArray, List.set_cons_zero, List.set_cons_succ]
        refine hold_take 27 _ rfl (by kernel_rfl) (by kernel_rfl) (by kernel_rfl) (by kernel_rfl) (by kernel_rfl) (fun _ _ _ h => h) (by rfl) (fun _ => rfl) h3 (fun w' hS => by obtain ⟨q0, q1, q2, q3, q4, q5, q6, q7⟩ := hS; go_simp; rfl) ?_
        simp only [Act.put, List.setIfInBounds_toArray, List.set_cons_zero, List.set_cons_succ]
        refine hold_take 28 _ rfl (by kernel_rfl) (by kernel_rfl) (by kernel_rfl) (by kernel_rfl) (by kernel_rfl) (fun _ _ _ h => h) (by rfl) (fun _ => rfl) h3 (fun w' hS => by obtain ⟨q0, q1, q2, q3, q4, q5, q6, q7⟩ := hS; go_simp; rfl) ?_
        simp only [Act.put, List.setIfInBounds_toArray, List.set_cons_zero, List.set_cons_succ]
        refine hold_take 29 _ rfl (by kernel_rfl) (by kernel_rfl) (by kernel_rfl) (by kernel_rfl) (by kernel_rfl) (fun _ _ _ h => h) (by rfl) (fun _ => rfl) h3 (fun w' hS => by obtain ⟨q0, q1, q2, q3, q4, q5, q6, q7⟩ := hS; go_simp; rfl) ?_
        simp only [Act.put, List.setIfInBounds_toArray, List.set_cons_zero, List.set_cons_succ]
        refine hold_take 30 _ rfl (by kernel_rfl) (by kernel_rfl) (by kernel_rfl) (by kernel_rfl) (by kernel_rfl) (fun _ _ _ h => h) (by rfl) (fun _ => rfl) h3 (fun w' hS => by obtain ⟨q0, q1, q2, q3, q4, q5, q6, q7⟩ := hS; go_simp; rfl) ?_
        simp only [Act.put, List.setIfInBounds_toArray, List.set_cons_zero, List.set_cons_succ]
        refine hold_take 31 _ rfl (by kernel_rfl) (by kernel_rfl) (by kernel_rfl) (by kernel_rfl) (by kernel_rfl) (fun _ _ _ h => h) (by rfl) (fun _ => rfl) h3 (fun w' hS => by obtain ⟨q0, q1, q2, q3, q4, q5, q6, q7⟩ := hS; go_simp; rfl) ?_
        simp only [Act.put, List.setIfInBounds_toArray, List.set_cons_zero, List.set_cons_succ]
        refine hold_take 32 (.bool false) rfl (by kernel_rfl) (by kernel_rfl) (by kernel_rfl) (by kernel_rfl) (by kernel_rfl) (fun _ _ _ h => h) (by rfl) (fun _ => rfl) h3 (fun w' hS => by obtain ⟨q0, q1, q2, q3, q4, q5, q6, q7⟩ := hS; go_simp; (first | done | rfl | simp)) ?_
        simp only [Act.put, List.setIfInBounds_toArray, List.set_cons_zero, List.set_cons_succ]
        refine hold_take 33 (.bool false) rfl (by kernel_rfl) (by kernel_rfl) (by kernel_rfl) (by kernel_rfl) (by kernel_rfl) (fun _ _ _ h => h) (by rfl) (fun _ => rfl) h3 (fun w' hS => by obtain ⟨q0, q1, q2, q3, q4, q5, q6, q7⟩ := hS; go_simp; (first | done | rfl | simp)) ?_
        simp only [Act.put, List.setIfInBounds_toArray, List.set_cons_zero, List.set_cons_succ]
        refine hold_take 34 (.bool false) rfl (by kernel_rfl) (by kernel_rfl) (by kernel_rfl) (by kernel_rfl) (by kernel_rfl) (fun _ _ _ h => h) (by rfl) (fun _ => rfl) h3 (fun w' hS => by obtain ⟨q0, q1, q2, q3, q4, q5, q6, q7⟩ := hS; go_simp; (first | done | rfl | simp)) ?_
        simp only [Act.put, List.setIfInBounds_toArray, List.set_cons_zero, List.set_cons_succ]
        refine hold_take 35 _ rfl (by kernel_rfl) (by kernel_rfl) (by kernel_rfl) (by kernel_rfl) (by kernel_rfl) (fun _ _ _ h => h) (by rfl) (fun _ => rfl) h3 (fun w' hS => by obtain ⟨q0, q1, q2, q3, q4, q5, q6, q7⟩ := hS; go_simp; rfl) ?_
        simp only [Act.put, List.setIfInBounds_toArray, List.set_cons_zero, List.set_cons_succ]
        refine hold_take 36 _ rfl (by kernel_rfl) (by kernel_rfl) (by kernel_rfl) (by kernel_rfl) (by kernel_rfl) (fun _ _ _ h => h) (by rfl) (fun _ => rfl) h3 (fun w' hS => by obtain ⟨q0, q1, q2, q3, q4, q5, q6, q7⟩ := hS; go_simp; rfl) ?_
        simp only [Act.put, List.setIfInBounds_toArray, List.set_cons_zero, List.set_cons_succ]
        refine hold_take 37 _ rfl (by kernel_rfl) (by kernel_rfl) (by kernel_rfl) (by kernel_rfl) (by kernel_rfl) (fun _ _ _ h => h) (by rfl) (fun _ => rfl) h3 (fun w' hS => by obtain ⟨q0, q1, q2, q3, q4, q5, q6, q7⟩ := hS; go_simp; rfl) ?_
        simp only [Act.put, List.setIfInBounds_toArray, List.set_cons_zero, List.set_cons_succ]
        refine hold_take 38 _ rfl (by kernel_rfl) (by kernel_rfl) (by kernel_rfl) (by kernel_rfl) (by kernel_rfl) (fun _ _ _ h => h) (by rfl) (fun _ => rfl) h3 (fun w' hS => by obtain ⟨q0, q1, q2, q3, q4, q5, q6, q7⟩ := hS; go_simp; rfl) ?_
        simp only [Act.put, List.setIfInBounds_toArray, List.set_cons_zero, List.set_cons_succ]
        refine hold_take 39 _ rfl (by kernel_rfl) (by kernel_rfl) (by kernel_rfl) (by kernel_rfl) (by kernel_rfl) (fun _ _ _ h => h) (by rfl) (fun _ => rfl) h3 (fun w' hS => by obtain ⟨q0, q1, q2, q3, q4, q5, q6, q7⟩ := hS; go_simp; rfl) ?_
        simp only [Act.put, List.setIfInBounds_toArray, List.set_cons_zero, List.set_cons_succ]
        refine hold_take 40 (.bool false) rfl (by kernel_rfl) (by kernel_rfl) (by kernel_rfl) (by kernel_rfl) (by kernel_rfl) (fun _ _ _ h => h) (by rfl) (fun _ => rfl) h3 (fun w' hS => by obtain ⟨q0, q1, q2, q3, q4, q5, q6, q7⟩ := hS; go_simp; (first | done | rfl | simp)) ?_
        simp only [Act.put, List.setIfInBounds_toArray, List.set_cons_zero, List.set_cons_succ]
        refine hold_take 41 (.bool false) rfl (by kernel_rfl) (by kernel_rfl) (by kernel_rfl) (by kernel_rfl) (by kernel_rfl) (fun _ _ _ h => h) (by rfl) (fun _ => rfl) h3 (fun w' hS => by obtain ⟨q0, q1, q2, q3, q4, q5, q6, q7⟩ := hS; go_simp; (first | done | rfl | simp)) ?_
        simp only [Act.put, List.setIfInBounds_toArray, List.set_cons_zero, List.set_cons_succ]
        refine hold_take 42 (.bool false) rfl (by kernel_rfl) (by kernel_rfl) (by kernel_rfl) (by kernel_rfl) (by kernel_rfl) (fun _ _ _ h => h) (by rfl) (fun _ => rfl) h3 (fun w' hS => by obtain ⟨q0, q1, q2, q3, q4, q5, q6, q7⟩ := hS; go_simp; (first | done | rfl | simp)) ?_
        simp only [Act.put, List.setIfInBounds_toArray, List.set_cons_zero, List.set_cons_succ]
        refine hold_take 43 _ rfl (by kernel_rfl) (by kernel_rfl) (by kernel_rfl) (by kernel_rfl) (by kernel_rfl) (fun _ _ _ h => h) (by rfl) (fun _ => rfl) h3 (fun w' hS => by obtain ⟨q0, q1, q2, q3, q4, q5, q6, q7⟩ := hS; go_simp; rfl) ?_
        simp only [Act.put, List.setIfInBounds_toArray, List.set_cons_zero, List.set_cons_succ]
        refine hold_take 44 _ rfl (by kernel_rfl) (by kernel_rfl) (by kernel_rfl) (by kernel_rfl) (by kernel_rfl) (fun _ _ _ h => h) (by rfl) (fun _ => rfl) h3 (fun w' hS => by obtain ⟨q0, q1, q2, q3, q4, q5, q6, q7⟩ := hS; go_simp; rfl) ?_
        simp only [Act.put, List.setIfInBounds_toArray, List.set_cons_zero, List.set_cons_succ]
        refine hold_take 45 _ rfl (by kernel_rfl) (by kernel_rfl) (by kernel_rfl) (by kernel_rfl) (by kernel_rfl) (fun _ _ _ h => h) (by rfl) (fun _ => rfl) h3 (fun w' hS => by obtain ⟨q0, q1, q2, q3, q4, q5, q6, q7⟩ := hS; go_simp; rfl) ?_
        simp only [Act.put, List.setIfInBounds_toArray, List.set_cons_zero, List.set_cons_succ]
        refine hold_take 46 _ rfl (by kernel_rfl) (by kernel_rfl) (by kernel_rfl) (by kernel_rfl) (by kernel_rfl) (fun _ _ _ h => h) (by rfl) (fun _ => rfl) h3 (fun w' hS => by obtain ⟨q0, q1, q2, q3, q4, q5, q6, q7⟩ := hS; go_simp; rfl) ?_
        simp only [Act.put, List.setIfInBounds_toArray, List.set_cons_zero, List.set_cons_succ]
        refine hold_take 47 _ rfl (by kernel_rfl) (by kernel_rfl) (by kernel_rfl) (by kernel_rfl) (by kernel_rfl) (fun _ _ _ h => h) (by rfl) (fun _ => rfl) h3 (fun w' hS => by obtain ⟨q0, q1, q2, q3, q4, q5, q6, q7⟩ := hS; go_simp; rfl) ?_
        simp only [Act.put, List.setIfInBounds_toArray, List.set_cons_zero, List.set_cons_succ]
        refine hold_take 48 _ rfl (by kernel_rfl) (by kernel_rfl) (by kernel_rfl) (by kernel_rfl) (by kernel_rfl) (fun _ _ _ h => h) (by rfl) (fun _ => rfl) h3 (fun w' hS => by obtain ⟨q0, q1, q2, q3, q4, q5, q6, q7⟩ := hS; go_simp; rfl) ?_
        simp only [Act.put, List.setIfInBounds_toArray, List.set_cons_zero, List.set_cons_succ]
        refine hold_take 49 (.int .u8 tv) rfl (by kernel_rfl) (by kernel_rfl) (by kernel_rfl) (by kernel_rfl) (by kernel_rfl) (fun _ _ _ h => h) (by rfl) (fun _ => rfl) h3 (fun w' hS => by obtain ⟨q0, q1, q2, q3, q4, q5, q6, q7⟩ := hS; go_simp; (first | done | rfl | simp)) ?_
        simp only [Act.put, List.setIfInBounds_toArray, List.set_cons_zero, List.set_cons_succ]
        refine hold_one 50 (by kernel_rfl) rfl (by rfl) fun K hK => ?_
        obtain ⟨z, hz⟩ : ∃ z, z = w9.drew.heap.size := ⟨_, rfl⟩
        obtain ⟨wz, hwz⟩ : ∃ wz, wz = w9.drew.alloc (.cells #[.int .u8 129, .int .u8 tv, .int .u8 128] 5) := ⟨_, rfl⟩
        have hmz : Below w9.drew.heap.size w9.drew wz := by rw [hwz]; exact (Below.refl _ _).alloc (Nat.le_refl _) _
        have hBz : Below wr.heap.size wr wz := hbW0.trans (hmz.mono hbW0.size)
        have hSz := HS.out _ hBz
        have hrz : Row wz (z + 1) (some ⟨z, 0, none⟩) 3 [129, tv, 128] := by rw [hwz, hz]; exact RowK.made _ [129, tv, 128] _ _ rfl
        have s9 := same_any Ai (some ⟨z, 0, none⟩) 3 mi 3 w9.heap.size (z + 1) [129, tv, 128] [129, tv, 128] wz (HRI.out.below (hb0.trans (hmz.mono hb0.size))) hrz (by decide)
        rw [decide_eq_true rfl] at s9
        refine run_in (fun c h => by cases h) (fun _ _ => trivial) (v := .slice (some ⟨z, 0, none⟩) 3 3) (w' := wz) (by rw [hwz, hz]; go_simp) ?_
        refine hK _ _ (.inr hSz) ?_
        clear hK K hwz hz hmz hrz
        simp only [Act.put, List.setIfInBounds_toArray, List.set_cons_zero, List.set_cons_succ]
        refine hold_one 51 (by kernel_rfl) rfl (by rfl) fun K hK => ?_
        go_simp
        refine ⟨trivial, rfl, (callsIn_wide.2 s9).mono ?_⟩
        rintro e wy ⟨rfl, dd, rfl⟩
        have hBy : Below wr.heap.size wr (wz.drewN dd) := below_drewN hBz dd
        have hSy := HS.out _ hBy
        refine hK _ _ (.inr hSy) ?_
        clear hK K s9
        refine hold_take 52 (.bool false) rfl (by kernel_rfl) (by kernel_rfl) (by kernel_rfl) (by kernel_rfl) (by kernel_rfl) (fun _ _ _ h => h) (by rfl) (fun _ => rfl) hSy (fun w' hS => by obtain ⟨q0, q1, q2, q3, q4, q5, q6, q7⟩ := hS; go_simp; (first | done | rfl | simp)) ?_
        simp only [Act.put, List.setIfInBounds_toArray, List.set_cons_zero, List.set_cons_succ]
        refine hold_take 53 (.bool false) rfl (by kernel_rfl) (by kernel_rfl) (by kernel_rfl) (by kernel_rfl) (by kernel_rfl) (fun _ _ _ h => h) (by rfl) (fun _ => rfl) hSy (fun w' hS => by obtain ⟨q0, q1, q2, q3, q4, q5, q6, q7⟩ := hS; go_simp; (first | done | rfl | simp)) ?_
        simp only [Act.put, List.setIfInBounds_toArray, List.set_cons_zero, List.set_cons_succ]
        refine held_done (by kernel_rfl) ?_ _
        have HN8 := cover (hrel.out.trans (hBy.mono hrel.out.size))
        clear h3 hSz hSy hBz hBy hb0 hbW0 HS hrel HRI
        go_wp2
        go_roundw
        case rel => exact ⟨j + 1, by omega, by go_num, HN8⟩
        case measure => simp [intOf]; omega
    · obtain rfl : j = n := by omega
      have HV := cover (HV9.out.below hrel.out)
      have hbr : Below b w wr := HX.out.bel.trans (hrel.out.mono (HSz.out _ HX.out.bel))
      have hbs := HSz.out wr hbr
      have hm3 : bits BinOp.and IntKind.u8 wd 127 = wm := by rw [HW.out]; exact (mask_127 hwd).1
      have hm4 : IntKind.u8.wrap (2 * wm) = 2 * wm := by rw [IntKind.wrap_u8, HW.out]; omega
      have d8 : wr.cell? ⟨g4, 8, none⟩ = some (.slice A4 3 c4) := by
        obtain ⟨_, _, _, _, _, _, _, _, h8⟩ := pdu_cells HV.out.hd
        rw [HP.out.2.2.2.2.2.1] at h8; exact h8
      obtain ⟨wz, hwz⟩ : ∃ wz, wz = wr.alloc (.cells #[.int .u8 129, .int .u8 7, .int .u8 (2 * wm)] 5) := ⟨_, rfl⟩
      have hbz : Below wr.heap.size wr wz := by rw [hwz]; exact (Below.refl _ _).alloc (Nat.le_refl _) _
      have hrw : Row wr wr.heap.size A4 3 [129, 7, 2 * wm] := by
        have h := HV.out.row
        rw [HP.out.2.2.2.2.1] at h; exact h
      have s9 := same_any A4 (some ⟨wr.heap.size, 0, none⟩) 3 c4 3 wr.heap.size (wr.heap.size + 1) [129, 7, 2 * wm] [129, 7, 2 * wm] wz (hrw.below hbz) (by rw [hwz]; exact RowK.made wr [129, 7, 2 * wm] _ _ rfl) (by decide)
      rw [decide_eq_true rfl] at s9
      have HH9 := cover s9
      have HZ := cover (hbr.trans (hbz.mono hbs))
      clear hrel HV hbr s9 hbz hrw
      go_wp2_with (rw [← hwz]; refine HH9.out.mono ?_)
      rintro e wy ⟨rfl, dd, rfl⟩
      clear hwz HH9
      go_wp2
      go_ret
      exact ⟨rfl, below_drewN HZ.out dd⟩
set_option maxRecDepth 100000 in
set_option maxHeartbeats 1600000 in
theorem walk_PlainXid_a (A : Option Addr) (len cap : Nat) (ds : List (Int × Int × Int)) (tt wd : Int) (w : World) (hlc : len ≤ cap) (hd : Deeds w w.heap.size A len ds ∧ ∀ q ∈ ds, (-9223372036854775808 ≤ q.1 ∧ q.1 ≤ 9223372036854775807) ∧ (-9223372036854775808 ≤ q.2.1 ∧ q.2.1 ≤ 9223372036854775807) ∧ (-9223372036854775808 ≤ q.2.2 ∧ q.2.2 ≤ 9223372036854775807))
    (ht : 0 ≤ tt ∧ tt ≤ 255) (hwd : 0 ≤ wd ∧ wd ≤ 255) (htc : tt = 255) :
    Calls Try.prog 8 #[.slice A len cap, .int .u8 tt, .int .u8 wd] w fun e w' => e = .returned (.bool true) ∧ Below w.heap.size w w' := by
  have HTC := cover htc
  clear htc
  obtain ⟨b, hb⟩ : ∃ b, w.heap.size = b := ⟨_, rfl⟩
  rw [hb] at hd ⊢
  have HDD := cover hd
  have HSz : Hid (∀ W, Below b w W → b ≤ W.heap.size) := cover fun W hW => by rw [← hb]; exact hW.size
  have HAW := cover (awake_any w)
  rw [hb] at HAW
  clear hd hb
  go_enter Try.func8, Try.ntmps8
  go_wp2_with fail
  refine HAW.out.mono ?_
  rintro e w2 ⟨rfl, hb2⟩
  clear HAW
  by_cases h100 : 100 < len
  · have hl : (100 : Int) < (len : Int) := by omega
    have HN := cover hb2
    clear HDD HSz hb2
    go_wp2
    go_ret
    exact ⟨rfl, HN.out⟩
  have hl : ¬ (100 : Int) < (len : Int) := by omega
  go_wp2_with fail
  refine (made_any (B := b) hlc (by omega) (HSz.out w2 hb2) (HDD.out.1.below hb2) HDD.out.2).mono ?_
  rintro e w3 ⟨s, r, l, rfl, H3⟩
  have hb3 : Below b w w3 := hb2.trans H3.out.bel
  obtain ⟨wm, hwm⟩ : ∃ wm : Int, wm = wd % 128 := ⟨_, rfl⟩
  have hm0 : IntKind.i64.wrap tt = tt := by rw [IntKind.wrap_i64]; omega
  have hm1 : IntKind.i64.wrap wd = wd := by rw [IntKind.wrap_i64]; omega
  have hm2 : bits BinOp.and IntKind.i64 wd 127 = wm := by rw [hwm]; exact (mask_127 hwd).2
  have HW := cover hwm
  have s4 := askXid_any 2 tt wm w3
  rw [show askX 2 tt wm = ((⟨tt, 2, false, 2, 1, 0, 0, true, [129, 7, 2 * wm]⟩ : PV), 0) from by
    unfold askX
    rw [if_pos (by omega)]
    exact askP_yes ⟨by unfold OkSap xidQ; simp, ht⟩ (by simp)] at s4
  obtain ⟨p, hp⟩ : ∃ p : PV, p = ⟨tt, 2, false, 2, 1, 0, 0, true, [129, 7, 2 * wm]⟩ := ⟨_, rfl⟩
  have HP : Hid (IsOne p ∧ p.kind = 1 ∧ p.to = tt ∧ p.frm = 2 ∧ p.info = [129, 7, 2 * wm] ∧ p.info.length = 3 ∧ p.resp = false ∧ p.poll = true) := cover (by
    rw [hp]
    exact ⟨one_ask (q := xidQ 2 tt) rfl (by unfold xidQ; simp) rfl rfl rfl (by unfold OkSap xidQ; simp) ht (by simp), rfl, rfl, rfl, rfl, rfl, rfl, rfl⟩)
  rw [← hp] at s4
  have HA4 := cover s4
  clear hp s4 hwm
  go_wp2_with fail
  refine HA4.out.mono ?_
  rintro e v4 ⟨A4, c4, rfl, HO⟩
  obtain ⟨w4, hw4, HV4, hbx⟩ := var_new (r := (p, 0)) HO.out.1 HO.out.2
  have hb4 : Below b w w4 := hb3.trans (hbx.out.mono (HSz.out w3 hb3))
  have H4 := cover (H3.out.below hbx.out)
  obtain ⟨g4, hg4⟩ : ∃ g, g = v4.heap.size := ⟨_, rfl⟩
  have HG4 := cover hg4
  rw [← hg4] at HV4
  clear HO hbx H3 hb3 hb2 HA4 hg4 hm1 hm2
  obtain ⟨L, hL⟩ : ∃ L, L = askedS l p := ⟨_, rfl⟩
  have hl17 : L.length ≤ 17 := by rw [hL]; exact asked_len H4.out.has.ok _
  obtain ⟨hsx, hax⟩ := xid_sent (l := l) HP.out.1 HP.out.2.1 HP.out.2.2.2.2.2.2.1 HP.out.2.2.2.1 HP.out.2.2.2.2.2.2.2
  have HLE : Hid (L = (if tt = 0 ∨ tt = 255 then [0] else []) ++ hearS l tt) := cover (by rw [hL, hax, HP.out.2.2.1])
  have HLM : Hid (∀ x ∈ L, x = 0 ∨ (1 ≤ clsS l x ∧ clsS l x ≤ 4)) := cover fun x hx => by
    rw [HLE.out] at hx
    rcases List.mem_append.1 hx with hx | hx
    · split at hx
      · exact .inl (by simpa using hx)
      · cases hx
    · exact .inr (cls_ok H4.out.has.ok (hear_active hx))
  have HC0 : Hid (clsS l 0 = 0) := cover (clsS_no (by
    cases hh : hasS l 0 with
    | false => rfl
    | true => exact absurd (ok_has H4.out.has.ok hh).1 (by omega)))
  rw [← hL] at hsx
  obtain ⟨n, hn⟩ : ∃ n, n = L.length := ⟨_, rfl⟩
  have HNL := cover hn
  rw [← hn] at hl17
  have HHE : Hid (∀ W, Below w4.heap.size w4 W → Calls Try.prog 13 #[ptr s, .agg #[.int .u8 2, .int .u8 0, .int .u8 0, .int .u8 0, .int .u8 0, .int .u8 1], .agg #[.int .i64 p.to, .int .i64 p.frm, .bool p.resp, .int .i64 p.form, .int .i64 p.kind, .int .i64 p.ns, .int .i64 p.nr, .bool p.poll, .slice A4 p.info.length c4]] W (HearOut [] (L.map (fun x => (⟨2, x, true, 2, 1, 0, 0, true, [129, typS (clsS l x), 128]⟩ : PV))) W)) := cover fun W hW => by
    have s5 := hear_go (H4.out.has.below hW) ⟨2, 0, 0, 0, 0, 1⟩ p A4 c4 (HV4.out.below hW).row (by rw [HP.out.2.2.2.2.2.1]; omega)
    rw [toldP_cmd (by rw [HP.out.2.1]; decide) HP.out.2.2.2.2.2.2.1, hsx] at s5
    exact s5
  have HST : Hid (∀ W : World, Calls Try.prog 26 #[.int .i64 1] W fun e w' => e = .returned (.agg #[.int .u8 2, .int .u8 0, .int .u8 0, .int .u8 0, .int .u8 0, .int .u8 1]) ∧ Below W.heap.size W w') := cover fun W => ref_station_in 1 (by omega) (by omega) W
  clear hL hn hax hsx
  have HS : Hid (∀ W', Below w4.heap.size w4 W' → (fun W' : World => (W'.cell? ⟨g4, 0, none⟩ = some (.int .i64 p.to) ∧ W'.cell? ⟨g4, 1, none⟩ = some (.int .i64 p.frm) ∧ W'.cell? ⟨g4, 2, none⟩ = some (.bool p.resp) ∧ W'.cell? ⟨g4, 3, none⟩ = some (.int .i64 p.form) ∧ W'.cell? ⟨g4, 4, none⟩ = some (.int .i64 p.kind) ∧ W'.cell? ⟨g4, 5, none⟩ = some (.int .i64 p.ns) ∧ W'.cell? ⟨g4, 6, none⟩ = some (.int .i64 p.nr) ∧ W'.cell? ⟨g4, 7, none⟩ = some (.bool p.poll) ∧ W'.cell? ⟨g4, 8, none⟩ = some (.slice A4 p.info.length c4)) ∧ Below w4.heap.size w4 W') W') := cover fun W' hb' => by
    exact ⟨pdu_cells (HV4.out.below hb').hd, hb'⟩
  have mixed : Try.prog.follows .mixedOrders = true := by kernel_rfl
  have hb0 : Below w4.heap.size w4 w4.drew := (Below.refl _ _).drew
  have h3 : (fun W' : World => (W'.cell? ⟨g4, 0, none⟩ = some (.int .i64 p.to) ∧ W'.cell? ⟨g4, 1, none⟩ = some (.int .i64 p.frm) ∧ W'.cell? ⟨g4, 2, none⟩ = some (.bool p.resp) ∧ W'.cell? ⟨g4, 3, none⟩ = some (.int .i64 p.form) ∧ W'.cell? ⟨g4, 4, none⟩ = some (.int .i64 p.kind) ∧ W'.cell? ⟨g4, 5, none⟩ = some (.int .i64 p.ns) ∧ W'.cell? ⟨g4, 6, none⟩ = some (.int .i64 p.nr) ∧ W'.cell? ⟨g4, 7, none⟩ = some (.bool p.poll) ∧ W'.cell? ⟨g4, 8, none⟩ = some (.slice A4 p.info.length c4)) ∧ Below w4.heap.size w4 W') w4.drew := HS.out _ hb0
  go_wp2_with (refine wpList_store_row rfl _ _ _ rfl v4.heap.size #[.int .i64 p.to, .int .i64 p.frm, .bool p.resp, .int .i64 p.form, .int .i64 p.kind, .int .i64 p.ns, .int .i64 p.nr, .bool p.poll, .slice A4 p.info.length c4] rfl rfl 29 zp (heap_alloc_new _ _) pdu_size rfl (pdu_one _ _ _ _ _ _ _ _ _ _ _) ?_; rw [← hw4.out, ← HG4.out])
  refine (wpIn_wide (n := 0)).1 ?_
  refine held_begin (fun W' : World => (W'.cell? ⟨g4, 0, none⟩ = some (.int .i64 p.to) ∧ W'.cell? ⟨g4, 1, none⟩ = some (.int .i64 p.frm) ∧ W'.cell? ⟨g4, 2, none⟩ = some (.bool p.resp) ∧ W'.cell? ⟨g4, 3, none⟩ = some (.int .i64 p.form) ∧ W'.cell? ⟨g4, 4, none⟩ = some (.int .i64 p.kind) ∧ W'.cell? ⟨g4, 5, none⟩ = some (.int .i64 p.ns) ∧ W'.cell? ⟨g4, 6, none⟩ = some (.int .i64 p.nr) ∧ W'.cell? ⟨g4, 7, none⟩ = some (.bool p.poll) ∧ W'.cell? ⟨g4, 8, none⟩ = some (.slice A4 p.info.length c4)) ∧ Below w4.heap.size w4 W') 99 mixed ?_
  refine hold_take 0 _ rfl (by kernel_rfl) (by kernel_rfl) (by kernel_rfl) (by kernel_rfl) (by kernel_rfl) (fun _ _ _ h => h) (by rfl) (fun _ => rfl) h3 (fun w' hS => by obtain ⟨⟨q0, q1, q2, q3, q4, q5, q6, q7, q8⟩, qq⟩ := hS; go_simp; rfl) ?_
  simp only [Act.put, List.setIfInBounds_toArray, List.set_cons_zero, List.set_cons_succ]
  refine hold_take 2 _ rfl (by kernel_rfl) (by kernel_rfl) (by kernel_rfl) (by kernel_rfl) (by kernel_rfl) (fun _ _ _ h => h) (by rfl) (fun _ => rfl) h3 (fun w' hS => by obtain ⟨⟨q0, q1, q2, q3, q4, q5, q6, q7, q8⟩, qq⟩ := hS; go_simp; rfl) ?_
  simp only [Act.put, List.setIfInBounds_toArray, List.set_cons_zero, List.set_cons_succ]
  refine hold_one 1 (by kernel_rfl) rfl (by rfl) fun K hK => ?_
  go_simp
  refine ⟨trivial, rfl, (callsIn_wide.2 (HST.out _)).mono ?_⟩
  rintro e w5 ⟨rfl, hb5'⟩
  have hb5 : Below w4.heap.size w4 w5 := hb0.trans (hb5'.mono hb0.size)
  refine hK _ _ (.inr (HS.out _ hb5)) ?_
  clear hK K
  refine hold_one 3 (by kernel_rfl) rfl (by rfl) fun K hK => ?_
  go_simp
  refine ⟨trivial, rfl, (callsIn_wide.2 (HHE.out _ hb5)).mono ?_⟩
  rintro e w6 ⟨A5', c5', A5, c5, rfl, H6⟩
  have hb6 : Below w4.heap.size w4 w6 := hb5.trans (H6.out.2.2.mono hb5.size)
  have h6 := HS.out _ hb6
  rw [List.length_map, ← HNL.out] at H6 ⊢
  refine hK _ _ (.inr h6) ?_
  clear hK K
  refine hold_take 4 _ rfl (by kernel_rfl) (by kernel_rfl) (by kernel_rfl) (by kernel_rfl) (by kernel_rfl) (fun _ _ _ h => h) (by rfl) (fun _ => rfl) h6 (fun w' hS => by obtain ⟨⟨q0, q1, q2, q3, q4, q5, q6, q7, q8⟩, qq⟩ := hS; go_simp; rfl) ?_
  simp only [Act.put, List.setIfInBounds_toArray, List.set_cons_zero, List.set_cons_succ]
  refine hold_take 5 _ rfl (by kernel_rfl) (by kernel_rfl) (by kernel_rfl) (by kernel_rfl) (by kernel_rfl) (fun _ _ _ h => h) (by rfl) (fun _ => rfl) h6 (fun w' hS => by obtain ⟨⟨q0, q1, q2, q3, q4, q5, q6, q7, q8⟩, qq⟩ := hS; go_simp; rfl) ?_
  simp only [Act.put, List.setIfInBounds_toArray, List.set_cons_zero, List.set_cons_succ]
  refine hold_take 6 _ rfl (by kernel_rfl) (by kernel_rfl) (by kernel_rfl) (by kernel_rfl) (by kernel_rfl) (fun _ _ _ h => h) (by rfl) (fun _ => rfl) h6 (fun w' hS => by obtain ⟨⟨q0, q1, q2, q3, q4, q5, q6, q7, q8⟩, qq⟩ := hS; go_simp; rfl) ?_
  simp only [Act.put, List.setIfInBounds_toArray, List.set_cons_zero, List.set_cons_succ]
  refine hold_take 7 _ rfl (by kernel_rfl) (by kernel_rfl) (by kernel_rfl) (by kernel_rfl) (by kernel_rfl) (fun _ _ _ h => h) (by rfl) (fun _ => rfl) h6 (fun w' hS => by obtain ⟨⟨q0, q1, q2, q3, q4, q5, q6, q7, q8⟩, qq⟩ := hS; go_simp; rfl) ?_
  simp only [Act.put, List.setIfInBounds_toArray, List.set_cons_zero, List.set_cons_succ]
  refine hold_take 8 _ rfl (by kernel_rfl) (by kernel_rfl) (by kernel_rfl) (by kernel_rfl) (by kernel_rfl) (fun _ _ _ h => h) (by rfl) (fun _ => rfl) h6 (fun w' hS => by obtain ⟨⟨q0, q1, q2, q3, q4, q5, q6, q7, q8⟩, qq⟩ := hS; go_simp; rfl) ?_
  simp only [Act.put, List.setIfInBounds_toArray, List.set_cons_zero, List.set_cons_succ]
  refine held_done (by kernel_rfl) ?_ _
  have hbw6 : Below b w w6 := hb4.trans (hb6.mono (HSz.out w4 hb4))
  have HV6 := cover (HV4.out.below hb6)
  have HP6 := cover (H6.out.2.1.mono (B' := b) (by have := HSz.out w4 hb4; have := hb5.size; omega))
  have H6b := cover (H4.out.below hb6)
  have s7 := rhears_has H6b.out.ref tt
  have HH7 := cover s7
  clear h3 h6 hb0 hb5 hb5' hb6 H6 HS HHE HST HV4 H4 hw4 s7 hb4
  go_wp2_with fail
  refine HH7.out.mono ?_
  rintro e w7 ⟨A7, c7, rfl, H7⟩
  have hbw7 : Below b w w7 := hbw6.trans (H7.out.2.mono (HSz.out w6 hbw6))
  have HV7 := cover (HV6.out.below H7.out.2)
  have HP7 := cover (HP6.out.below H7.out.2)
  have H7b := cover (H6b.out.below H7.out.2)
  have HR7 := cover (own_base (base' := 0) H7.out.1 (Nat.zero_le _))
  have hz0 : ((((([] : List IV).length : Nat) : Int)) != 0) = false := by decide
  have hnn : ((n : Int) != (n : Int)) = false := by simp
  obtain ⟨m, hm⟩ : ∃ m, m = (hearS l tt).length := ⟨_, rfl⟩
  have hm16 : m ≤ 16 := by rw [hm]; exact hear_len16 H7b.out.has.ok _
  rw [← hm] at HR7 ⊢
  clear HH7 H7 H6b HP6 HV6 hbw6
  have htz : (tt == 0) = false := by rw [HTC.out]; rfl
  have htb : (tt == 255) = true := by rw [HTC.out]; rfl
  have HLZ : Hid (L = 0 :: hearS l tt) := cover (by rw [HLE.out, if_pos (by have := HTC.out; omega)]; rfl)
  have hnm : n = m + 1 := by rw [HNL.out, HLZ.out, hm]; rfl
  obtain ⟨g7, hg7⟩ : ∃ g, g = w7.heap.size := ⟨_, rfl⟩
  obtain ⟨w8, hw8⟩ : ∃ w8, w8 = w7.alloc (.cells #[.int .i64 0] 3) := ⟨_, rfl⟩
  have hm8 : Below w7.heap.size w7 w8 := by rw [hw8]; exact (Below.refl _ _).alloc (Nat.le_refl _) _
  have hb8 : Below b w w8 := hbw7.trans (hm8.mono (HSz.out w7 hbw7))
  have hn8 : w8.heap[g7]? = some (.cells #[.int .i64 0] 3 (0, 0)) := by rw [hw8, hg7]; exact heap_alloc_new _ _
  have HAZ := cover (append_zero (base := w7.heap.size) hn8 (by rw [hg7]; exact Nat.le_refl _) hm8.size (own_blocks HR7.out hm8) (by omega))
  have HW8 := cover (And.intro hw8 hg7)
  have HM8 := cover hm8
  have HM := cover hm
  have HNM := cover hnm
  clear hw8 hg7 hn8 hm8 HR7 hm
  go_wp2_with (at_builtin; rw [← HW8.out.1, ← HW8.out.2]; refine appends_list rfl _ _ _ rfl _ _ rfl rfl HAZ.out ?_; rintro v9 w9 ⟨⟨A9, c9, hv9⟩, H9⟩; rw [← HNM.out] at hv9; subst hv9)
  have hb9 : Below w7.heap.size w7 w9 := H9.out.2 _ HM8.out
  have hbw9 : Below b w w9 := hbw7.trans (hb9.mono (HSz.out w7 hbw7))
  have HX : Hid (XAt b w A9 n c9 A5 c5 L l r s w9) := cover ⟨by
    have h := H9.out.1
    rw [← HLZ.out, ← HNM.out] at h
    exact h, HP7.out.below hb9, H7b.out.ref.below hb9, hbw9⟩
  have HV9 := cover (HV7.out.below hb9)
  clear HAZ HW8 HM8 HM H9 hb8 hbw7 hb9 HP7 H7b HV7 HNM HLZ hm16
  go_loopw [14] (fun i wr => ∃ j : Nat, j ≤ n ∧ i = .int .i64 j ∧ Hid (Below w9.heap.size w9 wr)) (fun i _ => n - (intOf i).toNat)
  case atStart => exact ⟨0, Nat.zero_le _, rfl, cover (Below.refl _ _)⟩
  case round =>
    obtain ⟨j, hj, rfl, hrel⟩ := hrel
    by_cases hlt : j < n
    · obtain ⟨x, hx⟩ : ∃ x, L[j]? = some x := ⟨_, List.getElem?_eq_getElem (by rw [← HNL.out]; exact hlt)⟩
      have hXr := HX.out.below (HSz.out _ HX.out.bel) hrel.out
      have hbr : Below b w wr := hXr.bel
      obtain ⟨g, hA, hgl, _, hc0⟩ := own_cell hXr.row (j := j) (x := .int .i64 x) (by rw [List.getElem?_map, hx]; rfl)
      obtain ⟨gp, cc, Ai, mi, hv1, hcc, _, hgil, hci, hii, _⟩ := hXr.pdu.at_ (i := j) (p := ⟨2, x, true, 2, 1, 0, 0, true, [129, typS (clsS l x), 128]⟩) (by rw [List.getElem?_map, hx]; rfl)
      have hA5 : A5 = some ⟨gp, 0, none⟩ := by injection hv1
      have hc5 : c5 = cc := by injection hv1
      rw [List.length_map, ← HNL.out] at hcc
      subst hA hA5 hc5
      have hjc : j < c5 := by omega
      have hxm := HLM.out x (List.mem_of_getElem? hx)
      have HS : Hid (∀ W', Below wr.heap.size wr W' → (fun W' : World => W'.cell? ⟨g, j, none⟩ = some (.int .i64 x) ∧ W'.cell? ⟨gp, j * 9, none⟩ = some (.int .i64 2) ∧ W'.cell? ⟨gp, j * 9 + 1, none⟩ = some (.int .i64 x) ∧ W'.cell? ⟨gp, j * 9 + 2, none⟩ = some (.bool true) ∧ W'.cell? ⟨gp, j * 9 + 4, none⟩ = some (.int .i64 1) ∧ W'.cell? ⟨gp, j * 9 + 7, none⟩ = some (.bool true) ∧ W'.cell? ⟨gp, j * 9 + 8, none⟩ = some (.slice Ai 3 mi) ∧ Below wr.heap.size wr W') W') := cover fun W' hb' => by
        have e : ∀ {q : Addr} {v : Value}, q.block < wr.heap.size → wr.cell? q = some v → W'.cell? q = some v := fun hq hv => (hb'.cell hq).trans hv
        exact ⟨e hgl hc0, e hgil (hci 0 (by decide)), e hgil (hci 1 (by decide)), e hgil (hci 2 (by decide)), e hgil (hci 4 (by decide)), e hgil (hci 7 (by decide)), e hgil (hci 8 (by decide)), hb'⟩
      have mixed : Try.prog.follows .mixedOrders = true := by kernel_rfl
      by_cases hx0 : x = 0
      · have hxz : (x != 0) = false := by rw [hx0]; rfl
        have htv : typS (clsS l x) = 7 := by rw [hx0, HC0.out]; rfl
        have hbW : Below wr.heap.size wr wr := Below.refl _ _
        have HTV := cover htv
        clear hx0
        have hrowi : Row wr wr.heap.size Ai 3 [129, 7, 128] := by
          have h := OwnB.row (ownB_below hii hbW)
          rw [show (⟨2, x, true, 2, 1, 0, 0, true, [129, typS (clsS l x), 128]⟩ : PV).info = [129, 7, 128] from by rw [← HTV.out]] at h
          exact h
        have HRI := cover hrowi
        have hb0 : Below wr.heap.size wr wr.drew := (Below.refl _ _).drew
        have hbW0 : Below wr.heap.size wr wr.drew := hbW.trans (hb0.mono hbW.size)
        have h3 : (fun W' : World => W'.cell? ⟨g, j, none⟩ = some (.int .i64 x) ∧ W'.cell? ⟨gp, j * 9, none⟩ = some (.int .i64 2) ∧ W'.cell? ⟨gp, j * 9 + 1, none⟩ = some (.int .i64 x) ∧ W'.cell? ⟨gp, j * 9 + 2, none⟩ = some (.bool true) ∧ W'.cell? ⟨gp, j * 9 + 4, none⟩ = some (.int .i64 1) ∧ W'.cell? ⟨gp, j * 9 + 7, none⟩ = some (.bool true) ∧ W'.cell? ⟨gp, j * 9 + 8, none⟩ = some (.slice Ai 3 mi) ∧ Below wr.heap.size wr W') wr.drew := HS.out _ hbW0
        clear hx hv1 hci hii hrowi hXr htv hxm
        go_wp2_with fail
        clear hc0
        refine (wpIn_wide (n := 0)).1 ?_
        refine held_begin (fun W' : World => W'.cell? ⟨g, j, none⟩ = some (.int .i64 x) ∧ W'.cell? ⟨gp, j * 9, none⟩ = some (.int .i64 2) ∧ W'.cell? ⟨gp, j * 9 + 1, none⟩ = some (.int .i64 x) ∧ W'.cell? ⟨gp, j * 9 + 2, none⟩ = some (.bool true) ∧ W'.cell? ⟨gp, j * 9 + 4, none⟩ = some (.int .i64 1) ∧ W'.cell? ⟨gp, j * 9 + 7, none⟩ = some (.bool true) ∧ W'.cell? ⟨gp, j * 9 + 8, none⟩ = some (.slice Ai 3 mi) ∧ Below wr.heap.size wr W') 99 mixed ?_
        refine hold_take 0 _ rfl (by kernel_rfl) (by kernel_rfl) (by kernel_rfl) (by kernel_rfl) (by kernel_rfl) (fun _ _ _ h => h) (by rfl) (fun _ => rfl) h3 (fun w' hS => by obtain ⟨q0, q1, q2, q3, q4, q5, q6, q7⟩ := hS; go_simp; rfl) ?_
        simp only [Act.put, List.setIfInBounds_toArray, List.set_cons_zero, List.set_cons_succ]
        refine hold_take 1 _ rfl (by kernel_rfl) (by kernel_rfl) (by kernel_rfl) (by kernel_rfl) (by kernel_rfl) (fun _ _ _ h => h) (by rfl) (fun _ => rfl) h3 (fun w' hS => by obtain ⟨q0, q1, q2, q3, q4, q5, q6, q7⟩ := hS; go_simp; rfl) ?_
        simp only [Act.put, List.setIfInBounds_toArray, List.set_cons_zero, List.set_cons_succ]
        refine hold_take 2 _ rfl (by kernel_rfl) (by kernel_rfl) (by kernel_rfl) (by kernel_rfl) (by kernel_rfl) (fun _ _ _ h => h) (by rfl) (fun _ => rfl) h3 (fun w' hS => by obtain ⟨q0, q1, q2, q3, q4, q5, q6, q7⟩ := hS; go_simp; rfl) ?_
        simp only [Act.put, List.setIfInBounds_toArray, List.set_cons_zero, List.set_cons_succ]
        refine hold_take 3 _ rfl (by kernel_rfl) (by kernel_rfl) (by kernel_rfl) (by kernel_rfl) (by kernel_rfl) (fun _ _ _ h => h) (by rfl) (fun _ => rfl) h3 (fun w' hS => by obtain ⟨q0, q1, q2, q3, q4, q5, q6, q7⟩ := hS; go_simp; rfl) ?_
        simp only [Act.put, List.setIfInBounds_toArray, List.set_cons_zero, List.set_cons_succ]
        refine hold_take 4 _ rfl (by kernel_rfl) (by kernel_rfl) (by kernel_rfl) (by kernel_rfl) (by kernel_rfl) (fun _ _ _ h => h) (by rfl) (fun _ => rfl) h3 (fun w' hS => by obtain ⟨q0, q1, q2, q3, q4, q5, q6, q7⟩ := hS; go_simp; rfl) ?_
        simp only [Act.put, List.setIfInBounds_toArray, List.set_cons_zero, List.set_cons_succ]
        refine hold_take 5 _ rfl (by kernel_rfl) (by kernel_rfl) (by kernel_rfl) (by kernel_rfl) (by kernel_rfl) (fun _ _ _ h => h) (by rfl) (fun _ => rfl) h3 (fun w' hS => by obtain ⟨q0, q1, q2, q3, q4, q5, q6, q7⟩ := hS; go_simp; rfl) ?_
        simp only [Act.put, List.setIfInBounds_toArray, List.set_cons_zero, List.set_cons_succ]
        refine hold_take 6 _ rfl (by kernel_rfl) (by kernel_rfl) (by kernel_rfl) (by kernel_rfl) (by kernel_rfl) (fun _ _ _ h => h) (by rfl) (fun _ => rfl) h3 (fun w' hS => by obtain ⟨q0, q1, q2, q3, q4, q5, q6, q7⟩ := hS; go_simp; rfl) ?_
        simp only [Act.put, List.setIfInBounds_toArray, List.set_cons_zero, List.set_cons_succ]
        refine hold_take 7 _ rfl (by kernel_rfl) (by kernel_rfl) (by kernel_rfl) (by kernel_rfl) (by kernel_rfl) (fun _ _ _ h => h) (by rfl) (fun _ => rfl) h3 (fun w' hS => by obtain ⟨q0, q1, q2, q3, q4, q5, q6, q7⟩ := hS; go_simp; rfl) ?_
        simp only [Act.put, List.setIfInBounds_toArray, List.set_cons_zero, List.set_cons_succ]
        refine hold_take 8 _ rfl (by kernel_rfl) (by kernel_rfl) (by kernel_rfl) (by kernel_rfl) (by kernel_rfl) (fun _ _ _ h => h) (by rfl) (fun _ => rfl) h3 (fun w' hS => by obtain ⟨q0, q1, q2, q3, q4, q5, q6, q7⟩ := hS; go_simp; rfl) ?_
        simp only [Act.put, List.setIfInBounds_toArray, List.set_cons_zero, List.set_cons_succ]
        refine hold_take 9 (.bool false) rfl (by kernel_rfl) (by kernel_rfl) (by kernel_rfl) (by kernel_rfl) (by kernel_rfl) (fun _ _ _ h => h) (by rfl) (fun _ => rfl) h3 (fun w' hS => by obtain ⟨q0, q1, q2, q3, q4, q5, q6, q7⟩ := hS; go_simp; (first | done | rfl | simp)) ?_
        simp only [Act.put, List.setIfInBounds_toArray, List.set_cons_zero, List.set_cons_succ]
        refine hold_take 10 (.bool false) rfl (by kernel_rfl) (by kernel_rfl) (by kernel_rfl) (by kernel_rfl) (by kernel_rfl) (fun _ _ _ h => h) (by rfl) (fun _ => rfl) h3 (fun w' hS => by obtain ⟨q0, q1, q2, q3, q4, q5, q6, q7⟩ := hS; go_simp; (first | done | rfl | simp)) ?_
        simp only [Act.put, List.setIfInBounds_toArray, List.set_cons_zero, List.set_cons_succ]
        refine hold_take 11 _ rfl (by kernel_rfl) (by kernel_rfl) (by kernel_rfl) (by kernel_rfl) (by kernel_rfl) (fun _ _ _ h => h) (by rfl) (fun _ => rfl) h3 (fun w' hS => by obtain ⟨q0, q1, q2, q3, q4, q5, q6, q7⟩ := hS; go_simp; rfl) ?_
        simp only [Act.put, List.setIfInBounds_toArray, List.set_cons_zero, List.set_cons_succ]
        refine hold_take 12 _ rfl (by kernel_rfl) (by kernel_rfl) (by kernel_rfl) (by kernel_rfl) (by kernel_rfl) (fun _ _ _ h => h) (by rfl) (fun _ => rfl) h3 (fun w' hS => by obtain ⟨q0, q1, q2, q3, q4, q5, q6, q7⟩ := hS; go_simp; rfl) ?_
        simp only [Act.put, List.setIfInBounds_toArray, List.set_cons_zero, List.set_cons_succ]
        refine hold_take 13 _ rfl (by kernel_rfl) (by kernel_rfl) (by kernel_rfl) (by kernel_rfl) (by kernel_rfl) (fun _ _ _ h => h) (by rfl) (fun _ => rfl) h3 (fun w' hS => by obtain ⟨q0, q1, q2, q3, q4, q5, q6, q7⟩ := hS; go_simp; rfl) ?_
        simp only [Act.put, List.setIfInBounds_toArray, List.set_cons_zero, List.set_cons_succ]
        refine hold_take 14 _ rfl (by kernel_rfl) (by kernel_rfl) (by kernel_rfl) (by kernel_rfl) (by kernel_rfl) (fun _ _ _ h => h) (by rfl) (fun _ => rfl) h3 (fun w' hS => by obtain ⟨q0, q1, q2, q3, q4, q5, q6, q7⟩ := hS; go_simp; rfl) ?_
        simp only [Act.put, List.setIfInBounds_toArray, List.set_cons_zero, List.set_cons_succ]
        refine hold_take 15 _ rfl (by kernel_rfl) (by kernel_rfl) (by kernel_rfl) (by kernel_rfl) (by kernel_rfl) (fun _ _ _ h => h) (by rfl) (fun _ => rfl) h3 (fun w' hS => by obtain ⟨q0, q1, q2, q3, q4, q5, q6, q7⟩ := hS; go_simp; rfl) ?_
        simp only [Act.put, List.setIfInBounds_toArray, List.set_cons_zero, List.set_cons_succ]
        refine hold_take 16 (.bool false) rfl (by kernel_rfl) (by kernel_rfl) (by kernel_rfl) (by kernel_rfl) (by kernel_rfl) (fun _ _ _ h => h) (by rfl) (fun _ => rfl) h3 (fun w' hS => by obtain ⟨q0, q1, q2, q3, q4, q5, q6, q7⟩ := hS; go_simp; (first | done | rfl | simp)) ?_
        simp only [Act.put, List.setIfInBounds_toArray, List.set_cons_zero, List.set_cons_succ]
        refine hold_take 17 (.bool false) rfl (by kernel_rfl) (by kernel_rfl) (by kernel_rfl) (by kernel_rfl) (by kernel_rfl) (fun _ _ _ h => h) (by rfl) (fun _ => rfl) h3 (fun w' hS => by obtain ⟨q0, q1, q2, q3, q4, q5, q6, q7⟩ := hS; go_simp; (first | done | rfl | simp)) ?_
        simp only [Act.put, List.setIfInBounds_toArray, List.set_cons_zero, List.set_cons_succ]
        refine hold_take 18 (.bool false) rfl (by kernel_rfl) (by kernel_rfl) (by kernel_rfl) (by kernel_rfl) (by kernel_rfl) (fun _ _ _ h => h) (by rfl) (fun _ => rfl) h3 (fun w' hS => by obtain ⟨q0, q1, q2, q3, q4, q5, q6, q7⟩ := hS; go_simp; (first | done | rfl | simp)) ?_
        simp only [Act.put, List.setIfInBounds_toArray, List.set_cons_zero, List.set_cons_succ]
        refine hold_take 19 _ rfl (by kernel_rfl) (by kernel_rfl) (by kernel_rfl) (by kernel_rfl) (by kernel_rfl) (fun _ _ _ h => h) (by rfl) (fun _ => rfl) h3 (fun w' hS => by obtain ⟨q0, q1, q2, q3, q4, q5, q6, q7⟩ := hS; go_simp; rfl) ?_
        simp only [Act.put, List.setIfInBounds_toArray, List.set_cons_zero, List.set_cons_succ]
        refine hold_take 20 _ rfl (by kernel_rfl) (by kernel_rfl) (by kernel_rfl) (by kernel_rfl) (by kernel_rfl) (fun _ _ _ h => h) (by rfl) (fun _ => rfl) h3 (fun w' hS => by obtain ⟨q0, q1, q2, q3, q4, q5, q6, q7⟩ := hS; go_simp; rfl) ?_
        simp only [Act.put, List.setIfInBounds_toArray, List.set_cons_zero, List.set_cons_succ]
        refine hold_take 21 _ rfl (by kernel_rfl) (by kernel_rfl) (by kernel_rfl) (by kernel_rfl) (by kernel_rfl) (fun _ _ _ h => h) (by rfl) (fun _ => rfl) h3 (fun w' hS => by obtain ⟨q0, q1, q2, q3, q4, q5, q6, q7⟩ := hS; go_simp; rfl) ?_
        simp only [Act.put, List.setIfInBounds_toArray, List.set_cons_zero, List.set_cons_succ]
        refine hold_take 22 _ rfl (by kernel_rfl) (by kernel_rfl) (by kernel_rfl) (by kernel_rfl) (by kernel_rfl) (fun _ _ _ h => h) (by rfl) (fun _ => rfl) h3 (fun w' hS => by obtain ⟨q0, q1, q2, q3, q4, q5, q6, q7⟩ := hS; go_simp; rfl) ?_
        simp only [Act.put, List.setIfInBounds_toArray, List.set_cons_zero, List.set_cons_succ]
        refine hold_take 23 _ rfl (by kernel_rfl) (by kernel_rfl) (by kernel_rfl) (by kernel_rfl) (by kernel_rfl) (fun _ _ _ h => h) (by rfl) (fun _ => rfl) h3 (fun w' hS => by obtain ⟨q0, q1, q2, q3, q4, q5, q6, q7⟩ := hS; go_simp; rfl) ?_
        simp only [Act.put, List.setIfInBounds_toArray, List.set_cons_zero, List.set_cons_succ]
        refine hold_take 24 (.bool false) rfl (by kernel_rfl) (by kernel_rfl) (by kernel_rfl) (by kernel_rfl) (by kernel_rfl) (fun _ _ _ h => h) (by rfl) (fun _ => rfl) h3 (fun w' hS => by obtain ⟨q0, q1, q2, q3, q4, q5, q6, q7⟩ := hS; go_simp; (first | done | rfl | simp)) ?_
        simp only [Act.put, List.setIfInBounds_toArray, List.set_cons_zero, List.set_cons_succ]
        refine hold_take 25 (.bool false) rfl (by kernel_rfl) (by kernel_rfl) (by kernel_rfl) (by kernel_rfl) (by kernel_rfl) (fun _ _ _ h => h) (by rfl) (fun _ => rfl) h3 (fun w' hS => by obtain ⟨q0, q1, q2, q3, q4, q5, q6, q7⟩ := hS; go_simp; (first | done | rfl | simp)) ?_
        simp only [Act.put, List.setIfInBounds_toArray, List.set_cons_zero, List.set_cons_succ]
        refine hold_take 26 (.bool false) rfl (by kernel_rfl) (by kernel_rfl) (by kernel_rfl) (by kernel_rfl) (by kernel_rfl) (fun _ _ _ h => h) (by rfl) (fun _ => rfl) h3 (fun w' hS => by obtain ⟨q0, q1, q2, q3, q4, q5, q6, q7⟩ := hS; go_simp; (first | done | rfl | simp)) ?_
        simp only [Act.put, List.setIfInBounds_toArray, List.set_cons_zero, List.set_cons_succ]
        refine hold_take 27 _ rfl (by kernel_rfl) (by kernel_rfl) (by kernel_rfl) (by kernel_rfl) (by kernel_rfl) (fun _ _ _ h => h) (by rfl) (fun _ => rfl) h3 (fun w' hS => by obtain ⟨q0, q1, q2, q3, q4, q5, q6, q7⟩ := hS; go_simp; rfl) ?_
        simp only [Act.put, List.setIfInBounds_toArray, List.set_cons_zero, List.set_cons_succ]
        refine hold_take 28 _ rfl (by kernel_rfl) (by kernel_rfl) (by kernel_rfl) (by kernel_rfl) (by kernel_rfl) (fun _ _ _ h => h) (by rfl) (fun _ => rfl) h3 (fun w' hS => by obtain ⟨q0, q1, q2, q3, q4, q5, q6, q7⟩ := hS; go_simp; rfl) ?_
        simp only [Act.put, List.setIfInBounds_toArray, List.set_cons_zero, List.set_cons_succ]
        refine hold_take 29 _ rfl (by kernel_rfl) (by kernel_rfl) (by kernel_rfl) (by kernel_rfl) (by kernel_rfl) (fun _ _ _ h => h) (by rfl) (fun _ => rfl) h3 (fun w' hS => by obtain ⟨q0, q1, q2, q3, q4, q5, q6, q7⟩ := hS; go_simp; rfl) ?_
        simp only [Act.put, List.setIfInBounds_toArray, List.set_cons_zero, List.set_cons_succ]
        refine hold_take 30 _ rfl (by kernel_rfl) (by kernel_rfl) (by kernel_rfl) (by kernel_rfl) (by kernel_rfl) (fun _ _ _ h => h) (by rfl) (fun _ => rfl) h3 (fun w' hS => by obtain ⟨q0, q1, q2, q3, q4, q5, q6, q7⟩ := hS; go_simp; rfl) ?_
        simp only [Act.put, List.setIfInBounds_toArray, List.set_cons_zero, List.set_cons_succ]
        refine hold_take 31 _ rfl (by kernel_rfl) (by kernel_rfl) (by kernel_rfl) (by kernel_rfl) (by kernel_rfl) (fun _ _ _ h => h) (by rfl) (fun _ => rfl) h3 (fun w' hS => by obtain ⟨q0, q1, q2, q3, q4, q5, q6, q7⟩ := hS; go_simp; rfl) ?_
        simp only [Act.put, List.setIfInBounds_toArray, List.set_cons_zero, List.set_cons_succ]
        refine hold_take 32 (.bool false) rfl (by kernel_rfl) (by kernel_rfl) (by kernel_rfl) (by kernel_rfl) (by kernel_rfl) (fun _ _ _ h => h) (by rfl) (fun _ => rfl) h3 (fun w' hS => by obtain ⟨q0, q1, q2, q3, q4, q5, q6, q7⟩ := hS; go_simp; (first | done | rfl | simp)) ?_
        simp only [Act.put, List.setIfInBounds_toArray, List.set_cons_zero, List.set_cons_succ]
        refine hold_take 33 (.bool false) rfl (by kernel_rfl) (by kernel_rfl) (by kernel_rfl) (by kernel_rfl) (by kernel_rfl) (fun _ _ _ h => h) (by rfl) (fun _ => rfl) h3 (fun w' hS => by obtain ⟨q0, q1, q2, q3, q4, q5, q6, q7⟩ := hS; go_simp; (first | done | rfl | simp)) ?_
        simp only [Act.put, List.setIfInBounds_toArray, List.set_cons_zero, List.set_cons_succ]
        refine hold_take 34 (.bool false) rfl (by kernel_rfl) (by kernel_rfl) (by kernel_rfl) (by kernel_rfl) (by kernel_rfl) (fun _ _ _ h => h) (by rfl) (fun _ => rfl) h3 (fun w' hS => by obtain ⟨q0, q1, q2, q3, q4, q5, q6, q7⟩ := hS; go_simp; (first | done | rfl | simp)) ?_
        simp only [Act.put, List.setIfInBounds_toArray, List.set_cons_zero, List.set_cons_succ]
        refine hold_take 35 _ rfl (by kernel_rfl) (by kernel_rfl) (by kernel_rfl) (by kernel_rfl) (by kernel_rfl) (fun _ _ _ h => h) (by rfl) (fun _ => rfl) h3 (fun w' hS => by obtain ⟨q0, q1, q2, q3, q4, q5, q6, q7⟩ := hS; go_simp; rfl) ?_
        simp only [Act.put, List.setIfInBounds_toArray, List.set_cons_zero, List.set_cons_succ]
        refine hold_take 36 _ rfl (by kernel_rfl) (by kernel_rfl) (by kernel_rfl) (by kernel_rfl) (by kernel_rfl) (fun _ _ _ h => h) (by rfl) (fun _ => rfl) h3 (fun w' hS => by obtain ⟨q0, q1, q2, q3, q4, q5, q6, q7⟩ := hS; go_simp; rfl) ?_
        simp only [Act.put, List.setIfInBounds_toArray, List.set_cons_zero, List.set_cons_succ]
        refine hold_take 37 _ rfl (by kernel_rfl) (by kernel_rfl) (by kernel_rfl) (by kernel_rfl) (by kernel_rfl) (fun _ _ _ h => h) (by rfl) (fun _ => rfl) h3 (fun w' hS => by obtain ⟨q0, q1, q2, q3, q4, q5, q6, q7⟩ := hS; go_simp; rfl) ?_
        simp only [Act.put, List.setIfInBounds_toArray, List.set_cons_zero, List.set_cons_succ]
        refine hold_take 38 _ rfl (by kernel_rfl) (by kernel_rfl) (by kernel_rfl) (by kernel_rfl) (by kernel_rfl) (fun _ _ _ h => h) (by rfl) (fun _ => rfl) h3 (fun w' hS => by obtain ⟨q0, q1, q2, q3, q4, q5, q6, q7⟩ := hS; go_simp; rfl) ?_
        simp only [Act.put, List.setIfInBounds_toArray, List.set_cons_zero, List.set_cons_succ]
        refine hold_take 39 _ rfl (by kernel_rfl) (by kernel_rfl) (by kernel_rfl) (by kernel_rfl) (by kernel_rfl) (fun _ _ _ h => h) (by rfl) (fun _ => rfl) h3 (fun w' hS => by obtain ⟨q0, q1, q2, q3, q4, q5, q6, q7⟩ := hS; go_simp; rfl) ?_
        simp only [Act.put, List.setIfInBounds_toArray, List.set_cons_zero, List.set_cons_succ]
        refine hold_take 40 (.bool false) rfl (by kernel_rfl) (by kernel_rfl) (by kernel_rfl) (by kernel_rfl) (by kernel_rfl) (fun _ _ _ h => h) (by rfl) (fun _ => rfl) h3 (fun w' hS => by obtain ⟨q0, q1, q2, q3, q4, q5, q6, q7⟩ := hS; go_simp; (first | done | rfl | simp)) ?_
        simp only [Act.put, List.setIfInBounds_toArray, List.set_cons_zero, List.set_cons_succ]
        refine hold_take 41 (.bool false) rfl (by kernel_rfl) (by kernel_rfl) (by kernel_rfl) (by kernel_rfl) (by kernel_rfl) (fun _ _ _ h => h) (by rfl) (fun _ => rfl) h3 (fun w' hS => by obtain ⟨q0, q1, q2, q3, q4, q5, q6, q7⟩ := hS; go_simp; (first | done | rfl | simp)) ?_
        simp only [Act.put, List.setIfInBounds_toArray, List.set_cons_zero, List.set_cons_succ]
        refine hold_take 42 (.bool false) rfl (by kernel_rfl) (by kernel_rfl) (by kernel_rfl) (by kernel_rfl) (by kernel_rfl) (fun _ _ _ h => h) (by rfl) (fun _ => rfl) h3 (fun w' hS => by obtain ⟨q0, q1, q2, q3, q4, q5, q6, q7⟩ := hS; go_simp; (first | done | rfl | simp)) ?_
        simp only [Act.put, List.setIfInBounds_toArray, List.set_cons_zero, List.set_cons_succ]
        refine hold_take 43 _ rfl (by kernel_rfl) (by kernel_rfl) (by kernel_rfl) (by kernel_rfl) (by kernel_rfl) (fun _ _ _ h => h) (by rfl) (fun _ => rfl) h3 (fun w' hS => by obtain ⟨q0, q1, q2, q3, q4, q5, q6, q7⟩ := hS; go_simp; rfl) ?_
        simp only [Act.put, List.setIfInBounds_toArray, List.set_cons_zero, List.set_cons_succ]
        refine hold_take 44 _ rfl (by kernel_rfl) (by kernel_rfl) (by kernel_rfl) (by kernel_rfl) (by kernel_rfl) (fun _ _ _ h => h) (by rfl) (fun _ => rfl) h3 (fun w' hS => by obtain ⟨q0, q1, q2, q3, q4, q5, q6, q7⟩ := hS; go_simp; rfl) ?_
        simp only [Act.put, List.setIfInBounds_toArray, List.set_cons_zero, List.set_cons_succ]
        refine hold_take 45 _ rfl (by kernel_rfl) (by kernel_rfl) (by kernel_rfl) (by kernel_rfl) (by kernel_rfl) (fun _ _ _ h => h) (by rfl) (fun _ => rfl) h3 (fun w' hS => by obtain ⟨q0, q1, q2, q3, q4, q5, q6, q7⟩ := hS; go_simp; rfl) ?_
        simp only [Act.put, List.setIfInBounds_toArray, List.set_cons_zero, List.set_cons_succ]
        refine hold_take 46 _ rfl (by kernel_rfl) (by kernel_rfl) (by kernel_rfl) (by kernel_rfl) (by kernel_rfl) (fun _ _ _ h => h) (by rfl) (fun _ => rfl) h3 (fun w' hS => by obtain ⟨q0, q1, q2, q3, q4, q5, q6, q7⟩ := hS; go_simp; rfl) ?_
        simp only [Act.put, List.setIfInBounds_toArray, List.set_cons_zero, List.set_cons_succ]
        refine hold_take 47 _ rfl (by kernel_rfl) (by kernel_rfl) (by kernel_rfl) (by kernel_rfl) (by kernel_rfl) (fun _ _ _ h => h) (by rfl) (fun _ => rfl) h3 (fun w' hS => by obtain ⟨q0, q1, q2, q3, q4, q5, q6, q7⟩ := hS; go_simp; rfl) ?_
        simp only [Act.put, List.setIfInBounds_toArray, List.set_cons_zero, List.set_cons_succ]
        refine hold_take 48 _ rfl (by kernel_rfl) (by kernel_rfl) (by kernel_rfl) (by kernel_rfl) (by kernel_rfl) (fun _ _ _ h => h) (by rfl) (fun _ => rfl) h3 (fun w' hS => by obtain ⟨q0, q1, q2, q3, q4, q5, q6, q7⟩ := hS; go_simp; rfl) ?_
        simp only [Act.put, List.setIfInBounds_toArray, List.set_cons_zero, List.set_cons_succ]
        refine hold_take 49 (.int .u8 7) rfl (by kernel_rfl) (by kernel_rfl) (by kernel_rfl) (by kernel_rfl) (by kernel_rfl) (fun _ _ _ h => h) (by rfl) (fun _ => rfl) h3 (fun w' hS => by obtain ⟨q0, q1, q2, q3, q4, q5, q6, q7⟩ := hS; go_simp; (first | done | rfl | simp)) ?_
        simp only [Act.put, List.setIfInBounds_toArray, List.set_cons_zero, List.set_cons_succ]
        refine hold_one 50 (by kernel_rfl) rfl (by rfl) fun K hK => ?_
        obtain ⟨z, hz⟩ : ∃ z, z = wr.drew.heap.size := ⟨_, rfl⟩
        obtain ⟨wz, hwz⟩ : ∃ wz, wz = wr.drew.alloc (.cells #[.int .u8 129, .int .u8 7, .int .u8 128] 5) := ⟨_, rfl⟩
        have hmz : Below wr.drew.heap.size wr.drew wz := by rw [hwz]; exact (Below.refl _ _).alloc (Nat.le_refl _) _
        have hBz : Below wr.heap.size wr wz := hbW0.trans (hmz.mono hbW0.size)
        have hSz := HS.out _ hBz
        have hrz : Row wz (z + 1) (some ⟨z, 0, none⟩) 3 [129, 7, 128] := by rw [hwz, hz]; exact RowK.made _ [129, 7, 128] _ _ rfl
        have s9 := same_any Ai (some ⟨z, 0, none⟩) 3 mi 3 wr.heap.size (z + 1) [129, 7, 128] [129, 7, 128] wz (HRI.out.below (hb0.trans (hmz.mono hb0.size))) hrz (by decide)
        rw [decide_eq_true rfl] at s9
        refine run_in (fun c h => by cases h) (fun _ _ => trivial) (v := .slice (some ⟨z, 0, none⟩) 3 3) (w' := wz) (by rw [hwz, hz]; go_simp) ?_
        refine hK _ _ (.inr hSz) ?_
        clear hK K hwz hz hmz hrz
        simp only [Act.put, List.setIfInBounds_toArray, List.set_cons_zero, List.set_cons_succ]
        refine hold_one 51 (by kernel_rfl) rfl (by rfl) fun K hK => ?_
        go_simp
        refine ⟨trivial, rfl, (callsIn_wide.2 s9).mono ?_⟩
        rintro e wy ⟨rfl, dd, rfl⟩
        have hBy : Below wr.heap.size wr (wz.drewN dd) := below_drewN hBz dd
        have hSy := HS.out _ hBy
        refine hK _ _ (.inr hSy) ?_
        clear hK K s9
        refine hold_take 52 (.bool false) rfl (by kernel_rfl) (by kernel_rfl) (by kernel_rfl) (by kernel_rfl) (by kernel_rfl) (fun _ _ _ h => h) (by rfl) (fun _ => rfl) hSy (fun w' hS => by obtain ⟨q0, q1, q2, q3, q4, q5, q6, q7⟩ := hS; go_simp; (first | done | rfl | simp)) ?_
        simp only [Act.put, List.setIfInBounds_toArray, List.set_cons_zero, List.set_cons_succ]
        refine hold_take 53 (.bool false) rfl (by kernel_rfl) (by kernel_rfl) (by kernel_rfl) (by kernel_rfl) (by kernel_rfl) (fun _ _ _ h => h) (by rfl) (fun _ => rfl) hSy (fun w' hS => by obtain ⟨q0, q1, q2, q3, q4, q5, q6, q7⟩ := hS; go_simp; (first | done | rfl | simp)) ?_
        simp only [Act.put, List.setIfInBounds_toArray, List.set_cons_zero, List.set_cons_succ]
        refine held_done (by kernel_rfl) ?_ _
        have HN8 := cover (hrel.out.trans (hBy.mono hrel.out.size))
        clear h3 hSz hSy hBz hBy hb0 hbW0 HS hrel HRI
        go_wp2
        go_roundw
        case rel => exact ⟨j + 1, by omega, by go_num, HN8⟩
        case measure => simp [intOf]; omega
      · have hxz : (x != 0) = true := by simpa using hx0
        obtain ⟨cl, hcl⟩ : ∃ cl, cl = clsS l x := ⟨_, rfl⟩
        have hcl4 : 1 ≤ cl ∧ cl ≤ 4 := by rw [hcl]; exact (hxm.resolve_left hx0)
        have s6 := rclass_has hXr.has x
        rw [← hcl] at s6
        have s7 := rtypes_any cl (by omega) (by omega) wr
        rw [if_neg (by omega)] at s7
        obtain ⟨tv, htve⟩ : ∃ tv, tv = typS cl := ⟨_, rfl⟩
        rw [← htve] at s7
        have htb7 : 0 ≤ tv ∧ tv ≤ 7 := by rw [htve]; exact typ_small cl
        have htv : typS (clsS l x) = tv := by rw [htve, hcl]
        have hw8 : IntKind.u8.wrap tv = tv := by rw [IntKind.wrap_u8]; omega
        have HTV := cover htv
        clear hx0 hcl htve htv hxm hv1
        go_wp2_with fail
        refine s6.mono ?_
        rintro e w9 ⟨rfl, rfl⟩
        go_wp2_with fail
        refine s7.mono ?_
        rintro e w9 ⟨rfl, hbW⟩
        have hrowi : Row w9 w9.heap.size Ai 3 [129, tv, 128] := by
          have h := OwnB.row (ownB_below hii hbW)
          rw [show (⟨2, x, true, 2, 1, 0, 0, true, [129, typS (clsS l x), 128]⟩ : PV).info = [129, tv, 128] from by rw [← HTV.out]] at h
          exact h
        have HRI := cover hrowi
        have hb0 : Below w9.heap.size w9 w9.drew := (Below.refl _ _).drew
        have hbW0 : Below wr.heap.size wr w9.drew := hbW.trans (hb0.mono hbW.size)
        have h3 : (fun W' : World => W'.cell? ⟨g, j, none⟩ = some (.int .i64 x) ∧ W'.cell? ⟨gp, j * 9, none⟩ = some (.int .i64 2) ∧ W'.cell? ⟨gp, j * 9 + 1, none⟩ = some (.int .i64 x) ∧ W'.cell? ⟨gp, j * 9 + 2, none⟩ = some (.bool true) ∧ W'.cell? ⟨gp, j * 9 + 4, none⟩ = some (.int .i64 1) ∧ W'.cell? ⟨gp, j * 9 + 7, none⟩ = some (.bool true) ∧ W'.cell? ⟨gp, j * 9 + 8, none⟩ = some (.slice Ai 3 mi) ∧ Below wr.heap.size wr W') w9.drew := HS.out _ hbW0
        clear hx hci hii hrowi hXr s6 s7
        go_wp2_with fail
        clear hc0
        refine (wpIn_wide (n := 0)).1 ?_
        refine held_begin (fun W' : World => W'.cell? ⟨g, j, none⟩ = some (.int .i64 x) ∧ W'.cell? ⟨gp, j * 9, none⟩ = some (.int .i64 2) ∧ W'.cell? ⟨gp, j * 9 + 1, none⟩ = some (.int .i64 x) ∧ W'.cell? ⟨gp, j * 9 + 2, none⟩ = some (.bool true) ∧ W'.cell? ⟨gp, j * 9 + 4, none⟩ = some (.int .i64 1) ∧ W'.cell? ⟨gp, j * 9 + 7, none⟩ = some (.bool true) ∧ W'.cell? ⟨gp, j * 9 + 8, none⟩ = some (.slice Ai 3 mi) ∧ Below wr.heap.size wr W') 99 mixed ?_
        refine hold_take 0 _ rfl (by kernel_rfl) (by kernel_rfl) (by kernel_rfl) (by kernel_rfl) (by kernel_rfl) (fun _ _ _ h => h) (by rfl) (fun _ => rfl) h3 (fun w' hS => by obtain ⟨q0, q1, q2, q3, q4, q5, q6, q7⟩ := hS; go_simp; rfl) ?_
        simp only [Act.put, List.setIfInBounds_toArray, List.set_cons_zero, List.set_cons_succ]
        refine hold_take 1 _ rfl (by kernel_rfl) (by kernel_rfl) (by kernel_rfl) (by kernel_rfl) (by kernel_rfl) (fun _ _ _ h => h) (by rfl) (fun _ => rfl) h3 (fun w' hS => by obtain ⟨q0, q1, q2, q3, q4, q5, q6, q7⟩ := hS; go_simp; rfl) ?_
        simp only [Act.put, List.setIfInBounds_toArray, List.set_cons_zero, List.set_cons_succ]
        refine hold_take 2 _ rfl (by kernel_rfl) (by kernel_rfl) (by kernel_rfl) (by kernel_rfl) (by kernel_rfl) (fun _ _ _ h => h) (by rfl) (fun _ => rfl) h3 (fun w' hS => by obtain ⟨q0, q1, q2, q3, q4, q5, q6, q7⟩ := hS; go_simp; rfl) ?_
        simp only [Act.put, List.setIfInBounds_toArray, List.set_cons_zero, List.set_cons_succ]
        refine hold_take 3 _ rfl (by kernel_rfl) (by kernel_rfl) (by kernel_rfl) (by kernel_rfl) (by kernel_rfl) (fun _ _ _ h => h) (by rfl) (fun _ => rfl) h3 (fun w' hS => by obtain ⟨q0, q1, q2, q3, q4, q5, q6, q7⟩ := hS; go_simp; rfl) ?_
        simp only [Act.put, List.setIfInBounds_toArray, List.set_cons_zero, List.set_cons_succ]
        refine hold_take 4 _ rfl (by kernel_rfl) (by kernel_rfl) (by kernel_rfl) (by kernel_rfl) (by kernel_rfl) (fun _ _ _ h => h) (by rfl) (fun _ => rfl) h3 (fun w' hS => by obtain ⟨q0, q1, q2, q3, q4, q5, q6, q7⟩ := hS; go_simp; rfl) ?_
        simp only [Act.put, List.setIfInBounds_toArray, List.set_cons_zero, List.set_cons_succ]
        refine hold_take 5 _ rfl (by kernel_rfl) (by kernel_rfl) (by kernel_rfl) (by kernel_rfl) (by kernel_rfl) (fun _ _ _ h => h) (by rfl) (fun _ => rfl) h3 (fun w' hS => by obtain ⟨q0, q1, q2, q3, q4, q5, q6, q7⟩ := hS; go_simp; rfl) ?_
        simp only [Act.put, List.setIfInBounds_toArray, List.set_cons_zero, List.set_cons_succ]
        refine hold_take 6 _ rfl (by kernel_rfl) (by kernel_rfl) (by kernel_rfl) (by kernel_rfl) (by kernel_rfl) (fun _ _ _ h => h) (by rfl) (fun _ => rfl) h3 (fun w' hS => by obtain ⟨q0, q1, q2, q3, q4, q5, q6, q7⟩ := hS; go_simp; rfl) ?_
        simp only [Act.put, List.setIfInBounds_toArray, List.set_cons_zero, List.set_cons_succ]
        refine hold_take 7 _ rfl (by kernel_rfl) (by kernel_rfl) (by kernel_rfl) (by kernel_rfl) (by kernel_rfl) (fun _ _ _ h => h) (by rfl) (fun _ => rfl) h3 (fun w' hS => by obtain ⟨q0, q1, q2, q3, q4, q5, q6, q7⟩ := hS; go_simp; rfl) ?_
        simp only [Act.put, List.setIfInBounds_toArray, List.set_cons_zero, List.set_cons_succ]
        refine hold_take 8 _ rfl (by kernel_rfl) (by kernel_rfl) (by kernel_rfl) (by kernel_rfl) (by kernel_rfl) (fun _ _ _ h => h) (by rfl) (fun _ => rfl) h3 (fun w' hS => by obtain ⟨q0, q1, q2, q3, q4, q5, q6, q7⟩ := hS; go_simp; rfl) ?_
        simp only [Act.put, List.setIfInBounds_toArray, List.set_cons_zero, List.set_cons_succ]
        refine hold_take 9 (.bool false) rfl (by kernel_rfl) (by kernel_rfl) (by kernel_rfl) (by kernel_rfl) (by kernel_rfl) (fun _ _ _ h => h) (by rfl) (fun _ => rfl) h3 (fun w' hS => by obtain ⟨q0, q1, q2, q3, q4, q5, q6, q7⟩ := hS; go_simp; (first | done | rfl | simp)) ?_
        simp only [Act.put, List.setIfInBounds_toArray, List.set_cons_zero, List.set_cons_succ]
        refine hold_take 10 (.bool false) rfl (by kernel_rfl) (by kernel_rfl) (by kernel_rfl) (by kernel_rfl) (by kernel_rfl) (fun _ _ _ h => h) (by rfl) (fun _ => rfl) h3 (fun w' hS => by obtain ⟨q0, q1, q2, q3, q4, q5, q6, q7⟩ := hS; go_simp; (first | done | rfl | simp)) ?_
        simp only [Act.put, List.setIfInBounds_toArray, List.set_cons_zero, List.set_cons_succ]
        refine hold_take 11 _ rfl (by kernel_rfl) (by kernel_rfl) (by kernel_rfl) (by kernel_rfl) (by kernel_rfl) (fun _ _ _ h => h) (by rfl) (fun _ => rfl) h3 (fun w' hS => by obtain ⟨q0, q1, q2, q3, q4, q5, q6, q7⟩ := hS; go_simp; rfl) ?_
        simp only [Act.put, List.setIfInBounds_toArray, List.set_cons_zero, List.set_cons_succ]
        refine hold_take 12 _ rfl (by kernel_rfl) (by kernel_rfl) (by kernel_rfl) (by kernel_rfl) (by kernel_rfl) (fun _ _ _ h => h) (by rfl) (fun _ => rfl) h3 (fun w' hS => by obtain ⟨q0, q1, q2, q3, q4, q5, q6, q7⟩ := hS; go_simp; rfl) ?_
        simp only [Act.put, List.setIfInBounds_toArray, List.set_cons_zero, List.set_cons_succ]
        refine hold_take 13 _ rfl (by kernel_rfl) (by kernel_rfl) (by kernel_rfl) (by kernel_rfl) (by kernel_rfl) (fun _ _ _ h => h) (by rfl) (fun _ => rfl) h3 (fun w' hS => by obtain ⟨q0, q1, q2, q3, q4, q5, q6, q7⟩ := hS; go_simp; rfl) ?_
        simp only [Act.put, List.setIfInBounds_toArray, List.set_cons_zero, List.set_cons_succ]
        refine hold_take 14 _ rfl (by kernel_rfl) (by kernel_rfl) (by kernel_rfl) (by kernel_rfl) (by kernel_rfl) (fun _ _ _ h => h) (by rfl) (fun _ => rfl) h3 (fun w' hS => by obtain ⟨q0, q1, q2, q3, q4, q5, q6, q7⟩ := hS; go_simp; rfl) ?_
        simp only [Act.put, List.setIfInBounds_toArray, List.set_cons_zero, List.set_cons_succ]
        refine hold_take 15 _ rfl (by kernel_rfl) (by kernel_rfl) (by kernel_rfl) (by kernel_rfl) (by kernel_rfl) (fun _ _ _ h => h) (by rfl) (fun _ => rfl) h3 (fun w' hS => by obtain ⟨q0, q1, q2, q3, q4, q5, q6, q7⟩ := hS; go_simp; rfl) ?_
        simp only [Act.put, List.setIfInBounds_toArray, List.set_cons_zero, List.set_cons_succ]
        refine hold_take 16 (.bool false) rfl (by kernel_rfl) (by kernel_rfl) (by kernel_rfl) (by kernel_rfl) (by kernel_rfl) (fun _ _ _ h => h) (by rfl) (fun _ => rfl) h3 (fun w' hS => by obtain ⟨q0, q1, q2, q3, q4, q5, q6, q7⟩ := hS; go_simp; (first | done | rfl | simp)) ?_
        simp only [Act.put, List.setIfInBounds_toArray, List.set_cons_zero, List.set_cons_succ]
        refine hold_take 17 (.bool false) rfl (by kernel_rfl) (by kernel_rfl) (by kernel_rfl) (by kernel_rfl) (by kernel_rfl) (fun _ _ _ h => h) (by rfl) (fun _ => rfl) h3 (fun w' hS => by obtain ⟨q0, q1, q2, q3, q4, q5, q6, q7⟩ := hS; go_simp; (first | done | rfl | simp)) ?_
        simp only [Act.put, List.setIfInBounds_toArray, List.set_cons_zero, List.set_cons_succ]
        refine hold_take 18 (.bool false) rfl (by kernel_rfl) (by kernel_rfl) (by kernel_rfl) (by kernel_rfl) (by kernel_rfl) (fun _ _ _ h => h) (by rfl) (fun _ => rfl) h3 (fun w' hS => by obtain ⟨q0, q1, q2, q3, q4, q5, q6, q7⟩ := hS; go_simp; (first | done | rfl | simp)) ?_
        simp only [Act.put, List.setIfInBounds_toArray, List.set_cons_zero, List.set_cons_succ]
        refine hold_take 19 _ rfl (by kernel_rfl) (by kernel_rfl) (by kernel_rfl) (by kernel_rfl) (by kernel_rfl) (fun _ _ _ h => h) (by rfl) (fun _ => rfl) h3 (fun w' hS => by obtain ⟨q0, q1, q2, q3, q4, q5, q6, q7⟩ := hS; go_simp; rfl) ?_
        simp only [Act.put, List.setIfInBounds_toArray, List.set_cons_zero, List.set_cons_succ]
        refine hold_take 20 _ rfl (by kernel_rfl) (by kernel_rfl) (by kernel_rfl) (by kernel_rfl) (by kernel_rfl) (fun _ _ _ h => h) (by rfl) (fun _ => rfl) h3 (fun w' hS => by obtain ⟨q0, q1, q2, q3, q4, q5, q6, q7⟩ := hS; go_simp; rfl) ?_
        simp only [Act.put, List.setIfInBounds_toArray, List.set_cons_zero, List.set_cons_succ]
        refine hold_take 21 _ rfl (by kernel_rfl) (by kernel_rfl) (by kernel_rfl) (by kernel_rfl) (by kernel_rfl) (fun _ _ _ h => h) (by rfl) (fun _ => rfl) h3 (fun w' hS => by obtain ⟨q0, q1, q2, q3, q4, q5, q6, q7⟩ := hS; go_simp; rfl) ?_
        simp only [Act.put, List.setIfInBounds_toArray, List.set_cons_zero, List.set_cons_succ]
        refine hold_take 22 _ rfl (by kernel_rfl) (by kernel_rfl) (by kernel_rfl) (by kernel_rfl) (by kernel_rfl) (fun _ _ _ h => h) (by rfl) (fun _ => rfl) h3 (fun w' hS => by obtain ⟨q0, q1, q2, q3, q4, q5, q6, q7⟩ := hS; go_simp; rfl) ?_
        simp only [Act.put, List.setIfInBounds_toArray, List.set_cons_zero, List.set_cons_succ]
        refine hold_take 23 _ rfl (by kernel_rfl) (by kernel_rfl) (by kernel_rfl) (by kernel_rfl) (by kernel_rfl) (fun _ _ _ h => h) (by rfl) (fun _ => rfl) h3 (fun w' hS => by obtain ⟨q0, q1, q2, q3, q4, q5, q6, q7⟩ := hS; go_simp; rfl) ?_
        simp only [Act.put, List.setIfInBounds_toArray, List.set_cons_zero, List.set_cons_succ]
        refine hold_take 24 (.bool false) rfl (by kernel_rfl) (by kernel_rfl) (by kernel_rfl) (by kernel_rfl) (by kernel_rfl) (fun _ _ _ h => h) (by rfl) (fun _ => rfl) h3 (fun w' hS => by obtain ⟨q0, q1, q2, q3, q4, q5, q6, q7⟩ := hS; go_simp; (first | done | rfl | simp)) ?_
        simp only [Act.put, List.setIfInBounds_toArray, List.set_cons_zero, List.set_cons_succ]
        refine hold_take 25 (.bool false) rfl (by kernel_rfl) (by kernel_rfl) (by kernel_rfl) (by kernel_rfl) (by kernel_rfl) (fun _ _ _ h => h) (by rfl) (fun _ => rfl) h3 (fun w' hS => by obtain ⟨q0, q1, q2, q3, q4, q5, q6, q7⟩ := hS; go_simp; (first | done | rfl | simp)) ?_
        simp only [Act.put, List.setIfInBounds_toArray, List.set_cons_zero, List.set_cons_succ]
        refine hold_take 26 (.bool false) rfl (by kernel_rfl) (by kernel_rfl) (by kernel_rfl) (by kernel_rfl) (by kernel_rfl) (fun _ _ _ h => h) (by rfl) (fun _ => rfl) h3 (fun w' hS => by obtain ⟨q0, q1, q2, q3, q4, q5, q6, q7⟩ := hS; go_simp; (first | done | rfl | simp)) ?_
        simp only [Act.put, List.setIfInBounds_toArray, List.set_cons_zero, List.set_cons_succ]
        refine hold_take 27 _ rfl (by kernel_rfl) (by kernel_rfl) (by kernel_rfl) (by kernel_rfl) (by kernel_rfl) (fun _ _ _ h => h) (by rfl) (fun _ => rfl) h3 (fun w' hS => by obtain ⟨q0, q1, q2, q3, q4, q5, q6, q7⟩ := hS; go_simp; rfl) ?_
        simp only [Act.put, List.setIfInBounds_toArray, List.set_cons_zero, List.set_cons_succ]
        refine hold_take 28 _ rfl (by kernel_rfl) (by kernel_rfl) (by kernel_rfl) (by kernel_rfl) (by kernel_rfl) (fun _ _ _ h => h) (by rfl) (fun _ => rfl) h3 (fun w' hS => by obtain ⟨q0, q1, q2, q3, q4, q5, q6, q7⟩ := hS; go_simp; rfl) ?_
        simp only [Act.put, List.setIfInBounds_toArray, List.set_cons_zero, List.set_cons_succ]
        refine hold_take 29 _ rfl (by kernel_rfl) (by kernel_rfl) (by kernel_rfl) (by kernel_rfl) (by kernel_rfl) (fun _ _ _ h => h) (by rfl) (fun _ => rfl) h3 (fun w' hS => by obtain ⟨q0, q1, q2, q3, q4, q5, q6, q7⟩ := hS; go_simp; rfl) ?_
        simp only [Act.put, List.setIfInBounds_toArray, List.set_cons_zero, List.set_cons_succ]
        refine hold_take 30 _ rfl (by kernel_rfl) (by kernel_rfl) (by kernel_rfl) (by kernel_rfl) (by kernel_rfl) (fun _ _ _ h => h) (by rfl) (fun _ => rfl) h3 (fun w' hS => by obtain ⟨q0, q1, q2, q3, q4, q5, q6, q7⟩ := hS; go_simp; rfl) ?_
        simp only [Act.put, List.setIfInBounds_toArray, List.set_cons_zero, List.set_cons_succ]
        refine hold_take 31 _ rfl (by kernel_rfl) (by kernel_rfl) (by kernel_rfl) (by kernel_rfl) (by kernel_rfl) (fun _ _ _ h => h) (by rfl) (fun _ => rfl) h3 (fun w' hS => by obtain ⟨q0, q1, q2, q3, q4, q5, q6, q7⟩ := hS; go_simp; rfl) ?_
        simp only [Act.put, List.setIfInBounds_toArray, List.set_cons_zero, List.set_cons_succ]
        refine hold_take 32 (.bool false) rfl (by kernel_rfl) (by kernel_rfl) (by kernel_rfl) (by kernel_rfl) (by kernel_rfl) (fun _ _ _ h => h) (by rfl) (fun _ => rfl) h3 (fun w' hS => by obtain ⟨q0, q1, q2, q3, q4, q5, q6, q7⟩ := hS; go_simp; (first | done | rfl | simp)) ?_
        simp only [Act.put, List.setIfInBounds_toArray, List.set_cons_zero, List.set_cons_succ]
        refine hold_take 33 (.bool false) rfl (by kernel_rfl) (by kernel_rfl) (by kernel_rfl) (by kernel_rfl) (by kernel_rfl) (fun _ _ _ h => h) (by rfl) (fun _ => rfl) h3 (fun w' hS => by obtain ⟨q0, q1, q2, q3, q4, q5, q6, q7⟩ := hS; go_simp; (first | done | rfl | simp)) ?_
        simp only [Act.put, List.setIfInBounds_toArray, List.set_cons_zero, List.set_cons_succ]
        refine hold_take 34 (.bool false) rfl (by kernel_rfl) (by kernel_rfl) (by kernel_rfl) (by kernel_rfl) (by kernel_rfl) (fun _ _ _ h => h) (by rfl) (fun _ => rfl) h3 (fun w' hS => by obtain ⟨q0, q1, q2, q3, q4, q5, q6, q7⟩ := hS; go_simp; (first | done | rfl | simp)) ?_
        simp only [Act.put, List.setIfInBounds_toArray, List.set_cons_zero, List.set_cons_succ]
        refine hold_take 35 _ rfl (by kernel_rfl) (by kernel_rfl) (by kernel_rfl) (by kernel_rfl) (by kernel_rfl) (fun _ _ _ h => h) (by rfl) (fun _ => rfl) h3 (fun w' hS => by obtain ⟨q0, q1, q2, q3, q4, q5, q6, q7⟩ := hS; go_simp; rfl) ?_
        simp only [Act.put, List.setIfInBounds_toArray, List.set_cons_zero, List.set_cons_succ]
        refine hold_take 36 _ rfl (by kernel_rfl) (by kernel_rfl) (by kernel_rfl) (by kernel_rfl) (by kernel_rfl) (fun _ _ _ h => h) (by rfl) (fun _ => rfl) h3 (fun w' hS => by obtain ⟨q0, q1, q2, q3, q4, q5, q6, q7⟩ := hS; go_simp; rfl) ?_
        simp only [Act.put, List.setIfInBounds_toArray, List.set_cons_zero, List.set_cons_succ]
        refine hold_take 37 _ rfl (by kernel_rfl) (by kernel_rfl) (by kernel_rfl) (by kernel_rfl) (by kernel_rfl) (fun _ _ _ h => h) (by rfl) (fun _ => rfl) h3 (fun w' hS => by obtain ⟨q0, q1, q2, q3, q4, q5, q6, q7⟩ := hS; go_simp; rfl) ?_
        simp only [Act.put, List.setIfInBounds_toArray, List.set_cons_zero, List.set_cons_succ]
        refine hold_take 38 _ rfl (by kernel_rfl) (by kernel_rfl) (by kernel_rfl) (by kernel_rfl) (by kernel_rfl) (fun _ _ _ h => h) (by rfl) (fun _ => rfl) h3 (fun w' hS => by obtain ⟨q0, q1, q2, q3, q4, q5, q6, q7⟩ := hS; go_simp; rfl) ?_
        simp only [Act.put, List.setIfInBounds_toArray, List.set_cons_zero, List.set_cons_succ]
        refine hold_take 39 _ rfl (by kernel_rfl) (by kernel_rfl) (by kernel_rfl) (by kernel_rfl) (by kernel_rfl) (fun _ _ _ h => h) (by rfl) (fun _ => rfl) h3 (fun w' hS => by obtain ⟨q0, q1, q2, q3, q4, q5, q6, q7⟩ := hS; go_simp; rfl) ?_
        simp only [Act.put, List.setIfInBounds_toArray, List.set_cons_zero, List.set_cons_succ]
        refine hold_take 40 (.bool false) rfl (by kernel_rfl) (by kernel_rfl) (by kernel_rfl) (by kernel_rfl) (by kernel_rfl) (fun _ _ _ h => h) (by rfl) (fun _ => rfl) h3 (fun w' hS => by obtain ⟨q0, q1, q2, q3, q4, q5, q6, q7⟩ := hS; go_simp; (first | done | rfl | simp)) ?_
        simp only [Act.put, List.setIfInBounds_toArray, List.set_cons_zero, List.set_cons_succ]
        refine hold_take 41 (.bool false) rfl (by kernel_rfl) (by kernel_rfl) (by kernel_rfl) (by kernel_rfl) (by kernel_rfl) (fun _ _ _ h => h) (by rfl) (fun _ => rfl) h3 (fun w' hS => by obtain ⟨q0, q1, q2, q3, q4, q5, q6, q7⟩ := hS; go_simp; (first | done | rfl | simp)) ?_
        simp only [Act.put, List.setIfInBounds_toArray, List.set_cons_zero, List.set_cons_succ]
        refine hold_take 42 (.bool false) rfl (by kernel_rfl) (by kernel_rfl) (by kernel_rfl) (by kernel_rfl) (by kernel_rfl) (fun _ _ _ h => h) (by rfl) (fun _ => rfl) h3 (fun w' hS => by obtain ⟨q0, q1, q2, q3, q4, q5, q6, q7⟩ := hS; go_simp; (first | done | rfl | simp)) ?_
        simp only [Act.put, List.setIfInBounds_toArray, List.set_cons_zero, List.set_cons_succ]
        refine hold_take 43 _ rfl (by kernel_rfl) (by kernel_rfl) (by kernel_rfl) (by kernel_rfl) (by kernel_rfl) (fun _ _ _ h => h) (by rfl) (fun _ => rfl) h3 (fun w' hS => by obtain ⟨q0, q1, q2, q3, q4, q5, q6, q7⟩ := hS; go_simp; rfl) ?_
        simp only [Act.put, List.setIfInBounds_toArray, List.set_cons_zero, List.set_cons_succ]
        refine hold_take 44 _ rfl (by kernel_rfl) (by kernel_rfl) (by kernel_rfl) (by kernel_rfl) (by kernel_rfl) (fun _ _ _ h => h) (by rfl) (fun _ => rfl) h3 (fun w' hS => by obtain ⟨q0, q1, q2, q3, q4, q5, q6, q7⟩ := hS; go_simp; rfl) ?_
        simp only [Act.put, List.setIfInBounds_toArray, List.set_cons_zero, List.set_cons_succ]
        refine hold_take 45 _ rfl (by kernel_rfl) (by kernel_rfl) (by kernel_rfl) (by kernel_rfl) (by kernel_rfl) (fun _ _ _ h => h) (by rfl) (fun _ => rfl) h3 (fun w' hS => by obtain ⟨q0, q1, q2, q3, q4, q5, q6, q7⟩ := hS; go_simp; rfl) ?_
        simp only [Act.put, List.setIfInBounds_toArray, List.set_cons_zero, List.set_cons_succ]
        refine hold_take 46 _ rfl (by kernel_rfl) (by kernel_rfl) (by kernel_rfl) (by kernel_rfl) (by kernel_rfl) (fun _ _ _ h => h) (by rfl) (fun _ => rfl) h3 (fun w' hS => by obtain ⟨q0, q1, q2, q3, q4, q5, q6, q7⟩ := hS; go_simp; rfl) ?_
        simp only [Act.put, List.setIfInBounds_toArray, List.set_cons_zero, List.set_cons_succ]
        refine hold_take 47 _ rfl (by kernel_rfl) (by kernel_rfl) (by kernel_rfl) (by kernel_rfl) (by kernel_rfl) (fun _ _ _ h => h) (by rfl) (fun _ => rfl) h3 (fun w' hS => by obtain ⟨q0, q1, q2, q3, q4, q5, q6, q7⟩ := hS; go_simp; rfl) ?_
        simp only [Act.put, List.setIfInBounds_toArray, List.set_cons_zero, List.set_cons_succ]
        refine hold_take 48 _ rfl (by kernel_rfl) (by kernel_rfl) (by kernel_rfl) (by kernel_rfl) (by kernel_rfl) (fun _ _ _ h => h) (by rfl) (fun _ => rfl) h3 (fun w' hS => by obtain ⟨q0, q1, q2, q3, q4, q5, q6, q7⟩ := hS; go_simp; rfl) ?_
        simp only [Act.put, List.setIfInBounds_toArray, List.set_cons_zero, List.set_cons_succ]
        refine hold_take 49 (.int .u8 tv) rfl (by kernel_rfl) (by kernel_rfl) (by kernel_rfl) (by kernel_rfl) (by kernel_rfl) (fun _ _ _ h => h) (by rfl) (fun _ => rfl) h3 (fun w' hS => by obtain ⟨q0, q1, q2, q3, q4, q5, q6, q7⟩ := hS; go_simp; (first | done | rfl | simp)) ?_
        simp only [Act.put, List.setIfInBounds_toArray, List.set_cons_zero, List.set_cons_succ]
        refine hold_one 50 (by kernel_rfl) rfl (by rfl) fun K hK => ?_
        obtain ⟨z, hz⟩ : ∃ z, z = w9.drew.heap.size := ⟨_, rfl⟩
        obtain ⟨wz, hwz⟩ : ∃ wz, wz = w9.drew.alloc (.cells #[.int .u8 129, .int .u8 tv, .int .u8 128] 5) := ⟨_, rfl⟩
        have hmz : Below w9.drew.heap.size w9.drew wz := by rw [hwz]; exact (Below.refl _ _).alloc (Nat.le_refl _) _
        have hBz : Below wr.heap.size wr wz := hbW0.trans (hmz.mono hbW0.size)
        have hSz := HS.out _ hBz
        have hrz : Row wz (z + 1) (some ⟨z, 0, none⟩) 3 [129, tv, 128] := by rw [hwz, hz]; exact RowK.made _ [129, tv, 128] _ _ rfl
        have s9 := same_any Ai (some ⟨z, 0, none⟩) 3 mi 3 w9.heap.size (z + 1) [129, tv, 128] [129, tv, 128] wz (HRI.out.below (hb0.trans (hmz.mono hb0.size))) hrz (by decide)
        rw [decide_eq_true rfl] at s9
        refine run_in (fun c h => by cases h) (fun _ _ => trivial) (v := .slice (some ⟨z, 0, none⟩) 3 3) (w' := wz) (by rw [hwz, hz]; go_simp) ?_
        refine hK _ _ (.inr hSz) ?_
        clear hK K hwz hz hmz hrz
        simp only [Act.put, List.setIfInBounds_toArray, List.set_cons_zero, List.set_cons_succ]
        refine hold_one 51 (by kernel_rfl) rfl (by rfl) fun K hK => ?_
        go_simp
        refine ⟨trivial, rfl, (callsIn_wide.2 s9).mono ?_⟩
        rintro e wy ⟨rfl, dd, rfl⟩
        have hBy : Below wr.heap.size wr (wz.drewN dd) := below_drewN hBz dd
        have hSy := HS.out _ hBy
        refine hK _ _ (.inr hSy) ?_
        clear hK K s9
        refine hold_take 52 (.bool false) rfl (by kernel_rfl) (by kernel_rfl) (by kernel_rfl) (by kernel_rfl) (by kernel_rfl) (fun _ _ _ h => h) (by rfl) (fun _ => rfl) hSy (fun w' hS => by obtain ⟨q0, q1, q2, q3, q4, q5, q6, q7⟩ := hS; go_simp; (first | done | rfl | simp)) ?_
        simp only [Act.put, List.setIfInBounds_toArray, List.set_cons_zero, List.set_cons_succ]
        refine hold_take 53 (.bool false) rfl (by kernel_rfl) (by kernel_rfl) (by kernel_rfl) (by kernel_rfl) (by kernel_rfl) (fun _ _ _ h => h) (by rfl) (fun _ => rfl) hSy (fun w' hS => by obtain ⟨q0, q1, q2, q3, q4, q5, q6, q7⟩ := hS; go_simp; (first | done | rfl | simp)) ?_
        simp only [Act.put, List.setIfInBounds_toArray, List.set_cons_zero, List.set_cons_succ]
        refine held_done (by kernel_rfl) ?_ _
        have HN8 := cover (hrel.out.trans (hBy.mono hrel.out.size))
        clear h3 hSz hSy hBz hBy hb0 hbW0 HS hrel HRI
        go_wp2
        go_roundw
        case rel => exact ⟨j + 1, by omega, by go_num, HN8⟩
        case measure => simp [intOf]; omega
    · obtain rfl : j = n := by omega
      have HV := cover (HV9.out.below hrel.out)
      have hbr : Below b w wr := HX.out.bel.trans (hrel.out.mono (HSz.out _ HX.out.bel))
      have hbs := HSz.out wr hbr
      have hm3 : bits BinOp.and IntKind.u8 wd 127 = wm := by rw [HW.out]; exact (mask_127 hwd).1
      have hm4 : IntKind.u8.wrap (2 * wm) = 2 * wm := by rw [IntKind.wrap_u8, HW.out]; omega
      have d8 : wr.cell? ⟨g4, 8, none⟩ = some (.slice A4 3 c4) := by
        obtain ⟨_, _, _, _, _, _, _, _, h8⟩ := pdu_cells HV.out.hd
        rw [HP.out.2.2.2.2.2.1] at h8; exact h8
      obtain ⟨wz, hwz⟩ : ∃ wz, wz = wr.alloc (.cells #[.int .u8 129, .int .u8 7, .int .u8 (2 * wm)] 5) := ⟨_, rfl⟩
      have hbz : Below wr.heap.size wr wz := by rw [hwz]; exact (Below.refl _ _).alloc (Nat.le_refl _) _
      have hrw : Row wr wr.heap.size A4 3 [129, 7, 2 * wm] := by
        have h := HV.out.row
        rw [HP.out.2.2.2.2.1] at h; exact h
      have s9 := same_any A4 (some ⟨wr.heap.size, 0, none⟩) 3 c4 3 wr.heap.size (wr.heap.size + 1) [129, 7, 2 * wm] [129, 7, 2 * wm] wz (hrw.below hbz) (by rw [hwz]; exact RowK.made wr [129, 7, 2 * wm] _ _ rfl) (by decide)
      rw [decide_eq_true rfl] at s9
      have HH9 := cover s9
      have HZ := cover (hbr.trans (hbz.mono hbs))
      clear hrel HV hbr s9 hbz hrw
      go_wp2_with (rw [← hwz]; refine HH9.out.mono ?_)
      rintro e wy ⟨rfl, dd, rfl⟩
      clear hwz HH9
      go_wp2
      go_ret
      exact ⟨rfl, below_drewN HZ.out dd⟩
set_option maxRecDepth 100000 in
set_option maxHeartbeats 1600000 in
theorem walk_PlainXid_o (A : Option Addr) (len cap : Nat) (ds : List (Int × Int × Int)) (tt wd : Int) (w : World) (hlc : len ≤ cap) (hd : Deeds w w.heap.size A len ds ∧ ∀ q ∈ ds, (-9223372036854775808 ≤ q.1 ∧ q.1 ≤ 9223372036854775807) ∧ (-9223372036854775808 ≤ q.2.1 ∧ q.2.1 ≤ 9223372036854775807) ∧ (-9223372036854775808 ≤ q.2.2 ∧ q.2.2 ≤ 9223372036854775807))
    (ht : 0 ≤ tt ∧ tt ≤ 255) (hwd : 0 ≤ wd ∧ wd ≤ 255) (htc : ¬ (tt = 0 ∨ tt = 255)) :
    Calls Try.prog 8 #[.slice A len cap, .int .u8 tt, .int .u8 wd] w fun e w' => e = .returned (.bool true) ∧ Below w.heap.size w w' := by
  have HTC := cover htc
  clear htc
  obtain ⟨b, hb⟩ : ∃ b, w.heap.size = b := ⟨_, rfl⟩
  rw [hb] at hd ⊢
  have HDD := cover hd
  have HSz : Hid (∀ W, Below b w W → b ≤ W.heap.size) := cover fun W hW => by rw [← hb]; exact hW.size
  have HAW := cover (awake_any w)
  rw [hb] at HAW
  clear hd hb
  go_enter Try.func8, Try.ntmps8
  go_wp2_with fail
  refine HAW.out.mono ?_
  rintro e w2 ⟨rfl, hb2⟩
  clear HAW
  by_cases h100 : 100 < len
  · have hl : (100 : Int) < (len : Int) := by omega
    have HN := cover hb2
    clear HDD HSz hb2
    go_wp2
    go_ret
    exact ⟨rfl, HN.out⟩
  have hl : ¬ (100 : Int) < (len : Int) := by omega
  go_wp2_with fail
  refine (made_any (B := b) hlc (by omega) (HSz.out w2 hb2) (HDD.out.1.below hb2) HDD.out.2).mono ?_
  rintro e w3 ⟨s, r, l, rfl, H3⟩
  have hb3 : Below b w w3 := hb2.trans H3.out.bel
  obtain ⟨wm, hwm⟩ : ∃ wm : Int, wm = wd % 128 := ⟨_, rfl⟩
  have hm0 : IntKind.i64.wrap tt = tt := by rw [IntKind.wrap_i64]; omega
  have hm1 : IntKind.i64.wrap wd = wd := by rw [IntKind.wrap_i64]; omega
  have hm2 : bits BinOp.and IntKind.i64 wd 127 = wm := by rw [hwm]; exact (mask_127 hwd).2
  have HW := cover hwm
  have s4 := askXid_any 2 tt wm w3
  rw [show askX 2 tt wm = ((⟨tt, 2, false, 2, 1, 0, 0, true, [129, 7, 2 * wm]⟩ : PV), 0) from by
    unfold askX
    rw [if_pos (by omega)]
    exact askP_yes ⟨by unfold OkSap xidQ; simp, ht⟩ (by simp)] at s4
  obtain ⟨p, hp⟩ : ∃ p : PV, p = ⟨tt, 2, false, 2, 1, 0, 0, true, [129, 7, 2 * wm]⟩ := ⟨_, rfl⟩
  have HP : Hid (IsOne p ∧ p.kind = 1 ∧ p.to = tt ∧ p.frm = 2 ∧ p.info = [129, 7, 2 * wm] ∧ p.info.length = 3 ∧ p.resp = false ∧ p.poll = true) := cover (by
    rw [hp]
    exact ⟨one_ask (q := xidQ 2 tt) rfl (by unfold xidQ; simp) rfl rfl rfl (by unfold OkSap xidQ; simp) ht (by simp), rfl, rfl, rfl, rfl, rfl, rfl, rfl⟩)
  rw [← hp] at s4
  have HA4 := cover s4
  clear hp s4 hwm
  go_wp2_with fail
  refine HA4.out.mono ?_
  rintro e v4 ⟨A4, c4, rfl, HO⟩
  obtain ⟨w4, hw4, HV4, hbx⟩ := var_new (r := (p, 0)) HO.out.1 HO.out.2
  have hb4 : Below b w w4 := hb3.trans (hbx.out.mono (HSz.out w3 hb3))
  have H4 := cover (H3.out.below hbx.out)
  obtain ⟨g4, hg4⟩ : ∃ g, g = v4.heap.size := ⟨_, rfl⟩
  have HG4 := cover hg4
  rw [← hg4] at HV4
  clear HO hbx H3 hb3 hb2 HA4 hg4 hm1 hm2
  obtain ⟨L, hL⟩ : ∃ L, L = askedS l p := ⟨_, rfl⟩
  have hl17 : L.length ≤ 17 := by rw [hL]; exact asked_len H4.out.has.ok _
  obtain ⟨hsx, hax⟩ := xid_sent (l := l) HP.out.1 HP.out.2.1 HP.out.2.2.2.2.2.2.1 HP.out.2.2.2.1 HP.out.2.2.2.2.2.2.2
  have HLE : Hid (L = (if tt = 0 ∨ tt = 255 then [0] else []) ++ hearS l tt) := cover (by rw [hL, hax, HP.out.2.2.1])
  have HLM : Hid (∀ x ∈ L, x = 0 ∨ (1 ≤ clsS l x ∧ clsS l x ≤ 4)) := cover fun x hx => by
    rw [HLE.out] at hx
    rcases List.mem_append.1 hx with hx | hx
    · split at hx
      · exact .inl (by simpa using hx)
      · cases hx
    · exact .inr (cls_ok H4.out.has.ok (hear_active hx))
  have HC0 : Hid (clsS l 0 = 0) := cover (clsS_no (by
    cases hh : hasS l 0 with
    | false => rfl
    | true => exact absurd (ok_has H4.out.has.ok hh).1 (by omega)))
  rw [← hL] at hsx
  obtain ⟨n, hn⟩ : ∃ n, n = L.length := ⟨_, rfl⟩
  have HNL := cover hn
  rw [← hn] at hl17
  have HHE : Hid (∀ W, Below w4.heap.size w4 W → Calls Try.prog 13 #[ptr s, .agg #[.int .u8 2, .int .u8 0, .int .u8 0, .int .u8 0, .int .u8 0, .int .u8 1], .agg #[.int .i64 p.to, .int .i64 p.frm, .bool p.resp, .int .i64 p.form, .int .i64 p.kind, .int .i64 p.ns, .int .i64 p.nr, .bool p.poll, .slice A4 p.info.length c4]] W (HearOut [] (L.map (fun x => (⟨2, x, true, 2, 1, 0, 0, true, [129, typS (clsS l x), 128]⟩ : PV))) W)) := cover fun W hW => by
    have s5 := hear_go (H4.out.has.below hW) ⟨2, 0, 0, 0, 0, 1⟩ p A4 c4 (HV4.out.below hW).row (by rw [HP.out.2.2.2.2.2.1]; omega)
    rw [toldP_cmd (by rw [HP.out.2.1]; decide) HP.out.2.2.2.2.2.2.1, hsx] at s5
    exact s5
  have HST : Hid (∀ W : World, Calls Try.prog 26 #[.int .i64 1] W fun e w' => e = .returned (.agg #[.int .u8 2, .int .u8 0, .int .u8 0, .int .u8 0, .int .u8 0, .int .u8 1]) ∧ Below W.heap.size W w') := cover fun W => ref_station_in 1 (by omega) (by omega) W
  clear hL hn hax hsx
  have HS : Hid (∀ W', Below w4.heap.size w4 W' → (fun W' : World => (W'.cell? ⟨g4, 0, none⟩ = some (.int .i64 p.to) ∧ W'.cell? ⟨g4, 1, none⟩ = some (.int .i64 p.frm) ∧ W'.cell? ⟨g4, 2, none⟩ = some (.bool p.resp) ∧ W'.cell? ⟨g4, 3, none⟩ = some (.int .i64 p.form) ∧ W'.cell? ⟨g4, 4, none⟩ = some (.int .i64 p.kind) ∧ W'.cell? ⟨g4, 5, none⟩ = some (.int .i64 p.ns) ∧ W'.cell? ⟨g4, 6, none⟩ = some (.int .i64 p.nr) ∧ W'.cell? ⟨g4, 7, none⟩ = some (.bool p.poll) ∧ W'.cell? ⟨g4, 8, none⟩ = some (.slice A4 p.info.length c4)) ∧ Below w4.heap.size w4 W') W') := cover fun W' hb' => by
    exact ⟨pdu_cells (HV4.out.below hb').hd, hb'⟩
  have mixed : Try.prog.follows .mixedOrders = true := by kernel_rfl
  have hb0 : Below w4.heap.size w4 w4.drew := (Below.refl _ _).drew
  have h3 : (fun W' : World => (W'.cell? ⟨g4, 0, none⟩ = some (.int .i64 p.to) ∧ W'.cell? ⟨g4, 1, none⟩ = some (.int .i64 p.frm) ∧ W'.cell? ⟨g4, 2, none⟩ = some (.bool p.resp) ∧ W'.cell? ⟨g4, 3, none⟩ = some (.int .i64 p.form) ∧ W'.cell? ⟨g4, 4, none⟩ = some (.int .i64 p.kind) ∧ W'.cell? ⟨g4, 5, none⟩ = some (.int .i64 p.ns) ∧ W'.cell? ⟨g4, 6, none⟩ = some (.int .i64 p.nr) ∧ W'.cell? ⟨g4, 7, none⟩ = some (.bool p.poll) ∧ W'.cell? ⟨g4, 8, none⟩ = some (.slice A4 p.info.length c4)) ∧ Below w4.heap.size w4 W') w4.drew := HS.out _ hb0
  go_wp2_with (refine wpList_store_row rfl _ _ _ rfl v4.heap.size #[.int .i64 p.to, .int .i64 p.frm, .bool p.resp, .int .i64 p.form, .int .i64 p.kind, .int .i64 p.ns, .int .i64 p.nr, .bool p.poll, .slice A4 p.info.length c4] rfl rfl 29 zp (heap_alloc_new _ _) pdu_size rfl (pdu_one _ _ _ _ _ _ _ _ _ _ _) ?_; rw [← hw4.out, ← HG4.out])
  refine (wpIn_wide (n := 0)).1 ?_
  refine held_begin (fun W' : World => (W'.cell? ⟨g4, 0, none⟩ = some (.int .i64 p.to) ∧ W'.cell? ⟨g4, 1, none⟩ = some (.int .i64 p.frm) ∧ W'.cell? ⟨g4, 2, none⟩ = some (.bool p.resp) ∧ W'.cell? ⟨g4, 3, none⟩ = some (.int .i64 p.form) ∧ W'.cell? ⟨g4, 4, none⟩ = some (.int .i64 p.kind) ∧ W'.cell? ⟨g4, 5, none⟩ = some (.int .i64 p.ns) ∧ W'.cell? ⟨g4, 6, none⟩ = some (.int .i64 p.nr) ∧ W'.cell? ⟨g4, 7, none⟩ = some (.bool p.poll) ∧ W'.cell? ⟨g4, 8, none⟩ = some (.slice A4 p.info.length c4)) ∧ Below w4.heap.size w4 W') 99 mixed ?_
  refine hold_take 0 _ rfl (by kernel_rfl) (by kernel_rfl) (by kernel_rfl) (by kernel_rfl) (by kernel_rfl) (fun _ _ _ h => h) (by rfl) (fun _ => rfl) h3 (fun w' hS => by obtain ⟨⟨q0, q1, q2, q3, q4, q5, q6, q7, q8⟩, qq⟩ := hS; go_simp; rfl) ?_
  simp only [Act.put, List.setIfInBounds_toArray, List.set_cons_zero, List.set_cons_succ]
  refine hold_take 2 _ rfl (by kernel_rfl) (by kernel_rfl) (by kernel_rfl) (by kernel_rfl) (by kernel_rfl) (fun _ _ _ h => h) (by rfl) (fun _ => rfl) h3 (fun w' hS => by obtain ⟨⟨q0, q1, q2, q3, q4, q5, q6, q7, q8⟩, qq⟩ := hS; go_simp; rfl) ?_
  simp only [Act.put, List.setIfInBounds_toArray, List.set_cons_zero, List.set_cons_succ]
  refine hold_one 1 (by kernel_rfl) rfl (by rfl) fun K hK => ?_
  go_simp
  refine ⟨trivial, rfl, (callsIn_wide.2 (HST.out _)).mono ?_⟩
  rintro e w5 ⟨rfl, hb5'⟩
  have hb5 : Below w4.heap.size w4 w5 := hb0.trans (hb5'.mono hb0.size)
  refine hK _ _ (.inr (HS.out _ hb5)) ?_
  clear hK K
  refine hold_one 3 (by kernel_rfl) rfl (by rfl) fun K hK => ?_
  go_simp
  refine ⟨trivial, rfl, (callsIn_wide.2 (HHE.out _ hb5)).mono ?_⟩
  rintro e w6 ⟨A5', c5', A5, c5, rfl, H6⟩
  have hb6 : Below w4.heap.size w4 w6 := hb5.trans (H6.out.2.2.mono hb5.size)
  have h6 := HS.out _ hb6
  rw [List.length_map, ← HNL.out] at H6 ⊢
  refine hK _ _ (.inr h6) ?_
  clear hK K
  refine hold_take 4 _ rfl (by kernel_rfl) (by kernel_rfl) (by kernel_rfl) (by kernel_rfl) (by kernel_rfl) (fun _ _ _ h => h) (by rfl) (fun _ => rfl) h6 (fun w' hS => by obtain ⟨⟨q0, q1, q2, q3, q4, q5, q6, q7, q8⟩, qq⟩ := hS; go_simp; rfl) ?_
  simp only [Act.put, List.setIfInBounds_toArray, List.set_cons_zero, List.set_cons_succ]
  refine hold_take 5 _ rfl (by kernel_rfl) (by kernel_rfl) (by kernel_rfl) (by kernel_rfl) (by kernel_rfl) (fun _ _ _ h => h) (by rfl) (fun _ => rfl) h6 (fun w' hS => by obtain ⟨⟨q0, q1, q2, q3, q4, q5, q6, q7, q8⟩, qq⟩ := hS; go_simp; rfl) ?_
  simp only [Act.put, List.setIfInBounds_toArray, List.set_cons_zero, List.set_cons_succ]
  refine hold_take 6 _ rfl (by kernel_rfl) (by kernel_rfl) (by kernel_rfl) (by kernel_rfl) (by kernel_rfl) (fun _ _ _ h => h) (by rfl) (fun _ => rfl) h6 (fun w' hS => by obtain ⟨⟨q0, q1, q2, q3, q4, q5, q6, q7, q8⟩, qq⟩ := hS; go_simp; rfl) ?_
  simp only [Act.put, List.setIfInBounds_toArray, List.set_cons_zero, List.set_cons_succ]
  refine hold_take 7 _ rfl (by kernel_rfl) (by kernel_rfl) (by kernel_rfl) (by kernel_rfl) (by kernel_rfl) (fun _ _ _ h => h) (by rfl) (fun _ => rfl) h6 (fun w' hS => by obtain ⟨⟨q0, q1, q2, q3, q4, q5, q6, q7, q8⟩, qq⟩ := hS; go_simp; rfl) ?_
  simp only [Act.put, List.setIfInBounds_toArray, List.set_cons_zero, List.set_cons_succ]
  refine hold_take 8 _ rfl (by kernel_rfl) (by kernel_rfl) (by kernel_rfl) (by kernel_rfl) (by kernel_rfl) (fun _ _ _ h => h) (by rfl) (fun _ => rfl) h6 (fun w' hS => by obtain ⟨⟨q0, q1, q2, q3, q4, q5, q6, q7, q8⟩, qq⟩ := hS; go_simp; rfl) ?_
  simp only [Act.put, List.setIfInBounds_toArray, List.set_cons_zero, List.set_cons_succ]
  refine held_done (by kernel_rfl) ?_ _
  have hbw6 : Below b w w6 := hb4.trans (hb6.mono (HSz.out w4 hb4))
  have HV6 := cover (HV4.out.below hb6)
  have HP6 := cover (H6.out.2.1.mono (B' := b) (by have := HSz.out w4 hb4; have := hb5.size; omega))
  have H6b := cover (H4.out.below hb6)
  have s7 := rhears_has H6b.out.ref tt
  have HH7 := cover s7
  clear h3 h6 hb0 hb5 hb5' hb6 H6 HS HHE HST HV4 H4 hw4 s7 hb4
  go_wp2_with fail
  refine HH7.out.mono ?_
  rintro e w7 ⟨A7, c7, rfl, H7⟩
  have hbw7 : Below b w w7 := hbw6.trans (H7.out.2.mono (HSz.out w6 hbw6))
  have HV7 := cover (HV6.out.below H7.out.2)
  have HP7 := cover (HP6.out.below H7.out.2)
  have H7b := cover (H6b.out.below H7.out.2)
  have HR7 := cover (own_base (base' := 0) H7.out.1 (Nat.zero_le _))
  have hz0 : ((((([] : List IV).length : Nat) : Int)) != 0) = false := by decide
  have hnn : ((n : Int) != (n : Int)) = false := by simp
  obtain ⟨m, hm⟩ : ∃ m, m = (hearS l tt).length := ⟨_, rfl⟩
  have hm16 : m ≤ 16 := by rw [hm]; exact hear_len16 H7b.out.has.ok _
  rw [← hm] at HR7 ⊢
  clear HH7 H7 H6b HP6 HV6 hbw6
  have htz : (tt == 0) = false := by simpa using (fun h => HTC.out (.inl h))
  have htb : (tt == 255) = false := by simpa using (fun h => HTC.out (.inr h))
  have HLZ : Hid (L = hearS l tt) := cover (by rw [HLE.out, if_neg HTC.out]; rfl)
  have hnm : m = n := by rw [HNL.out, HLZ.out, hm]
  subst hnm
  have HX : Hid (XAt b w A7 m c7 A5 c5 L l r s w7) := cover ⟨by rw [HLZ.out]; exact HR7.out, HP7.out, H7b.out.ref, hbw7⟩
  have HV9 := cover HV7.out
  have hbw9 := hbw7
  clear hm HR7 hbw7 HP7 H7b HV7 HLZ hm16
  go_wp2_with fail
  go_loopw [14] (fun i wr => ∃ j : Nat, j ≤ m ∧ i = .int .i64 j ∧ Hid (Below w7.heap.size w7 wr)) (fun i _ => m - (intOf i).toNat)
  case atStart => exact ⟨0, Nat.zero_le _, rfl, cover (Below.refl _ _)⟩
  case round =>
    obtain ⟨j, hj, rfl, hrel⟩ := hrel
    by_cases hlt : j < m
    · obtain ⟨x, hx⟩ : ∃ x, L[j]? = some x := ⟨_, List.getElem?_eq_getElem (by rw [← HNL.out]; exact hlt)⟩
      have hXr := HX.out.below (HSz.out _ HX.out.bel) hrel.out
      have hbr : Below b w wr := hXr.bel
      obtain ⟨g, hA, hgl, _, hc0⟩ := own_cell hXr.row (j := j) (x := .int .i64 x) (by rw [List.getElem?_map, hx]; rfl)
      obtain ⟨gp, cc, Ai, mi, hv1, hcc, _, hgil, hci, hii, _⟩ := hXr.pdu.at_ (i := j) (p := ⟨2, x, true, 2, 1, 0, 0, true, [129, typS (clsS l x), 128]⟩) (by rw [List.getElem?_map, hx]; rfl)
      have hA5 : A5 = some ⟨gp, 0, none⟩ := by injection hv1
      have hc5 : c5 = cc := by injection hv1
      rw [List.length_map, ← HNL.out] at hcc
      subst hA hA5 hc5
      have hjc : j < c5 := by omega
      have hxm := HLM.out x (List.mem_of_getElem? hx)
      have HS : Hid (∀ W', Below wr.heap.size wr W' → (fun W' : World => W'.cell? ⟨g, j, none⟩ = some (.int .i64 x) ∧ W'.cell? ⟨gp, j * 9, none⟩ = some (.int .i64 2) ∧ W'.cell? ⟨gp, j * 9 + 1, none⟩ = some (.int .i64 x) ∧ W'.cell? ⟨gp, j * 9 + 2, none⟩ = some (.bool true) ∧ W'.cell? ⟨gp, j * 9 + 4, none⟩ = some (.int .i64 1) ∧ W'.cell? ⟨gp, j * 9 + 7, none⟩ = some (.bool true) ∧ W'.cell? ⟨gp, j * 9 + 8, none⟩ = some (.slice Ai 3 mi) ∧ Below wr.heap.size wr W') W') := cover fun W' hb' => by
        have e : ∀ {q : Addr} {v : Value}, q.block < wr.heap.size → wr.cell? q = some v → W'.cell? q = some v := fun hq hv => (hb'.cell hq).trans hv
        exact ⟨e hgl hc0, e hgil (hci 0 (by decide)), e hgil (hci 1 (by decide)), e hgil (hci 2 (by decide)), e hgil (hci 4 (by decide)), e hgil (hci 7 (by decide)), e hgil (hci 8 (by decide)), hb'⟩
      have mixed : Try.prog.follows .mixedOrders = true := by kernel_rfl
      by_cases hx0 : x = 0
      · have hxz : (x != 0) = false := by rw [hx0]; rfl
        have htv : typS (clsS l x) = 7 := by rw [hx0, HC0.out]; rfl
        have hbW : Below wr.heap.size wr wr := Below.refl _ _
        have HTV := cover htv
        clear hx0
        have hrowi : Row wr wr.heap.size Ai 3 [129, 7, 128] := by
          have h := OwnB.row (ownB_below hii hbW)
          rw [show (⟨2, x, true, 2, 1, 0, 0, true, [129, typS (clsS l x), 128]⟩ : PV).info = [129, 7, 128] from by rw [← HTV.out]] at h
          exact h
        have HRI := cover hrowi
        have hb0 : Below wr.heap.size wr wr.drew := (Below.refl _ _).drew
        have hbW0 : Below wr.heap.size wr wr.drew := hbW.trans (hb0.mono hbW.size)
        have h3 : (fun W' : World => W'.cell? ⟨g, j, none⟩ = some (.int .i64 x) ∧ W'.cell? ⟨gp, j * 9, none⟩ = some (.int .i64 2) ∧ W'.cell? ⟨gp, j * 9 + 1, none⟩ = some (.int .i64 x) ∧ W'.cell? ⟨gp, j * 9 + 2, none⟩ = some (.bool true) ∧ W'.cell? ⟨gp, j * 9 + 4, none⟩ = some (.int .i64 1) ∧ W'.cell? ⟨gp, j * 9 + 7, none⟩ = some (.bool true) ∧ W'.cell? ⟨gp, j * 9 + 8, none⟩ = some (.slice Ai 3 mi) ∧ Below wr.heap.size wr W') wr.drew := HS.out _ hbW0
        clear hx hv1 hci hii hrowi hXr htv hxm
        go_wp2_with fail
        clear hc0
        refine (wpIn_wide (n := 0)).1 ?_
        refine held_begin (fun W' : World => W'.cell? ⟨g, j, none⟩ = some (.int .i64 x) ∧ W'.cell? ⟨gp, j * 9, none⟩ = some (.int .i64 2) ∧ W'.cell? ⟨gp, j * 9 + 1, none⟩ = some (.int .i64 x) ∧ W'.cell? ⟨gp, j * 9 + 2, none⟩ = some (.bool true) ∧ W'.cell? ⟨gp, j * 9 + 4, none⟩ = some (.int .i64 1) ∧ W'.cell? ⟨gp, j * 9 + 7, none⟩ = some (.bool true) ∧ W'.cell? ⟨gp, j * 9 + 8, none⟩ = some (.slice Ai 3 mi) ∧ Below wr.heap.size wr W') 99 mixed ?_
        refine hold_take 0 _ rfl (by kernel_rfl) (by kernel_rfl) (by kernel_rfl) (by kernel_rfl) (by kernel_rfl) (fun _ _ _ h => h) (by rfl) (fun _ => rfl) h3 (fun w' hS => by obtain ⟨q0, q1, q2, q3, q4, q5, q6, q7⟩ := hS; go_simp; rfl) ?_
        simp only [Act.put, List.setIfInBounds_toArray, List.set_cons_zero, List.set_cons_succ]
        refine hold_take 1 _ rfl (by kernel_rfl) (by kernel_rfl) (by kernel_rfl) (by kernel_rfl) (by kernel_rfl) (fun _ _ _ h => h) (by rfl) (fun _ => rfl) h3 (fun w' hS => by obtain ⟨q0, q1, q2, q3, q4, q5, q6, q7⟩ := hS; go_simp; rfl) ?_
        simp only [Act.put, List.setIfInBounds_toArray, List.set_cons_zero, List.set_cons_succ]
        refine hold_take 2 _ rfl (by kernel_rfl) (by kernel_rfl) (by kernel_rfl) (by kernel_rfl) (by kernel_rfl) (fun _ _ _ h => h) (by rfl) (fun _ => rfl) h3 (fun w' hS => by obtain ⟨q0, q1, q2, q3, q4, q5, q6, q7⟩ := hS; go_simp; rfl) ?_
        simp only [Act.put, List.setIfInBounds_toArray, List.set_cons_zero, List.set_cons_succ]
        refine hold_take 3 _ rfl (by kernel_rfl) (by kernel_rfl) (by kernel_rfl) (by kernel_rfl) (by kernel_rfl) (fun _ _ _ h => h) (by rfl) (fun _ => rfl) h3 (fun w' hS => by obtain ⟨q0, q1, q2, q3, q4, q5, q6, q7⟩ := hS; go_simp; rfl) ?_
        simp only [Act.put, List.setIfInBounds_toArray, List.set_cons_zero, List.set_cons_succ]
        refine hold_take 4 _ rfl (by kernel_rfl) (by kernel_rfl) (by kernel_rfl) (by kernel_rfl) (by kernel_rfl) (fun _ _ _ h => h) (by rfl) (fun _ => rfl) h3 (fun w' hS => by obtain ⟨q0, q1, q2, q3, q4, q5, q6, q7⟩ := hS; go_simp; rfl) ?_
        simp only [Act.put, List.setIfInBounds_toArray, List.set_cons_zero, List.set_cons_succ]
        refine hold_take 5 _ rfl (by kernel_rfl) (by kernel_rfl) (by kernel_rfl) (by kernel_rfl) (by kernel_rfl) (fun _ _ _ h => h) (by rfl) (fun _ => rfl) h3 (fun w' hS => by obtain ⟨q0, q1, q2, q3, q4, q5, q6, q7⟩ := hS; go_simp; rfl) ?_
        simp only [Act.put, List.setIfInBounds_toArray, List.set_cons_zero, List.set_cons_succ]
        refine hold_take 6 _ rfl (by kernel_rfl) (by kernel_rfl) (by kernel_rfl) (by kernel_rfl) (by kernel_rfl) (fun _ _ _ h => h) (by rfl) (fun _ => rfl) h3 (fun w' hS => by obtain ⟨q0, q1, q2, q3, q4, q5, q6, q7⟩ := hS; go_simp; rfl) ?_
        simp only [Act.put, List.setIfInBounds_toArray, List.set_cons_zero, List.set_cons_succ]
        refine hold_take 7 _ rfl (by kernel_rfl) (by kernel_rfl) (by kernel_rfl) (by kernel_rfl) (by kernel_rfl) (fun _ _ _ h => h) (by rfl) (fun _ => rfl) h3 (fun w' hS => by obtain ⟨q0, q1, q2, q3, q4, q5, q6, q7⟩ := hS; go_simp; rfl) ?_
        simp only [Act.put, List.setIfInBounds_toArray, List.set_cons_zero, List.set_cons_succ]
        refine hold_take 8 _ rfl (by kernel_rfl) (by kernel_rfl) (by kernel_rfl) (by kernel_rfl) (by kernel_rfl) (fun _ _ _ h => h) (by rfl) (fun _ => rfl) h3 (fun w' hS => by obtain ⟨q0, q1, q2, q3, q4, q5, q6, q7⟩ := hS; go_simp; rfl) ?_
        simp only [Act.put, List.setIfInBounds_toArray, List.set_cons_zero, List.set_cons_succ]
        refine hold_take 9 (.bool false) rfl (by kernel_rfl) (by kernel_rfl) (by kernel_rfl) (by kernel_rfl) (by kernel_rfl) (fun _ _ _ h => h) (by rfl) (fun _ => rfl) h3 (fun w' hS => by obtain ⟨q0, q1, q2, q3, q4, q5, q6, q7⟩ := hS; go_simp; (first | done | rfl | simp)) ?_
        simp only [Act.put, List.setIfInBounds_toArray, List.set_cons_zero, List.set_cons_succ]
        refine hold_take 10 (.bool false) rfl (by kernel_rfl) (by kernel_rfl) (by kernel_rfl) (by kernel_rfl) (by kernel_rfl) (fun _ _ _ h => h) (by rfl) (fun _ => rfl) h3 (fun w' hS => by obtain ⟨q0, q1, q2, q3, q4, q5, q6, q7⟩ := hS; go_simp; (first | done | rfl | simp)) ?_
        simp only [Act.put, List.setIfInBounds_toArray, List.set_cons_zero, List.set_cons_succ]
        refine hold_take 11 _ rfl (by kernel_rfl) (by kernel_rfl) (by kernel_rfl) (by kernel_rfl) (by kernel_rfl) (fun _ _ _ h => h) (by rfl) (fun _ => rfl) h3 (fun w' hS => by obtain ⟨q0, q1, q2, q3, q4, q5, q6, q7⟩ := hS; go_simp; rfl) ?_
        simp only [Act.put, List.setIfInBounds_toArray, List.set_cons_zero, List.set_cons_succ]
        refine hold_take 12 _ rfl (by kernel_rfl) (by kernel_rfl) (by kernel_rfl) (by kernel_rfl) (by kernel_rfl) (fun _ _ _ h => h) (by rfl) (fun _ => rfl) h3 (fun w' hS => by obtain ⟨q0, q1, q2, q3, q4, q5, q6, q7⟩ := hS; go_simp; rfl) ?_
        simp only [Act.put, List.setIfInBounds_toArray, List.set_cons_zero, List.set_cons_succ]
        refine hold_take 13 _ rfl (by kernel_rfl) (by kernel_rfl) (by kernel_rfl) (by kernel_rfl) (by kernel_rfl) (fun _ _ _ h => h) (by rfl) (fun _ => rfl) h3 (fun w' hS => by obtain ⟨q0, q1, q2, q3, q4, q5, q6, q7⟩ := hS; go_simp; rfl) ?_
        simp only [Act.put, List.setIfInBounds_toArray, List.set_cons_zero, List.set_cons_succ]
        refine hold_take 14 _ rfl (by kernel_rfl) (by kernel_rfl) (by kernel_rfl) (by kernel_rfl) (by kernel_rfl) (fun _ _ _ h => h) (by rfl) (fun _ => rfl) h3 (fun w' hS => by obtain ⟨q0, q1, q2, q3, q4, q5, q6, q7⟩ := hS; go_simp; rfl) ?_
        simp only [Act.put, List.setIfInBounds_toArray, List.set_cons_zero, List.set_cons_succ]
        refine hold_take 15 _ rfl (by kernel_rfl) (by kernel_rfl) (by kernel_rfl) (by kernel_rfl) (by kernel_rfl) (fun _ _ _ h => h) (by rfl) (fun _ => rfl) h3 (fun w' hS => by obtain ⟨q0, q1, q2, q3, q4, q5, q6, q7⟩ := hS; go_simp; rfl) ?_
        simp only [Act.put, List.setIfInBounds_toArray, List.set_cons_zero, List.set_cons_succ]
        refine hold_take 16 (.bool false) rfl (by kernel_rfl) (by kernel_rfl) (by kernel_rfl) (by kernel_rfl) (by kernel_rfl) (fun _ _ _ h => h) (by rfl) (fun _ => rfl) h3 (fun w' hS => by obtain ⟨q0, q1, q2, q3, q4, q5, q6, q7⟩ := hS; go_simp; (first | done | rfl | simp)) ?_
        simp only [Act.put, List.setIfInBounds_toArray, List.set_cons_zero, List.set_cons_succ]
        refine hold_take 17 (.bool false) rfl (by kernel_rfl) (by kernel_rfl) (by kernel_rfl) (by kernel_rfl) (by kernel_rfl) (fun _ _ _ h => h) (by rfl) (fun _ => rfl) h3 (fun w' hS => by obtain ⟨q0, q1, q2, q3, q4, q5, q6, q7⟩ := hS; go_simp; (first | done | rfl | simp)) ?_
        simp only [Act.put, List.setIfInBounds_toArray, List.set_cons_zero, List.set_cons_succ]
        refine hold_take 18 (.bool false) rfl (by kernel_rfl) (by kernel_rfl) (by kernel_rfl) (by kernel_rfl) (by kernel_rfl) (fun _ _ _ h => h) (by rfl) (fun _ => rfl) h3 (fun w' hS => by obtain ⟨q0, q1, q2, q3, q4, q5, q6, q7⟩ := hS; go_simp; (first | done | rfl | simp)) ?_
        simp only [Act.put, List.setIfInBounds_toArray, List.set_cons_zero, List.set_cons_succ]
        refine hold_take 19 _ rfl (by kernel_rfl) (by kernel_rfl) (by kernel_rfl) (by kernel_rfl) (by kernel_rfl) (fun _ _ _ h => h) (by rfl) (fun _ => rfl) h3 (fun w' hS => by obtain ⟨q0, q1, q2, q3, q4, q5, q6, q7⟩ := hS; go_simp; rfl) ?_
        simp only [Act.put, List.setIfInBounds_toArray, List.set_cons_zero, List.set_cons_succ]
        refine hold_take 20 _ rfl (by kernel_rfl) (by kernel_rfl) (by kernel_rfl) (by kernel_rfl) (by kernel_rfl) (fun _ _ _ h => h) (by rfl) (fun _ => rfl) h3 (fun w' hS => by obtain ⟨q0, q1, q2, q3, q4, q5, q6, q7⟩ := hS; go_simp; rfl) ?_
        simp only [Act.put, List.setIfInBounds_toArray, List.set_cons_zero, List.set_cons_succ]
        refine hold_take 21 _ rfl (by kernel_rfl) (by kernel_rfl) (by kernel_rfl) (by kernel_rfl) (by kernel_rfl) (fun _ _ _ h => h) (by rfl) (fun _ => rfl) h3 (fun w' hS => by obtain ⟨q0, q1, q2, q3, q4, q5, q6, q7⟩ := hS; go_simp; rfl) ?_
        simp only [Act.put, List.setIfInBounds_toArray, List.set_cons_zero, List.set_cons_succ]
        refine hold_take 22 _ rfl (by kernel_rfl) (by kernel_rfl) (by kernel_rfl) (by kernel_rfl) (by kernel_rfl) (fun _ _ _ h => h) (by rfl) (fun _ => rfl) h3 (fun w' hS => by obtain ⟨q0, q1, q2, q3, q4, q5, q6, q7⟩ := hS; go_simp; rfl) ?_
        simp only [Act.put, List.setIfInBounds_toArray, List.set_cons_zero, List.set_cons_succ]
        refine hold_take 23 _ rfl (by kernel_rfl) (by kernel_rfl) (by kernel_rfl) (by kernel_rfl) (by kernel_rfl) (fun _ _ _ h => h) (by rfl) (fun _ => rfl) h3 (fun w' hS => by obtain ⟨q0, q1, q2, q3, q4, q5, q6, q7⟩ := hS; go_simp; rfl) ?_
        simp only [Act.put, List.setIfInBounds_toArray, List.set_cons_zero, List.set_cons_succ]
        refine hold_take 24 (.bool false) rfl (by kernel_rfl) (by kernel_rfl) (by kernel_rfl) (by kernel_rfl) (by kernel_rfl) (fun _ _ _ h => h) (by rfl) (fun _ => rfl) h3 (fun w' hS => by obtain ⟨q0, q1, q2, q3, q4, q5, q6, q7⟩ := hS; go_simp; (first | done | rfl | simp)) ?_
        simp only [Act.put, List.setIfInBounds_toArray, List.set_cons_zero, List.set_cons_succ]
        refine hold_take 25 (.bool false) rfl (by kernel_rfl) (by kernel_rfl) (by kernel_rfl) (by kernel_rfl) (by kernel_rfl) (fun _ _ _ h => h) (by rfl) (fun _ => rfl) h3 (fun w' hS => by obtain ⟨q0, q1, q2, q3, q4, q5, q6, q7⟩ := hS; go_simp; (first | done | rfl | simp)) ?_
        simp only [Act.put, List.setIfInBounds_toArray, List.set_cons_zero, List.set_cons_succ]
        refine hold_take 26 (.bool false) rfl (by kernel_rfl) (by kernel_rfl) (by kernel_rfl) (by kernel_rfl) (by kernel_rfl) (fun _ _ _ h => h) (by rfl) (fun _ => rfl) h3 (fun w' hS => by obtain ⟨q0, q1, q2, q3, q4, q5, q6, q7⟩ := hS; go_simp; (first | done | rfl | simp)) ?_
        simp only [Act.put, List.setIfInBounds_toArray, List.set_cons_zero, List.set_cons_succ]
        refine hold_take 27 _ rfl (by kernel_rfl) (by kernel_rfl) (by kernel_rfl) (by kernel_rfl) (by kernel_rfl) (fun _ _ _ h => h) (by rfl) (fun _ => rfl) h3 (fun w' hS => by obtain ⟨q0, q1, q2, q3, q4, q5, q6, q7⟩ := hS; go_simp; rfl) ?_
        simp only [Act.put, List.setIfInBounds_toArray, List.set_cons_zero, List.set_cons_succ]
        refine hold_take 28 _ rfl (by kernel_rfl) (by kernel_rfl) (by kernel_rfl) (by kernel_rfl) (by kernel_rfl) (fun _ _ _ h => h) (by rfl) (fun _ => rfl) h3 (fun w' hS => by obtain ⟨q0, q1, q2, q3, q4, q5, q6, q7⟩ := hS; go_simp; rfl) ?_
        simp only [Act.put, List.setIfInBounds_toArray, List.set_cons_zero, List.set_cons_succ]
        refine hold_take 29 _ rfl (by kernel_rfl) (by kernel_rfl) (by kernel_rfl) (by kernel_rfl) (by kernel_rfl) (fun _ _ _ h => h) (by rfl) (fun _ => rfl) h3 (fun w' hS => by obtain ⟨q0, q1, q2, q3, q4, q5, q6, q7⟩ := hS; go_simp; rfl) ?_
        simp only [Act.put, List.setIfInBounds_toArray, List.set_cons_zero, List.set_cons_succ]
        refine hold_take 30 _ rfl (by kernel_rfl) (by kernel_rfl) (by kernel_rfl) (by kernel_rfl) (by kernel_rfl) (fun _ _ _ h => h) (by rfl) (fun _ => rfl) h3 (fun w' hS => by obtain ⟨q0, q1, q2, q3, q4, q5, q6, q7⟩ := hS; go_simp; rfl) ?_
        simp only [Act.put, List.setIfInBounds_toArray, List.set_cons_zero, List.set_cons_succ]
        refine hold_take 31 _ rfl (by kernel_rfl) (by kernel_rfl) (by kernel_rfl) (by kernel_rfl) (by kernel_rfl) (fun _ _ _ h => h) (by rfl) (fun _ => rfl) h3 (fun w' hS => by obtain ⟨q0, q1, q2, q3, q4, q5, q6, q7⟩ := hS; go_simp; rfl) ?_
        simp only [Act.put, List.setIfInBounds_toArray, List.set_cons_zero, List.set_cons_succ]
        refine hold_take 32 (.bool false) rfl (by kernel_rfl) (by kernel_rfl) (by kernel_rfl) (by kernel_rfl) (by kernel_rfl) (fun _ _ _ h => h) (by rfl) (fun _ => rfl) h3 (fun w' hS => by obtain ⟨q0, q1, q2, q3, q4, q5, q6, q7⟩ := hS; go_simp; (first | done | rfl | simp)) ?_
        simp only [Act.put, List.setIfInBounds_toArray, List.set_cons_zero, List.set_cons_succ]
        refine hold_take 33 (.bool false) rfl (by kernel_rfl) (by kernel_rfl) (by kernel_rfl) (by kernel_rfl) (by kernel_rfl) (fun _ _ _ h => h) (by rfl) (fun _ => rfl) h3 (fun w' hS => by obtain ⟨q0, q1, q2, q3, q4, q5, q6, q7⟩ := hS; go_simp; (first | done | rfl | simp)) ?_
        simp only [Act.put, List.setIfInBounds_toArray, List.set_cons_zero, List.set_cons_succ]
        refine hold_take 34 (.bool false) rfl (by kernel_rfl) (by kernel_rfl) (by kernel_rfl) (by kernel_rfl) (by kernel_rfl) (fun _ _ _ h => h) (by rfl) (fun _ => rfl) h3 (fun w' hS => by obtain ⟨q0, q1, q2, q3, q4, q5, q6, q7⟩ := hS; go_simp; (first | done | rfl | simp)) ?_
        simp only [Act.put, List.setIfInBounds_toArray, List.set_cons_zero, List.set_cons_succ]
        refine hold_take 35 _ rfl (by kernel_rfl) (by kernel_rfl) (by kernel_rfl) (by kernel_rfl) (by kernel_rfl) (fun _ _ _ h => h) (by rfl) (fun _ => rfl) h3 (fun w' hS => by obtain ⟨q0, q1, q2, q3, q4, q5, q6, q7⟩ := hS; go_simp; rfl) ?_
        simp only [Act.put, List.setIfInBounds_toArray, List.set_cons_zero, List.set_cons_succ]
        refine hold_take 36 _ rfl (by kernel_rfl) (by kernel_rfl) (by kernel_rfl) (by kernel_rfl) (by kernel_rfl) (fun _ _ _ h => h) (by rfl) (fun _ => rfl) h3 (fun w' hS => by obtain ⟨q0, q1, q2, q3, q4, q5, q6, q7⟩ := hS; go_simp; rfl) ?_
        simp only [Act.put, List.setIfInBounds_toArray, List.set_cons_zero, List.set_cons_succ]
        refine hold_take 37 _ rfl (by kernel_rfl) (by kernel_rfl) (by kernel_rfl) (by kernel_rfl) (by kernel_rfl) (fun _ _ _ h => h) (by rfl) (fun _ => rfl) h3 (fun w' hS => by obtain ⟨q0, q1, q2, q3, q4, q5, q6, q7⟩ := hS; go_simp; rfl) ?_
        simp only [Act.put, List.setIfInBounds_toArray, List.set_cons_zero, List.set_cons_succ]
        refine hold_take 38 _ rfl (by kernel_rfl) (by kernel_rfl) (by kernel_rfl) (by kernel_rfl) (by kernel_rfl) (fun _ _ _ h => h) (by rfl) (fun _ => rfl) h3 (fun w' hS => by obtain ⟨q0, q1, q2, q3, q4, q5, q6, q7⟩ := hS; go_simp; rfl) ?_
        simp only [Act.put, List.setIfInBounds_toArray, List.set_cons_zero, List.set_cons_succ]
        refine hold_take 39 _ rfl (by kernel_rfl) (by kernel_rfl) (by kernel_rfl) (by kernel_rfl) (by kernel_rfl) (fun _ _ _ h => h) (by rfl) (fun _ => rfl) h3 (fun w' hS => by obtain ⟨q0, q1, q2, q3, q4, q5, q6, q7⟩ := hS; go_simp; rfl) ?_
        simp only [Act.put, List.setIfInBounds_toArray, List.set_cons_zero, List.set_cons_succ]
        refine hold_take 40 (.bool false) rfl (by kernel_rfl) (by kernel_rfl) (by kernel_rfl) (by kernel_rfl) (by kernel_rfl) (fun _ _ _ h => h) (by rfl) (fun _ => rfl) h3 (fun w' hS => by obtain ⟨q0, q1, q2, q3, q4, q5, q6, q7⟩ := hS; go_simp; (first | done | rfl | simp)) ?_
        simp only [Act.put, List.setIfInBounds_toArray, List.set_cons_zero, List.set_cons_succ]
        refine hold_take 41 (.bool false) rfl (by kernel_rfl) (by kernel_rfl) (by kernel_rfl) (by kernel_rfl) (by kernel_rfl) (fun _ _ _ h => h) (by rfl) (fun _ => rfl) h3 (fun w' hS => by obtain ⟨q0, q1, q2, q3, q4, q5, q6, q7⟩ := hS; go_simp; (first | done | rfl | simp)) ?_
        simp only [Act.put, List.setIfInBounds_toArray, List.set_cons_zero, List.set_cons_succ]
        refine hold_take 42 (.bool false) rfl (by kernel_rfl) (by kernel_rfl) (by kernel_rfl) (by kernel_rfl) (by kernel_rfl) (fun _ _ _ h => h) (by rfl) (fun _ => rfl) h3 (fun w' hS => by obtain ⟨q0, q1, q2, q3, q4, q5, q6, q7⟩ := hS; go_simp; (first | done | rfl | simp)) ?_
        simp only [Act.put, List.setIfInBounds_toArray, List.set_cons_zero, List.set_cons_succ]
        refine hold_take 43 _ rfl (by kernel_rfl) (by kernel_rfl) (by kernel_rfl) (by kernel_rfl) (by kernel_rfl) (fun _ _ _ h => h) (by rfl) (fun _ => rfl) h3 (fun w' hS => by obtain ⟨q0, q1, q2, q3, q4, q5, q6, q7⟩ := hS; go_simp; rfl) ?_
        simp only [Act.put, List.setIfInBounds_toArray, List.set_cons_zero, List.set_cons_succ]
        refine hold_take 44 _ rfl (by kernel_rfl) (by kernel_rfl) (by kernel_rfl) (by kernel_rfl) (by kernel_rfl) (fun _ _ _ h => h) (by rfl) (fun _ => rfl) h3 (fun w' hS => by obtain ⟨q0, q1, q2, q3, q4, q5, q6, q7⟩ := hS; go_simp; rfl) ?_
        simp only [Act.put, List.setIfInBounds_toArray, List.set_cons_zero, List.set_cons_succ]
        refine hold_take 45 _ rfl (by kernel_rfl) (by kernel_rfl) (by kernel_rfl) (by kernel_rfl) (by kernel_rfl) (fun _ _ _ h => h) (by rfl) (fun _ => rfl) h3 (fun w' hS => by obtain ⟨q0, q1, q2, q3, q4, q5, q6, q7⟩ := hS; go_simp; rfl) ?_
        simp only [Act.put, List.setIfInBounds_toArray, List.set_cons_zero, List.set_cons_succ]
        refine hold_take 46 _ rfl (by kernel_rfl) (by kernel_rfl) (by kernel_rfl) (by kernel_rfl) (by kernel_rfl) (fun _ _ _ h => h) (by rfl) (fun _ => rfl) h3 (fun w' hS => by obtain ⟨q0, q1, q2, q3, q4, q5, q6, q7⟩ := hS; go_simp; rfl) ?_
        simp only [Act.put, List.setIfInBounds_toArray, List.set_cons_zero, List.set_cons_succ]
        refine hold_take 47 _ rfl (by kernel_rfl) (by kernel_rfl) (by kernel_rfl) (by kernel_rfl) (by kernel_rfl) (fun _ _ _ h => h) (by rfl) (fun _ => rfl) h3 (fun w' hS => by obtain ⟨q0, q1, q2, q3, q4, q5, q6, q7⟩ := hS; go_simp; rfl) ?_
        simp only [Act.put, List.setIfInBounds_toArray, List.set_cons_zero, List.set_cons_succ]
        refine hold_take 48 _ rfl (by kernel_rfl) (by kernel_rfl) (by kernel_rfl) (by kernel_rfl) (by kernel_rfl) (fun _ _ _ h => h) (by rfl) (fun _ => rfl) h3 (fun w' hS => by obtain ⟨q0, q1, q2, q3, q4, q5, q6, q7⟩ := hS; go_simp; rfl) ?_
        simp only [Act.put, List.setIfInBounds_toArray, List.set_cons_zero, List.set_cons_succ]
        refine hold_take 49 (.int .u8 7) rfl (by kernel_rfl) (by kernel_rfl) (by kernel_rfl) (by kernel_rfl) (by kernel_rfl) (fun _ _ _ h => h) (by rfl) (fun _ => rfl) h3 (fun w' hS => by obtain ⟨q0, q1, q2, q3, q4, q5, q6, q7⟩ := hS; go_simp; (first | done | rfl | simp)) ?_
        simp only [Act.put, List.setIfInBounds_toArray, List.set_cons_zero, List.set_cons_succ]
        refine hold_one 50 (by kernel_rfl) rfl (by rfl) fun K hK => ?_
        obtain ⟨z, hz⟩ : ∃ z, z = wr.drew.heap.size := ⟨_, rfl⟩
        obtain ⟨wz, hwz⟩ : ∃ wz, wz = wr.drew.alloc (.cells #[.int .u8 129, .int .u8 7, .int .u8 128] 5) := ⟨_, rfl⟩
        have hmz : Below wr.drew.heap.size wr.drew wz := by rw [hwz]; exact (Below.refl _ _).alloc (Nat.le_refl _) _
        have hBz : Below wr.heap.size wr wz := hbW0.trans (hmz.mono hbW0.size)
        have hSz := HS.out _ hBz
        have hrz : Row wz (z + 1) (some ⟨z, 0, none⟩) 3 [129, 7, 128] := by rw [hwz, hz]; exact RowK.made _ [129, 7, 128] _ _ rfl
        have s9 := same_any Ai (some ⟨z, 0, none⟩) 3 mi 3 wr.heap.size (z + 1) [129, 7, 128] [129, 7, 128] wz (HRI.out.below (hb0.trans (hmz.mono hb0.size))) hrz (by decide)
        rw [decide_eq_true rfl] at s9
        refine run_in (fun c h => by cases h) (fun _ _ => trivial) (v := .slice (some ⟨z, 0, none⟩) 3 3) (w' := wz) (by rw [hwz, hz]; go_simp) ?_
        refine hK _ _ (.inr hSz) ?_
        clear hK K hwz hz hmz hrz
        simp only [Act.put, List.setIfInBounds_toArray, List.set_cons_zero, List.set_cons_succ]
        refine hold_one 51 (by kernel_rfl) rfl (by rfl) fun K hK => ?_
        go_simp
        refine ⟨trivial, rfl, (callsIn_wide.2 s9).mono ?_⟩
        rintro e wy ⟨rfl, dd, rfl⟩
        have hBy : Below wr.heap.size wr (wz.drewN dd) := below_drewN hBz dd
        have hSy := HS.out _ hBy
        refine hK _ _ (.inr hSy) ?_
        clear hK K s9
        refine hold_take 52 (.bool false) rfl (by kernel_rfl) (by kernel_rfl) (by kernel_rfl) (by kernel_rfl) (by kernel_rfl) (fun _ _ _ h => h) (by rfl) (fun _ => rfl) hSy (fun w' hS => by obtain ⟨q0, q1, q2, q3, q4, q5, q6, q7⟩ := hS; go_simp; (first | done | rfl | simp)) ?_
        simp only [Act.put, List.setIfInBounds_toArray, List.set_cons_zero, List.set_cons_succ]
        refine hold_take 53 (.bool false) rfl (by kernel_rfl) (by kernel_rfl) (by kernel_rfl) (by kernel_rfl) (by kernel_rfl) (fun _ _ _ h => h) (by rfl) (fun _ => rfl) hSy (fun w' hS => by obtain ⟨q0, q1, q2, q3, q4, q5, q6, q7⟩ := hS; go_simp; (first | done | rfl | simp)) ?_
        simp only [Act.put, List.setIfInBounds_toArray, List.set_cons_zero, List.set_cons_succ]
        refine held_done (by kernel_rfl) ?_ _
        have HN8 := cover (hrel.out.trans (hBy.mono hrel.out.size))
        clear h3 hSz hSy hBz hBy hb0 hbW0 HS hrel HRI
        go_wp2
        go_roundw
        case rel => exact ⟨j + 1, by omega, by go_num, HN8⟩
        case measure => simp [intOf]; omega
      · have hxz : (x != 0) = true := by simpa using hx0
        obtain ⟨cl, hcl⟩ : ∃ cl, cl = clsS l x := ⟨_, rfl⟩
        have hcl4 : 1 ≤ cl ∧ cl ≤ 4 := by rw [hcl]; exact (hxm.resolve_left hx0)
        have s6 := rclass_has hXr.has x
        rw [← hcl] at s6
        have s7 := rtypes_any cl (by omega) (by omega) wr
        rw [if_neg (by omega)] at s7
        obtain ⟨tv, htve⟩ : ∃ tv, tv = typS cl := ⟨_, rfl⟩
        rw [← htve] at s7
        have htb7 : 0 ≤ tv ∧ tv ≤ 7 := by rw [htve]; exact typ_small cl
        have htv : typS (clsS l x) = tv := by rw [htve, hcl]
        have hw8 : IntKind.u8.wrap tv = tv := by rw [IntKind.wrap_u8]; omega
        have HTV := cover htv
        clear hx0 hcl htve htv hxm hv1
        go_wp2_with fail
        refine s6.mono ?_
        rintro e w9 ⟨rfl, rfl⟩
        go_wp2_with fail
        refine s7.mono ?_
        rintro e w9 ⟨rfl, hbW⟩
        have hrowi : Row w9 w9.heap.size Ai 3 [129, tv, 128] := by
          have h := OwnB.row (ownB_below hii hbW)
          rw [show (⟨2, x, true, 2, 1, 0, 0, true, [129, typS (clsS l x), 128]⟩ : PV).info = [129, tv, 128] from by rw [← HTV.out]] at h
          exact h
        have HRI := cover hrowi
        have hb0 : Below w9.heap.size w9 w9.drew := (Below.refl _ _).drew
        have hbW0 : Below wr.heap.size wr w9.drew := hbW.trans (hb0.mono hbW.size)
        have h3 : (fun W' : World => W'.cell? ⟨g, j, none⟩ = some (.int .i64 x) ∧ W'.cell? ⟨gp, j * 9, none⟩ = some (.int .i64 2) ∧ W'.cell? ⟨gp, j * 9 + 1, none⟩ = some (.int .i64 x) ∧ W'.cell? ⟨gp, j * 9 + 2, none⟩ = some (.bool true) ∧ W'.cell? ⟨gp, j * 9 + 4, none⟩ = some (.int .i64 1) ∧ W'.cell? ⟨gp, j * 9 + 7, none⟩ = some (.bool true) ∧ W'.cell? ⟨gp, j * 9 + 8, none⟩ = some (.slice Ai 3 mi) ∧ Below wr.heap.size wr W') w9.drew := HS.out _ hbW0
        clear hx hci hii hrowi hXr s6 s7
        go_wp2_with fail
        clear hc0
        refine (wpIn_wide (n := 0)).1 ?_
        refine held_begin (fun W' : World => W'.cell? ⟨g, j, none⟩ = some (.int .i64 x) ∧ W'.cell? ⟨gp, j * 9, none⟩ = some (.int .i64 2) ∧ W'.cell? ⟨gp, j * 9 + 1, none⟩ = some (.int .i64 x) ∧ W'.cell? ⟨gp, j * 9 + 2, none⟩ = some (.bool true) ∧ W'.cell? ⟨gp, j * 9 + 4, none⟩ = some (.int .i64 1) ∧ W'.cell? ⟨gp, j * 9 + 7, none⟩ = some (.bool true) ∧ W'.cell? ⟨gp, j * 9 + 8, none⟩ = some (.slice Ai 3 mi) ∧ Below wr.heap.size wr W') 99 mixed ?_
        refine hold_take 0 _ rfl (by kernel_rfl) (by kernel_rfl) (by kernel_rfl) (by kernel_rfl) (by kernel_rfl) (fun _ _ _ h => h) (by rfl) (fun _ => rfl) h3 (fun w' hS => by obtain ⟨q0, q1, q2, q3, q4, q5, q6, q7⟩ := hS; go_simp; rfl) ?_
        simp only [Act.put, List.setIfInBounds_toArray, List.set_cons_zero, List.set_cons_succ]
        refine hold_take 1 _ rfl (by kernel_rfl) (by kernel_rfl) (by kernel_rfl) (by kernel_rfl) (by kernel_rfl) (fun _ _ _ h => h) (by rfl) (fun _ => rfl) h3 (fun w' hS => by obtain ⟨q0, q1, q2, q3, q4, q5, q6, q7⟩ := hS; go_simp; rfl) ?_
        simp only [Act.put, List.setIfInBounds_toArray, List.set_cons_zero, List.set_cons_succ]
        refine hold_take 2 _ rfl (by kernel_rfl) (by kernel_rfl) (by kernel_rfl) (by kernel_rfl) (by kernel_rfl) (fun _ _ _ h => h) (by rfl) (fun _ => rfl) h3 (fun w' hS => by obtain ⟨q0, q1, q2, q3, q4, q5, q6, q7⟩ := hS; go_simp; rfl) ?_
        simp only [Act.put, List.setIfInBounds_toArray, List.set_cons_zero, List.set_cons_succ]
        refine hold_take 3 _ rfl (by kernel_rfl) (by kernel_rfl) (by kernel_rfl) (by kernel_rfl) (by kernel_rfl) (fun _ _ _ h => h) (by rfl) (fun _ => rfl) h3 (fun w' hS => by obtain ⟨q0, q1, q2, q3, q4, q5, q6, q7⟩ := hS; go_simp; rfl) ?_
        simp only [Act.put, List.setIfInBounds_toArray, List.set_cons_zero, List.set_cons_succ]
        refine hold_take 4 _ rfl (by kernel_rfl) (by kernel_rfl) (by kernel_rfl) (by kernel_rfl) (by kernel_rfl) (fun _ _ _ h => h) (by rfl) (fun _ => rfl) h3 (fun w' hS => by obtain ⟨q0, q1, q2, q3, q4, q5, q6, q7⟩ := hS; go_simp; rfl) ?_
        simp only [Act.put, List.setIfInBounds_toArray, List.set_cons_zero, List.set_cons_succ]
        refine hold_take 5 _ rfl (by kernel_rfl) (by kernel_rfl) (by kernel_rfl) (by kernel_rfl) (by kernel_rfl) (fun _ _ _ h => h) (by rfl) (fun _ => rfl) h3 (fun w' hS => by obtain ⟨q0, q1, q2, q3, q4, q5, q6, q7⟩ := hS; go_simp; rfl) ?_
        simp only [Act.put, List.setIfInBounds_toArray, List.set_cons_zero, List.set_cons_succ]
        refine hold_take 6 _ rfl (by kernel_rfl) (by kernel_rfl) (by kernel_rfl) (by kernel_rfl) (by kernel_rfl) (fun _ _ _ h => h) (by rfl) (fun _ => rfl) h3 (fun w' hS => by obtain ⟨q0, q1, q2, q3, q4, q5, q6, q7⟩ := hS; go_simp; rfl) ?_
        simp only [Act.put, List.setIfInBounds_toArray, List.set_cons_zero, List.set_cons_succ]
        refine hold_take 7 _ rfl (by kernel_rfl) (by kernel_rfl) (by kernel_rfl) (by kernel_rfl) (by kernel_rfl) (fun _ _ _ h => h) (by rfl) (fun _ => rfl) h3 (fun w' hS => by obtain ⟨q0, q1, q2, q3, q4, q5, q6, q7⟩ := hS; go_simp; rfl) ?_
        simp only [Act.put, List.setIfInBounds_toArray, List.set_cons_zero, List.set_cons_succ]
        refine hold_take 8 _ rfl (by kernel_rfl) (by kernel_rfl) (by kernel_rfl) (by kernel_rfl) (by kernel_rfl) (fun _ _ _ h => h) (by rfl) (fun _ => rfl) h3 (fun w' hS => by obtain ⟨q0, q1, q2, q3, q4, q5, q6, q7⟩ := hS; go_simp; rfl) ?_
        simp only [Act.put, List.setIfInBounds_toArray, List.set_cons_zero, List.set_cons_succ]
        refine hold_take 9 (.bool false) rfl (by kernel_rfl) (by kernel_rfl) (by kernel_rfl) (by kernel_rfl) (by kernel_rfl) (fun _ _ _ h => h) (by rfl) (fun _ => rfl) h3 (fun w' hS => by obtain ⟨q0, q1, q2, q3, q4, q5, q6, q7⟩ := hS; go_simp; (first | done | rfl | simp)) ?_
        simp only [Act.put, List.setIfInBounds_toArray, List.set_cons_zero, List.set_cons_succ]
        refine hold_take 10 (.bool false) rfl (by kernel_rfl) (by kernel_rfl) (by kernel_rfl) (by kernel_rfl) (by kernel_rfl) (fun _ _ _ h => h) (by rfl) (fun _ => rfl) h3 (fun w' hS => by obtain ⟨q0, q1, q2, q3, q4, q5, q6, q7⟩ := hS; go_simp; (first | done | rfl | simp)) ?_
        simp only [Act.put, List.setIfInBounds_toArray, List.set_cons_zero, List.set_cons_succ]
        refine hold_take 11 _ rfl (by kernel_rfl) (by kernel_rfl) (by kernel_rfl) (by kernel_rfl) (by kernel_rfl) (fun _ _ _ h => h) (by rfl) (fun _ => rfl) h3 (fun w' hS => by obtain ⟨q0, q1, q2, q3, q4, q5, q6, q7⟩ := hS; go_simp; rfl) ?_
        simp only [Act.put, List.setIfInBounds_toArray, List.set_cons_zero, List.set_cons_succ]
        refine hold_take 12 _ rfl (by kernel_rfl) (by kernel_rfl) (by kernel_rfl) (by kernel_rfl) (by kernel_rfl) (fun _ _ _ h => h) (by rfl) (fun _ => rfl) h3 (fun w' hS => by obtain ⟨q0, q1, q2, q3, q4, q5, q6, q7⟩ := hS; go_simp; rfl) ?_
        simp only [Act.put, List.setIfInBounds_toArray, List.set_cons_zero, List.set_cons_succ]
        refine hold_take 13 _ rfl (by kernel_rfl) (by kernel_rfl) (by kernel_rfl) (by kernel_rfl) (by kernel_rfl) (fun _ _ _ h => h) (by rfl) (fun _ => rfl) h3 (fun w' hS => by obtain ⟨q0, q1, q2, q3, q4, q5, q6, q7⟩ := hS; go_simp; rfl) ?_
        simp only [Act.put, List.setIfInBounds_toArray, List.set_cons_zero, List.set_cons_succ]
        refine hold_take 14 _ rfl (by kernel_rfl) (by kernel_rfl) (by kernel_rfl) (by kernel_rfl) (by kernel_rfl) (fun _ _ _ h => h) (by rfl) (fun _ => rfl) h3 (fun w' hS => by obtain ⟨q0, q1, q2, q3, q4, q5, q6, q7⟩ := hS; go_simp; rfl) ?_
        simp only [Act.put, List.setIfInBounds_toArray, List.set_cons_zero, List.set_cons_succ]
        refine hold_take 15 _ rfl (by kernel_rfl) (by kernel_rfl) (by kernel_rfl) (by kernel_rfl) (by kernel_rfl) (fun _ _ _ h => h) (by rfl) (fun _ => rfl) h3 (fun w' hS => by obtain ⟨q0, q1, q2, q3, q4, q5, q6, q7⟩ := hS; go_simp; rfl) ?_
        simp only [Act.put, List.setIfInBounds_toArray, List.set_cons_zero, List.set_cons_succ]
        refine hold_take 16 (.bool false) rfl (by kernel_rfl) (by kernel_rfl) (by kernel_rfl) (by kernel_rfl) (by kernel_rfl) (fun _ _ _ h => h) (by rfl) (fun _ => rfl) h3 (fun w' hS => by obtain ⟨q0, q1, q2, q3, q4, q5, q6, q7⟩ := hS; go_simp; (first | done | rfl | simp)) ?_
        simp only [Act.put, List.setIfInBounds_toArray, List.set_cons_zero, List.set_cons_succ]
        refine hold_take 17 (.bool false) rfl (by kernel_rfl) (by kernel_rfl) (by kernel_rfl) (by kernel_rfl) (by kernel_rfl) (fun _ _ _ h => h) (by rfl) (fun _ => rfl) h3 (fun w' hS => by obtain ⟨q0, q1, q2, q3, q4, q5, q6, q7⟩ := hS; go_simp; (first | done | rfl | simp)) ?_
        simp only [Act.put, List.setIfInBounds_toArray, List.set_cons_zero, List.set_cons_succ]
        refine hold_take 18 (.bool false) rfl (by kernel_rfl) (by kernel_rfl) (by kernel_rfl) (by kernel_rfl) (by kernel_rfl) (fun _ _ _ h => h) (by rfl) (fun _ => rfl) h3 (fun w' hS => by obtain ⟨q0, q1, q2, q3, q4, q5, q6, q7⟩ := hS; go_simp; (first | done | rfl | simp)) ?_
        simp only [Act.put, List.setIfInBounds_toArray, List.set_cons_zero, List.set_cons_succ]
        refine hold_take 19 _ rfl (by kernel_rfl) (by kernel_rfl) (by kernel_rfl) (by kernel_rfl) (by kernel_rfl) (fun _ _ _ h => h) (by rfl) (fun _ => rfl) h3 (fun w' hS => by obtain ⟨q0, q1, q2, q3, q4, q5, q6, q7⟩ := hS; go_simp; rfl) ?_
        simp only [Act.put, List.setIfInBounds_toArray, List.set_cons_zero, List.set_cons_succ]
        refine hold_take 20 _ rfl (by kernel_rfl) (by kernel_rfl) (by kernel_rfl) (by kernel_rfl) (by kernel_rfl) (fun _ _ _ h => h) (by rfl) (fun _ => rfl) h3 (fun w' hS => by obtain ⟨q0, q1, q2, q3, q4, q5, q6, q7⟩ := hS; go_simp; rfl) ?_
        simp only [Act.put, List.setIfInBounds_toArray, List.set_cons_zero, List.set_cons_succ]
        refine hold_take 21 _ rfl (by kernel_rfl) (by kernel_rfl) (by kernel_rfl) (by kernel_rfl) (by kernel_rfl) (fun _ _ _ h => h) (by rfl) (fun _ => rfl) h3 (fun w' hS => by obtain ⟨q0, q1, q2, q3, q4, q5, q6, q7⟩ := hS; go_simp; rfl) ?_
        simp only [Act.put, List.setIfInBounds_toArray, List.set_cons_zero, List.set_cons_succ]
        refine hold_take 22 _ rfl (by kernel_rfl) (by kernel_rfl) (by kernel_rfl) (by kernel_rfl) (by kernel_rfl) (fun _ _ _ h => h) (by rfl) (fun _ => rfl) h3 (fun w' hS => by obtain ⟨q0, q1, q2, q3, q4, q5, q6, q7⟩ := hS; go_simp; rfl) ?_
        simp only [Act.put, List.setIfInBounds_toArray, List.set_cons_zero, List.set_cons_succ]
        refine hold_take 23 _ rfl (by kernel_rfl) (by kernel_rfl) (by kernel_rfl) (by kernel_rfl) (by kernel_rfl) (fun _ _ _ h => h) (by rfl) (fun _ => rfl) h3 (fun w' hS => by obtain ⟨q0, q1, q2, q3, q4, q5, q6, q7⟩ := hS; go_simp; rfl) ?_
        simp only [Act.put, List.setIfInBounds_toArray, List.set_cons_zero, List.set_cons_succ]
        refine hold_take 24 (.bool false) rfl (by kernel_rfl) (by kernel_rfl) (by kernel_rfl) (by kernel_rfl) (by kernel_rfl) (fun _ _ _ h => h) (by rfl) (fun _ => rfl) h3 (fun w' hS => by obtain ⟨q0, q1, q2, q3, q4, q5, q6, q7⟩ := hS; go_simp; (first | done | rfl | simp)) ?_
        simp only [Act.put, List.setIfInBounds_toArray, List.set_cons_zero, List.set_cons_succ]
        refine hold_take 25 (.bool false) rfl (by kernel_rfl) (by kernel_rfl) (by kernel_rfl) (by kernel_rfl) (by kernel_rfl) (fun _ _ _ h => h) (by rfl) (fun _ => rfl) h3 (fun w' hS => by obtain ⟨q0, q1, q2, q3, q4, q5, q6, q7⟩ := hS; go_simp; (first | done | rfl | simp)) ?_
        simp only [Act.put, List.setIfInBounds_toArray, List.set_cons_zero, List.set_cons_succ]
        refine hold_take 26 (.bool false) rfl (by kernel_rfl) (by kernel_rfl) (by kernel_rfl) (by kernel_rfl) (by kernel_rfl) (fun _ _ _ h => h) (by rfl) (fun _ => rfl) h3 (fun w' hS => by obtain ⟨q0, q1, q2, q3, q4, q5, q6, q7⟩ := hS; go_simp; (first | done | rfl | simp)) ?_
        simp only [Act.put, List.setIfInBounds_toArray, List.set_cons_zero, List.set_cons_succ]
        refine hold_take 27 _ rfl (by kernel_rfl) (by kernel_rfl) (by kernel_rfl) (by kernel_rfl) (by kernel_rfl) (fun _ _ _ h => h) (by rfl) (fun _ => rfl) h3 (fun w' hS => by obtain ⟨q0, q1, q2, q3, q4, q5, q6, q7⟩ := hS; go_simp; rfl) ?_
        simp only [Act.put, List.setIfInBounds_toArray, List.set_cons_zero, List.set_cons_succ]
        refine hold_take 28 _ rfl (by kernel_rfl) (by kernel_rfl) (by kernel_rfl) (by kernel_rfl) (by kernel_rfl) (fun _ _ _ h => h) (by rfl) (fun _ => rfl) h3 (fun w' hS => by obtain ⟨q0, q1, q2, q3, q4, q5, q6, q7⟩ := hS; go_simp; rfl) ?_
        simp only [Act.put, List.setIfInBounds_toArray, List.set_cons_zero, List.set_cons_succ]
        refine hold_take 29 _ rfl (by kernel_rfl) (by kernel_rfl) (by kernel_rfl) (by kernel_rfl) (by kernel_rfl) (fun _ _ _ h => h) (by rfl) (fun _ => rfl) h3 (fun w' hS => by obtain ⟨q0, q1, q2, q3, q4, q5, q6, q7⟩ := hS; go_simp; rfl) ?_
        simp only [Act.put, List.setIfInBounds_toArray, List.set_cons_zero, List.set_cons_succ]
        refine hold_take 30 _ rfl (by kernel_rfl) (by kernel_rfl) (by kernel_rfl) (by kernel_rfl) (by kernel_rfl) (fun _ _ _ h => h) (by rfl) (fun _ => rfl) h3 (fun w' hS => by obtain ⟨q0, q1, q2, q3, q4, q5, q6, q7⟩ := hS; go_simp; rfl) ?_
        simp only [Act.put, List.setIfInBounds_toArray, List.set_cons_zero, List.set_cons_succ]
        refine hold_take 31 _ rfl (by kernel_rfl) (by kernel_rfl) (by kernel_rfl) (by kernel_rfl) (by kernel_rfl) (fun _ _ _ h => h) (by rfl) (fun _ => rfl) h3 (fun w' hS => by obtain ⟨q0, q1, q2, q3, q4, q5, q6, q7⟩ := hS; go_simp; rfl) ?_
        simp only [Act.put, List.setIfInBounds_toArray, List.set_cons_zero, List.set_cons_succ]
        refine hold_take 32 (.bool false) rfl (by kernel_rfl) (by kernel_rfl) (by kernel_rfl) (by kernel_rfl) (by kernel_rfl) (fun _ _ _ h => h) (by rfl) (fun _ => rfl) h3 (fun w' hS => by obtain ⟨q0, q1, q2, q3, q4, q5, q6, q7⟩ := hS; go_simp; (first | done | rfl | simp)) ?_
        simp only [Act.put, List.setIfInBounds_toArray, List.set_cons_zero, List.set_cons_succ]
        refine hold_take 33 (.bool false) rfl (by kernel_rfl) (by kernel_rfl) (by kernel_rfl) (by kernel_rfl) (by kernel_rfl) (fun _ _ _ h => h) (by rfl) (fun _ => rfl) h3 (fun w' hS => by obtain ⟨q0, q1, q2, q3, q4, q5, q6, q7⟩ := hS; go_simp; (first | done | rfl | simp)) ?_
        simp only [Act.put, List.setIfInBounds_toArray, List.set_cons_zero, List.set_cons_succ]
        refine hold_take 34 (.bool false) rfl (by kernel_rfl) (by kernel_rfl) (by kernel_rfl) (by kernel_rfl) (by kernel_rfl) (fun _ _ _ h => h) (by rfl) (fun _ => rfl) h3 (fun w' hS => by obtain ⟨q0, q1, q2, q3, q4, q5, q6, q7⟩ := hS; go_simp; (first | done | rfl | simp)) ?_
        simp only [Act.put, List.setIfInBounds_toArray, List.set_cons_zero, List.set_cons_succ]
        refine hold_take 35 _ rfl (by kernel_rfl) (by kernel_rfl) (by kernel_rfl) (by kernel_rfl) (by kernel_rfl) (fun _ _ _ h => h) (by rfl) (fun _ => rfl) h3 (fun w' hS => by obtain ⟨q0, q1, q2, q3, q4, q5, q6, q7⟩ := hS; go_simp; rfl) ?_
        simp only [Act.put, List.setIfInBounds_toArray, List.set_cons_zero, List.set_cons_succ]
        refine hold_take 36 _ rfl (by kernel_rfl) (by kernel_rfl) (by kernel_rfl) (by kernel_rfl) (by kernel_rfl) (fun _ _ _ h => h) (by rfl) (fun _ => rfl) h3 (fun w' hS => by obtain ⟨q0, q1, q2, q3, q4, q5, q6, q7⟩ := hS; go_simp; rfl) ?_
        simp only [Act.put, List.setIfInBounds_toArray, List.set_cons_zero, List.set_cons_succ]
        refine hold_take 37 _ rfl (by kernel_rfl) (by kernel_rfl) (by kernel_rfl) (by kernel_rfl) (by kernel_rfl) (fun _ _ _ h => h) (by rfl) (fun _ => rfl) h3 (fun w' hS => by obtain ⟨q0, q1, q2, q3, q4, q5, q6, q7⟩ := hS; go_simp; rfl) ?_
        simp only [Act.put, List.setIfInBounds_toArray, List.set_cons_zero, List.set_cons_succ]
        refine hold_take 38 _ rfl (by kernel_rfl) (by kernel_rfl) (by kernel_rfl) (by kernel_rfl) (by kernel_rfl) (fun _ _ _ h => h) (by rfl) (fun _ => rfl) h3 (fun w' hS => by obtain ⟨q0, q1, q2, q3, q4, q5, q6, q7⟩ := hS; go_simp; rfl) ?_
        simp only [Act.put, List.setIfInBounds_toArray, List.set_cons_zero, List.set_cons_succ]
        refine hold_take 39 _ rfl (by kernel_rfl) (by kernel_rfl) (by kernel_rfl) (by kernel_rfl) (by kernel_rfl) (fun _ _ _ h => h) (by rfl) (fun _ => rfl) h3 (fun w' hS => by obtain ⟨q0, q1, q2, q3, q4, q5, q6, q7⟩ := hS; go_simp; rfl) ?_
        simp only [Act.put, List.setIfInBounds_toArray, List.set_cons_zero, List.set_cons_succ]
        refine hold_take 40 (.bool false) rfl (by kernel_rfl) (by kernel_rfl) (by kernel_rfl) (by kernel_rfl) (by kernel_rfl) (fun _ _ _ h => h) (by rfl) (fun _ => rfl) h3 (fun w' hS => by obtain ⟨q0, q1, q2, q3, q4, q5, q6, q7⟩ := hS; go_simp; (first | done | rfl | simp)) ?_
        simp only [Act.put, List.setIfInBounds_toArray, List.set_cons_zero, List.set_cons_succ]
        refine hold_take 41 (.bool false) rfl (by kernel_rfl) (by kernel_rfl) (by kernel_rfl) (by kernel_rfl) (by kernel_rfl) (fun _ _ _ h => h) (by rfl) (fun _ => rfl) h3 (fun w' hS => by obtain ⟨q0, q1, q2, q3, q4, q5, q6, q7⟩ := hS; go_simp; (first | done | rfl | simp)) ?_
        simp only [Act.put, List.setIfInBounds_toArray, List.set_cons_zero, List.set_cons_succ]
        refine hold_take 42 (.bool false) rfl (by kernel_rfl) (by kernel_rfl) (by kernel_rfl) (by kernel_rfl) (by kernel_rfl) (fun _ _ _ h => h) (by rfl) (fun _ => rfl) h3 (fun w' hS => by obtain ⟨q0, q1, q2, q3, q4, q5, q6, q7⟩ := hS; go_simp; (first | done | rfl | simp)) ?_
        simp only [Act.put, List.setIfInBounds_toArray, List.set_cons_zero, List.set_cons_succ]
        refine hold_take 43 _ rfl (by kernel_rfl) (by kernel_rfl) (by kernel_rfl) (by kernel_rfl) (by kernel_rfl) (fun _ _ _ h => h) (by rfl) (fun _ => rfl) h3 (fun w' hS => by obtain ⟨q0, q1, q2, q3, q4, q5, q6, q7⟩ := hS; go_simp; rfl) ?_
        simp only [Act.put, List.setIfInBounds_toArray, List.set_cons_zero, List.set_cons_succ]
        refine hold_take 44 _ rfl (by kernel_rfl) (by kernel_rfl) (by kernel_rfl) (by kernel_rfl) (by kernel_rfl) (fun _ _ _ h => h) (by rfl) (fun _ => rfl) h3 (fun w' hS => by obtain ⟨q0, q1, q2, q3, q4, q5, q6, q7⟩ := hS; go_simp; rfl) ?_
        simp only [Act.put, List.setIfInBounds_toArray, List.set_cons_zero, List.set_cons_succ]
        refine hold_take 45 _ rfl (by kernel_rfl) (by kernel_rfl) (by kernel_rfl) (by kernel_rfl) (by kernel_rfl) (fun _ _ _ h => h) (by rfl) (fun _ => rfl) h3 (fun w' hS => by obtain ⟨q0, q1, q2, q3, q4, q5, q6, q7⟩ := hS; go_simp; rfl) ?_
        simp only [Act.put, List.setIfInBounds_toArray, List.set_cons_zero, List.set_cons_succ]
        refine hold_take 46 _ rfl (by kernel_rfl) (by kernel_rfl) (by kernel_rfl) (by kernel_rfl) (by kernel_rfl) (fun _ _ _ h => h) (by rfl) (fun _ => rfl) h3 (fun w' hS => by obtain ⟨q0, q1, q2, q3, q4, q5, q6, q7⟩ := hS; go_simp; rfl) ?_
        simp only [Act.put, List.setIfInBounds_toArray, List.set_cons_zero, List.set_cons_succ]
        refine hold_take 47 _ rfl (by kernel_rfl) (by kernel_rfl) (by kernel_rfl) (by kernel_rfl) (by kernel_rfl) (fun _ _ _ h => h) (by rfl) (fun _ => rfl) h3 (fun w' hS => by obtain ⟨q0, q1, q2, q3, q4, q5, q6, q7⟩ := hS; go_simp; rfl) ?_
        simp only [Act.put, List.setIfInBounds_toArray, List.set_cons_zero, List.set_cons_succ]
        refine hold_take 48 _ rfl (by kernel_rfl) (by kernel_rfl) (by kernel_rfl) (by kernel_rfl) (by kernel_rfl) (fun _ _ _ h => h) (by rfl) (fun _ => rfl) h3 (fun w' hS => by obtain ⟨q0, q1, q2, q3, q4, q5, q6, q7⟩ := hS; go_simp; rfl) ?_
        simp only [Act.put, List.setIfInBounds_toArray, List.set_cons_zero, List.set_cons_succ]
        refine hold_take 49 (.int .u8 tv) rfl (by kernel_rfl) (by kernel_rfl) (by kernel_rfl) (by kernel_rfl) (by kernel_rfl) (fun _ _ _ h => h) (by rfl) (fun _ => rfl) h3 (fun w' hS => by obtain ⟨q0, q1, q2, q3, q4, q5, q6, q7⟩ := hS; go_simp; (first | done | rfl | simp)) ?_
        simp only [Act.put, List.setIfInBounds_toArray, List.set_cons_zero, List.set_cons_succ]
        refine hold_one 50 (by kernel_rfl) rfl (by rfl) fun K hK => ?_
        obtain ⟨z, hz⟩ : ∃ z, z = w9.drew.heap.size := ⟨_, rfl⟩
        obtain ⟨wz, hwz⟩ : ∃ wz, wz = w9.drew.alloc (.cells #[.int .u8 129, .int .u8 tv, .int .u8 128] 5) := ⟨_, rfl⟩
        have hmz : Below w9.drew.heap.size w9.drew wz := by rw [hwz]; exact (Below.refl _ _).alloc (Nat.le_refl _) _
        have hBz : Below wr.heap.size wr wz := hbW0.trans (hmz.mono hbW0.size)
        have hSz := HS.out _ hBz
        have hrz : Row wz (z + 1) (some ⟨z, 0, none⟩) 3 [129, tv, 128] := by rw [hwz, hz]; exact RowK.made _ [129, tv, 128] _ _ rfl
        have s9 := same_any Ai (some ⟨z, 0, none⟩) 3 mi 3 w9.heap.size (z + 1) [129, tv, 128] [129, tv, 128] wz (HRI.out.below (hb0.trans (hmz.mono hb0.size))) hrz (by decide)
        rw [decide_eq_true rfl] at s9
        refine run_in (fun c h => by cases h) (fun _ _ => trivial) (v := .slice (some ⟨z, 0, none⟩) 3 3) (w' := wz) (by rw [hwz, hz]; go_simp) ?_
        refine hK _ _ (.inr hSz) ?_
        clear hK K hwz hz hmz hrz
        simp only [Act.put, List.setIfInBounds_toArray, List.set_cons_zero, List.set_cons_succ]
        refine hold_one 51 (by kernel_rfl) rfl (by rfl) fun K hK => ?_
        go_simp
        refine ⟨trivial, rfl, (callsIn_wide.2 s9).mono ?_⟩
        rintro e wy ⟨rfl, dd, rfl⟩
        have hBy : Below wr.heap.size wr (wz.drewN dd) := below_drewN hBz dd
        have hSy := HS.out _ hBy
        refine hK _ _ (.inr hSy) ?_
        clear hK K s9
        refine hold_take 52 (.bool false) rfl (by kernel_rfl) (by kernel_rfl) (by kernel_rfl) (by kernel_rfl) (by kernel_rfl) (fun _ _ _ h => h) (by rfl) (fun _ => rfl) hSy (fun w' hS => by obtain ⟨q0, q1, q2, q3, q4, q5, q6, q7⟩ := hS; go_simp; (first | done | rfl | simp)) ?_
        simp only [Act.put, List.setIfInBounds_toArray, List.set_cons_zero, List.set_cons_succ]
        refine hold_take 53 (.bool false) rfl (by kernel_rfl) (by kernel_rfl) (by kernel_rfl) (by kernel_rfl) (by kernel_rfl) (fun _ _ _ h => h) (by rfl) (fun _ => rfl) hSy (fun w' hS => by obtain ⟨q0, q1, q2, q3, q4, q5, q6, q7⟩ := hS; go_simp; (first | done | rfl | simp)) ?_
        simp only [Act.put, List.setIfInBounds_toArray, List.set_cons_zero, List.set_cons_succ]
        refine held_done (by kernel_rfl) ?_ _
        have HN8 := cover (hrel.out.trans (hBy.mono hrel.out.size))
        clear h3 hSz hSy hBz hBy hb0 hbW0 HS hrel HRI
        go_wp2
        go_roundw
        case rel => exact ⟨j + 1, by omega, by go_num, HN8⟩
        case measure => simp [intOf]; omega
    · obtain rfl : j = m := by omega
      have HV := cover (HV9.out.below hrel.out)
      have hbr : Below b w wr := HX.out.bel.trans (hrel.out.mono (HSz.out _ HX.out.bel))
      have hbs := HSz.out wr hbr
      have hm3 : bits BinOp.and IntKind.u8 wd 127 = wm := by rw [HW.out]; exact (mask_127 hwd).1
      have hm4 : IntKind.u8.wrap (2 * wm) = 2 * wm := by rw [IntKind.wrap_u8, HW.out]; omega
      have d8 : wr.cell? ⟨g4, 8, none⟩ = some (.slice A4 3 c4) := by
        obtain ⟨_, _, _, _, _, _, _, _, h8⟩ := pdu_cells HV.out.hd
        rw [HP.out.2.2.2.2.2.1] at h8; exact h8
      obtain ⟨wz, hwz⟩ : ∃ wz, wz = wr.alloc (.cells #[.int .u8 129, .int .u8 7, .int .u8 (2 * wm)] 5) := ⟨_, rfl⟩
      have hbz : Below wr.heap.size wr wz := by rw [hwz]; exact (Below.refl _ _).alloc (Nat.le_refl _) _
      have hrw : Row wr wr.heap.size A4 3 [129, 7, 2 * wm] := by
        have h := HV.out.row
        rw [HP.out.2.2.2.2.1] at h; exact h
      have s9 := same_any A4 (some ⟨wr.heap.size, 0, none⟩) 3 c4 3 wr.heap.size (wr.heap.size + 1) [129, 7, 2 * wm] [129, 7, 2 * wm] wz (hrw.below hbz) (by rw [hwz]; exact RowK.made wr [129, 7, 2 * wm] _ _ rfl) (by decide)
      rw [decide_eq_true rfl] at s9
      have HH9 := cover s9
      have HZ := cover (hbr.trans (hbz.mono hbs))
      clear hrel HV hbr s9 hbz hrw
      go_wp2_with (rw [← hwz]; refine HH9.out.mono ?_)
      rintro e wy ⟨rfl, dd, rfl⟩
      clear hwz HH9
      go_wp2
      go_ret
      exact ⟨rfl, below_drewN HZ.out dd⟩
theorem walk_PlainXid (A : Option Addr) (len cap : Nat) (ds : List (Int × Int × Int)) (tt wd : Int) (w : World) (hlc : len ≤ cap) (hcm : cap ≤ maxLen) (hd : Deeds w w.heap.size A len ds ∧ ∀ q ∈ ds, (-9223372036854775808 ≤ q.1 ∧ q.1 ≤ 9223372036854775807) ∧ (-9223372036854775808 ≤ q.2.1 ∧ q.2.1 ≤ 9223372036854775807) ∧ (-9223372036854775808 ≤ q.2.2 ∧ q.2.2 ≤ 9223372036854775807))
    (ht : (Lit.int .u8 tt).wf = true) (hwd : (Lit.int .u8 wd).wf = true) :
    Calls Try.prog 8 #[.slice A len cap, .int .u8 tt, .int .u8 wd] w fun e w' => e = .returned (.bool true) ∧ Below w.heap.size w w' := by
  by_cases h0 : tt = 0
  · exact walk_PlainXid_z A len cap ds tt wd w hlc hd (u8_wf ht) (u8_wf hwd) h0
  · by_cases h1 : tt = 255
    · exact walk_PlainXid_a A len cap ds tt wd w hlc hd (u8_wf ht) (u8_wf hwd) h1
    · exact walk_PlainXid_o A len cap ds tt wd w hlc hd (u8_wf ht) (u8_wf hwd) (by omega)
end Go.Proofs.Ytgpmimohoepeiaa
