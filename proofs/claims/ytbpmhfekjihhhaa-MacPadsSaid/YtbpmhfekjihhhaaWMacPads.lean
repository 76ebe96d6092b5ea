/- The walk of MacPads. -/
import Derived.BigQuiet
import Derived.Deep.QuietTactic
import Derived.Deep.CutRange
import Derived.Test.YtbpmhfekjihhhaaMAwake
import Derived.Test.YtbpmhfekjihhhaaMSeal
import Derived.Deep.RegionHeld3
namespace Go.Proofs.Ytbpmhfekjihhhaa
open Go.RowKit
set_option linter.unusedVariables false
attribute [local go_sem ↓] ldTab_fold
attribute [local go_sem] ldTab_at

theorem or_byte_i64 {m x n : Int} (h0 : 0 ≤ m) (h1 : m ≤ 255) (hx : 0 ≤ x ∧ x ≤ 255) (e : m * 256 + x = n) :
    bits BinOp.or IntKind.i64 (IntKind.i64.wrap (m * 256)) x = n := by
  have h := or_byte m x h0 (by omega) hx
  have e1 : IntKind.i64.wrap (m * 256) = wrap64 (m * 256) := by rw [IntKind.wrap_i64, IntWalk.wrap64_in _ ⟨by omega, by omega⟩]; omega
  have e2 : wrap64 x = x := IntWalk.wrap64_in _ ⟨by omega, by omega⟩
  rw [e2] at h
  rw [e1, h, e]
theorem or_u32 (a b k : Nat) (ha : a < 2 ^ k) (hb : b * 2 ^ k + a < 4294967296) : bits BinOp.or IntKind.u32 (a : Int) ((b * 2 ^ k : Nat) : Int) = ((b * 2 ^ k + a : Nat) : Int) := by
  rw [u32_or_nat _ _ (by omega) (by omega), Nat.or_comm]
  have := Nat.shiftLeft_add_eq_or_of_lt ha b
  rw [Nat.shiftLeft_eq] at this
  rw [← this]
theorem or_four {R z0 z1 z2 z3 : Int} (hR : 0 ≤ R ∧ R < 4294967296) (h0 : R % 256 = z0) (h1 : R / 256 % 256 = z1) (h2 : R / 65536 % 256 = z2) (h3 : R / 16777216 = z3) :
    bits BinOp.or IntKind.u32 (bits BinOp.or IntKind.u32 (bits BinOp.or IntKind.u32 z0 (IntKind.u32.wrap (z1 * 256))) (IntKind.u32.wrap (z2 * 65536))) (IntKind.u32.wrap (z3 * 16777216)) = R := by
  obtain ⟨r, rfl⟩ : ∃ r : Nat, (r : Int) = R := ⟨R.toNat, by omega⟩
  have e1 : IntKind.u32.wrap (z1 * 256) = ((r / 256 % 256 * 2 ^ 8 : Nat) : Int) := by rw [IntKind.wrap_u32]; omega
  have e2 : IntKind.u32.wrap (z2 * 65536) = ((r / 65536 % 256 * 2 ^ 16 : Nat) : Int) := by rw [IntKind.wrap_u32]; omega
  have e3 : IntKind.u32.wrap (z3 * 16777216) = ((r / 16777216 * 2 ^ 24 : Nat) : Int) := by rw [IntKind.wrap_u32]; omega
  rw [e1, e2, e3, show z0 = ((r % 256 : Nat) : Int) by omega, or_u32 _ _ 8 (by omega) (by omega), or_u32 _ _ 16 (by omega) (by omega), or_u32 _ _ 24 (by omega) (by omega)]
  omega

set_option maxRecDepth 100000 in
set_option maxHeartbeats 3200000 in
theorem pads_in (t0 t1 t2 t3 t4 t5 f0 f1 f2 f3 f4 f5 : Int) (A : Option Addr) (n c : Nat) (d s : List Int) (w w2 : World) (h1 : Bts [t0, t1, t2, t3, t4, t5]) (h2 : Bts [f0, f1, f2, f3, f4, f5]) (hc : n ≤ c) (hcm : c ≤ maxLen) (hr : Row w2 w.heap.size A n d) (hd : Bts d) (hnil : A = none → c = 0) (hn : n ≤ 1500) (hg : Hid (grp f0 = false)) (hs : Hid (SealOf [t0, t1, t2, t3, t4, t5] [f0, f1, f2, f3, f4, f5] d s))
    (hw2 : Hid (w2 = w.alloc (.cells #[.int .u8 t0, .int .u8 t1, .int .u8 t2, .int .u8 t3, .int .u8 t4, .int .u8 t5, .int .u8 f0, .int .u8 f1, .int .u8 f2, .int .u8 f3, .int .u8 f4, .int .u8 f5, .slice A n c] 36))) :
    Calls Try.prog 7 #[.agg #[.int .u8 t0, .int .u8 t1, .int .u8 t2, .int .u8 t3, .int .u8 t4, .int .u8 t5, .int .u8 f0, .int .u8 f1, .int .u8 f2, .int .u8 f3, .int .u8 f4, .int .u8 f5, .slice A n c]] w fun e w' => e = .returned (.bool true) ∧ Below w.heap.size w w' := by
  unfold maxLen at hcm
  have i1 : ¬ ((1500 : Int) < (n : Int)) := by omega
  have HH1 := cover (And.intro h1 (And.intro h2 (And.intro hd hnil)))
  have H2 : Hid (Below w.heap.size w w2) := cover (by rw [hw2.out]; exact (Below.refl _ _).alloc (Nat.le_refl _) _)
  have G2 : Hid (w2.heap[w.heap.size]? = some (.cells #[.int .u8 t0, .int .u8 t1, .int .u8 t2, .int .u8 t3, .int .u8 t4, .int .u8 t5, .int .u8 f0, .int .u8 f1, .int .u8 f2, .int .u8 f3, .int .u8 f4, .int .u8 f5, .slice A n c] 36 (0, 0))) := cover (by rw [hw2.out]; exact heap_alloc_new _ _)
  have hs2 : w.heap.size < w2.heap.size := block_lt G2.out
  have R2 := cover hr
  clear hr h1 h2 hd hnil
  go_enter Try.func7, Try.ntmps7
  go_wp2_with fail
  rw [← hw2.out]
  refine (awake_any w2).mono ?_
  rintro e w3 ⟨rfl, hb3⟩
  have hs3 := hb3.size
  have H3 := cover (H2.out.trans (hb3.mono (by omega)))
  have g3 := (hb3.block w.heap.size hs2).trans G2.out
  have G3 := cover g3
  have R3 := cover (R2.out.below (hb3.mono (by omega)))
  have k3 := (FrmIn.ofHeap g3).dat
  have k4 := (FrmIn.ofHeap g3).fr.all6
  clear hb3 g3
  go_wp2_with fail
  refine (group_any f0 f1 f2 f3 f4 f5 w3).mono ?_
  rintro e wg ⟨he, hbg⟩
  rw [hg.out] at he
  subst he
  have hsg := hbg.size
  have Hg := cover (H3.out.trans (hbg.mono (by omega)))
  have Gg := cover ((hbg.block w.heap.size (by omega)).trans G3.out)
  have Rg := cover (R3.out.below (hbg.mono (by omega)))
  clear hbg k3 k4
  go_wp2_with fail
  refine (make_any _).mono ?_
  rintro e w4 ⟨T, rfl, hT, hb4⟩
  have hs4 := hb4.size
  have hbel4 := Hg.out.trans (hb4.mono (by omega))
  have hs04 := hbel4.size
  have G4 := cover ((hb4.block w.heap.size (by omega)).trans Gg.out)
  have R4 := cover (Rg.out.below (hb4.mono (by omega)))
  go_wp2_with (first
    | (refine new_var rfl _ rfl _ _ (alloc_tab _) ?_)
    | (refine store_tab (w0 := w4) rfl _ _ rfl w4.heap.size w4.heap.size T tabRow rfl rfl hT (heap_alloc_new _ _) ((Below.refl _ _).alloc (Nat.le_refl _) _) (Nat.le_refl _) ?_; intro w5 ht5 hb5; have hs5 := hb5.size; have hlt5 := ht5.lt; have H5 := cover (hbel4.trans (hb5.mono hs04)); have G5 := cover ((hb5.block w.heap.size (by omega)).trans G4.out); have R5 := cover (R4.out.below (hb5.mono (by omega))); have T5 := cover ht5; clear ht5 hb5)
    | (refine load_tab rfl _ rfl _ _ _ T5.out rfl ?_)
    | (refine wpList_load_row rfl _ _ rfl w.heap.size rfl 36 #[.int .u8 t0, .int .u8 t1, .int .u8 t2, .int .u8 t3, .int .u8 t4, .int .u8 t5, .int .u8 f0, .int .u8 f1, .int .u8 f2, .int .u8 f3, .int .u8 f4, .int .u8 f5, .slice A n c] (0, 0) _ G5.out Try.underlying36 rfl frm_size ?_))
  refine (enc_ok T t0 t1 t2 t3 t4 t5 f0 f1 f2 f3 f4 f5 A n c w.heap.size d s w5 hT R5.out (by omega) hc HH1.out.2.2.2 HH1.out.1 HH1.out.2.1 HH1.out.2.2.1 hg.out (by have := R5.out.len; omega) hs.out).mono ?_
  rintro e w6 ⟨A6, c6, rfl, ho6, hb6⟩
  have hs6 := hb6.size
  have H6 := cover (H5.out.trans (hb6.mono (by omega)))
  have G6 := cover ((hb6.block w.heap.size (by omega)).trans G5.out)
  have R6 := cover (R5.out.below (hb6.mono (by omega)))
  have T6 := cover (T5.out.below hb6 T5.out.lt)
  have O6 := cover ho6
  have hcap6 := own_cap ho6
  have hmax6 := own_max ho6
  obtain ⟨gs, rfl, hgs6, hgsl6⟩ := own_some ho6 (by have := hs.out.len; omega)
  have hsl := hs.out.len
  have HSL := cover hsl
  have hs0 : 64 ≤ s.length := by omega
  have hs1 : s.length ≤ 1518 := by have := R6.out.len; omega
  have hgt := T6.out.lt
  obtain ⟨g, hgdef⟩ : ∃ g, g = w4.heap.size := ⟨_, rfl⟩
  rw [← hgdef] at T6 hgt ⊢
  have hgw : w.heap.size ≤ g := by omega
  have hgg5 : g < w5.heap.size := by omega
  clear hb6 ho6 hsl hgdef hlt5
  have hdn : Hid (d.length = n) := cover R6.out.len
  have hto := cover hs.out.toAt
  have hfr := cover hs.out.frAt
  have hzz : Hid (∀ k, 14 + n + k < s.length - 4 → s[14 + n + k]? = some 0) := cover (by rw [← hdn.out]; exact hs.out.zeroAt)
  have P6 : Hid (Row w6 w6.heap.size (some ⟨gs, 0, none⟩) s.length s) := cover O6.out.row
  have F6 := cover (FrmIn.ofHeap G6.out)
  have kd := F6.out.dat
  have hdI := hdn.out
  have hsI := HSL.out
  rcases Nat.lt_or_ge n 46 with h46 | h46
  all_goals
   first
    | (have hI : (n : Int) < 46 := by omega)
    | (have hI : ¬ ((n : Int) < 46) := by omega)
   first
    | (have hne : ((s.length : Int) != 64) = false := by (have : (s.length : Int) = 64 := by omega); rw [this]; rfl)
    | (have hne : ((s.length : Int) != 14 + (n : Int) + 4) = false := by (have : (s.length : Int) = 14 + (n : Int) + 4 := by omega); rw [this]; simp)
   have hmaxn : Hid (max n 46 + 18 = s.length) := cover (by omega)
   clear hdI hsI h46
   go_wp2_with fail
   go_loopw [6] (fun i wr => ∃ j : Nat, j ≤ 6 ∧ i = .int .i64 j ∧ ∃ dd, wr = w6.drewN dd) (fun i _ => 6 - (intOf i).toNat)
   case atStart => exact ⟨0, by decide, rfl, 0, rfl⟩
   case round =>
    obtain ⟨j, hj, rfl, dd, rfl⟩ := hrel
    by_cases hlt : j < 6
    · have hltI : (j : Int) < 6 := by omega
      have hj0 : (0 : Int) ≤ (j : Int) := by omega
      have hjs : (j : Int) < (s.length : Int) := by omega
      have hj6 : (6 : Int) + (j : Int) < (s.length : Int) := by omega
      have hj60 : (0 : Int) ≤ (6 : Int) + (j : Int) := by omega
      have hwj : IntKind.i64.wrap (6 + (j : Int)) = 6 + (j : Int) := by rw [IntKind.wrap_i64]; omega
      have hjn : ((6 : Int) + (j : Int)).toNat = 6 + j := by omega
      obtain ⟨a, ha⟩ : ∃ a, Hid ([t0, t1, t2, t3, t4, t5][j]? = some a) := ⟨_, cover (List.getElem?_eq_getElem (by simpa using hlt))⟩
      obtain ⟨b, hb⟩ : ∃ b, Hid ([f0, f1, f2, f3, f4, f5][j]? = some b) := ⟨_, cover (List.getElem?_eq_getElem (by simpa using hlt))⟩
      have c1 : w6.cell? ⟨gs, j, none⟩ = some (.int .u8 a) := by
        obtain ⟨ad, x, e, _, hc, hx⟩ := P6.out.at_ (show j < s.length by omega)
        injection e with e
        rw [← e, addr0] at hc
        have h2 := hto.out j a hlt ha.out
        rw [hx.out] at h2
        injection h2 with h2
        rw [← h2]; exact hc
      have c2 : w6.cell? ⟨gs, 6 + j, none⟩ = some (.int .u8 b) := by
        obtain ⟨ad, x, e, _, hc, hx⟩ := P6.out.at_ (show 6 + j < s.length by omega)
        injection e with e
        rw [← e, addr0] at hc
        have h2 := hfr.out j b hlt hb.out
        rw [hx.out] at h2
        injection h2 with h2
        rw [← h2]; exact hc
      have c3 : w6.cell? ⟨w.heap.size, j, none⟩ = some (.int .u8 a) := by
        have h := F6.out.to j (by simpa using hlt)
        rw [Nat.zero_add] at h
        have h2 := ha.out
        rw [List.getElem?_eq_getElem (by simpa using hlt)] at h2
        injection h2 with h2
        rw [h, h2]
      have c4 : w6.cell? ⟨w.heap.size, 6 + j, none⟩ = some (.int .u8 b) := by
        have h := F6.out.fr j (by simpa using hlt)
        have h2 := hb.out
        rw [List.getElem?_eq_getElem (by simpa using hlt)] at h2
        injection h2 with h2
        rw [h, h2]
      have haa : (a != a) = false := by simp
      have hbb : (b != b) = false := by simp
      go_wp2_with fail
      go_quiet (fail)
      go_wp2
      go_roundw
      case rel => exact ⟨j + 1, by omega, by go_num, dd + nq, rfl⟩
      case measure => simp [intOf]; omega
    · obtain rfl : j = 6 := by omega
      go_wp2_with fail
      go_loop [7] (fun i => ∃ k : Nat, 14 + n + k ≤ s.length - 4 ∧ i = .int .i64 ((14 : Int) + (n : Int) + (k : Int))) (fun i => s.length - (intOf i).toNat)
      case atStart => exact ⟨0, by have := hmaxn.out; omega, by simp⟩
      case round =>
        obtain ⟨k, hk, rfl⟩ := hrel
        by_cases hltk : 14 + n + k < s.length - 4
        · have hltkI : (14 : Int) + (n : Int) + (k : Int) < (s.length : Int) - 4 := by omega
          have hltkJ : (14 : Int) + (n : Int) + (k : Int) < (s.length : Int) := by omega
          have htn : ((14 : Int) + (n : Int) + (k : Int)).toNat = 14 + n + k := by omega
          have c5 : w6.cell? ⟨gs, 14 + n + k, none⟩ = some (.int .u8 0) := by
            obtain ⟨ad, x, e, _, hc, hx⟩ := P6.out.at_ (show 14 + n + k < s.length by omega)
            injection e with e
            rw [← e, addr0] at hc
            have h2 := hzz.out k hltk
            rw [hx.out] at h2
            injection h2 with h2
            rw [← h2]; exact hc
          go_wp2
          go_round
          case rel => exact ⟨k + 1, by omega, by first | go_num | (congr 1; omega)⟩
          case measure => simp [intOf]; omega
        · have hltkI : ¬ ((14 : Int) + (n : Int) + (k : Int) < (s.length : Int) - 4) := by omega
          obtain ⟨v, hv, y0, y1, y2, y3⟩ := hs.out.sumAt
          obtain ⟨l12, l13⟩ := hs.out.lenAt
          rw [hdn.out] at l12 l13
          obtain ⟨x12, hx12⟩ : ∃ x, Hid ((n : Int) / 256 % 256 = x) := ⟨_, cover rfl⟩
          obtain ⟨x13, hx13⟩ : ∃ x, Hid ((n : Int) % 256 = x) := ⟨_, cover rfl⟩
          obtain ⟨z0, hz0⟩ : ∃ x, Hid (rg v % 256 = x) := ⟨_, cover rfl⟩
          obtain ⟨z1, hz1⟩ : ∃ x, Hid (rg v / 256 % 256 = x) := ⟨_, cover rfl⟩
          obtain ⟨z2, hz2⟩ : ∃ x, Hid (rg v / 65536 % 256 = x) := ⟨_, cover rfl⟩
          obtain ⟨z3, hz3⟩ : ∃ x, Hid (rg v / 16777216 = x) := ⟨_, cover rfl⟩
          rw [hx12.out] at l12
          rw [hx13.out] at l13
          rw [hz0.out] at y0
          rw [hz1.out] at y1
          rw [hz2.out] at y2
          rw [hz3.out] at y3
          obtain ⟨p4, hp4⟩ : ∃ p, Hid (s.length - 4 = p) := ⟨_, cover rfl⟩
          obtain ⟨p3, hp3⟩ : ∃ p, Hid (s.length - 3 = p) := ⟨_, cover rfl⟩
          obtain ⟨p2, hp2⟩ : ∃ p, Hid (s.length - 2 = p) := ⟨_, cover rfl⟩
          obtain ⟨p1, hp1⟩ : ∃ p, Hid (s.length - 1 = p) := ⟨_, cover rfl⟩
          rw [hp4.out] at y0 hv
          rw [hp3.out] at y1
          rw [hp2.out] at y2
          rw [hp1.out] at y3
          obtain ⟨w8, hw8⟩ : ∃ w8, Hid (w8 = w6.drewN dd) := ⟨_, cover rfl⟩
          have H8 : Hid (Below w.heap.size w w8) := cover (by rw [hw8.out]; exact below_drewN H6.out _)
          have T8 : Hid (TabIn w8 g T tabRow) := cover (by rw [hw8.out]; exact T6.out.drewN _)
          have P8 : Hid (Row w8 w6.heap.size (some ⟨gs, 0, none⟩) s.length s) := cover (by rw [hw8.out]; exact P6.out.drewN _)
          have D8 : w8.cell? ⟨w.heap.size, 12, none⟩ = some (.slice A n c) := by rw [hw8.out]; exact F6.out.dat
          have hs8 : w6.heap.size = w8.heap.size := by rw [hw8.out]; rfl
          have hcell : ∀ W', Below w8.heap.size w8 W' → ∀ k x, s[k]? = some x → W'.cell? ⟨gs, k, none⟩ = some (.int .u8 x) := fun W' hb k x hx => by
            obtain ⟨hk, _⟩ := List.getElem?_eq_some_iff.1 hx
            obtain ⟨ad, x', e, _, hc, hx'⟩ := (P8.out.below (hb.mono (by omega))).at_ hk
            injection e with e
            rw [← e, addr0] at hc
            rw [hx'.out] at hx
            injection hx with hx
            rw [← hx]; exact hc
          have HK : Hid (∀ W', Below w8.heap.size w8 W' → tabOf W' g = T ∧ World.cell? W' ⟨gs, 12, none⟩ = some (.int .u8 x12) ∧ World.cell? W' ⟨gs, 13, none⟩ = some (.int .u8 x13) ∧ World.cell? W' ⟨gs, p4, none⟩ = some (.int .u8 z0) ∧ World.cell? W' ⟨gs, p3, none⟩ = some (.int .u8 z1) ∧ World.cell? W' ⟨gs, p2, none⟩ = some (.int .u8 z2) ∧ World.cell? W' ⟨gs, p1, none⟩ = some (.int .u8 z3) ∧ World.cell? W' ⟨w.heap.size, 12, none⟩ = some (.slice A n c) ∧ Below w8.heap.size w8 W') := cover (fun W' hb =>
            ⟨(tabOf_below hb (by have := T8.out.lt; omega)).trans T8.out.of, hcell W' hb _ _ l12, hcell W' hb _ _ l13, hcell W' hb _ _ y0, hcell W' hb _ _ y1, hcell W' hb _ _ y2, hcell W' hb _ _ y3, (hb.cell (p := ⟨w.heap.size, 12, none⟩) (by show w.heap.size < _; omega)).trans D8, hb⟩)
          obtain ⟨R, hR⟩ : ∃ R, Hid (rg v = R) := ⟨_, cover rfl⟩
          have hsum := sum_from T (some ⟨gs, 0, none⟩) p4 c6 w6.heap.size (s.take p4) w8 hT (P8.out.take (by have := hp4.out; omega)) (by omega) (hs.out.bts.take _) (by have := hp4.out; omega)
          rw [hv, hR.out] at hsum
          have HSum := cover hsum
          have b12 : 0 ≤ x12 ∧ x12 ≤ 255 := by rw [← hx12.out]; omega
          have b13 : 0 ≤ x13 ∧ x13 ≤ 255 := by rw [← hx13.out]; omega
          have hRb := rg_bd v
          rw [hR.out] at hRb hz0 hz1 hz2 hz3
          have hRbH := cover hRb
          have c0 : 0 ≤ z0 ∧ z0 ≤ 255 := by rw [← hz0.out]; omega
          have c1' : 0 ≤ z1 ∧ z1 ≤ 255 := by rw [← hz1.out]; omega
          have c2' : 0 ≤ z2 ∧ z2 ≤ 255 := by rw [← hz2.out]; omega
          have c3' : 0 ≤ z3 ∧ z3 ≤ 255 := by rw [← hz3.out]; omega
          have q4 : (s.length : Int) - 4 = (p4 : Int) := by have := hp4.out; omega
          have q3 : (s.length : Int) - 3 = (p3 : Int) := by have := hp3.out; omega
          have q2 : (s.length : Int) - 2 = (p2 : Int) := by have := hp2.out; omega
          have q1 : (s.length : Int) - 1 = (p1 : Int) := by have := hp1.out; omega
          have r4 : IntKind.i64.wrap (p4 : Int) = (p4 : Int) := by rw [IntKind.wrap_i64]; omega
          have r3 : IntKind.i64.wrap (p3 : Int) = (p3 : Int) := by rw [IntKind.wrap_i64]; omega
          have r2 : IntKind.i64.wrap (p2 : Int) = (p2 : Int) := by rw [IntKind.wrap_i64]; omega
          have r1 : IntKind.i64.wrap (p1 : Int) = (p1 : Int) := by rw [IntKind.wrap_i64]; omega
          have s4 : (p4 : Int) < (s.length : Int) := by omega
          have s3 : (p3 : Int) < (s.length : Int) := by omega
          have s2 : (p2 : Int) < (s.length : Int) := by omega
          have s1 : (p1 : Int) < (s.length : Int) := by omega
          have s5 : (p4 : Int) ≤ (c6 : Int) := by omega
          have s6 : (13 : Int) < (s.length : Int) := by omega
          have s7 : (12 : Int) < (s.length : Int) := by omega
          have wx12 : IntKind.i64.wrap x12 = x12 := by rw [IntKind.wrap_i64]; omega
          have wx13 : IntKind.i64.wrap x13 = x13 := by rw [IntKind.wrap_i64]; omega
          have hT256 := hT.size
          have hA : bits BinOp.or IntKind.i64 (IntKind.i64.wrap (x12 * 256)) x13 = (n : Int) := or_byte_i64 b12.1 b12.2 b13 (by rw [← hx12.out, ← hx13.out]; omega)
          have hB : bits BinOp.or IntKind.u32 (bits BinOp.or IntKind.u32 (bits BinOp.or IntKind.u32 z0 (IntKind.u32.wrap (z1 * 256))) (IntKind.u32.wrap (z2 * 65536))) (IntKind.u32.wrap (z3 * 16777216)) = R := or_four hRbH.out hz0.out hz1.out hz2.out hz3.out
          have wz0 : IntKind.u32.wrap z0 = z0 := by rw [IntKind.wrap_u32]; omega
          have wz1 : IntKind.u32.wrap z1 = z1 := by rw [IntKind.wrap_u32]; omega
          have wz2 : IntKind.u32.wrap z2 = z2 := by rw [IntKind.wrap_u32]; omega
          have wz3 : IntKind.u32.wrap z3 = z3 := by rw [IntKind.wrap_u32]; omega
          clear l12 l13 y0 y1 y2 y3 hv hcell hsum hRb D8 kd
          go_upto_region 19 with fail
          rw [← hw8.out]
          go_region_held3 (fun W' => tabOf W' g = T ∧ World.cell? W' ⟨gs, 12, none⟩ = some (.int .u8 x12) ∧ World.cell? W' ⟨gs, 13, none⟩ = some (.int .u8 x13) ∧ World.cell? W' ⟨gs, p4, none⟩ = some (.int .u8 z0) ∧ World.cell? W' ⟨gs, p3, none⟩ = some (.int .u8 z1) ∧ World.cell? W' ⟨gs, p2, none⟩ = some (.int .u8 z2) ∧ World.cell? W' ⟨gs, p1, none⟩ = some (.int .u8 z3) ∧ World.cell? W' ⟨w.heap.size, 12, none⟩ = some (.slice A n c) ∧ Below w8.heap.size w8 W')
            (first | exact HK.out _ hbX | exact HK.out _ (Below.refl _ _).drew)
            (first | (go_at_call 31; refine (HSum.out _ ?_).mono ?_; (go_split_ands; assumption); rintro e w9 ⟨rfl, hbX⟩))
          all_goals
            go_wp2
            go_ret
            exact ⟨ret_bool (by simp), H8.out.trans (hbX.mono H8.out.size)⟩
end Go.Proofs.Ytbpmhfekjihhhaa
