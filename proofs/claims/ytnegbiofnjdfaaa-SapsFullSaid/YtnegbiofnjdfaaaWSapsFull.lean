/- The walk of SapsFull. -/
import Derived.Laws.MakeOwn
import Derived.Deep.AppendLies
import Derived.Deep.RegionHeld3
import Derived.Test.YtnegbiofnjdfaaaSKeep
import Derived.Test.YtnegbiofnjdfaaaSFull
namespace Go.Proofs.Ytnegbiofnjdfaaa
open Go.RowKit
set_option linter.unusedVariables false

theorem bool_info : (Try.prog.info? 4).map (fun i => (i.zero, i.size, i.bytes)) = some (some (.bool false), 1, 1) := by kernel_rfl
/-- sixteen answers in a row -/
def boolRow (M : Nat → Bool) : Array Value := ((List.range 16).map fun i => Value.bool (M i)).toArray
theorem boolRow_at (M : Nat → Bool) {k : Nat} (h : k < 16) : (boolRow M)[k]? = some (.bool (M k)) := by
  unfold boolRow
  rw [List.getElem?_toArray, List.getElem?_map, List.getElem?_range h]
  rfl
theorem boolRow_set (M : Nat → Bool) (k : Nat) (v : Bool) : (boolRow M).setIfInBounds k (.bool v) = boolRow (updM M k v) := by
  apply Array.ext_getElem?
  intro i
  by_cases hi : i < 16
  · rw [boolRow_at _ hi]
    by_cases e : i = k
    · subst e
      rw [Array.getElem?_setIfInBounds_self_of_lt (by simp [boolRow]; exact hi), updM_at]
    · rw [Array.getElem?_setIfInBounds_ne (fun e2 => e e2.symm), boolRow_at _ hi, updM_ne _ _ e]
  · rw [Array.getElem?_eq_none (by simp [boolRow]; omega), Array.getElem?_eq_none (by simp [boolRow]; omega)]
theorem made16 : madeCells (Value.bool false).cells (Int.toNat 16 * 1) = boolRow (fun _ => false) := by
  apply Array.ext_getElem?
  intro i
  show (madeCells #[.bool false] 16)[i]? = _
  by_cases hi : i < 16
  · rw [boolRow_at _ hi]
    simp [madeCells, hi, Nat.mod_one]
  · rw [Array.getElem?_eq_none (by rw [size_madeCells]; omega), Array.getElem?_eq_none (by simp [boolRow]; omega)]
theorem mk_bools (w : World) : (Instr.makeSlice 45 (.int .i64 16) (.int .i64 16)).run Try.prog w = .ok (.slice (some ⟨w.heap.size, 0, none⟩) 16 16) (w.alloc (.cells (boolRow fun _ => false) 4)) := by
  obtain ⟨i0, hi, hz0, hz1, hz2⟩ := info_parts bool_info
  have h := run_makeSlice (P := Try.prog) (w := w) 45 4 i0 (.bool false) Try.underlying45 hi hz0 .i64 .i64 (16 : Int) (16 : Int) (by omega) (Int.le_refl _) (by rw [hz1]; omega) (by rw [hz2]; omega) (by omega)
  rw [hz1, show madeCells (Value.bool false).cells (Int.toNat 16 * 1) = boolRow (fun _ => false) from made16] at h
  exact h
/-- who is in the group: as the Saps has it, as the law's own row has it -/
structure FullAt (B : Nat) (w : World) (s mb : Nat) (c a : Int) (M : Nat → Bool) (wr : World) : Prop where
  has : SHas B wr s (memL c a M)
  row : wr.heap[mb]? = some (.cells (boolRow M) 4 (0, 0))
  bel : Below B w wr
  le : B ≤ mb
theorem FullAt.cell {B : Nat} {w : World} {s mb : Nat} {c a : Int} {M : Nat → Bool} {wr : World} (h : FullAt B w s mb c a M wr) {k : Nat} (hk : k < 16) : wr.cell? ⟨mb, k, none⟩ = some (.bool (M k)) ∧ wr.frozen? ⟨mb, k, none⟩ = false :=
  ⟨by rw [cell_of_row _ _ _ _ _ _ h.row]; exact boolRow_at M hk, by simp [World.frozen?, h.row]⟩
theorem FullAt.drew {B : Nat} {w : World} {s mb : Nat} {c a : Int} {M : Nat → Bool} {wr : World} (h : FullAt B w s mb c a M wr) : FullAt B w s mb c a M wr.drew := ⟨h.has.drewN 1, h.row, below_drewN h.bel 1, h.le⟩
theorem FullAt.done {B : Nat} {w : World} {s mb : Nat} {c a : Int} {M : Nat → Bool} {wr w' : World} (h : FullAt B w s mb c a M wr) {k : Nat} {v : Bool} (hk : k < 16) (hd : Done B s (memL c a (updM M k v)) wr w') : FullAt B w s mb c a (updM M k v) (w'.setCell ⟨mb, k, none⟩ (.bool v)) := by
  have hm := hd.2.2 mb _ h.row (map_cells _ _ _)
  refine ⟨hd.1.kept (KeepO.set hm k (.bool v)) ty_map (ty_ne (by decide)), ?_, (h.bel.trans hd.2.1).setCell (p := ⟨mb, k, none⟩) h.le _, h.le⟩
  rw [set_block hm, boolRow_set]
theorem FullAt.below {B : Nat} {w : World} {s mb : Nat} {c a : Int} {M : Nat → Bool} {wr w' : World} (h : FullAt B w s mb c a M wr) (hb : Below wr.heap.size wr w') : FullAt B w s mb c a M w' :=
  ⟨h.has.below hb, (hb.block mb (block_lt h.row)).trans h.row, h.bel.trans (hb.mono h.has.size), h.le⟩
theorem FullAt.grown {B : Nat} {w : World} {s mb : Nat} {c a : Int} {M : Nat → Bool} {wr w' : World} (h : FullAt B w s mb c a M wr) {n : Nat} {v : Value} {xs : List Value} (ho : wr.ownsRow B 3 1 v n xs) (hg : wr.grownBy w' v.ownBlock) (hs : B ≤ wr.heap.size) : FullAt B w s mb c a M w' := by
  have hk := KeepO.grown ho hg
  exact ⟨h.has.kept hk ty_map (ty_ne (by decide)), hk mb _ h.row (ty_ne (by decide) _ _), below_grown h.bel hs ho hg, h.le⟩
/-- .. and the row of those whom it is told of -/
structure WantAt (B : Nat) (w : World) (s mb : Nat) (c a : Int) (M : Nat → Bool) (n : Nat) (v : Value) (wr : World) : Prop where
  at_ : FullAt B w s mb c a M wr
  own : wr.ownsRow B 3 1 v (wantL M n).length ((wantL M n).map (Value.int .i64))
set_option maxRecDepth 100000 in
set_option maxHeartbeats 1600000 in
theorem walk_SapsFull (a0 : Int) (A : Option Addr) (len cap : Nat) (l : List Int) (a2 : Int) (w : World) (h0' : (Lit.int .u8 a0).wf = true) (hlc : len ≤ cap) (hcm : cap ≤ maxLen) (hr : Row w w.heap.size A len l) (hbt : ∀ x ∈ l, (Lit.int .u8 x).wf = true) (h2' : (Lit.int .u8 a2).wf = true) :
    Calls Try.prog 6 #[.int .u8 a0, .slice A len cap, .int .u8 a2] w fun e w' => e = .returned (.bool true) ∧ Below w.heap.size w w' := by
  have h0 := u8_wf h0'
  have h2 := u8_wf h2'
  have HR := cover hr
  have HT := cover hbt
  obtain ⟨B, hB⟩ : ∃ B, w.heap.size = B := ⟨_, rfl⟩
  rw [hB]
  have hBw : B ≤ w.heap.size := by omega
  have HBE := cover hB
  have HCM := cover hcm
  clear hB hr h0' h2' hcm hbt
  by_cases hbig : 100 < len
  · go_enter Try.func6, Try.ntmps6
    go_wp2_with fail
    refine (awake_any w).mono ?_
    rintro e w0 ⟨rfl, hb0⟩
    have HB0 : Hid (Below B w w0) := cover (hb0.mono hBw)
    clear hb0
    go_wp2
    go_ret
    exact ⟨rfl, HB0.out⟩
  obtain ⟨c, hc⟩ : ∃ c : Int, (1 : Int) + a0 % 4 = c := ⟨_, rfl⟩
  have HC : Hid (OkCls c) := cover (by unfold OkCls; omega)
  obtain ⟨a, ha⟩ : ∃ a : Int, (1 : Int) + 2 * (a2 % 127) = a := ⟨_, rfl⟩
  have HA : Hid (OkGrp a) := cover (by unfold OkGrp; omega)
  have ha64 : I64 a := grp_64 HA.out
  go_enter Try.func6, Try.ntmps6
  go_wp2_with fail
  refine (awake_any w).mono ?_
  rintro e w0 ⟨rfl, hb0⟩
  have HB0 : Hid (Below B w w0) := cover (hb0.mono hBw)
  have hs0 : B ≤ w0.heap.size := Nat.le_trans hBw hb0.size
  clear hb0
  go_wp2_with fail
  refine (new_has hs0).mono ?_
  rintro e w1 ⟨s, rfl, H1'⟩
  have H1 : Hid (SHas B w1 s (fullS 0 c) ∧ Below B w w1) := cover ⟨H1'.out.1, HB0.out.trans H1'.out.2⟩
  clear H1' HB0
  go_wp2_with fail
  go_loopw [8] (fun iv wr => ∃ j : Nat, j ≤ 16 ∧ iv = .int .i64 j ∧ Hid (SHas B wr s (fullS j c) ∧ Below B w wr)) (fun i _ => 16 - (intOf i).toNat)
  case atStart => exact ⟨0, by omega, rfl, H1⟩
  case round =>
    obtain ⟨j, hj, rfl, hrel⟩ := hrel
    by_cases hlt : (j : Int) < 16
    · obtain ⟨n, hn⟩ : ∃ n : Int, (2 : Int) + 2 * (j : Int) = n := ⟨_, rfl⟩
      have hw1 : IntKind.i64.wrap (2 * (j : Int)) = 2 * j := by rw [IntKind.wrap_i64]; omega
      have hw2 : IntKind.i64.wrap (2 + 2 * (j : Int)) = n := by rw [IntKind.wrap_i64]; omega
      have s1 := open_has hrel.out.1 (n := n) (i64_of (by omega)) c
      obtain ⟨e1, e2⟩ := fullS_open (k := j) (by omega) HC.out
      rw [hn] at e1 e2
      rw [e1, e2] at s1
      clear e1 e2 hn
      go_wp2_with fail
      refine s1.mono ?_
      rintro e w2 ⟨rfl, H2⟩
      have H3 : Hid (SHas B w2 s (fullS (j + 1) c) ∧ Below B w w2) := cover ⟨H2.out.1, hrel.out.2.trans H2.out.2⟩
      clear s1 H2 hrel hw1 hw2
      go_wp2
      go_roundw
      case rel => exact ⟨j + 1, by omega, by go_num, H3⟩
      case measure => simp [intOf]; omega
    · obtain rfl : j = 16 := by omega
      go_wp2_with fail
      have s1 := open_has hrel.out.1 (n := 34) k64 1
      obtain ⟨e1, e2⟩ := fullS_34 c
      rw [e1, e2] at s1
      refine s1.mono ?_
      rintro e w2 ⟨rfl, H2⟩
      have B2 := cover (hrel.out.2.trans H2.out.2)
      clear s1 e1 e2 hrel
      have s1 := open_has H2.out.1 (n := 2) k64 1
      obtain ⟨e1, e2⟩ := fullS_2 c
      rw [e1, e2] at s1
      go_wp2_with fail
      refine s1.mono ?_
      rintro e w3 ⟨rfl, H3⟩
      have B3 := cover (B2.out.trans H3.out.2)
      clear s1 e1 e2 H2 B2
      have hw1 : IntKind.i64.wrap (2 * (a2 % 127)) = 2 * (a2 % 127) := by rw [IntKind.wrap_i64]; omega
      have hw2 : IntKind.i64.wrap (1 + 2 * (a2 % 127)) = a := by rw [IntKind.wrap_i64]; omega
      have hmk : ∀ w, (Instr.makeSlice 45 (.int .i64 16) (.int .i64 16)).run Try.prog w = .ok (.slice (some ⟨w.heap.size, 0, none⟩) 16 16) (w.alloc (.cells (boolRow fun _ => false) 4)) := mk_bools
      obtain ⟨mb, hmb⟩ : ∃ mb, w3.heap.size = mb := ⟨_, rfl⟩
      obtain ⟨w4, hw4⟩ : ∃ w4, w3.alloc (.cells (boolRow fun _ => false) 4) = w4 := ⟨_, rfl⟩
      have H4 : Hid (FullAt B w s mb c a (fun _ => false) w4) := cover (by
        have hb : Below w3.heap.size w3 w4 := by rw [← hw4]; exact (Below.refl _ _).alloc (Nat.le_refl _) _
        refine ⟨by rw [memL_none]; exact H3.out.1.below hb, by rw [← hw4, ← hmb]; exact heap_alloc_new _ _, B3.out.trans (hb.mono H3.out.1.size), by rw [← hmb]; exact H3.out.1.size⟩)
      clear H3 B3
      have HAE := cover ha
      clear ha
      go_upto_region 15 with fail
      clear hw1 hw2 hmk hmb hw4
      go_wp2_with fail
      go_loopw [11] (fun iv wr => ∃ (j : Nat) (M : Nat → Bool), j ≤ len ∧ iv = .int .i64 j ∧ Hid (FullAt B w s mb c a M wr)) (fun i _ => len - (intOf i).toNat)
      case atStart => exact ⟨0, _, by omega, rfl, H4⟩
      case round =>
        obtain ⟨j, M, hj, rfl, hrel⟩ := hrel
        by_cases hlt : j < len
        · obtain ⟨ad, x, rfl, had, hcx, hx⟩ := HR.out.at_ hlt
          have hxb : 0 ≤ x ∧ x ≤ 255 := u8_wf (HT.out x (List.mem_of_getElem? hx.out))
          have hcx' := (hrel.out.bel.cell (by rw [addr_add_block, ← HBE.out]; exact had)).trans hcx
          clear hcx hx
          obtain ⟨k, hk⟩ : ∃ k : Nat, x % 16 = (k : Int) := ⟨(x % 16).toNat, by omega⟩
          have hk16 : k < 16 := by omega
          have hk16' : (k : Int) < 16 := by omega
          obtain ⟨n, hn⟩ : ∃ n : Int, (2 : Int) + 2 * (k : Int) = n := ⟨_, rfl⟩
          have hw1 : IntKind.i64.wrap (2 * (k : Int)) = 2 * k := by rw [IntKind.wrap_i64]; omega
          have hw2 : IntKind.i64.wrap (2 + 2 * (k : Int)) = n := by rw [IntKind.wrap_i64]; omega
          obtain ⟨y, hy⟩ : ∃ y : Int, bits .and .u8 x 64 = y := ⟨_, rfl⟩
          by_cases hy0 : y = 0
          · have hyb : (y != 0) = false := by simp [hy0]
            have hy0' := cover hy0
            clear hy0
            have HD := cover (join_kp (FullAt.drew hrel.out).has (n := n) (i64_of (by omega)) a)
            obtain ⟨e1, e2⟩ := memL_join (c := c) (a := a) (M := M) (k := k) hk16 HA.out
            rw [hn] at e1 e2
            rw [e1, e2] at HD
            clear e1 e2 hn
            obtain ⟨hck, _⟩ := (FullAt.drew hrel.out).cell hk16
            go_wp2_with fail
            cases hMk : M k
            · have s1 := HD.out
              have e1 : (if M k = true then 8 else 0 : Int) = 0 := by rw [hMk]; rfl
              rw [e1] at s1
              clear e1
              rw [hMk] at hck
              have hx6 : Hid (∀ w6, Hid (Done B s (memL c a (updM M k true)) wr.drew w6) → w6.cell? ⟨mb, k, none⟩ = some (.bool false) ∧ w6.frozen? ⟨mb, k, none⟩ = false ∧ Hid (FullAt B w s mb c a (updM M k true) (w6.setCell ⟨mb, k, none⟩ (.bool true)))) := cover (fun w6 hd => by
                have hm := hd.out.2.2 mb _ (show wr.drew.heap[mb]? = _ from hrel.out.row) (map_cells _ _ _)
                refine ⟨?_, by simp [World.frozen?, hm], cover ((FullAt.drew hrel.out).done hk16 hd.out)⟩
                rw [cell_of_row _ _ _ _ _ _ hm, boolRow_at M hk16, hMk])
              go_region_held3 (fun w' => w'.cell? ⟨mb, k, none⟩ = some (.bool false)) (first | exact hck | exact hbX)
                (first
                  | (go_at_call 12; refine s1.mono ?_; rintro e w6 ⟨rfl, hd6⟩; obtain ⟨hbX, hf6, H6⟩ := hx6.out w6 hd6))
              all_goals
                clear s1 hx6 hck
                go_wp2
                go_roundw
                case rel => exact ⟨j + 1, updM M k true, by omega, by go_num, H6⟩
                case measure => simp [intOf]; omega
            · have s1 := HD.out
              have e1 : (if M k = true then 8 else 0 : Int) = 8 := by rw [hMk]; rfl
              rw [e1] at s1
              clear e1
              rw [hMk] at hck
              have hx6 : Hid (∀ w6, Hid (Done B s (memL c a (updM M k true)) wr.drew w6) → w6.cell? ⟨mb, k, none⟩ = some (.bool true) ∧ w6.frozen? ⟨mb, k, none⟩ = false ∧ Hid (FullAt B w s mb c a (updM M k true) (w6.setCell ⟨mb, k, none⟩ (.bool true)))) := cover (fun w6 hd => by
                have hm := hd.out.2.2 mb _ (show wr.drew.heap[mb]? = _ from hrel.out.row) (map_cells _ _ _)
                refine ⟨?_, by simp [World.frozen?, hm], cover ((FullAt.drew hrel.out).done hk16 hd.out)⟩
                rw [cell_of_row _ _ _ _ _ _ hm, boolRow_at M hk16, hMk])
              go_region_held3 (fun w' => w'.cell? ⟨mb, k, none⟩ = some (.bool true)) (first | exact hck | exact hbX)
                (first
                  | (go_at_call 12; refine s1.mono ?_; rintro e w6 ⟨rfl, hd6⟩; obtain ⟨hbX, hf6, H6⟩ := hx6.out w6 hd6))
              all_goals
                clear s1 hx6 hck
                go_wp2
                go_roundw
                case rel => exact ⟨j + 1, updM M k true, by omega, by go_num, H6⟩
                case measure => simp [intOf]; omega
          · have hyb : (y != 0) = true := by simp [hy0]
            have hy0' := cover hy0
            clear hy0
            have HD := cover (leave_kp (FullAt.drew hrel.out).has (n := n) (i64_of (by omega)) a)
            obtain ⟨e1, e2⟩ := memL_leave (c := c) (a := a) (M := M) (k := k) hk16 HA.out
            rw [hn] at e1 e2
            rw [e1, e2] at HD
            clear e1 e2 hn
            obtain ⟨hck, _⟩ := (FullAt.drew hrel.out).cell hk16
            go_wp2_with fail
            cases hMk : M k
            · have s1 := HD.out
              have e1 : (if M k = true then 0 else 7 : Int) = 7 := by rw [hMk]; rfl
              rw [e1] at s1
              clear e1
              rw [hMk] at hck
              have hx6 : Hid (∀ w6, Hid (Done B s (memL c a (updM M k false)) wr.drew w6) → w6.cell? ⟨mb, k, none⟩ = some (.bool false) ∧ w6.frozen? ⟨mb, k, none⟩ = false ∧ Hid (FullAt B w s mb c a (updM M k false) (w6.setCell ⟨mb, k, none⟩ (.bool false)))) := cover (fun w6 hd => by
                have hm := hd.out.2.2 mb _ (show wr.drew.heap[mb]? = _ from hrel.out.row) (map_cells _ _ _)
                refine ⟨?_, by simp [World.frozen?, hm], cover ((FullAt.drew hrel.out).done hk16 hd.out)⟩
                rw [cell_of_row _ _ _ _ _ _ hm, boolRow_at M hk16, hMk])
              go_region_held3 (fun w' => w'.cell? ⟨mb, k, none⟩ = some (.bool false)) (first | exact hck | exact hbX)
                (first
                  | (go_at_call 22; refine s1.mono ?_; rintro e w6 ⟨rfl, hd6⟩; obtain ⟨hbX, hf6, H6⟩ := hx6.out w6 hd6))
              all_goals
                clear s1 hx6 hck
                go_wp2
                go_roundw
                case rel => exact ⟨j + 1, updM M k false, by omega, by go_num, H6⟩
                case measure => simp [intOf]; omega
            · have s1 := HD.out
              have e1 : (if M k = true then 0 else 7 : Int) = 0 := by rw [hMk]; rfl
              rw [e1] at s1
              clear e1
              rw [hMk] at hck
              have hx6 : Hid (∀ w6, Hid (Done B s (memL c a (updM M k false)) wr.drew w6) → w6.cell? ⟨mb, k, none⟩ = some (.bool true) ∧ w6.frozen? ⟨mb, k, none⟩ = false ∧ Hid (FullAt B w s mb c a (updM M k false) (w6.setCell ⟨mb, k, none⟩ (.bool false)))) := cover (fun w6 hd => by
                have hm := hd.out.2.2 mb _ (show wr.drew.heap[mb]? = _ from hrel.out.row) (map_cells _ _ _)
                refine ⟨?_, by simp [World.frozen?, hm], cover ((FullAt.drew hrel.out).done hk16 hd.out)⟩
                rw [cell_of_row _ _ _ _ _ _ hm, boolRow_at M hk16, hMk])
              go_region_held3 (fun w' => w'.cell? ⟨mb, k, none⟩ = some (.bool true)) (first | exact hck | exact hbX)
                (first
                  | (go_at_call 22; refine s1.mono ?_; rintro e w6 ⟨rfl, hd6⟩; obtain ⟨hbX, hf6, H6⟩ := hx6.out w6 hd6))
              all_goals
                clear s1 hx6 hck
                go_wp2
                go_roundw
                case rel => exact ⟨j + 1, updM M k false, by omega, by go_num, H6⟩
                case measure => simp [intOf]; omega
        · obtain rfl : j = len := by omega
          have H5 : Hid (WantAt B w s mb c a M 0 (.slice none 0 0) wr) := cover ⟨hrel.out, World.ownsRow_nil _ _ _ _⟩
          clear hrel H4
          go_wp2_with fail
          go_loopw [13, 14] (fun vv iv wx => ∃ (v : Value) (i : Nat), i ≤ 16 ∧ vv = v ∧ iv = .int .i64 i ∧ Hid (WantAt B w s mb c a M i v wx)) (fun _ i _ => 16 - (intOf i).toNat)
          case atStart => exact ⟨_, 0, by omega, rfl, rfl, H5⟩
          case round =>
            obtain ⟨v, i, hi, hv, rfl, hrel⟩ := hrel
            have hv2 := hv.symm
            subst hv2
            clear hv
            by_cases hlt3 : (i : Int) < 16
            · have hi16 : i < 16 := by omega
              obtain ⟨hck, _⟩ := hrel.out.at_.cell hi16
              cases hMi : M i
              · rw [hMi] at hck
                have H6 : Hid (WantAt B w s mb c a M (i + 1) v wr) := cover ⟨hrel.out.at_, by rw [wantL_succ, if_neg (by rw [hMi]; decide)]; exact hrel.out.own⟩
                clear hrel
                go_wp2
                go_roundw
                case rel => exact ⟨_, i + 1, by omega, rfl, by go_num, H6⟩
                case measure => simp [intOf]; omega
              · rw [hMi] at hck
                obtain ⟨n, hn⟩ : ∃ n : Int, (2 : Int) + 2 * (i : Int) = n := ⟨_, rfl⟩
                have hw1 : IntKind.i64.wrap (2 * (i : Int)) = 2 * i := by rw [IntKind.wrap_i64]; omega
                have hw2 : IntKind.i64.wrap (2 + 2 * (i : Int)) = n := by rw [IntKind.wrap_i64]; omega
                obtain ⟨w7, hw7⟩ : ∃ w7, w7 = wr.alloc (.cells #[.int .i64 n] 3) := ⟨_, rfl⟩
                have hb7 : Below wr.heap.size wr w7 := by rw [hw7]; exact (Below.refl _ _).alloc (Nat.le_refl _) _
                have hsB := hrel.out.at_.has.size
                have hsB7 : B ≤ w7.heap.size := Nat.le_trans hsB hb7.size
                have hF7 := hrel.out.at_.below hb7
                have ho7 := row_keeps hrel.out.own (fun j hj => hb7.block j (hrel.out.own.lt j hj).2)
                have hAP : Appends Try.prog 28 w7 v (.slice (some ⟨wr.heap.size, 0, none⟩) 1 1) (fun v' w' => Hid (WantAt B w s mb c a M (i + 1) v' w')) := fun ty => by
                  obtain ⟨v', w', k1, k2, k3⟩ := append_i ho7 ⟨wr.heap.size, 0, none⟩ 1 1 [n] rfl (by rw [hw7]; exact World.news_of_block (cs := #[.int .i64 n]) (heap_alloc_new wr _)) hsB7 (by have := wantL_len M i; omega) ty
                  refine ⟨v', w', k1, cover ⟨hF7.grown ho7 k3 hsB7, ?_⟩⟩
                  rw [wantL_succ, if_pos hMi, List.length_append, hn]
                  exact k2
                have HAP := cover hAP
                clear hAP hF7 ho7 hb7 hrel hn hsB hsB7
                go_wp2_with (at_builtin; rw [← hw7]; refine appends_list rfl _ _ _ rfl _ _ rfl rfl HAP.out ?_; intro v8 w8 H6)
                clear HAP hw7
                go_wp2
                go_roundw
                case rel => exact ⟨_, i + 1, by omega, rfl, by go_num, H6⟩
                case measure => simp [intOf]; omega
            · obtain rfl : i = 16 := by omega
              have s1 := hears_has hrel.out.at_.has ha64
              rw [memL_hears HA.out] at s1
              have hn16 := wantL_len M 16
              obtain ⟨A6, c6, rfl, hc6⟩ := own_shape hrel.out.own
              go_wp2_with fail
              refine s1.mono ?_
              rintro e w6 ⟨A7, c7, rfl, h7⟩
              have k1 := Nums.of_own h7.out.1
              have k2 := Nums.of_own (row_keeps hrel.out.own (fun j hj => h7.out.2.block j (hrel.out.own.lt j hj).2))
              have s2 := ints_same (c := c7) (c' := c6) w6 rfl (by omega) k1 k2
              have B6 := cover (hrel.out.at_.bel.trans (h7.out.2.mono hrel.out.at_.has.size))
              clear s1 k1 k2 h7 hrel
              go_wp2_with fail
              refine s2.mono ?_
              rintro e w7 ⟨rfl, d7, hd7⟩
              have B7 : Hid (Below B w w7) := cover (by rw [hd7]; exact below_drewN B6.out _)
              clear s2 hd7 B6
              go_wp2
              go_ret
              exact ⟨rfl, B7.out⟩
end Go.Proofs.Ytnegbiofnjdfaaa
