/- The walk of SapsHears. -/
import Derived.Test.YtnegbiofnjdfaaaFHeld
import Derived.Test.YtnegbiofnjdfaaaSDo
import Derived.Test.YtnegbiofnjdfaaaSDeeds
import Derived.Test.YtnegbiofnjdfaaaWSapsOne
namespace Go.Proofs.Ytnegbiofnjdfaaa
open Go.RowKit
set_option linter.unusedVariables false

theorem mod127 {x : Int} (h : 0 ≤ x ∧ x ≤ 255) : OkSap (2 + 2 * (x % 127)) ∧ OkGrp (1 + 2 * (x % 127)) := by unfold OkSap OkGrp; omega
/-- what is heard, in a row -/
structure HearAt (B : Nat) (w : World) (s : Nat) (l : List SV) (A : Option Addr) (hl : List Int) (wr : World) : Prop where
  has : SHas B wr s l
  bel : Below B w wr
  row : Nums wr A hl
theorem HearAt.drew {B : Nat} {w : World} {s : Nat} {l : List SV} {A : Option Addr} {hl : List Int} {wr : World} (h : HearAt B w s l A hl wr) : HearAt B w s l A hl wr.drew := ⟨h.has.drewN 1, below_drewN h.bel 1, h.row.drewN 1⟩
theorem rise_at {l : List Int} (h : l.Pairwise (· < ·)) {k : Nat} {x y : Int} (h1 : l[k]? = some x) (h2 : l[k + 1]? = some y) : x < y := by
  obtain ⟨a1, e1⟩ := List.getElem?_eq_some_iff.1 h1
  obtain ⟨a2, e2⟩ := List.getElem?_eq_some_iff.1 h2
  have := List.pairwise_iff_getElem.1 h k (k + 1) a1 a2 (by omega)
  rw [e1, e2] at this
  exact this
/-- closed, and opened again: there is room, or there is not -/
theorem open_closed {l : List SV} (h : InS l) {a : Int} (ha : OkSap a) : (openE (closeS l a) a 1 = 6 ∧ (listS (openS (closeS l a) a 1)).length = 16) ∨ (openE (closeS l a) a 1 = 0 ∧ openS (closeS l a) a 1 = insS ⟨a, 1, []⟩ (closeS l a)) := by
  have hno := close_none l a
  have hr := (h.close a).room
  have e : openE (closeS l a) a 1 = if 16 ≤ (closeS l a).length then 6 else 0 := by
    unfold openE
    rw [if_pos ⟨ha, by unfold OkCls; omega⟩, hno]
    rfl
  by_cases h16 : 16 ≤ (closeS l a).length
  · rw [if_pos h16] at e
    refine .inl ⟨e, ?_⟩
    unfold openS
    rw [if_neg (by rw [e]; decide), list_len]
    omega
  · rw [if_neg h16] at e
    refine .inr ⟨e, ?_⟩
    unfold openS
    rw [if_pos e]
theorem fresh_deaf {l : List SV} (h : InS l) {a g : Int} (ha : OkSap a) (hg : OkGrp g) (he : openE (closeS l a) a 1 = 0) (hl : openS (closeS l a) a 1 = insS ⟨a, 1, []⟩ (closeS l a)) : a ∉ hearS (insS ⟨a, 1, []⟩ (closeS l a)) g := by
  have hi : InS (insS ⟨a, 1, []⟩ (closeS l a)) := by rw [← hl]; exact (h.close a).open a 1
  have hno := close_none l a
  have hgo : hasS (insS ⟨a, 1, []⟩ (closeS l a)) g = false := by
    cases hc : hasS (insS ⟨a, 1, []⟩ (closeS l a)) g
    · rfl
    · have := (ok_has hi hc).2.2
      have := hg.2.2
      omega
  have h255 : g ≠ 255 := by have := hg.2.1; omega
  rw [hear_mem hi hgo h255, mem_ins (x := ⟨a, 1, []⟩) hno, if_pos rfl]
  simp
theorem fresh_one {l : List SV} (h : InS l) {a : Int} (ha : OkSap a) (hl : openS (closeS l a) a 1 = insS ⟨a, 1, []⟩ (closeS l a)) : hearS (insS ⟨a, 1, []⟩ (closeS l a)) a = [a] := by
  have hi : InS (insS ⟨a, 1, []⟩ (closeS l a)) := by rw [← hl]; exact (h.close a).open a 1
  rw [hear_one hi ha.2.2, has_ins, show (((⟨a, 1, []⟩ : SV).sap == a) : Bool) = true from by simp]
  rfl
set_option maxRecDepth 100000 in
set_option maxHeartbeats 3200000 in
theorem walk_SapsHears (A : Option Addr) (len cap : Nat) (ds : List (Int × Int × Int)) (a1 a2 : Int) (w : World) (hlc : len ≤ cap) (hcm : cap ≤ maxLen) (hd : Deeds w w.heap.size A len ds ∧ ∀ q ∈ ds, (-9223372036854775808 ≤ q.1 ∧ q.1 ≤ 9223372036854775807) ∧ (-9223372036854775808 ≤ q.2.1 ∧ q.2.1 ≤ 9223372036854775807) ∧ (-9223372036854775808 ≤ q.2.2 ∧ q.2.2 ≤ 9223372036854775807)) (h1' : (Lit.int .u8 a1).wf = true) (h2' : (Lit.int .u8 a2).wf = true) :
    Calls Try.prog 5 #[.slice A len cap, .int .u8 a1, .int .u8 a2] w fun e w' => e = .returned (.bool true) ∧ Below w.heap.size w w' := by
  have HDD := cover hd.1
  have HQ := cover hd.2
  have h1 := u8_wf h1'
  have h2 := u8_wf h2'
  obtain ⟨B, hB⟩ : ∃ B, w.heap.size = B := ⟨_, rfl⟩
  rw [hB]
  have hBw : B ≤ w.heap.size := by omega
  have HBE := cover hB
  have HCM := cover hcm
  clear hB hd hcm h1' h2'
  by_cases hbig : 200 < len
  · go_enter Try.func5, Try.ntmps5
    go_wp2_with fail
    refine (awake_any w).mono ?_
    rintro e w0 ⟨rfl, hb0⟩
    have HB0 : Hid (Below B w w0) := cover (hb0.mono hBw)
    clear hb0
    go_wp2
    go_ret
    exact ⟨rfl, HB0.out⟩
  have mixed : Try.prog.follows .mixedOrders = true := by kernel_rfl
  go_enter Try.func5, Try.ntmps5
  go_wp2_with fail
  refine (awake_any w).mono ?_
  rintro e w0 ⟨rfl, hb0⟩
  have HB0 : Hid (Below B w w0) := cover (hb0.mono hBw)
  have hs0 : B ≤ w0.heap.size := Nat.le_trans hBw hb0.size
  clear hb0
  go_wp2_with fail
  refine (new_has hs0).mono ?_
  rintro e w1 ⟨s, rfl, H1'⟩
  have H1 : Hid (SomeS B w s w1) := cover ⟨_, H1'.out.1, HB0.out.trans H1'.out.2⟩
  clear H1' HB0
  go_wp2_with fail
  go_loopw [8] (fun iv wr => ∃ j : Nat, j ≤ len ∧ iv = .int .i64 j ∧ Hid (SomeS B w s wr)) (fun i _ => len - (intOf i).toNat)
  case atStart => exact ⟨0, by omega, rfl, H1⟩
  case round =>
    obtain ⟨j, hj, rfl, hrel⟩ := hrel
    by_cases hlt : j < len
    · obtain ⟨ad, rfl, had, q0, q1, q2⟩ := HDD.out.cells j (by rw [HDD.out.len]; exact hlt)
      have hbel : Below B w wr := by obtain ⟨_, _, hb⟩ := hrel.out; exact hb
      have hqm := (HQ.out _ (List.getElem_mem (by rw [HDD.out.len]; exact hlt : j < ds.length))).2.1
      obtain ⟨d, k, c, e0, e1, e2⟩ : ∃ d k c : Int, d = (ds[j]'(by rw [HDD.out.len]; exact hlt)).1 ∧ k = (ds[j]'(by rw [HDD.out.len]; exact hlt)).2.1 ∧ c = (ds[j]'(by rw [HDD.out.len]; exact hlt)).2.2 := ⟨_, _, _, rfl, rfl, rfl⟩
      rw [← e0] at q0
      rw [← e1] at q1 hqm
      rw [← e2] at q2
      have hk64 : I64 k := i64_of hqm
      have hblk : (ad.add (j * 3)).block < B := by rw [addr_add_block, ← HBE.out]; exact had
      have k0 : World.cell? (wr.alloc (.cells #[.slice none 0 0] 34)) (ad.add (j * 3)) = some (.int .i64 d) := cell_alloc_lt _ ((hbel.cell hblk).trans q0)
      have k1 : World.cell? (wr.alloc (.cells #[.slice none 0 0] 34)) ⟨(ad.add (j * 3)).block, (ad.add (j * 3)).off + 1, none⟩ = some (.int .i64 k) := cell_alloc_lt _ ((hbel.cell (p := ⟨(ad.add (j * 3)).block, (ad.add (j * 3)).off + 1, none⟩) hblk).trans q1)
      have k2 : World.cell? (wr.alloc (.cells #[.slice none 0 0] 34)) ⟨(ad.add (j * 3)).block, (ad.add (j * 3)).off + 2, none⟩ = some (.int .i64 c) := cell_alloc_lt _ ((hbel.cell (p := ⟨(ad.add (j * 3)).block, (ad.add (j * 3)).off + 2, none⟩) hblk).trans q2)
      have hsz : B ≤ wr.heap.size := by obtain ⟨_, h1, _⟩ := hrel.out; exact h1.size
      have s1 := do_some hrel.out d k c hk64
      clear e0 e1 e2 q0 q1 q2 hbel hqm hrel
      go_wp2_with fail
      refine s1.mono ?_
      rintro e w3 ⟨b, rfl, H3⟩
      clear s1 k0 k1 k2
      go_wp2
      go_roundw
      case rel => exact ⟨j + 1, by omega, by go_num, H3⟩
      case measure => simp [intOf]; omega
    · obtain rfl : j = len := by omega
      obtain ⟨l, h3, h4⟩ := hrel.out
      have HH := cover (And.intro h3 h4)
      have hsz := h3.size
      clear hrel h3 h4
      obtain ⟨a, ha⟩ : ∃ a : Int, (2 : Int) + 2 * (a1 % 127) = a := ⟨_, rfl⟩
      obtain ⟨g, hg⟩ : ∃ g : Int, (1 : Int) + 2 * (a2 % 127) = g := ⟨_, rfl⟩
      have HA : Hid (OkSap a) := cover (by rw [← ha]; exact (mod127 h1).1)
      have HG : Hid (OkGrp g) := cover (by rw [← hg]; exact (mod127 h2).2)
      have ha64 : I64 a := sap_64 HA.out
      have hg64 : I64 g := grp_64 HG.out
      have hm1 : IntKind.i64.wrap (2 * (a1 % 127)) = 2 * (a1 % 127) := by rw [IntKind.wrap_i64]; omega
      have hm2 : IntKind.i64.wrap (2 + 2 * (a1 % 127)) = a := by rw [IntKind.wrap_i64]; omega
      have hm3 : IntKind.i64.wrap (2 * (a2 % 127)) = 2 * (a2 % 127) := by rw [IntKind.wrap_i64]; omega
      have hm4 : IntKind.i64.wrap (1 + 2 * (a2 % 127)) = g := by rw [IntKind.wrap_i64]; omega
      have HAE := cover ha
      have HGE := cover hg
      clear ha hg
      have s1 := hears_has HH.out.1 hg64
      obtain ⟨hl, hhl⟩ : ∃ hl, hearS l g = hl := ⟨_, rfl⟩
      rw [hhl] at s1
      have HHL := cover hhl
      clear hhl
      go_wp2_with fail
      clear hm1 hm2 hm3 hm4
      refine s1.mono ?_
      rintro e w2 ⟨A2, c2, rfl, h3⟩
      have H2 : Hid (HearAt B w s l A2 hl w2) := cover ⟨HH.out.1.below h3.out.2, HH.out.2.trans (h3.out.2.mono hsz), Nums.of_own h3.out.1⟩
      clear s1 h3 HH
      obtain ⟨n, hn⟩ : ∃ n, hl.length = n := ⟨_, rfl⟩
      rw [hn]
      have hn16 : n ≤ 16 := by rw [← hn, ← HHL.out]; exact Nat.le_trans (hear_len l g) H2.out.has.ok.room
      have HN := cover hn
      clear hn
      go_wp2_with fail
      go_loopw [12] (fun iv wr => ∃ j : Nat, j ≤ n ∧ iv = .int .i64 j ∧ Hid (HearAt B w s l A2 hl wr)) (fun i _ => n - (intOf i).toNat)
      case atStart => exact ⟨0, by omega, rfl, H2⟩
      case round =>
        clear hj hsz hlt
        obtain ⟨j, hj, rfl, hrel⟩ := hrel
        by_cases hlt : j < n
        · have H3 : Hid (HearAt B w s l A2 hl wr.drew) := cover hrel.out.drew
          obtain ⟨x, hx⟩ : ∃ x, hl[j]? = some x := ⟨_, List.getElem?_eq_getElem (by rw [HN.out]; exact hlt)⟩
          obtain ⟨gb, rfl, k1⟩ := H3.out.row j x hx
          have hhx : hasS l x = true := hear_active (n := g) (by rw [HHL.out]; exact List.mem_of_getElem? hx)
          have hk : OkCls (clsS l x) := cls_ok H3.out.has.ok hhx
          have s1 := class_has H3.out.has (sap_64 (ok_has H3.out.has.ok hhx))
          obtain ⟨y, hy⟩ : ∃ y, clsS l x = y := ⟨_, rfl⟩
          rw [hy] at s1 hk
          have hy0 : (y == 0) = false := by unfold OkCls at hk; rw [beq_eq_false_iff_ne]; omega
          clear hy hk hhx
          cases j with
          | zero =>
            clear hx hrel
            go_wp2_with fail
            refine (wpIn_wide (n := 0)).1 ?_
            refine held_begin (fun W' : World => W' = wr.drew) 99 mixed ?_
            have HS : (fun W' : World => W' = wr.drew) wr.drew := rfl
            refine hold_take 0 _ rfl (by kernel_rfl) (by kernel_rfl) (by kernel_rfl) (by kernel_rfl) (by kernel_rfl) (fun _ _ _ h => h) (by rfl) (fun _ => rfl) HS (fun w' hS => by subst hS; go_simp; rfl) ?_
            simp only [Act.put, List.setIfInBounds_toArray, List.set_cons_zero, List.set_cons_succ]
            refine hold_take 1 _ rfl (by kernel_rfl) (by kernel_rfl) (by kernel_rfl) (by kernel_rfl) (by kernel_rfl) (fun _ _ _ h => h) (by rfl) (fun _ => rfl) HS (fun w' hS => by subst hS; go_simp; rfl) ?_
            simp only [Act.put, List.setIfInBounds_toArray, List.set_cons_zero, List.set_cons_succ]
            refine hold_take 2 _ rfl (by kernel_rfl) (by kernel_rfl) (by kernel_rfl) (by kernel_rfl) (by kernel_rfl) (fun _ _ _ h => h) (by rfl) (fun _ => rfl) HS (fun w' hS => by subst hS; go_simp; rfl) ?_
            simp only [Act.put, List.setIfInBounds_toArray, List.set_cons_zero, List.set_cons_succ]
            refine hold_take 3 _ rfl (by kernel_rfl) (by kernel_rfl) (by kernel_rfl) (by kernel_rfl) (by kernel_rfl) (fun _ _ _ h => h) (by rfl) (fun _ => rfl) HS (fun w' hS => by subst hS; go_simp; rfl) ?_
            simp only [Act.put, List.setIfInBounds_toArray, List.set_cons_zero, List.set_cons_succ]
            refine hold_take 4 _ rfl (by kernel_rfl) (by kernel_rfl) (by kernel_rfl) (by kernel_rfl) (by kernel_rfl) (fun _ _ _ h => h) (by rfl) (fun _ => rfl) HS (fun w' hS => by subst hS; go_simp; rfl) ?_
            simp only [Act.put, List.setIfInBounds_toArray, List.set_cons_zero, List.set_cons_succ]
            refine hold_one 5 (by kernel_rfl) rfl (by rfl) fun K hK => ?_
            go_simp
            refine ⟨trivial, rfl, (callsIn_wide.2 s1).mono ?_⟩
            rintro e w3 ⟨rfl, rfl⟩
            refine hK _ _ (.inr rfl) ?_
            clear hK K
            refine hold_take 6 (.bool false) rfl (by kernel_rfl) (by kernel_rfl) (by kernel_rfl) (by kernel_rfl) (by kernel_rfl) (fun _ _ _ h => h) (by rfl) (fun _ => rfl) HS (fun w' hS => by subst hS; go_simp; skip) ?_
            simp only [Act.put, List.setIfInBounds_toArray, List.set_cons_zero, List.set_cons_succ]
            refine hold_take 7 _ rfl (by kernel_rfl) (by kernel_rfl) (by kernel_rfl) (by kernel_rfl) (by kernel_rfl) (fun _ _ _ h => h) (by rfl) (fun _ => rfl) HS (fun w' hS => by subst hS; go_simp; rfl) ?_
            simp only [Act.put, List.setIfInBounds_toArray, List.set_cons_zero, List.set_cons_succ]
            refine hold_take 8 _ rfl (by kernel_rfl) (by kernel_rfl) (by kernel_rfl) (by kernel_rfl) (by kernel_rfl) (fun _ _ _ h => h) (by rfl) (fun _ => rfl) HS (fun w' hS => by subst hS; go_simp; rfl) ?_
            simp only [Act.put, List.setIfInBounds_toArray, List.set_cons_zero, List.set_cons_succ]
            refine hold_take 9 (.bool false) rfl (by kernel_rfl) (by kernel_rfl) (by kernel_rfl) (by kernel_rfl) (by kernel_rfl) (fun _ _ _ h => h) (by rfl) (fun _ => rfl) HS (fun w' hS => by subst hS; go_simp; skip) ?_
            simp only [Act.put, List.setIfInBounds_toArray, List.set_cons_zero, List.set_cons_succ]
            refine hold_take 10 _ rfl (by kernel_rfl) (by kernel_rfl) (by kernel_rfl) (by kernel_rfl) (by kernel_rfl) (fun _ _ _ h => h) (by rfl) (fun _ => rfl) HS (fun w' hS => by subst hS; go_simp; rfl) ?_
            simp only [Act.put, List.setIfInBounds_toArray, List.set_cons_zero, List.set_cons_succ]
            refine hold_skip 11 rfl (by kernel_rfl) (by kernel_rfl) (by kernel_rfl) (by kernel_rfl) (by kernel_rfl) (fun _ _ _ h => h) (by rfl) (fun _ => rfl) HS ?_
            simp only [Act.put, List.setIfInBounds_toArray, List.set_cons_zero, List.set_cons_succ]
            refine hold_skip 12 rfl (by kernel_rfl) (by kernel_rfl) (by kernel_rfl) (by kernel_rfl) (by kernel_rfl) (fun _ _ _ h => h) (by rfl) (fun _ => rfl) HS ?_
            simp only [Act.put, List.setIfInBounds_toArray, List.set_cons_zero, List.set_cons_succ]
            refine hold_skip 13 rfl (by kernel_rfl) (by kernel_rfl) (by kernel_rfl) (by kernel_rfl) (by kernel_rfl) (fun _ _ _ h => h) (by rfl) (fun _ => rfl) HS ?_
            simp only [Act.put, List.setIfInBounds_toArray, List.set_cons_zero, List.set_cons_succ]
            refine hold_skip 14 rfl (by kernel_rfl) (by kernel_rfl) (by kernel_rfl) (by kernel_rfl) (by kernel_rfl) (fun _ _ _ h => h) (by rfl) (fun _ => rfl) HS ?_
            simp only [Act.put, List.setIfInBounds_toArray, List.set_cons_zero, List.set_cons_succ]
            refine hold_skip 15 rfl (by kernel_rfl) (by kernel_rfl) (by kernel_rfl) (by kernel_rfl) (by kernel_rfl) (fun _ _ _ h => h) (by rfl) (fun _ => rfl) HS ?_
            simp only [Act.put, List.setIfInBounds_toArray, List.set_cons_zero, List.set_cons_succ]
            refine hold_skip 16 rfl (by kernel_rfl) (by kernel_rfl) (by kernel_rfl) (by kernel_rfl) (by kernel_rfl) (fun _ _ _ h => h) (by rfl) (fun _ => rfl) HS ?_
            simp only [Act.put, List.setIfInBounds_toArray, List.set_cons_zero, List.set_cons_succ]
            refine hold_skip 17 rfl (by kernel_rfl) (by kernel_rfl) (by kernel_rfl) (by kernel_rfl) (by kernel_rfl) (fun _ _ _ h => h) (by rfl) (fun _ => rfl) HS ?_
            simp only [Act.put, List.setIfInBounds_toArray, List.set_cons_zero, List.set_cons_succ]
            refine hold_skip 18 rfl (by kernel_rfl) (by kernel_rfl) (by kernel_rfl) (by kernel_rfl) (by kernel_rfl) (fun _ _ _ h => h) (by rfl) (fun _ => rfl) HS ?_
            simp only [Act.put, List.setIfInBounds_toArray, List.set_cons_zero, List.set_cons_succ]
            refine hold_skip 19 rfl (by kernel_rfl) (by kernel_rfl) (by kernel_rfl) (by kernel_rfl) (by kernel_rfl) (fun _ _ _ h => h) (by rfl) (fun _ => rfl) HS ?_
            simp only [Act.put, List.setIfInBounds_toArray, List.set_cons_zero, List.set_cons_succ]
            refine hold_skip 20 rfl (by kernel_rfl) (by kernel_rfl) (by kernel_rfl) (by kernel_rfl) (by kernel_rfl) (fun _ _ _ h => h) (by rfl) (fun _ => rfl) HS ?_
            simp only [Act.put, List.setIfInBounds_toArray, List.set_cons_zero, List.set_cons_succ]
            refine hold_take 21 _ rfl (by kernel_rfl) (by kernel_rfl) (by kernel_rfl) (by kernel_rfl) (by kernel_rfl) (fun _ _ _ h => h) (by rfl) (fun _ => rfl) HS (fun w' hS => by subst hS; go_simp; rfl) ?_
            simp only [Act.put, List.setIfInBounds_toArray, List.set_cons_zero, List.set_cons_succ]
            refine hold_take 22 _ rfl (by kernel_rfl) (by kernel_rfl) (by kernel_rfl) (by kernel_rfl) (by kernel_rfl) (fun _ _ _ h => h) (by rfl) (fun _ => rfl) HS (fun w' hS => by subst hS; go_simp; rfl) ?_
            simp only [Act.put, List.setIfInBounds_toArray, List.set_cons_zero, List.set_cons_succ]
            refine held_done (by kernel_rfl) ?_ _
            clear s1 HS
            go_wp2
            go_roundw
            case rel => exact ⟨1, by omega, by go_num, H3⟩
            case measure => simp [intOf]; omega
          | succ k =>
            obtain ⟨z, hz⟩ : ∃ z, hl[k]? = some z := ⟨_, List.getElem?_eq_getElem (by rw [HN.out]; omega)⟩
            obtain ⟨gb2, e9, k2⟩ := H3.out.row k z hz
            obtain rfl : gb2 = gb := by injection e9 with e9; injection e9 with e9; exact e9.symm
            have hzx : z < x := rise_at (by rw [← HHL.out]; exact hear_rise H3.out.has.ok.rise g) hz hx
            have hzx' : ¬ x ≤ z := by omega
            have hkn : k < n := by omega
            have hkw : IntKind.i64.wrap (k : Int) = (k : Int) := by rw [IntKind.wrap_i64]; omega
            clear hx hz hrel e9 hzx
            go_wp2_with fail
            refine (wpIn_wide (n := 0)).1 ?_
            refine held_begin (fun W' : World => W' = wr.drew) 99 mixed ?_
            have HS : (fun W' : World => W' = wr.drew) wr.drew := rfl
            refine hold_take 0 _ rfl (by kernel_rfl) (by kernel_rfl) (by kernel_rfl) (by kernel_rfl) (by kernel_rfl) (fun _ _ _ h => h) (by rfl) (fun _ => rfl) HS (fun w' hS => by subst hS; go_simp; rfl) ?_
            simp only [Act.put, List.setIfInBounds_toArray, List.set_cons_zero, List.set_cons_succ]
            refine hold_take 1 _ rfl (by kernel_rfl) (by kernel_rfl) (by kernel_rfl) (by kernel_rfl) (by kernel_rfl) (fun _ _ _ h => h) (by rfl) (fun _ => rfl) HS (fun w' hS => by subst hS; go_simp; rfl) ?_
            simp only [Act.put, List.setIfInBounds_toArray, List.set_cons_zero, List.set_cons_succ]
            refine hold_take 2 _ rfl (by kernel_rfl) (by kernel_rfl) (by kernel_rfl) (by kernel_rfl) (by kernel_rfl) (fun _ _ _ h => h) (by rfl) (fun _ => rfl) HS (fun w' hS => by subst hS; go_simp; rfl) ?_
            simp only [Act.put, List.setIfInBounds_toArray, List.set_cons_zero, List.set_cons_succ]
            refine hold_take 3 _ rfl (by kernel_rfl) (by kernel_rfl) (by kernel_rfl) (by kernel_rfl) (by kernel_rfl) (fun _ _ _ h => h) (by rfl) (fun _ => rfl) HS (fun w' hS => by subst hS; go_simp; rfl) ?_
            simp only [Act.put, List.setIfInBounds_toArray, List.set_cons_zero, List.set_cons_succ]
            refine hold_take 4 _ rfl (by kernel_rfl) (by kernel_rfl) (by kernel_rfl) (by kernel_rfl) (by kernel_rfl) (fun _ _ _ h => h) (by rfl) (fun _ => rfl) HS (fun w' hS => by subst hS; go_simp; rfl) ?_
            simp only [Act.put, List.setIfInBounds_toArray, List.set_cons_zero, List.set_cons_succ]
            refine hold_one 5 (by kernel_rfl) rfl (by rfl) fun K hK => ?_
            go_simp
            refine ⟨trivial, rfl, (callsIn_wide.2 s1).mono ?_⟩
            rintro e w3 ⟨rfl, rfl⟩
            refine hK _ _ (.inr rfl) ?_
            clear hK K
            refine hold_take 6 (.bool false) rfl (by kernel_rfl) (by kernel_rfl) (by kernel_rfl) (by kernel_rfl) (by kernel_rfl) (fun _ _ _ h => h) (by rfl) (fun _ => rfl) HS (fun w' hS => by subst hS; go_simp; skip) ?_
            simp only [Act.put, List.setIfInBounds_toArray, List.set_cons_zero, List.set_cons_succ]
            refine hold_take 7 _ rfl (by kernel_rfl) (by kernel_rfl) (by kernel_rfl) (by kernel_rfl) (by kernel_rfl) (fun _ _ _ h => h) (by rfl) (fun _ => rfl) HS (fun w' hS => by subst hS; go_simp; rfl) ?_
            simp only [Act.put, List.setIfInBounds_toArray, List.set_cons_zero, List.set_cons_succ]
            refine hold_take 8 _ rfl (by kernel_rfl) (by kernel_rfl) (by kernel_rfl) (by kernel_rfl) (by kernel_rfl) (fun _ _ _ h => h) (by rfl) (fun _ => rfl) HS (fun w' hS => by subst hS; go_simp; rfl) ?_
            simp only [Act.put, List.setIfInBounds_toArray, List.set_cons_zero, List.set_cons_succ]
            refine hold_take 9 (.bool true) rfl (by kernel_rfl) (by kernel_rfl) (by kernel_rfl) (by kernel_rfl) (by kernel_rfl) (fun _ _ _ h => h) (by rfl) (fun _ => rfl) HS (fun w' hS => by subst hS; go_simp; skip) ?_
            simp only [Act.put, List.setIfInBounds_toArray, List.set_cons_zero, List.set_cons_succ]
            refine hold_take 10 _ rfl (by kernel_rfl) (by kernel_rfl) (by kernel_rfl) (by kernel_rfl) (by kernel_rfl) (fun _ _ _ h => h) (by rfl) (fun _ => rfl) HS (fun w' hS => by subst hS; go_simp; rfl) ?_
            simp only [Act.put, List.setIfInBounds_toArray, List.set_cons_zero, List.set_cons_succ]
            refine hold_take 11 _ rfl (by kernel_rfl) (by kernel_rfl) (by kernel_rfl) (by kernel_rfl) (by kernel_rfl) (fun _ _ _ h => h) (by rfl) (fun _ => rfl) HS (fun w' hS => by subst hS; go_simp; rfl) ?_
            simp only [Act.put, List.setIfInBounds_toArray, List.set_cons_zero, List.set_cons_succ]
            refine hold_take 12 _ rfl (by kernel_rfl) (by kernel_rfl) (by kernel_rfl) (by kernel_rfl) (by kernel_rfl) (fun _ _ _ h => h) (by rfl) (fun _ => rfl) HS (fun w' hS => by subst hS; go_simp; rfl) ?_
            simp only [Act.put, List.setIfInBounds_toArray, List.set_cons_zero, List.set_cons_succ]
            refine hold_take 13 _ rfl (by kernel_rfl) (by kernel_rfl) (by kernel_rfl) (by kernel_rfl) (by kernel_rfl) (fun _ _ _ h => h) (by rfl) (fun _ => rfl) HS (fun w' hS => by subst hS; go_simp; rfl) ?_
            simp only [Act.put, List.setIfInBounds_toArray, List.set_cons_zero, List.set_cons_succ]
            refine hold_take 14 _ rfl (by kernel_rfl) (by kernel_rfl) (by kernel_rfl) (by kernel_rfl) (by kernel_rfl) (fun _ _ _ h => h) (by rfl) (fun _ => rfl) HS (fun w' hS => by subst hS; go_simp; rfl) ?_
            simp only [Act.put, List.setIfInBounds_toArray, List.set_cons_zero, List.set_cons_succ]
            refine hold_take 15 _ rfl (by kernel_rfl) (by kernel_rfl) (by kernel_rfl) (by kernel_rfl) (by kernel_rfl) (fun _ _ _ h => h) (by rfl) (fun _ => rfl) HS (fun w' hS => by subst hS; go_simp; rfl) ?_
            simp only [Act.put, List.setIfInBounds_toArray, List.set_cons_zero, List.set_cons_succ]
            refine hold_take 16 _ rfl (by kernel_rfl) (by kernel_rfl) (by kernel_rfl) (by kernel_rfl) (by kernel_rfl) (fun _ _ _ h => h) (by rfl) (fun _ => rfl) HS (fun w' hS => by subst hS; go_simp; rfl) ?_
            simp only [Act.put, List.setIfInBounds_toArray, List.set_cons_zero, List.set_cons_succ]
            refine hold_take 17 (.int .i64 (k : Int)) rfl (by kernel_rfl) (by kernel_rfl) (by kernel_rfl) (by kernel_rfl) (by kernel_rfl) (fun _ _ _ h => h) (by rfl) (fun _ => rfl) HS (fun w' hS => by subst hS; go_simp; skip) ?_
            simp only [Act.put, List.setIfInBounds_toArray, List.set_cons_zero, List.set_cons_succ]
            refine hold_take 18 _ rfl (by kernel_rfl) (by kernel_rfl) (by kernel_rfl) (by kernel_rfl) (by kernel_rfl) (fun _ _ _ h => h) (by rfl) (fun _ => rfl) HS (fun w' hS => by subst hS; go_simp; rfl) ?_
            simp only [Act.put, List.setIfInBounds_toArray, List.set_cons_zero, List.set_cons_succ]
            refine hold_take 19 _ rfl (by kernel_rfl) (by kernel_rfl) (by kernel_rfl) (by kernel_rfl) (by kernel_rfl) (fun _ _ _ h => h) (by rfl) (fun _ => rfl) HS (fun w' hS => by subst hS; go_simp; rfl) ?_
            simp only [Act.put, List.setIfInBounds_toArray, List.set_cons_zero, List.set_cons_succ]
            refine hold_take 20 (.bool false) rfl (by kernel_rfl) (by kernel_rfl) (by kernel_rfl) (by kernel_rfl) (by kernel_rfl) (fun _ _ _ h => h) (by rfl) (fun _ => rfl) HS (fun w' hS => by subst hS; go_simp; skip) ?_
            simp only [Act.put, List.setIfInBounds_toArray, List.set_cons_zero, List.set_cons_succ]
            refine hold_take 21 _ rfl (by kernel_rfl) (by kernel_rfl) (by kernel_rfl) (by kernel_rfl) (by kernel_rfl) (fun _ _ _ h => h) (by rfl) (fun _ => rfl) HS (fun w' hS => by subst hS; go_simp; rfl) ?_
            simp only [Act.put, List.setIfInBounds_toArray, List.set_cons_zero, List.set_cons_succ]
            refine hold_take 22 _ rfl (by kernel_rfl) (by kernel_rfl) (by kernel_rfl) (by kernel_rfl) (by kernel_rfl) (fun _ _ _ h => h) (by rfl) (fun _ => rfl) HS (fun w' hS => by subst hS; go_simp; rfl) ?_
            simp only [Act.put, List.setIfInBounds_toArray, List.set_cons_zero, List.set_cons_succ]
            refine held_done (by kernel_rfl) ?_ _
            clear s1 HS
            go_wp2
            go_roundw
            case rel => exact ⟨k + 1 + 1, by omega, by go_num, H3⟩
            case measure => simp [intOf]; omega
        · obtain rfl : j = n := by omega
          have s1 := hears_has hrel.out.has (n := 255) k64
          rw [hear_all] at s1
          have hsz := hrel.out.has.size
          have hl16 : (listS l).length ≤ 16 := by rw [list_len]; exact hrel.out.has.ok.room
          go_wp2_with fail
          refine s1.mono ?_
          rintro e w3 ⟨A3, c3, rfl, h3⟩
          have N3 := cover (Nums.of_own h3.out.1)
          have O3 := cover h3.out.1
          have H3 : Hid (SHas B w3 s l) := cover (hrel.out.has.below h3.out.2)
          have B3 : Hid (Below B w w3) := cover (hrel.out.bel.trans (h3.out.2.mono hsz))
          clear s1 h3 hrel H2
          have s1 := list_has H3.out
          go_wp2_with fail
          refine s1.mono ?_
          rintro e w4 ⟨A4, c4, rfl, h4⟩
          have N4 := Nums.of_own h4.out.1
          have N5 := Nums.of_own (row_keeps O3.out (fun i hi => h4.out.2.block i (O3.out.lt i hi).2))
          have H4 : Hid (SHas B w4 s l) := cover (H3.out.below h4.out.2)
          have B4 : Hid (Below B w w4) := cover (B3.out.trans (h4.out.2.mono H3.out.size))
          have s2 := ints_same (c := c3) (c' := c4) w4 rfl (by omega) N5 N4
          clear s1 h4 H3 B3 O3 N3 N4 N5
          go_wp2_with fail
          refine s2.mono ?_
          rintro e w5 ⟨rfl, d5, rfl⟩
          have H5 : Hid (SHas B (w4.drewN d5) s l) := cover (H4.out.drewN d5)
          have B5 : Hid (Below B w (w4.drewN d5)) := cover (below_drewN B4.out _)
          clear s2 H4 B4
          have s1 := list_has H5.out
          go_wp2_with fail
          refine s1.mono ?_
          rintro e w6 ⟨A6, c6, rfl, h6⟩
          have H6 : Hid (SHas B w6 s l) := cover (H5.out.below h6.out.2)
          have B6 : Hid (Below B w w6) := cover (B5.out.trans (h6.out.2.mono H5.out.size))
          clear s1 h6 H5 B5
          obtain ⟨m, hm⟩ : ∃ m, (listS l).length = m := ⟨_, rfl⟩
          rw [hm] at hl16 ⊢
          clear hm
          have HOK : Hid (InS l) := cover H6.out.ok
          have s1 := close_has H6.out ha64
          go_wp2_with fail
          refine s1.mono ?_
          rintro e w7 ⟨rfl, H7⟩
          have B7 := cover (B6.out.trans H7.out.2)
          clear s1 H6 B6 hl16
          have e1 : clsS (closeS l a) a = 0 := by rw [cls_close, if_pos rfl]
          have e2 : hearS (closeS l a) a = [] := by rw [hear_one H7.out.1.ok HA.out.2.2, close_none]; rfl
          have s1 := class_has H7.out.1 ha64
          have s2 := hears_has H7.out.1 ha64
          rw [e1] at s1
          rw [e2] at s2
          have E := cover (open_closed HOK.out HA.out)
          clear e1 e2
          go_wp2_with fail
          refine s1.mono ?_
          rintro e w8 ⟨rfl, rfl⟩
          clear s1
          go_wp2_with fail
          refine s2.mono ?_
          rintro e w9 ⟨A9, c9, rfl, h9⟩
          have H9 : Hid (SHas B w9 s (closeS l a)) := cover (H7.out.1.below h9.out.2)
          have B9 : Hid (Below B w w9) := cover (B7.out.trans (h9.out.2.mono H7.out.1.size))
          clear s2 h9 H7 B7
          have s1 := open_has H9.out ha64 1
          rcases E.out with ⟨e1, e2⟩ | ⟨e1, e2⟩
          · rw [e1] at s1
            have E2 := cover e2
            clear e1 e2
            go_wp2_with fail
            refine s1.mono ?_
            rintro e w10 ⟨rfl, H10⟩
            have B10 := cover (B9.out.trans H10.out.2)
            clear s1 H9 B9
            have s1 := list_has H10.out.1
            go_wp2_with fail
            refine s1.mono ?_
            rintro e w11 ⟨A11, c11, rfl, h11⟩
            have B11 := cover (B10.out.trans (h11.out.2.mono H10.out.1.size))
            clear s1 h11 H10 B10
            rw [E2.out]
            go_wp2
            go_ret
            exact ⟨rfl, B11.out⟩
          · rw [e1, e2] at s1
            have hdeaf := fresh_deaf HOK.out HA.out HG.out e1 e2
            have hone := fresh_one HOK.out HA.out e2
            obtain ⟨l3, hl3⟩ : ∃ l3, insS ⟨a, 1, []⟩ (closeS l a) = l3 := ⟨_, rfl⟩
            rw [hl3] at s1 hdeaf hone
            have HD := cover hdeaf
            have HO := cover hone
            clear e1 e2 hdeaf hone hl3 E
            go_wp2_with fail
            refine s1.mono ?_
            rintro e w10 ⟨rfl, H10⟩
            have B10 := cover (B9.out.trans H10.out.2)
            clear s1 H9 B9
            have s1 := hears_has H10.out.1 hg64
            have hk16 : (hearS l3 g).length ≤ 16 := Nat.le_trans (hear_len l3 g) H10.out.1.ok.room
            obtain ⟨hl3, hhl3⟩ : ∃ hl3, hearS l3 g = hl3 := ⟨_, rfl⟩
            rw [hhl3] at s1 hk16
            have HD3 : Hid (a ∉ hl3) := cover (by rw [← hhl3]; exact HD.out)
            clear hhl3 HD
            go_wp2_with fail
            refine s1.mono ?_
            rintro e w11 ⟨A11, c11, rfl, h11⟩
            have H11 : Hid (HearAt B w s l3 A11 hl3 w11) := cover ⟨H10.out.1.below h11.out.2, B10.out.trans (h11.out.2.mono H10.out.1.size), Nums.of_own h11.out.1⟩
            clear s1 h11 H10 B10
            obtain ⟨m3, hm3⟩ : ∃ m3, hl3.length = m3 := ⟨_, rfl⟩
            rw [hm3] at hk16 ⊢
            have HM3 := cover hm3
            clear hm3
            go_wp2_with fail
            go_loopw [13] (fun iv wr => ∃ j : Nat, j ≤ m3 ∧ iv = .int .i64 j ∧ Hid (HearAt B w s l3 A11 hl3 wr)) (fun i _ => m3 - (intOf i).toNat)
            case atStart => exact ⟨0, by omega, rfl, H11⟩
            case round =>
              obtain ⟨i, hi, rfl, hrel⟩ := hrel
              by_cases hlt3 : i < m3
              · obtain ⟨x, hx⟩ : ∃ x, hl3[i]? = some x := ⟨_, List.getElem?_eq_getElem (by rw [HM3.out]; exact hlt3)⟩
                obtain ⟨gb, rfl, k1⟩ := hrel.out.row i x hx
                have hxa : x ≠ a := fun e => HD3.out (e ▸ List.mem_of_getElem? hx)
                clear hx
                go_wp2
                go_roundw
                case rel => exact ⟨i + 1, by omega, by go_num, hrel⟩
                case measure => simp [intOf]; omega
              · obtain rfl : i = m3 := by omega
                have s1 := hears_has hrel.out.has ha64
                rw [HO.out] at s1
                have hsz3 := hrel.out.has.size
                go_wp2_with fail
                refine s1.mono ?_
                rintro e w12 ⟨A12, c12, rfl, h12⟩
                have H12 := cover (hrel.out.bel.trans (h12.out.2.mono hsz3))
                have hsz4 : B ≤ w12.heap.size := Nat.le_trans hsz3 h12.out.2.size
                have s4 := ints_out h12.out.1 (by show 1 ≤ 1000; decide) 1
                clear s1 h12 hrel H11
                go_wp2_with fail
                refine s4.mono ?_
                rintro e w13 ⟨rfl, d13, hd13⟩
                have H13 : Hid (Below B w w13) := cover (by rw [hd13]; exact below_drewN (H12.out.alloc hsz4 _) _)
                clear s4 hd13
                go_wp2
                go_ret
                exact ⟨rfl, H13.out⟩
end Go.Proofs.Ytnegbiofnjdfaaa
