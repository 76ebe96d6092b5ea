/- The walk of ClockOrder. -/
import Derived.Test.YtodiocioldakjaaKLists
namespace Go.Proofs.Ytodiocioldakjaa
open Go.RowKit
set_option linter.unusedVariables false

theorem filter_len (l : List Int) (a : Int) (h : l.Nodup) : l.length ≤ (l.filter (· != a)).length + 1 := by
  induction l with
  | nil => simp
  | cons x l ih =>
    rw [List.nodup_cons] at h
    by_cases hx : x = a
    · subst hx
      have : l.filter (· != x) = l := List.filter_eq_self.2 (fun y hy => by simp; exact fun e => h.1 (e ▸ hy))
      rw [List.filter_cons, if_neg (by simp), this, List.length_cons]; exact Nat.le_refl _
    · rw [List.filter_cons, if_pos (by simp [hx]), List.length_cons, List.length_cons]
      have := ih h.2; omega
theorem few (n : Nat) : ∀ l : List Int, l.Nodup → (∀ x ∈ l, 0 ≤ x ∧ x < n) → l.length ≤ n := by
  induction n with
  | zero =>
    intro l _ hl
    cases l with
    | nil => simp
    | cons x l => have := hl x (by simp); omega
  | succ n ih =>
    intro l hd hl
    have h1 := filter_len l n hd
    have h2 := ih (l.filter (· != (n : Int))) (hd.filter _) (fun x hx => by
      obtain ⟨h3, h4⟩ := List.mem_filter.1 hx
      have := hl x h3
      have hne : x ≠ (n : Int) := by simpa using h4
      omega)
    omega
theorem keys_all (xs : List Int) (t : Int) : (xs.map (fun k => (k, t))).map (·.1) = xs := by rw [List.map_map]; exact List.map_id'' (fun _ => rfl) xs
theorem has_all (xs : List Int) (t k : Int) : hasK (xs.map (fun k => (k, t))) k = true ↔ k ∈ xs := by rw [hasK_iff, keys_all]
/-- the law's own row of keys, in the order of their last starts, and the clock -/
structure OrdAt (B : Nat) (w : World) (c : Nat) (t : Int) (now : Nat) (xs : List Int) (A : Option Addr) (m cp : Nat) (wr : World) : Prop where
  len : xs.length = m
  nd : xs.Nodup
  bd : ∀ x ∈ xs, 0 ≤ x ∧ x < ((20 : Nat) : Int)
  bel : Below B w wr
  row : wr.ownsRow B 3 1 (.slice A m cp) m (xs.map (Value.int .i64))
  ex : ∃ V, CIIn wr c V 20 now (xs.map (fun k => (k, t))) ∧ (∀ i, cfoot c V i → B ≤ i) ∧ ∀ g, (Value.slice A m cp).ownBlock = some g → ¬ cfoot c V g
theorem OrdAt.m20 {B : Nat} {w : World} {c : Nat} {t : Int} {now : Nat} {xs : List Int} {A : Option Addr} {m cp : Nat} {wr : World} (h : OrdAt B w c t now xs A m cp wr) : m ≤ 20 := by
  rw [← h.len]; exact few 20 xs h.nd h.bd
theorem OrdAt.size {B : Nat} {w : World} {c : Nat} {t : Int} {now : Nat} {xs : List Int} {A : Option Addr} {m cp : Nat} {wr : World} (h : OrdAt B w c t now xs A m cp wr) : B ≤ wr.heap.size := by
  obtain ⟨V, h1, h2, _⟩ := h.ex
  have := h1.lt (.inl rfl)
  have := h2 c (.inl rfl)
  omega
theorem OrdAt.next {B : Nat} {w : World} {c : Nat} {t t' : Int} {now now' : Nat} {xs : List Int} {A : Option Addr} {m cp : Nat} {wr w' : World} {V V' : Value} (h : OrdAt B w c t now xs A m cp wr) (hf : ∀ i, cfoot c V i → B ≤ i) (hdis : ∀ g, (Value.slice A m cp).ownBlock = some g → ¬ cfoot c V g)
    (hm : Moves (cfoot c V) (cfoot c V') wr w') (hV' : CIIn w' c V' 20 now' (xs.map (fun k => (k, t')))) : OrdAt B w c t' now' xs A m cp w' :=
  ⟨h.len, h.nd, h.bd, Moves.below h.bel hm hf h.size, row_keeps h.row (fun i hi => hm.block i (h.row.lt i hi).2 (hdis i hi)), V', hV', fun i hi => (hm.own i hi).elim (hf i) (fun h1 => Nat.le_trans h.size h1),
    fun g hg => (hm.apart (T := fun k => (Value.slice A m cp).ownBlock = some k) (fun k hk => ⟨(h.row.lt k hk).2, hdis k hk⟩) g hg).2⟩
theorem ord_info : (Try.prog.info? 3).map (fun i => (i.zero, i.size, i.bytes)) = some (some (.int .i64 0), 1, 8) := by kernel_rfl
set_option maxRecDepth 100000 in
set_option maxHeartbeats 1600000 in
theorem walk_ClockOrder (A : Option Addr) (len cap : Nat) (l : List Int) (a1 : Int) (w : World) (hlc : len ≤ cap) (hcm : cap ≤ maxLen) (hr : Row w w.heap.size A len l) (hbt : ∀ x ∈ l, (Lit.int .u8 x).wf = true) (h1' : (Lit.int .u8 a1).wf = true) :
    Calls Try.prog 6 #[.slice A len cap, .int .u8 a1] w fun e w' => e = .returned (.bool true) ∧ Below w.heap.size w w' := by
  have h1 := u8_wf h1'
  have HR := cover hr
  have HT := cover hbt
  obtain ⟨i0, hi, hz0, hz1, hz2⟩ := info_parts ord_info
  have HI := cover hi
  obtain ⟨B, hB⟩ : ∃ B, w.heap.size = B := ⟨_, rfl⟩
  rw [hB]
  have hBw : B ≤ w.heap.size := by omega
  have HBE := cover hB
  have HCM := cover hcm
  clear hB hr h1' hcm hbt hi
  by_cases hbig : 100 < len
  · go_enter Try.func6, Try.ntmps6
    go_wp2_with fail
    refine (awake_any w).mono ?_
    rintro e w0 ⟨rfl, hb0⟩
    have HB0 : Hid (Below B w w0) := cover (hb0.mono hBw)
    clear hb0
    go_wp2
    go_ret
    exact ⟨rfl, HB0.out⟩
  obtain ⟨n, hn⟩ : ∃ n : Nat, (1 : Int) + a1 % 20 = n := ⟨(1 + a1 % 20).toNat, by omega⟩
  have hn1 : (1 : Int) ≤ (n : Int) ∧ (n : Int) ≤ 20 := by omega
  go_enter Try.func6, Try.ntmps6
  go_wp2_with fail
  refine (awake_any w).mono ?_
  rintro e w0 ⟨rfl, hb0⟩
  have HB0 : Hid (Below B w w0) := cover (hb0.mono hBw)
  have hs0 : B ≤ w0.heap.size := Nat.le_trans hBw hb0.size
  clear hb0
  go_wp2_with fail
  refine (newI_has 20 (by decide) hs0).mono ?_
  rintro e w1 ⟨c, rfl, H1'⟩
  have H1 : Hid (OrdAt B w c n 0 [] none 0 0 w1) := by
    obtain ⟨⟨V, k1, k2⟩, k3⟩ := H1'.out
    exact cover ⟨rfl, List.nodup_nil, fun x hx => (by cases hx), HB0.out.trans k3, World.ownsRow_nil _ _ _ _, ⟨V, k1, k2, fun g hg => (by cases hg)⟩⟩
  have HNE := cover hn
  clear H1' HB0
  go_wp2_with fail
  clear hn
  go_loopw [7, 8] (fun v i wr => ∃ (A1 : Option Addr) (m cp j : Nat), j ≤ len ∧ v = .slice A1 m cp ∧ i = .int .i64 j ∧ Hid (∃ xs, OrdAt B w c n 0 xs A1 m cp wr)) (fun _ i _ => len - (intOf i).toNat)
  case atStart => exact ⟨none, 0, 0, 0, by omega, rfl, rfl, cover ⟨[], H1.out⟩⟩
  case round =>
    obtain ⟨A1, m, cp, j, hj, rfl, rfl, hrel⟩ := hrel
    obtain ⟨xs, hxs⟩ := hrel.out
    have hm20 := hxs.m20
    by_cases hlt : j < len
    · obtain ⟨ad, y, rfl, had, hc, hy⟩ := HR.out.at_ hlt
      have hyb : 0 ≤ y ∧ y ≤ 255 := u8_wf (HT.out y (List.mem_of_getElem? hy.out))
      obtain ⟨k, hk⟩ : ∃ k : Int, y % 20 = k := ⟨_, rfl⟩
      have hk20 : 0 ≤ k ∧ k < 20 := by omega
      have hcx := (hxs.bel.cell (p := ad.add j) (by rw [addr_add_block, ← HBE.out]; exact had)).trans hc
      obtain ⟨V, hV, hf, hdis⟩ := hxs.ex
      have hsb : startB 20 (xs.map (fun k => (k, (n : Int)))) k (n : Int) 10000 = true := by
        rw [startB_is (by omega) (by omega)]
        by_cases hkx : k ∈ xs
        · rw [(has_all xs n k).2 hkx]; rfl
        · have := few 20 (k :: xs) (List.nodup_cons.2 ⟨hkx, hxs.nd⟩) (fun x hx => by
            rcases List.mem_cons.1 hx with rfl | hx
            · omega
            · exact hxs.bd x hx)
          simp only [List.length_cons] at this
          simp only [List.length_map]
          have : decide (xs.length < 20) = true := decide_eq_true (by omega)
          rw [this, Bool.or_true]
      have hst := startI_any hV k (n : Int)
      unfold StartI at hst
      rw [hsb, if_pos rfl, start_all] at hst
      have HX := cover (And.intro hxs (And.intro hV (And.intro hf hdis)))
      clear hc hy hrel hxs hV hf hdis hsb
      go_wp2_with fail
      refine hst.mono ?_
      rintro e w2 ⟨rfl, H2⟩
      obtain ⟨V2, hV2, hm2⟩ := H2.out
      -- the row of keys lies as it lay
      have hrow2 : w2.ownsRow B 3 1 (.slice A1 m cp) m (xs.map (Value.int .i64)) := row_keeps HX.out.1.row (fun i hi => hm2.block i (HX.out.1.row.lt i hi).2 (HX.out.2.2.2 i hi))
      have hf2 : ∀ i, cfoot c V2 i → B ≤ i := fun i hi => (hm2.own i hi).elim (HX.out.2.2.1 i) (fun h => Nat.le_trans HX.out.1.size h)
      obtain ⟨b2, hb2⟩ : ∃ b2, b2 = w2.heap.size := ⟨_, rfl⟩
      have H3 := cover (And.intro hV2 (And.intro hrow2 (And.intro hf2 (And.intro (Moves.below HX.out.1.bel hm2 HX.out.2.2.1 HX.out.1.size) hb2))))
      have hb2' : b2 ≤ w2.heap.size := by omega
      clear hst H2 hV2 hm2 hrow2 hf2 hb2 hcx
      go_wp2_with fail
      go_loopw [10, 11] (fun v i wr => ∃ (A2 : Option Addr) (m2 c2 jj : Nat), jj ≤ m ∧ m2 ≤ jj ∧ v = .slice A2 m2 c2 ∧ i = .int .i64 jj ∧ Hid (wr.ownsRow b2 3 1 (.slice A2 m2 c2) m2 (((xs.take jj).filter (· != k)).map (Value.int .i64)) ∧ Below b2 w2 wr)) (fun _ i _ => m - (intOf i).toNat)
      case atStart => exact ⟨none, 0, 0, 0, Nat.zero_le _, Nat.zero_le _, rfl, rfl, cover ⟨World.ownsRow_nil _ _ _ _, Below.refl _ _⟩⟩
      case round =>
        obtain ⟨A2, m2, c2, jj, hjj, hmj, rfl, rfl, hr2⟩ := hrel
        obtain ⟨hown, hbel2⟩ := hr2.out
        have hsz2 := hbel2.size
        have hsz2' : b2 ≤ wr.heap.size := Nat.le_trans hb2' hsz2
        by_cases hjm : jj < m
        · obtain ⟨x, hx⟩ : ∃ x, xs[jj]? = some x := ⟨_, List.getElem?_eq_getElem (by rw [HX.out.1.len]; exact hjm)⟩
          obtain ⟨g, rfl, hgl, _, hcg⟩ := own_cell H3.out.2.1 (j := jj) (x := .int .i64 x) (by rw [List.getElem?_map, hx]; rfl)
          have hcg2 := (hbel2.cell (p := ⟨g, jj, none⟩) (by show g < b2; have := H3.out.2.2.2.2; omega)).trans hcg
          have HXX := cover hx
          clear hcg hx hr2
          by_cases hxk : x = k
          · have hbe : (x == k) = true := by rw [beq_iff_eq]; exact hxk
            have e1 : (xs.take (jj + 1)).filter (· != k) = (xs.take jj).filter (· != k) := by
              rw [List.take_add_one, HXX.out]; simp [hxk]
            have HN := cover (And.intro hown hbel2)
            rw [← e1] at HN
            clear hown hbel2 hxk e1
            go_wp2
            go_roundw
            case rel => exact ⟨A2, m2, c2, jj + 1, by omega, by omega, rfl, by go_num, HN⟩
            case measure => simp [intOf]; omega
          · have hbe : (x == k) = false := by rw [beq_eq_false_iff_ne]; exact hxk
            have e1 : ((xs.take (jj + 1)).filter (· != k)).map (Value.int .i64) = ((xs.take jj).filter (· != k)).map (Value.int .i64) ++ [.int .i64 x] := by
              rw [List.take_add_one, HXX.out]; simp [hxk]
            have E1 := cover e1
            have HB2 := cover hbel2
            clear hxk e1 hbel2
            go_wp2_with (at_builtin; refine wpList_append_own _ rfl _ _ 41 rfl b2 3 i0 (.int .i64 0) 1 8 Try.underlying41 HI.out hz0 hz1 hz2 rfl (by decide) _ _ _ rfl (hown.alloc _) ⟨wr.heap.size, 0, none⟩ 1 1 [.int .i64 x] rfl rfl ?c1 ?c2 ?c3 ?c4 ?c5 ?_)
            all_goals try (case c1 => exact cell_one_new _ _ _)
            case c2 => first | rfl | (intro u hu; simp at hu; subst hu; rfl)
            case c3 => unfold maxLen; omega
            case c4 => omega
            case c5 => first | omega | (simp; omega)
            intro v' w5 hown' hgrow _
            obtain ⟨A5, c5, rfl, _⟩ := own_shape hown'
            have HN : Hid (w5.ownsRow b2 3 1 (.slice A5 (m2 + 1) c5) (m2 + 1) (((xs.take (jj + 1)).filter (· != k)).map (Value.int .i64)) ∧ Below b2 w2 w5) := cover ⟨by rw [E1.out]; exact hown', (HB2.out.alloc hsz2' _).grown hgrow (by simp; omega) (fun i hi => (hown.lt i hi).1)⟩
            clear hown' hgrow hown
            go_wp2
            go_roundw
            case rel => exact ⟨A5, m2 + 1, c5, jj + 1, by omega, by omega, rfl, by go_num, HN⟩
            case measure => simp [intOf]; omega
        · obtain rfl : jj = m := by omega
          have E2 : ((xs.take jj).filter (· != k)).map (Value.int .i64) = (xs.filter (· != k)).map (Value.int .i64) := by rw [← HX.out.1.len, List.take_length]
          rw [E2] at hown
          have HB2 := cover hbel2
          clear hr2 hbel2 E2
          have hX := fun {ops : Array Oper} {rest : List Oper} {o : Oper} {a : Act} {Q : Exit → Act → World → Prop} (hg : o.guard = none) (ho : o.op = Op.call { callee := Callee.builtin Builtin.append, args := #[.tmp 59, .tmp 61], argTypes := #[41, 41] }) (hs : a.eval (.tmp 59) = .slice A2 m2 c2) (hx : a.eval (.tmp 61) = .slice (some ⟨wr.heap.size, 0, none⟩) 1 1) => wpList_append_own (ops := ops) (rest := rest) (o := o) (a := a) (Q := Q) _ hg _ _ 41 ho b2 3 i0 (.int .i64 0) 1 8 Try.underlying41 HI.out hz0 hz1 hz2 rfl (by decide) _ _ _ hs (hown.alloc (.cells #[.int .i64 k] 3)) ⟨wr.heap.size, 0, none⟩ 1 1 [.int .i64 k] hx rfl (cell_one_new _ _ _) (fun u hu => by simp at hu; subst hu; rfl) (by unfold maxLen; omega) (by omega) (by simp; omega)
          go_wp2_with (at_builtin; refine hX rfl rfl rfl rfl ?_)
          intro v' w5 hown' hgrow _
          obtain ⟨A5, c5, rfl, _⟩ := own_shape hown'
          have HN : Hid (∃ xs', OrdAt B w c n 0 xs' A5 (m2 + 1) c5 w5) := by
            have hz5 : b2 ≤ (wr.alloc (.cells #[.int .i64 k] 3)).heap.size := by simp; omega
            have hb25 : Below b2 w2 w5 := (HB2.out.alloc hsz2' _).grown hgrow hz5 (fun i hi => (hown.lt i hi).1)
            obtain ⟨k1, k2, k3, k4, k5⟩ := H3.out
            have hmem : ∀ x ∈ xs.filter (· != k) ++ [k], 0 ≤ x ∧ x < ((20 : Nat) : Int) := fun x hx => by
              rcases List.mem_append.1 hx with hx | hx
              · exact HX.out.1.bd x (List.mem_filter.1 hx).1
              · simp at hx; subst hx; omega
            have hl5 := hown'.1
            have hBb : B ≤ b2 := by rw [k5]; have := k4.size; have := HBE.out; omega
            refine cover ⟨xs.filter (· != k) ++ [k], ?_, ?_, hmem, k4.trans (hb25.mono (by omega)), ?_, V2, k1.below (by rw [← k5]; exact hb25), k3, fun g hg hf' => ?_⟩
            · simp only [List.length_append, List.length_map, List.length_cons, List.length_nil, Nat.mul_one] at hl5
              rw [List.length_append]; exact hl5
            · rw [List.nodup_append]
              refine ⟨HX.out.1.nd.filter _, by simp, ?_⟩
              intro a ha b hb' e
              simp at hb'
              subst hb'
              subst e
              have := (List.mem_filter.1 ha).2
              simp at this
            · rw [List.map_append]
              exact own_base hown' (by rw [k5]; have := k4.size; have := HBE.out; omega)
            · have h6 := (hown'.lt g hg).1
              have h7 := k1.lt hf'
              omega
          clear hown' hgrow hown H3 HX HB2
          go_wp2
          go_roundw
          case rel => exact ⟨A5, m2 + 1, c5, j + 1, by omega, rfl, by go_num, HN⟩
          case measure => simp [intOf]; omega
    · have HO := cover hxs
      clear hrel hxs
      go_wp2_with fail
      go_loopw [12] (fun i wx => ∃ k : Nat, 1 ≤ k ∧ (k : Int) ≤ (n : Int) ∧ i = .int .i64 k ∧ Hid (OrdAt B w c ((n : Int) - (k : Int) + 1) (k - 1) xs A1 m cp wx)) (fun i _ => n - (intOf i).toNat)
      case atStart => exact ⟨1, Nat.le_refl _, by omega, rfl, by have := HO.out; rw [show (n : Int) - ((1 : Nat) : Int) + 1 = (n : Int) by omega]; exact cover this⟩
      case round =>
        obtain ⟨k, hk1, hkn, rfl, hor⟩ := hrel
        obtain ⟨V, hV, hf, hdis⟩ := hor.out.ex
        have hst := tickI_any hV (by omega)
        unfold TickI at hst
        by_cases hlt2 : (k : Int) < (n : Int)
        · obtain ⟨e1, e2⟩ := tick_all (ks := xs) (n := (n : Int) - (k : Int) + 1) (by omega)
          rw [e1, e2] at hst
          have HF := cover (And.intro hf hdis)
          clear hV hf hdis e1 e2
          go_wp2_with fail
          refine hst.mono ?_
          rintro e w5 ⟨A5, c5, rfl, H5⟩
          obtain ⟨V5, k1, k2, _⟩ := H5.out.2
          have HN : Hid (OrdAt B w c ((n : Int) - ((k + 1 : Nat) : Int) + 1) (k + 1 - 1) xs A1 m cp w5) := by
            have h5 := hor.out.next HF.out.1 HF.out.2 k2 k1
            rw [show (n : Int) - (k : Int) + 1 - 1 = (n : Int) - ((k + 1 : Nat) : Int) + 1 by omega, show k - 1 + 1 = k + 1 - 1 by omega] at h5
            exact cover h5
          rw [show ([] : List Int).length = 0 from rfl]
          clear hst H5 k1 k2 hor HF
          go_wp2
          go_roundw
          case rel => exact ⟨k + 1, by omega, by omega, by go_num, HN⟩
          case measure => simp [intOf]; omega
        · obtain rfl : k = n := by omega
          obtain ⟨e1, e2⟩ := tick_end xs
          rw [show (k : Int) - (k : Int) + 1 = 1 by omega] at hst hor
          rw [e1, e2] at hst
          have HF := cover (And.intro hf hdis)
          have hlen := hor.out.len
          have HLE := cover hlen
          rw [hlen] at hst
          clear hV hf hdis e1 e2 hlen
          go_wp2_with fail
          refine hst.mono ?_
          rintro e w5 ⟨A5, c5, rfl, H5⟩
          obtain ⟨V5, k1, k2, _⟩ := H5.out.2
          have hrow5 := row_keeps hor.out.row (fun i hi => k2.block i (hor.out.row.lt i hi).2 (HF.out.2 i hi))
          have HI2 := cover (ints_same (c := c5) (c' := cp) w5 HLE.out (by have := hm20; omega) (Nums.of_own H5.out.1) (Nums.of_own hrow5))
          have HK := cover k1
          have HB5 := cover (Moves.below hor.out.bel k2 HF.out.1 hor.out.size)
          clear hst H5 k1 k2 hor HF hrow5
          go_wp2_with fail
          refine HI2.out.mono ?_
          rintro e w6 ⟨rfl, d, rfl⟩
          clear HI2
          have HL := cover (lenI_any (HK.out.drewN d))
          go_wp2_with fail
          refine HL.out.mono ?_
          rintro e w' ⟨rfl, rfl⟩
          clear HL HK
          go_wp2
          go_ret
          exact ⟨rfl, below_drewN HB5.out d⟩
end Go.Proofs.Ytodiocioldakjaa
