/- The walk of TiesWalks. -/
import Derived.Deep.RegionHeld3
import Derived.Test.YtjkgiepfglimcaaERef
import Derived.Test.YtjkgiepfglimcaaEIn
import Derived.Test.YtjkgiepfglimcaaEAwake
import Derived.Test.YtjkgiepfglimcaaECha
import Derived.Test.YtjkgiepfglimcaaESame
namespace Go.Proofs.Ytjkgiepfglimcaa
open Go.RowKit
set_option linter.unusedVariables false

/-- the table that the law fills -/
def FillAt (B : Nat) (w : World) (t b : Nat) (j : Nat) (wr : World) : Prop := ∃ l, THasI B wr t b 200 l ∧ Below B w wr
set_option maxRecDepth 100000 in
set_option maxHeartbeats 3200000 in
theorem walk_TiesWalks (A : Option Addr) (len cap : Nat) (ks : List EK) (a1 a2 : Int) (w : World) (hlc : len ≤ cap) (hcm : cap ≤ maxLen) (hr : KeysB w w.heap.size A len ks ∧ ∀ k ∈ ks, OkE k) (h1' : (Lit.int .u8 a1).wf = true) (h2' : (Lit.int .u8 a2).wf = true) :
    Calls Try.prog 6 #[.slice A len cap, .int .u8 a1, .int .u8 a2] w fun e w' => e = .returned (.bool true) ∧ Below w.heap.size w w' := by
  have HR := cover hr.1
  have HO := cover hr.2
  have h1 := u8_wf h1'
  have h2 := u8_wf h2'
  obtain ⟨B, hB⟩ : ∃ B, w.heap.size = B := ⟨_, rfl⟩
  rw [hB]
  have hBw : B ≤ w.heap.size := by omega
  have HBE := cover hB
  have HCM := cover hcm
  clear hB hr hcm h1' h2'
  by_cases hbig : 60 < len
  · go_enter Try.func6, Try.ntmps6
    go_wp2_with fail
    refine (awake_any w).mono ?_
    rintro e w0 ⟨rfl, hb0⟩
    have HB0 : Hid (Below B w w0) := cover (hb0.mono hBw)
    clear hb0
    go_wp2
    go_ret
    exact ⟨rfl, HB0.out⟩
  go_enter Try.func6, Try.ntmps6
  go_wp2_with fail
  refine (awake_any w).mono ?_
  rintro e w0 ⟨rfl, hb0⟩
  have HB0 : Hid (Below B w w0) := cover (hb0.mono hBw)
  have hs0 : B ≤ w0.heap.size := Nat.le_trans hBw hb0.size
  clear hb0
  go_wp2_with fail
  refine (newI_has 200 (by decide) hs0).mono ?_
  rintro e w1 ⟨t, b, rfl, H1'⟩
  have H1 : Hid (FillAt B w t b 0 w1) := cover ⟨[], H1'.out.1, HB0.out.trans (H1'.out.2.1.mono hs0)⟩
  clear H1' HB0
  go_wp2_with fail
  go_loopw [8] (fun iv wr => ∃ j : Nat, j ≤ len ∧ iv = .int .i64 j ∧ Hid (FillAt B w t b j wr)) (fun i _ => len - (intOf i).toNat)
  case atStart => exact ⟨0, by omega, rfl, H1⟩
  case round =>
    obtain ⟨j, hj, rfl, hrel⟩ := hrel
    by_cases hlt : j < len
    · obtain ⟨l, hT, hbel⟩ := hrel.out
      obtain ⟨k, hk⟩ : ∃ k, ks[j]? = some k := ⟨_, List.getElem?_eq_getElem (by rw [HR.out.len]; exact hlt)⟩
      obtain ⟨ad, rfl, had, hka⟩ := HR.out.at_ j k hk
      have hok := HO.out k (List.mem_of_getElem? hk)
      have hblk : (ad.add (j * 8)).block < B := by rw [addr_add_block, ← HBE.out]; exact had
      obtain ⟨c0, c1, c2, c3, c4, c5, c6, c7⟩ := hka.below hblk hbel
      have s1 := key_any k wr
      have HT := cover (And.intro hT hbel)
      have hsz := hT.size
      clear hk hka hbel hT hrel
      go_wp2_with fail
      refine s1.mono ?_
      rintro e w3 ⟨rfl, hb3⟩
      have s2 := putI_has (HT.out.1.below hb3) hok (j : Int)
      have HB3 : Hid (Below B w w3) := cover (HT.out.2.trans (hb3.mono hsz))
      generalize (if fullT 200 l k = true then (6 : Int) else 0) = pr at s2
      clear s1 hb3
      go_wp2_with fail
      refine s2.mono ?_
      rintro e w4 ⟨rfl, H4⟩
      have HN : Hid (FillAt B w t b (j + 1) w4) := cover ⟨_, H4.out.1, HB3.out.trans H4.out.2.1⟩
      clear s2 H4 HB3 HT c0 c1 c2 c3 c4 c5 c6 c7
      go_wp2
      go_roundw
      case rel => exact ⟨j + 1, by omega, by go_num, HN⟩
      case measure => simp [intOf]; omega
    · obtain rfl : j = len := by omega
      obtain ⟨l, hT, hbel⟩ := hrel.out
      have hsz := hT.size
      have hl2 : l.length ≤ 200 := hT.most
      have s1 := walk_any hT.1 (-1) l.length (by rw [if_neg (by omega)])
      rw [List.take_length] at s1
      unfold WalkOut at s1
      have HT := cover (And.intro hT hbel)
      obtain ⟨n, hn⟩ : ∃ n, n = l.length := ⟨_, rfl⟩
      rw [← hn] at s1 hl2
      have HN := cover hn
      clear hrel hT hbel hn H1
      go_wp2_with fail
      refine s1.mono ?_
      rintro e w3 ⟨A3, c3, rfl, h3⟩
      have hcap3 : n ≤ c3 ∧ c3 ≤ maxLen := by
        have ho := h3.out.1
        rcases ho.2 with ⟨hv, h0⟩ | ⟨g, cp, cur, hv, _, _, r1, r2, _⟩
        · injection hv with e1 e2 e3; unfold maxLen; omega
        · injection hv with e1 e2 e3; subst e3; exact ⟨r1, r2⟩
      have H3 : Hid (THasI B w3 t b 200 l ∧ Below B w w3 ∧ Rws w3 A3 l ∧ ∀ g, (Value.slice A3 n c3).ownBlock = some g → wr.heap.size ≤ g ∧ g < w3.heap.size) := cover ⟨HT.out.1.below h3.out.2, HT.out.2.trans (h3.out.2.mono hsz), Rws.of_own h3.out.1, fun g hg => h3.out.1.lt g hg⟩
      obtain ⟨z, hz⟩ : ∃ z, z = wr.heap.size := ⟨_, rfl⟩
      rw [← hz] at H3
      have HTB : Hid (t < z ∧ b < z) := cover (by rw [hz]; exact HT.out.1.lt)
      clear s1 h3 HT hz
      go_wp2_with fail
      go_loopw [10] (fun iv wx => ∃ q : Nat, 1 ≤ q ∧ (q ≤ n ∨ q = 1) ∧ iv = .int .i64 q ∧ Hid (THasI B wx t b 200 l ∧ Below B w wx ∧ Rws wx A3 l ∧ ∀ g, (Value.slice A3 n c3).ownBlock = some g → z ≤ g ∧ g < wx.heap.size)) (fun i _ => n + 1 - (intOf i).toNat)
      case atStart => exact ⟨1, by omega, .inr rfl, rfl, H3⟩
      case round =>
        obtain ⟨q, hq1, hqn, rfl, hrel⟩ := hrel
        obtain ⟨i, hi⟩ : ∃ i, q = i + 1 := ⟨q - 1, by omega⟩
        by_cases hlt3 : q < n
        · obtain ⟨⟨x1, x2⟩, hx⟩ : ∃ x, l[i]? = some x := ⟨_, List.getElem?_eq_getElem (by rw [← HN.out]; omega)⟩
          obtain ⟨⟨y1, y2⟩, hy⟩ : ∃ y, l[q]? = some y := ⟨_, List.getElem?_eq_getElem (by rw [← HN.out]; omega)⟩
          have hlt4 := hrel.out.1.rise.get_lt hx hy (by omega)
          obtain ⟨g, rfl, hgl, q0⟩ := hrel.out.2.2.1 i _ hx
          obtain ⟨g', e9, _, q1⟩ := hrel.out.2.2.1 q _ hy
          obtain rfl : g = g' := by injection e9 with e9; injection e9 with e9
          have hiw : IntKind.i64.wrap ((q : Int) - 1) = (i : Int) := by rw [IntKind.wrap_i64]; omega
          have hin : i < n := by omega
          have HS : Hid (∀ W', Below wr.heap.size wr W' → RowCells W' g (i * 9) (x1, x2) ∧ RowCells W' g (q * 9) (y1, y2) ∧ Below wr.heap.size wr W') := cover fun W' hb => ⟨q0.keep (hb.block g hgl), q1.keep (hb.block g hgl), hb⟩
          have CR : Hid (∀ W', Below wr.heap.size wr W' → Calls Try.prog 16 #[keyV x1, keyV y1] W' fun e w' => e = .returned (.bool true) ∧ Below wr.heap.size wr w') := cover fun W' h => (rless_any x1 y1 W').mono fun e w' ⟨he, hw⟩ => ⟨by rw [he, hlt4], h.trans (hw.mono h.size)⟩
          have HQ := cover hi
          clear hx hy hlt4 q0 q1 e9 hgl hi
          go_wp2_with fail
          go_region_held3 (fun W' => RowCells W' g (i * 9) (x1, x2) ∧ RowCells W' g (q * 9) (y1, y2) ∧ Below wr.heap.size wr W') (first | exact HS.out _ hbX | exact HS.out _ (below_drewN (Below.refl _ _) 1))
            ((go_at_call 16; refine (CR.out _ ?_).mono ?_; (go_split_ands; assumption); rintro e wX ⟨rfl, hbX⟩))
          have HNX : Hid (THasI B wX t b 200 l ∧ Below B w wX ∧ Rws wX (some ⟨g, 0, none⟩) l ∧ ∀ g', (Value.slice (some ⟨g, 0, none⟩) n c3).ownBlock = some g' → z ≤ g' ∧ g' < wX.heap.size) := cover ⟨hrel.out.1.below hbX, hrel.out.2.1.trans (hbX.mono hrel.out.1.size), hrel.out.2.2.1.below hbX, fun g' hg' => ⟨(hrel.out.2.2.2 g' hg').1, Nat.lt_of_lt_of_le (hrel.out.2.2.2 g' hg').2 hbX.size⟩⟩
          clear HS CR hbX hrel
          go_wp2
          go_roundw
          case rel => exact ⟨q + 1, by omega, .inl (by omega), by go_num, HNX⟩
          case measure => simp [intOf]; omega
        · have hii : ¬ (q : Int) < (n : Int) := by omega
          clear hi
          obtain ⟨n0, hn0⟩ : ∃ n0 : Nat, a1 % 70 = n0 := ⟨(a1 % 70).toNat, by omega⟩
          have hm1 : a1.tmod 70 = (n0 : Int) := by rw [Int.tmod_eq_emod_of_nonneg (by omega), hn0]
          obtain ⟨c, hc⟩ : ∃ c : Int, a2.tmod 3 = c := ⟨_, rfl⟩
          obtain ⟨k, hk⟩ : ∃ k, k = min l.length n0 := ⟨_, rfl⟩
          have s1 := changing_any hrel.out.1.1 n0 c k hk
          have hkn : k ≤ n := by have := HN.out; omega
          have htk : (l.take k).length = k := by rw [List.length_take, ← HN.out]; omega
          unfold ChaOut at s1
          rw [htk] at s1
          have HKK : Hid (k = if (n : Int) < (n0 : Int) then n else n0) := cover (by have := HN.out; split <;> omega)
          have HTK := cover htk
          clear hn0 hk htk
          go_wp2_with fail
          refine s1.mono ?_
          rintro e w4 ⟨A4, c4, rfl, h4⟩
          have R4 : Rws w4 A4 (l.take k) := Rws.of_own h4.out.1
          have R3 : Rws w4 A3 (l.take k) := Rws.take (fun i x hx => by
            obtain ⟨g, hA, hg, hc⟩ := hrel.out.2.2.1 i x hx
            have hz := (hrel.out.2.2.2 g (by rw [hA]; rfl)).1
            have htb := HTB.out
            have hkp := h4.out.2.block g hg (by simp; omega)
            exact ⟨g, hA, Nat.lt_of_lt_of_le hg h4.out.2.size, hc.keep hkp⟩) k
          have s2 := same_same (c := c4) (c' := c3) w4 HTK.out (by omega) R4 R3
          have HB4 : Hid (Below B w w4) := cover (Turned.below hrel.out.2.1 h4.out.2 (fun i hi => by
            have h5 := hrel.out.1.2
            simp at hi
            rcases hi with rfl | rfl
            · exact h5.1
            · exact h5.2) hrel.out.1.size)
          have hmin : min (n : Int) (n0 : Int) = (k : Int) := by
            have := HKK.out
            split at this <;> omega
          have hkc : (k : Int) ≤ (c3 : Int) := by omega
          have hkc2 : k ≤ c3 := by omega
          have hk0 : (0 : Int) ≤ (k : Int) := by omega
          clear s1 h4 R3 R4 hrel HKK HTK
          go_wp2_with fail
          refine s2.mono ?_
          rintro e w5 ⟨rfl, d, rfl⟩
          have HB5 : Hid (Below B w (w4.drewN d)) := cover (below_drewN HB4.out d)
          clear s2 HB4
          go_wp2
          go_ret
          exact ⟨rfl, HB5.out⟩
end Go.Proofs.Ytjkgiepfglimcaa
