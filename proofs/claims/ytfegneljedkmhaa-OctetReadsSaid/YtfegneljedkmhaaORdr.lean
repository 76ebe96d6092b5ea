/- What the document's own reader and Copy do. -/
import Derived.Test.YtfegneljedkmhaaORef
import Derived.Test.YtfegneljedkmhaaONum
namespace Go.Proofs.Ytfegneljedkmhaa
open Go.RowKit
set_option linter.unusedVariables false

/-- at the head of a round of Copy -/
def CopyAt (w : World) (l : List Int) (j : Nat) (v : Value) (wr : World) : Prop :=
  wr.ownsRow w.heap.size 5 1 v j ((l.take j).map (Value.int .u8)) ∧ Below w.heap.size w wr

set_option maxHeartbeats 400000 in
theorem copy_any (A : Option Addr) (n c B : Nat) (l : List Int) (w : World) (hr : Row w B A n l) (hB : B ≤ w.heap.size) (hmax : n ≤ 140737488355328) :
    Calls Try.prog 30 #[.slice A n c] w (GivesB w l) := by
  obtain ⟨i0, hi, hz0, hz1, hz2⟩ := info_parts u8_info
  have HL := cover hr.len
  go_enter Try.func30, Try.ntmps30
  go_wp2
  go_loopw [3, 4] (fun v i wr => ∃ j : Nat, j ≤ n ∧ i = .int .i64 j ∧ Hid (CopyAt w l j v wr)) (fun _ i _ => n - (intOf i).toNat)
  case atStart => exact ⟨0, Nat.zero_le _, rfl, cover ⟨World.ownsRow_nil _ _ _ _, Below.refl _ _⟩⟩
  case round =>
    obtain ⟨j, hj, rfl, hrel⟩ := hrel
    obtain ⟨hown, hbel⟩ := hrel.out
    have hsz := hbel.size
    by_cases hlt : j < n
    · obtain ⟨ad, x, rfl, had, hc, hx⟩ := (hr.keep fun p hp => hbel.cell (by omega)).at_ hlt
      go_wp2_with (at_builtin; refine wpList_append_own _ rfl _ _ 25 rfl w.heap.size 5 i0 (.int .u8 0) 1 1 Try.underlying25 hi hz0 hz1 hz2 rfl (by decide) _ _ _ rfl (hown.alloc _) ⟨wr.heap.size, 0, none⟩ 1 1 [.int .u8 x] rfl rfl ?c1 ?c2 ?c3 ?c4 ?c5 ?_)
      case c1 => exact cell_one_new _ _ _
      case c2 => intro u hu; simp at hu; subst hu; rfl
      case c3 => unfold maxLen; omega
      case c4 => omega
      case c5 => simp; omega
      intro v' w1 hown' hgrow _
      rw [← List.map_take] at hown'
      have HN : Hid (CopyAt w l (j + 1) v' w1) := cover ⟨by rw [List.take_add_one, hx.out, List.map_append]; exact hown', (hbel.alloc hsz _).grown hgrow (by simp; omega) (fun k hk => (hown.lt k hk).1)⟩
      clear hown' hgrow hown
      go_wp2
      go_roundw
      case rel => exact ⟨j + 1, by omega, by go_num, HN⟩
      case measure => simp [intOf]; omega
    · obtain rfl : j = n := by omega
      rw [List.take_of_length_le (by rw [HL.out]; omega)] at hown
      obtain ⟨A1, c1, rfl, _⟩ := own_shape hown
      go_wp2
      go_ret
      refine ⟨A1, c1, by rw [HL.out]; rfl, ?_, hbel⟩
      unfold OwnB; rw [HL.out]; exact hown

/-- does the document's reader read a number of so many bytes? -/
def okN (l : List Int) (f : Bool) (n : Int) : Bool := okR l f n && decide (1 ≤ n) && decide (n ≤ 7)
theorem okN_iff (l : List Int) (f : Bool) (n : Int) : okN l f n = true ↔ (f = false ∧ 1 ≤ n ∧ n ≤ 7 ∧ n ≤ l.length) := by
  unfold okN; rw [Bool.and_eq_true, Bool.and_eq_true, okR_iff, decide_eq_true_eq, decide_eq_true_eq]
  exact ⟨fun ⟨⟨⟨a, b, c⟩, d⟩, e⟩ => ⟨a, d, e, c⟩, fun ⟨a, d, e, c⟩ => ⟨⟨⟨a, by omega, c⟩, d⟩, e⟩⟩

theorem rd_fail {T : TypeId} {w : World} {B g : Nat} {l : List Int} {f : Bool} (h : Rd T w B g l f) : Rd T (w.setCell ⟨g, 1, none⟩ (.bool true)) B g l true := by
  obtain ⟨A, c, hh, hlc, hrow⟩ := h.ex
  refine ⟨⟨A, c, ?_, hlc, hrow.setCell h.le _⟩, h.le⟩
  rw [heap_setCell_same w g 1 _ _ _ hh]; rfl

set_option maxHeartbeats 400000 in
theorem ref_num_yes (B g k : Nat) (l : List Int) (w : World) (hr : Rd 36 w B g l false) (hb : Bts l) (hk : k ≤ l.length) (h1 : 1 ≤ k) (h7 : k ≤ 7) (hmax : l.length ≤ 140737488355328) :
    Calls Try.prog 21 #[.pointer (some ⟨g, 0, none⟩), .int .i64 k] w (NumB 36 B g l k w) := by
  obtain ⟨A, c, hh, hlc, hrow⟩ := hr.ex
  have hle := hr.le
  have HH := cover hh
  have HB := cover (hb.take k)
  have HL : Hid ((l.take k).length = k) := cover (by rw [List.length_take]; omega)
  obtain ⟨c0, c1, f0, f1⟩ := rd_cells hh
  clear hh hb
  by_cases hck : c = k
  · subst hck
    go_enter Try.func21, Try.ntmps21
    go_wp2_with (go_at_call 20; refine (ref_get_any A c c B (l.take c) _ (hrow.take hk) HB.out (by omega)).mono ?_; rintro e w' ⟨rfl, rfl⟩)
    go_ret
    obtain ⟨r1, r2⟩ := rd_cut (c' := 0) HH.out hrow hlc hk hle (A' := A) (by simp) (by omega)
    rw [show l.length - c = 0 by omega] at r2
    exact ⟨ret_int (by unfold getB; rw [HL.out, if_pos ⟨h1, h7⟩]), r2, (OnlyB.refl _ _).setCell _ _⟩
  · go_enter Try.func21, Try.ntmps21
    go_wp2_with (go_at_call 20; refine (ref_get_any A k c B (l.take k) _ (hrow.take hk) HB.out (by omega)).mono ?_; rintro e w' ⟨rfl, rfl⟩)
    go_ret
    obtain ⟨r1, r2⟩ := rd_cut (c' := c - k) HH.out hrow hlc hk hle (A' := A.map (·.add k)) (by simp [hck]) rfl
    exact ⟨ret_int (by unfold getB; rw [HL.out, if_pos ⟨h1, h7⟩]), r2, (OnlyB.refl _ _).setCell _ _⟩

set_option maxHeartbeats 400000 in
theorem ref_num_no (B g : Nat) (l : List Int) (f : Bool) (n : Int) (w : World) (hr : Rd 36 w B g l f) (h : okN l f n = false) :
    Calls Try.prog 21 #[.pointer (some ⟨g, 0, none⟩), .int .i64 n] w (FailedB 36 B g l (.int .i64 0) w) := by
  have hfl := rd_fail hr
  obtain ⟨A, c, hh, hlc, hrow⟩ := hr.ex
  obtain ⟨c0, c1, f0, f1⟩ := rd_cells hh
  clear hh
  have hcase : f = true ∨ (f = false ∧ (n < 1 ∨ 7 < n ∨ (l.length : Int) < n)) := by
    rcases hf : f with _ | _
    · refine .inr ⟨rfl, ?_⟩
      by_cases h1 : n < 1
      · exact .inl h1
      · by_cases h7 : 7 < n
        · exact .inr (.inl h7)
        · by_cases hl : (l.length : Int) < n
          · exact .inr (.inr hl)
          · have := (okN_iff l f n).2 ⟨hf, by omega, by omega, by omega⟩
            rw [this] at h; cases h
    · exact .inl rfl
  clear h
  rcases hcase with rfl | ⟨rfl, h1 | h1⟩
  · go_enter Try.func21, Try.ntmps21
    go_wp2
    go_ret
    exact ⟨rfl, hfl, (OnlyB.refl _ _).setCell _ _⟩
  · go_enter Try.func21, Try.ntmps21
    go_wp2
    go_ret
    exact ⟨rfl, hfl, (OnlyB.refl _ _).setCell _ _⟩
  · by_cases h7 : 7 < n
    · clear h1
      have h0 : ¬ n < 1 := by omega
      go_enter Try.func21, Try.ntmps21
      go_wp2
      go_ret
      exact ⟨rfl, hfl, (OnlyB.refl _ _).setCell _ _⟩
    · have h2 : (l.length : Int) < n := by omega
      clear h1
      by_cases h0 : n < 1
      · omega
      · go_enter Try.func21, Try.ntmps21
        go_wp2
        go_ret
        exact ⟨rfl, hfl, (OnlyB.refl _ _).setCell _ _⟩

set_option maxHeartbeats 400000 in
theorem ref_raw_no (B g : Nat) (l : List Int) (f : Bool) (n : Int) (w : World) (hr : Rd 36 w B g l f) (h : okR l f n = false) :
    Calls Try.prog 22 #[.pointer (some ⟨g, 0, none⟩), .int .i64 n] w (FailedB 36 B g l (.slice none 0 0) w) := by
  have hfl := rd_fail hr
  obtain ⟨A, c, hh, hlc, hrow⟩ := hr.ex
  obtain ⟨c0, c1, f0, f1⟩ := rd_cells hh
  clear hh
  have hcase : f = true ∨ (f = false ∧ (n < 0 ∨ (l.length : Int) < n)) := by
    rcases hf : f with _ | _
    · refine .inr ⟨rfl, ?_⟩
      by_cases h1 : n < 0
      · exact .inl h1
      · by_cases hl : (l.length : Int) < n
        · exact .inr hl
        · have := (okR_iff l f n).2 ⟨hf, by omega, by omega⟩
          rw [this] at h; cases h
    · exact .inl rfl
  clear h
  rcases hcase with rfl | ⟨rfl, h1 | h1⟩
  · go_enter Try.func22, Try.ntmps22
    go_wp2
    go_ret
    exact ⟨rfl, hfl, (OnlyB.refl _ _).setCell _ _⟩
  · go_enter Try.func22, Try.ntmps22
    go_wp2
    go_ret
    exact ⟨rfl, hfl, (OnlyB.refl _ _).setCell _ _⟩
  · have h0 : ¬ n < 0 := by omega
    go_enter Try.func22, Try.ntmps22
    go_wp2
    go_ret
    exact ⟨rfl, hfl, (OnlyB.refl _ _).setCell _ _⟩

set_option maxHeartbeats 400000 in
theorem ref_raw_yes (B g k : Nat) (l : List Int) (w : World) (hr : Rd 36 w B g l false) (hk : k ≤ l.length) (hmax : l.length ≤ 140737488355328) :
    Calls Try.prog 22 #[.pointer (some ⟨g, 0, none⟩), .int .i64 k] w (RawB 36 B g l k w) := by
  obtain ⟨A, c, hh, hlc, hrow⟩ := hr.ex
  have hle := hr.le
  have hlt := hr.lt
  have HL : Hid ((l.take k).length = k) := cover (by rw [List.length_take]; omega)
  obtain ⟨c0, c1, f0, f1⟩ := rd_cells hh
  have HH := cover hh
  clear hh
  by_cases hck : c = k
  · subst hck
    go_enter Try.func22, Try.ntmps22
    go_wp2_with (go_at_call 30; refine (copy_any A c c B (l.take c) w (hrow.take hk) (by omega) (by omega)).mono ?_; rintro e w2 ⟨A2, c2, rfl, hown, hb2⟩; have HH2 := cover ((hb2.block g hlt).trans HH.out); obtain ⟨d0, d1, e0, e1⟩ := rd_cells HH2.out; have hrow2 := hrow.below (hb2.mono (by omega)))
    go_ret
    obtain ⟨r1, r2⟩ := rd_cut (c' := 0) HH2.out hrow2 hlc hk hle (A' := A) (by simp) (by omega)
    rw [show l.length - c = 0 by omega] at r2
    unfold OwnB at hown
    rw [HL.out] at hown
    have HX := (World.ownsRow.kept hown ((OnlyB.refl g w2).setCell 0 (.slice A 0 0)) (.inr (own_ne_rd ⟨⟨A, c, HH2.out, hlc, hrow2⟩, hle⟩ hown (by decide))))
    exact ⟨A2, c2, rfl, by unfold OwnB; rw [HL.out]; exact HX, r2, (OnlyB.of_below hb2).setCell _ _⟩
  · go_enter Try.func22, Try.ntmps22
    go_wp2_with (go_at_call 30; refine (copy_any A k c B (l.take k) w (hrow.take hk) (by omega) (by omega)).mono ?_; rintro e w2 ⟨A2, c2, rfl, hown, hb2⟩; have HH2 := cover ((hb2.block g hlt).trans HH.out); obtain ⟨d0, d1, e0, e1⟩ := rd_cells HH2.out; have hrow2 := hrow.below (hb2.mono (by omega)))
    go_ret
    obtain ⟨r1, r2⟩ := rd_cut (c' := c - k) HH2.out hrow2 hlc hk hle (A' := A.map (·.add k)) (by simp [hck]) rfl
    unfold OwnB at hown
    rw [HL.out] at hown
    have HX := (World.ownsRow.kept hown ((OnlyB.refl g w2).setCell 0 (.slice (A.map (·.add k)) (l.length - k) (c - k))) (.inr (own_ne_rd ⟨⟨A, c, HH2.out, hlc, hrow2⟩, hle⟩ hown (by decide))))
    exact ⟨A2, c2, rfl, by unfold OwnB; rw [HL.out]; exact HX, r2, (OnlyB.of_below hb2).setCell _ _⟩
end Go.Proofs.Ytfegneljedkmhaa
