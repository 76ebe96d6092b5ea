/- What the document's Put does, and how its lan is made. -/
import Derived.Test.YtjidhpmjdhjciaaFROld
import Derived.Test.YtjidhpmjdhjciaaFPut
namespace Go.Proofs.Ytjidhpmjdhjciaa
open Go.RowKit
set_option linter.unusedVariables false

/-- behind so many rounds of the document's Put -/
noncomputable def rputTo (s : LS) (f : Int) (b : List Int) (x : Int) : Nat → LS × Nat
  | 0 => (s, 0)
  | k + 1 => if ((k : Int) = f ∨ (0 ≤ x ∧ x < (s.n : Int) ∧ x ≠ (k : Int))) then rputTo s f b x k else (sendS (rputTo s f b x k).1 f k b, (rputTo s f b x k).2 + (sendB (rputTo s f b x k).1 f k).toNat)
theorem rputTo_skip {s : LS} {f : Int} {b : List Int} {x : Int} {k : Nat} (h : (k : Int) = f ∨ (0 ≤ x ∧ x < (s.n : Int) ∧ x ≠ (k : Int))) : rputTo s f b x (k + 1) = rputTo s f b x k := by simp only [rputTo]; rw [if_pos h]
theorem rputTo_send {s : LS} {f : Int} {b : List Int} {x : Int} {k : Nat} (h : ¬ ((k : Int) = f ∨ (0 ≤ x ∧ x < (s.n : Int) ∧ x ≠ (k : Int)))) : rputTo s f b x (k + 1) = (sendS (rputTo s f b x k).1 f k b, (rputTo s f b x k).2 + (sendB (rputTo s f b x k).1 f k).toNat) := by simp only [rputTo]; rw [if_neg h]
theorem rputTo_same (s : LS) (f : Int) (b : List Int) (x : Int) (k : Nat) : (rputTo s f b x k).1.n = s.n ∧ (rputTo s f b x k).1.m = s.m ∧ (rputTo s f b x k).1.life = s.life ∧ (rputTo s f b x k).1.now = s.now ∧ (rputTo s f b x k).1.lost ≤ s.lost + k ∧ (rputTo s f b x k).2 ≤ k := by
  induction k with
  | zero => exact ⟨rfl, rfl, rfl, rfl, Nat.le_refl _, Nat.le_refl _⟩
  | succ k ih =>
    obtain ⟨b1, b2, b3, b4, b5, b6⟩ := ih
    simp only [rputTo]
    split
    · exact ⟨b1, b2, b3, b4, by omega, by omega⟩
    · obtain ⟨a1, a2, a3, a4, a5⟩ := send_same (rputTo s f b x k).1 f k b
      have : (sendB (rputTo s f b x k).1 f k).toNat ≤ 1 := Bool.toNat_le _
      exact ⟨a1.trans b1, a2.trans b2, a3.trans b3, a4.trans b4, by show (sendS _ _ _ _).lost ≤ _; omega, by show _ + _ ≤ _; omega⟩
theorem putTo_self {s : LS} {f : Int} (b : List Int) (a m : Nat) (h : ∀ k, k < m → ¬ okP s.n f ((a + k : Nat) : Int)) : putTo s f b a m = (s, 0) := by
  induction m with
  | zero => rfl
  | succ m ih =>
    have h1 := ih (fun k hk => h k (by omega))
    have h2 := h m (by omega)
    simp only [putTo]
    rw [h1, sendB_no h2, sendS_no h2]; rfl
/-- it is what the program's Put leaves -/
theorem rput_eq {s : LS} {f : Int} {b : List Int} (h6 : 6 ≤ b.length) (hf : 0 ≤ f ∧ f < (s.n : Int)) (hx : numB b ≠ f) : putR s f b = rputTo s f b (numB b) s.n := by
  unfold putR
  rw [if_neg (by omega)]
  unfold putA
  by_cases hi : inB s.n (numB b) = true
  · rw [if_pos hi]
    have hi' := hi
    simp [inB] at hi'
    obtain ⟨a, ha⟩ : ∃ a : Nat, numB b = (a : Int) := ⟨(numB b).toNat, by omega⟩
    rw [ha] at hi' hx ⊢
    have h1 : ∀ k, k ≤ a → rputTo s f b a k = (s, 0) := fun k hk => by
      induction k with
      | zero => rfl
      | succ k ih => rw [rputTo_skip (.inr ⟨by omega, hi'.2, by omega⟩)]; exact ih (by omega)
    have h2 : ∀ k, a < k → k ≤ s.n → rputTo s f b a k = (sendS s f a b, (sendB s f a).toNat) := fun k hk hkn => by
      induction k with
      | zero => omega
      | succ k ih =>
        by_cases hka : k = a
        · subst hka
          rw [rputTo_send (fun h => h.elim hx (fun h => h.2.2 rfl)), h1 k (Nat.le_refl _)]; simp
        · rw [rputTo_skip (.inr ⟨by omega, hi'.2, by omega⟩)]; exact ih (by omega) (by omega)
    rw [h2 s.n (by omega) (Nat.le_refl _)]
    show putTo s f b (a : Int).toNat 1 = _
    simp [putTo]
  · rw [if_neg hi]
    have hi' : ¬ (0 ≤ numB b ∧ numB b < (s.n : Int)) := fun h => hi (by simp [inB]; exact h)
    have h1 : ∀ k, putTo s f b 0 k = rputTo s f b (numB b) k := fun k => by
      induction k with
      | zero => rfl
      | succ k ih =>
        have e : ((0 + k : Nat) : Int) = (k : Int) := by omega
        simp only [putTo]
        rw [ih, e]
        by_cases hk : (k : Int) = f
        · rw [rputTo_skip (.inl hk)]
          have hno : ¬ okP (rputTo s f b (numB b) k).1.n f k := fun h => h.2.2 hk.symm
          rw [sendB_no hno, sendS_no hno]; simp
        · rw [rputTo_send (fun h => h.elim hk (fun h => hi' ⟨h.1, h.2.1⟩))]
    exact h1 s.n
theorem rput_self {s : LS} {f : Int} {b : List Int} (h6 : 6 ≤ b.length) (hf : 0 ≤ f ∧ f < (s.n : Int)) (hx : numB b = f) : putR s f b = (s, 0) := by
  unfold putR
  rw [if_neg (by omega)]
  unfold putA
  have hi : inB s.n (numB b) = true := by simp [inB]; omega
  rw [if_pos hi]
  exact putTo_self b _ 1 (fun k hk h => h.2.2 (by omega))
theorem rput_out {s : LS} {f : Int} {b : List Int} (hf : ¬ (0 ≤ f ∧ f < (s.n : Int))) : putR s f b = (s, 0) := by
  unfold putR
  split
  · rfl
  · exact putTo_self b _ _ (fun k hk h => hf h.1)
/-- six cells, of which so many are filled -/
def fil (b0 b1 b2 b3 b4 b5 : Int) (i : Nat) : Array Value := #[.int .u8 (if 0 < i then b0 else 0), .int .u8 (if 1 < i then b1 else 0), .int .u8 (if 2 < i then b2 else 0), .int .u8 (if 3 < i then b3 else 0), .int .u8 (if 4 < i then b4 else 0), .int .u8 (if 5 < i then b5 else 0)]
theorem fil_step (b0 b1 b2 b3 b4 b5 : Int) {i : Nat} {y : Int} (hi : i < 6) (hy : [b0, b1, b2, b3, b4, b5][i]? = some y) : (fil b0 b1 b2 b3 b4 b5 i).setIfInBounds i (.int .u8 y) = fil b0 b1 b2 b3 b4 b5 (i + 1) ∧ (fil b0 b1 b2 b3 b4 b5 i)[i]? = some (.int .u8 0) := by
  rcases i with _ | _ | _ | _ | _ | _ | i <;> first | omega | (simp at hy; subst hy; exact ⟨rfl, rfl⟩)
set_option maxRecDepth 100000 in
set_option maxHeartbeats 3200000 in
theorem rput_any {S : Foot} {w : World} {r : Nat} {s : LS} (h : RIn S w r s) (f : Int) (A : Option Addr) (n c : Nat) (b : List Int) (HR : ∀ w' S', Moves S S' w w' → Row w' w'.heap.size A n b) (hmax : n ≤ 1000000) (hlost : s.lost ≤ 90000000) (hbt : Bts b) :
    Calls Try.prog 40 #[ptr r, .int .i64 f, .slice A n c] w fun e w' => e = .returned (.int .i64 (putR s f b).2) ∧ Hid (RNow S r (putR s f b).1 w w') := by
  have hr := HR w S (Moves.refl S w)
  have hl := hr.len
  have hc0 := h.cells.1
  by_cases h6 : n < 6
  · have h6i : (n : Int) < 6 := by omega
    have HE : Hid (putR s f b = (s, 0)) := cover (by unfold putR; rw [if_pos (by omega)])
    have HF : Hid (RNow S r (putR s f b).1 w w) := cover (by rw [HE.out]; exact RNow.same h)
    clear h hr HR hl h6
    go_enter Try.func40, Try.ntmps40
    go_wp2
    go_ret
    exact ⟨by rw [HE.out]; rfl, HF⟩
  have h6i : ¬ (n : Int) < 6 := by omega
  by_cases hf0 : f < 0
  · have HE : Hid (putR s f b = (s, 0)) := cover (rput_out (by omega))
    have HF : Hid (RNow S r (putR s f b).1 w w) := cover (by rw [HE.out]; exact RNow.same h)
    clear h hr HR hl h6
    go_enter Try.func40, Try.ntmps40
    go_wp2
    go_ret
    exact ⟨by rw [HE.out]; rfl, HF⟩
  by_cases hfn : (s.n : Int) ≤ f
  · have HE : Hid (putR s f b = (s, 0)) := cover (rput_out (by omega))
    have HF : Hid (RNow S r (putR s f b).1 w w) := cover (by rw [HE.out]; exact RNow.same h)
    clear h hr HR hl h6
    go_enter Try.func40, Try.ntmps40
    go_wp2
    go_ret
    exact ⟨by rw [HE.out]; rfl, HF⟩
  obtain ⟨b0, b1, b2, b3, b4, b5, rest, hbb⟩ : ∃ b0 b1 b2 b3 b4 b5 rest, b = b0 :: b1 :: b2 :: b3 :: b4 :: b5 :: rest := by
    match b, hl with
    | b0 :: b1 :: b2 :: b3 :: b4 :: b5 :: rest, _ => exact ⟨b0, b1, b2, b3, b4, b5, rest, rfl⟩
    | [], h | [_], h | [_, _], h | [_, _, _], h | [_, _, _, _], h | [_, _, _, _, _], h => simp at h; omega
  have hb5 := hbt b5 (by rw [hbb]; simp)
  have hnum := ref_number_any b0 b1 b2 b3 b4 b5 hb5.1 (by omega)
  have hnb : num6 [b0, b1, b2, b3, b4, b5] b5 = numB b := by rw [hbb]; rfl
  rw [hnb] at hnum
  have hsix : ∀ i y, i < 6 → b[i]? = some y → [b0, b1, b2, b3, b4, b5][i]? = some y := fun i y hi hy => by
    rw [hbb] at hy
    rcases i with _ | _ | _ | _ | _ | _ | i <;> first | omega | exact hy
  have h16 := h.n16
  have HX := cover (And.intro h (And.intro HR (And.intro hbt (And.intro hl hsix))))
  have HPS := cover (fun x k => rputTo_same s f b x k)
  have HPE : Hid ((numB b = f → putR s f b = (s, 0)) ∧ (numB b ≠ f → putR s f b = rputTo s f b (numB b) s.n)) := cover ⟨fun e => rput_self (by omega) ⟨by omega, by omega⟩ e, fun e => rput_eq (by omega) ⟨by omega, by omega⟩ e⟩
  obtain ⟨x, hx⟩ : ∃ x, x = numB b := ⟨_, rfl⟩
  rw [← hx] at hnum HPE
  obtain ⟨sn, hsn⟩ : ∃ sn, sn = s.n := ⟨_, rfl⟩
  have HSN := cover hsn
  rw [← hsn] at hc0 hfn h16 HPE
  have HSK : Hid (∀ k : Nat, ((k : Int) = f ∨ (0 ≤ x ∧ x < (sn : Int) ∧ x ≠ (k : Int))) → rputTo s f b x (k + 1) = rputTo s f b x k) := cover fun k hk => rputTo_skip (by rw [← hsn]; exact hk)
  have HSD : Hid (∀ k : Nat, ¬ ((k : Int) = f ∨ (0 ≤ x ∧ x < (sn : Int) ∧ x ≠ (k : Int))) → rputTo s f b x (k + 1) = (sendS (rputTo s f b x k).1 f k b, (rputTo s f b x k).2 + (sendB (rputTo s f b x k).1 f k).toNat)) := cover fun k hk => rputTo_send (by rw [← hsn]; exact hk)
  have HZ : Hid (∀ W, Below w.heap.size w W → RNow S r s w W) := cover fun W hb => RNow.below h hb
  clear h HR hbt hl hsix hnb hb5 hx hsn hr hbb
  have hn6 : (6 : Int) ≤ (n : Int) := by omega
  go_enter Try.func40, Try.ntmps40
  go_wp2_with fail
  obtain ⟨w1, hw1⟩ : ∃ w1, w1 = w.alloc (.cells (fil b0 b1 b2 b3 b4 b5 0) 58) := ⟨_, rfl⟩
  obtain ⟨bx, hbx⟩ : ∃ bx, bx = w.heap.size := ⟨_, rfl⟩
  have hx1 : w1.heap[bx]? = some (.cells (fil b0 b1 b2 b3 b4 b5 0) 58 (0, 0)) := by rw [hw1, hbx]; exact heap_alloc_new _ _
  have hb1 : Below w.heap.size w w1 := by rw [hw1]; exact (Below.refl _ _).alloc (Nat.le_refl _) _
  change Code.wp _ _ _ _ (w.alloc (.cells (fil b0 b1 b2 b3 b4 b5 0) 58))
  rw [← hw1, ← hbx]
  have HBX := cover hbx
  clear hw1 hbx
  go_loopw [8] (fun v wr => ∃ i : Nat, i ≤ 6 ∧ v = .int .i64 i ∧ Hid (Below w.heap.size w wr ∧ wr.heap[bx]? = some (.cells (fil b0 b1 b2 b3 b4 b5 i) 58 (0, 0)))) (fun v _ => 6 - (intOf v).toNat)
  case atStart => exact ⟨0, by omega, rfl, cover ⟨hb1, hx1⟩⟩
  case round =>
    clear hx1 hb1
    obtain ⟨i, hi, rfl, hrel⟩ := hrel
    by_cases hlt : i < 6
    · obtain ⟨hbel, hbox⟩ := hrel.out
      obtain ⟨ad, y, rfl, had, hcy, hy⟩ := (HX.out.2.1 wr S (Moves.of_below S hbel)).at_ (k := i) (by omega)
      obtain ⟨f1, f2⟩ := fil_step b0 b1 b2 b3 b4 b5 hlt (HX.out.2.2.2.2 i y hlt hy.out)
      have hcx : wr.cell? ⟨bx, i, none⟩ = some (.int .u8 0) := by rw [cell_of_row _ _ _ _ _ _ hbox]; exact f2
      have hfx : wr.frozen? ⟨bx, i, none⟩ = false := by simp [World.frozen?, hbox]
      have HN : Hid (Below w.heap.size w (wr.setCell ⟨bx, i, none⟩ (.int .u8 y)) ∧ (wr.setCell ⟨bx, i, none⟩ (.int .u8 y)).heap[bx]? = some (.cells (fil b0 b1 b2 b3 b4 b5 (i + 1)) 58 (0, 0))) := cover ⟨hbel.setCell (by rw [HBX.out]; exact Nat.le_refl _) _, by rw [set_block hbox, f1]⟩
      have hi0 : (0 : Int) ≤ (i : Int) := by omega
      have hi1 : (i : Int) < (n : Int) := by omega
      have hi2 : (i : Int) < 6 := by omega
      clear hrel hbel hbox f1 f2 hy had
      go_wp2
      go_roundw
      case rel => exact ⟨i + 1, by omega, by go_num, HN⟩
      case measure => simp [intOf]; omega
    · obtain rfl : i = 6 := by omega
      obtain ⟨hbel, hbox⟩ := hrel.out
      have d0 : wr.cell? ⟨bx, 0, none⟩ = some (.int .u8 b0) := by rw [cell_of_row _ _ _ _ _ _ hbox]; rfl
      have d1 : wr.cell? ⟨bx, 1, none⟩ = some (.int .u8 b1) := by rw [cell_of_row _ _ _ _ _ _ hbox]; rfl
      have d2 : wr.cell? ⟨bx, 2, none⟩ = some (.int .u8 b2) := by rw [cell_of_row _ _ _ _ _ _ hbox]; rfl
      have d3 : wr.cell? ⟨bx, 3, none⟩ = some (.int .u8 b3) := by rw [cell_of_row _ _ _ _ _ _ hbox]; rfl
      have d4 : wr.cell? ⟨bx, 4, none⟩ = some (.int .u8 b4) := by rw [cell_of_row _ _ _ _ _ _ hbox]; rfl
      have d5 : wr.cell? ⟨bx, 5, none⟩ = some (.int .u8 b5) := by rw [cell_of_row _ _ _ _ _ _ hbox]; rfl
      have hnum2 := hnum wr
      have HB := cover hbel
      clear hrel hbel hbox hnum
      go_wp2_with fail
      refine hnum2.mono ?_
      rintro e w3 ⟨rfl, hb3⟩
      have hb03 := HB.out.trans (hb3.mono HB.out.size)
      have H3 := cover (HZ.out w3 hb03)
      have HB3 := cover hb03
      clear hnum2 d0 d1 d2 d3 d4 d5 hb3 hb03
      by_cases hxf : x = f
      · have HF : Hid (RNow S r (putR s f b).1 w w3) := cover (by rw [HPE.out.1 hxf]; exact H3.out)
        have HE : Hid ((putR s f b).2 = 0) := cover (by rw [HPE.out.1 hxf])
        have e1 : (x == f) = true := by simpa using hxf
        clear hxf
        go_wp2
        go_ret
        exact ⟨by rw [HE.out]; rfl, HF⟩
      · have HF : Hid (putR s f b = rputTo s f b x sn) := cover (HPE.out.2 hxf)
        have e1 : (x == f) = false := by simpa using hxf
        clear hxf
        go_wp2_with fail
        go_loopw [10, 11] (fun u v wr => ∃ k : Nat, k ≤ sn ∧ u = .int .i64 (rputTo s f b x k).2 ∧ v = .int .i64 (k : Int) ∧ Hid (RNow S r (rputTo s f b x k).1 w wr)) (fun _ v _ => sn - (intOf v).toNat)
        case atStart => exact ⟨0, Nat.zero_le _, rfl, rfl, H3⟩
        case round =>
          clear H3
          obtain ⟨k, hk, rfl, rfl, hrel⟩ := hrel
          have hps := HPS.out x k
          obtain ⟨S1, hl1, hm1⟩ := hrel.out
          have k0 : wr.cell? ⟨r, 0, none⟩ = some (.int .i64 (sn : Int)) := by have := hl1.cells.1; rw [hps.1, ← HSN.out] at this; exact this
          have hsnd := hps.2.2.2.2.2
          have HSDK := cover (HSD.out k)
          have HSKK := cover (HSK.out k)
          have hS := rsend_any hl1 f (k : Int) A n c _ b (HX.out.2.1 _ _ hm1) (Nat.le_refl _) hmax (by omega)
          have M1 := cover hm1
          obtain ⟨g, hg⟩ : ∃ g, g = (rputTo s f b x k).2 := ⟨_, rfl⟩
          obtain ⟨s1, hs1⟩ : ∃ s1, s1 = (rputTo s f b x k).1 := ⟨_, rfl⟩
          rw [← hs1] at hS
          rw [← hg] at hsnd ⊢
          by_cases hlt : k < sn
          · have HG : Hid (g = (rputTo s f b x k).2 ∧ s1 = (rputTo s f b x k).1) := cover ⟨hg, hs1⟩
            have HL : Hid (RNow S r (rputTo s f b x k).1 w wr) := hrel
            obtain ⟨sb, hsb⟩ : ∃ sb, sb = sendB s1 f (k : Int) := ⟨_, rfl⟩
            rw [← hsb] at hS
            have HSB := cover hsb
            have hlti : (k : Int) < (sn : Int) := by omega
            clear hrel hl1 hm1 hps hs1 hg hsb
            by_cases ckf : (k : Int) = f
            · as_aux_lemma =>
                have HE : Hid (rputTo s f b x (k + 1) = rputTo s f b x k) := cover (HSKK.out (.inl ckf))
                have e2 : ((k : Int) != f) = false := by simpa using ckf
                clear ckf hS
                go_wp2
                go_roundw
                case rel => exact ⟨k + 1, by omega, by rw [HE.out, ← HG.out.1], by go_num, cover (by rw [HE.out]; exact HL.out)⟩
                case measure => simp [intOf]; omega
            · have e2 : ((k : Int) != f) = true := by simpa using ckf
              by_cases cx0 : x < 0
              · as_aux_lemma =>
                  have HE : Hid (rputTo s f b x (k + 1) = (sendS s1 f k b, g + sb.toNat)) := cover (by rw [HSDK.out (by omega), HSB.out, HG.out.1, HG.out.2])
                  clear ckf 
                  go_wp2_with fail
                  refine hS.mono ?_
                  rintro e w5 ⟨rfl, H5⟩
                  have HFN : Hid (RNow S r (rputTo s f b x (k + 1)).1 w w5) := cover (by
                    rw [HE.out]
                    obtain ⟨S5, k1, k2⟩ := H5.out
                    exact ⟨S5, k1, M1.out.trans k2⟩)
                  clear hS H5 k0
                  rcases sb with _ | _
                  · go_wp2
                    go_roundw
                    case rel => exact ⟨k + 1, by omega, by rw [HE.out]; rfl, by go_num, HFN⟩
                    case measure => simp [intOf]; omega
                  · go_wp2
                    go_roundw
                    case rel => exact ⟨k + 1, by omega, by rw [HE.out]; go_num, by go_num, HFN⟩
                    case measure => simp [intOf]; omega
              · by_cases cxn : (sn : Int) ≤ x
                · as_aux_lemma =>
                    have HE : Hid (rputTo s f b x (k + 1) = (sendS s1 f k b, g + sb.toNat)) := cover (by rw [HSDK.out (by omega), HSB.out, HG.out.1, HG.out.2])
                    clear ckf 
                    go_wp2_with fail
                    refine hS.mono ?_
                    rintro e w5 ⟨rfl, H5⟩
                    have HFN : Hid (RNow S r (rputTo s f b x (k + 1)).1 w w5) := cover (by
                      rw [HE.out]
                      obtain ⟨S5, k1, k2⟩ := H5.out
                      exact ⟨S5, k1, M1.out.trans k2⟩)
                    clear hS H5 k0
                    rcases sb with _ | _
                    · go_wp2
                      go_roundw
                      case rel => exact ⟨k + 1, by omega, by rw [HE.out]; rfl, by go_num, HFN⟩
                      case measure => simp [intOf]; omega
                    · go_wp2
                      go_roundw
                      case rel => exact ⟨k + 1, by omega, by rw [HE.out]; go_num, by go_num, HFN⟩
                      case measure => simp [intOf]; omega
                · by_cases cxk : x = (k : Int)
                  · as_aux_lemma =>
                      have e3 : (x == (k : Int)) = true := by simpa using cxk
                      have HE : Hid (rputTo s f b x (k + 1) = (sendS s1 f k b, g + sb.toNat)) := cover (by rw [HSDK.out (by omega), HSB.out, HG.out.1, HG.out.2])
                      clear ckf cxk
                      go_wp2_with fail
                      refine hS.mono ?_
                      rintro e w5 ⟨rfl, H5⟩
                      have HFN : Hid (RNow S r (rputTo s f b x (k + 1)).1 w w5) := cover (by
                        rw [HE.out]
                        obtain ⟨S5, k1, k2⟩ := H5.out
                        exact ⟨S5, k1, M1.out.trans k2⟩)
                      clear hS H5 k0
                      rcases sb with _ | _
                      · go_wp2
                        go_roundw
                        case rel => exact ⟨k + 1, by omega, by rw [HE.out]; rfl, by go_num, HFN⟩
                        case measure => simp [intOf]; omega
                      · go_wp2
                        go_roundw
                        case rel => exact ⟨k + 1, by omega, by rw [HE.out]; go_num, by go_num, HFN⟩
                        case measure => simp [intOf]; omega
                  · as_aux_lemma =>
                      have e3 : (x == (k : Int)) = false := by simpa using cxk
                      have HE : Hid (rputTo s f b x (k + 1) = rputTo s f b x k) := cover (HSKK.out (.inr ⟨by omega, by omega, by omega⟩))
                      clear ckf cxk hS
                      go_wp2
                      go_roundw
                      case rel => exact ⟨k + 1, by omega, by rw [HE.out, ← HG.out.1], by go_num, cover (by rw [HE.out]; exact HL.out)⟩
                      case measure => simp [intOf]; omega
          · obtain rfl : k = sn := by omega
            have HFF : Hid (RNow S r (putR s f b).1 w wr) := cover (by rw [HF.out]; exact hrel.out)
            have HGG : Hid ((putR s f b).2 = g) := cover (by rw [HF.out, hg])
            clear hl1 hm1 hrel hps hs1 hg hS M1
            go_wp2
            go_ret
            exact ⟨by rw [HGG.out]; rfl, HFF⟩
end Go.Proofs.Ytjidhpmjdhjciaa
