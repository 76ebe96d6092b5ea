/- What the document's Older does: a row at a time is sifted into a new one. What the document's Cut does. -/
import Derived.Deep.CutBlock
import Derived.Deep.DeepCutAuto
import Derived.Test.YtjidhpmjdhjciaaFRPass
import Derived.Test.YtjidhpmjdhjciaaFCut
namespace Go.Proofs.Ytjidhpmjdhjciaa
open Go.RowKit
set_option linter.unusedVariables false

/-- one older each; those that last -/
def agedU (life : Nat) (us : List UV) : List UV := (us.map fun u => ({ u with age := u.age + 1 } : UV)).filter fun u => decide (u.age ≤ (life : Int))
theorem agedU_tell {life : Nat} {us : List UV} {r : List (List Int × Nat)} (h : tell2 us = told r) : tell2 (agedU life us) = told (lasts life (older r)) := by
  induction r generalizing us with
  | nil =>
    have : us = [] := List.eq_nil_of_length_eq_zero (by simpa using tell2_len h)
    subst this; rfl
  | cons x r ih =>
    obtain ⟨u, us', rfl, e1, e2, h'⟩ := tell2_cons h
    have h1 := ih h'
    unfold agedU lasts older tell2 told at h1 ⊢
    simp only [List.map_cons, List.filter_cons]
    have e3 : decide (u.age + 1 ≤ (life : Int)) = decide (x.2 + 1 ≤ life) := by rw [e2]; congr 1; simp only [eq_iff_iff]; omega
    rw [e3]
    split
    · simp only [List.map_cons, e1, e2]; rw [h1]; simp
    · exact h1
theorem agedU_snoc (life : Nat) (us : List UV) (u : UV) : agedU life (us ++ [u]) = agedU life us ++ (if u.age + 1 ≤ (life : Int) then [({ u with age := u.age + 1 } : UV)] else []) := by
  unfold agedU
  rw [List.map_append, List.filter_append]
  congr 1
  simp only [List.map_cons, List.map_nil, List.filter_cons, List.filter_nil, decide_eq_true_eq]
theorem agedU_le (life : Nat) (us : List UV) : (agedU life us).length ≤ us.length := by
  unfold agedU; exact Nat.le_trans (List.length_filter_le _ _) (by simp)
theorem agedU_mem {life : Nat} {us : List UV} {z : UV} (h : z ∈ agedU life us) : ∃ u ∈ us, z.val = u.val ∧ z.l = u.l := by
  unfold agedU at h
  obtain ⟨u, hu, rfl⟩ := List.mem_map.1 (List.mem_filter.1 h).1
  exact ⟨u, hu, rfl, rfl⟩
/-- behind so many rounds over a row: what lasts lies in a new one -/
structure OldAt (wr : World) (us : List UV) (life i : Nat) (vo : Value) (wi : World) : Prop where
  bel : Below wr.heap.size wr wi
  row : wi.ownsRow 0 81 2 vo (agedU life (us.take i)).length (flat (agedU life (us.take i)))
  fr : ∀ g, vfoot vo g → wr.heap.size ≤ g
theorem OldAt.zero {wr : World} (us : List UV) (life : Nat) : OldAt wr us life 0 (.slice none 0 0) wr := ⟨Below.refl _ _, World.ownsRow_nil _ _ _ _, fun g hg => by simp [vfoot, Value.ownBlock] at hg⟩
/-- rows up to the k-th are sifted -/
def LS.siftR (s : LS) (k : Nat) : LS := { s with rows := fun j => if j < k then lasts s.life (older (s.rows j)) else s.rows j }
theorem LS.siftR_at (s : LS) (k : Nat) : (s.siftR k).rows k = s.rows k := by simp [LS.siftR]
theorem LS.siftR_zero (s : LS) : s.siftR 0 = s := by unfold LS.siftR; simp
theorem LS.siftR_step (s : LS) (k : Nat) : (s.siftR k).upd k (lasts s.life (older (s.rows k))) = s.siftR (k + 1) := by
  unfold LS.siftR LS.upd
  simp only [LS.mk.injEq, true_and]
  funext j
  by_cases h1 : j = k
  · subst h1; simp
  · by_cases h2 : j < k
    · simp [h1, h2, Nat.lt_succ_of_lt h2]
    · have : ¬ j < k + 1 := by omega
      simp [h1, h2, this]
theorem RIn.congr {S : Foot} {w : World} {r : Nat} {s s' : LS} (h : RIn S w r s) (e1 : s'.n = s.n) (e2 : s'.m = s.m) (e3 : s'.life = s.life) (e4 : s'.lost = s.lost) (e5 : ∀ k, k < s.n * s.n → s'.rows k = s.rows k) (hl : ∀ k, (s'.rows k).length ≤ s.m) : RIn S w r s' := by
  obtain ⟨g, c, cur, V, U, h1, h2, h3, h4, h5, h6⟩ := h.ex
  exact ⟨by rw [e1]; exact h.n1, by rw [e1]; exact h.n16, by rw [e2]; exact h.m64, by rw [e2]; exact hl, g, c, cur, V, U, by rw [e1, e2, e3, e4]; exact h1, h2, by rw [e1]; exact h3, fun k hk => by rw [e1] at hk; rw [e5 k hk]; exact h4 k hk, fun k j i hk hj => by rw [e1] at hk hj; exact h5 k j i hk hj, by rw [e1]; exact h6⟩
theorem goneTo_le' (s : LS) (m : Nat) (hm : ∀ k, (s.rows k).length ≤ m) (k : Nat) : goneTo s k ≤ m * k := by
  induction k with
  | zero => exact Nat.le_refl _
  | succ k ih => have := hm k; simp only [goneTo]; rw [Nat.mul_succ]; omega
set_option maxRecDepth 100000 in
set_option maxHeartbeats 3200000 in
theorem rolder_any {S : Foot} {w : World} {r : Nat} {s : LS} (h : RIn S w r s) (hage : ∀ k, ∀ x ∈ s.rows k, x.2 ≤ 1000000) (hlost : s.lost ≤ 100000000) :
    Calls Try.prog 45 #[ptr r] w fun e w' => e = .returned (.int .i64 (ageN s)) ∧ Hid (RNow S r (ageS s) w w') := by
  have h16 := h.n16
  have hnn : s.n * s.n ≤ 16 * 16 := Nat.mul_le_mul h16 h16
  have h64 := h.m64
  obtain ⟨nn, hnn2⟩ : ∃ nn, nn = s.n * s.n := ⟨_, rfl⟩
  obtain ⟨life, hlife⟩ : ∃ life, life = s.life := ⟨_, rfl⟩
  have HH := cover (And.intro h (And.intro hage (And.intro hnn2 (And.intro hlife h.len))))
  have HG := cover (goneTo_le' s s.m h.len)
  rw [← hnn2] at hnn
  clear h hage hnn2 hlife h16
  have H0 : Hid (RNow S r (s.siftR 0) w w) := cover (by rw [LS.siftR_zero]; exact RNow.same HH.out.1)
  go_enter Try.func45, Try.ntmps45
  go_wp2_with fail
  go_loopw [3, 4] (fun a b wr => ∃ k : Nat, k ≤ nn ∧ a = .int .i64 (goneTo s k) ∧ b = .int .i64 k ∧ Hid (RNow S r (s.siftR k) w wr)) (fun _ b _ => nn - (intOf b).toNat)
  case atStart => exact ⟨0, Nat.zero_le _, rfl, rfl, H0⟩
  case round =>
    clear H0
    obtain ⟨k, hk, rfl, rfl, hrel⟩ := hrel
    obtain ⟨wk, rfl⟩ : ∃ wk, wk = wr := ⟨_, rfl⟩
    obtain ⟨S1, hl1, hm1⟩ := hrel.out
    have hgk := HG.out k
    have hg2 : goneTo s k ≤ 100000 := Nat.le_trans hgk (Nat.le_trans (Nat.mul_le_mul h64 (Nat.le_trans hk hnn)) (by decide))
    by_cases hlt : k < nn
    · have hkk : k < (s.siftR k).n * (s.siftR k).n := by have := HH.out.2.2.1; show k < s.n * s.n; omega
      obtain ⟨g, c, v, us, h1, h2, h3, h4, h5, h6, h7, h8, h9, hclose⟩ := hl1.place hkk
      rw [LS.siftR_at] at h8
      have hclose' : Hid (∀ wi vo, OldAt wk us life us.length vo wi → RNow S r (s.siftR (k + 1)) w (wi.setCell ⟨g, k, none⟩ vo)) := cover fun wi vo ho => by
        have ho1 := ho.row
        rw [List.take_length] at ho1
        have hR : RRow wi vo (agedU life us) := ⟨ho1, fun z hz => by
          obtain ⟨u, hu, e1, e2⟩ := agedU_mem hz
          rw [e1, e2]
          exact uv_keep (h7.own u hu) fun i hi => ho.bel.block i (h7.lt (.inr ⟨u, hu, hi⟩))⟩
        have h10 := hclose wi vo (agedU life us) (lasts s.life (older (s.rows k))) hR (by rw [agedU_tell h8, HH.out.2.2.2.1]) (Nat.le_trans (lasts_le _ _) (by rw [older_length]; exact HH.out.2.2.2.2 k))
          ⟨ho.bel.os, ho.bel.tape, ho.bel.output, ho.bel.size, fun i hi _ => ho.bel.block i hi, fun i hi => .inr (ho.fr i hi)⟩ (fun i ⟨z, hz, hi⟩ => by
            obtain ⟨u, hu, e1, e2⟩ := agedU_mem hz
            rw [e1] at hi
            exact .inl ⟨u, hu, hi⟩)
        rw [LS.siftR_step] at h10
        obtain ⟨S3, k1, k2⟩ := h10
        exact ⟨S3, k1, hm1.trans k2⟩
      have hul := tell2_len h8
      obtain ⟨AV, cV, hv⟩ := h7.shape
      have hlife2 := hl1.cells.2.2.1
      have hll : us.length ≤ 64 := by rw [hul]; exact Nat.le_trans (HH.out.2.2.2.2 k) h64
      have HU : Hid (∀ i u, us[i]? = some u → ∃ hb, v = .slice (some ⟨hb, 0, none⟩) us.length cV ∧ hb < wk.heap.size ∧ wk.cell? ⟨hb, i * 2, none⟩ = some (.slice u.A u.l.length u.c) ∧ wk.cell? ⟨hb, i * 2 + 1, none⟩ = some (.int .i64 u.age) ∧ 0 ≤ u.age ∧ u.age ≤ 1000000) := cover fun i u hu => by
        have hne : us ≠ [] := fun e => by rw [e] at hu; cases hu
        obtain ⟨hb, c2, e1, _, _, hbl, hcell⟩ := h7.at_ hne
        rw [hv] at e1
        injection e1 with e1 e2 e3
        subst e1 e3
        obtain ⟨f1, f2⟩ := flat_get us i u hu
        have hx : (u.l, u.age) ∈ told (s.rows k) := by rw [← h8]; exact List.mem_map.2 ⟨u, List.mem_of_getElem? hu, rfl⟩
        obtain ⟨x, hx, he⟩ := List.mem_map.1 hx
        injection he with _ he
        have := HH.out.2.1 k x hx
        exact ⟨hb, hv, hbl, hcell _ _ f1, hcell _ _ f2, by omega, by omega⟩
      have HE : Hid (goneTo s (k + 1) = goneTo s k + (us.length - (agedU life us).length)) := cover (by
        simp only [goneTo]
        rw [hul, tell2_len (agedU_tell (life := life) h8), HH.out.2.2.2.1])
      have hki : (k : Int) < (nn : Int) := by omega
      have hk0 : (0 : Int) ≤ (k : Int) := by omega
      have hnr : (s.siftR k).n * (s.siftR k).n = nn := HH.out.2.2.1.symm
      rw [hnr] at h1
      have hf3 := h3 k
      have hlc : wk.cell? ⟨r, 2, none⟩ = some (.int .i64 (life : Int)) := by rw [HH.out.2.2.2.1]; exact hlife2
      obtain ⟨L, hL⟩ : ∃ L, L = us.length := ⟨_, rfl⟩
      rw [← hL] at hv hll HU
      have HLL := cover hL
      have HV := cover hv
      have HC : Hid (∀ W', Below wk.heap.size wk W' → W'.cell? ⟨r, 4, none⟩ = some (.slice (some ⟨g, 0, none⟩) nn c) ∧ W'.cell? ⟨g, k, none⟩ = some (.slice AV L cV) ∧ W'.frozen? ⟨g, k, none⟩ = false ∧ W'.cell? ⟨r, 2, none⟩ = some (.int .i64 (life : Int))) := cover fun W' hb => by
        exact ⟨(hb.cell (p := ⟨r, 4, none⟩) h5).trans h1, (hb.cell (p := ⟨g, k, none⟩) h6).trans (by rw [← hv]; exact h2), by have := hf3; unfold World.frozen? at this ⊢; rw [hb.block g h6]; exact this, (hb.cell (p := ⟨r, 2, none⟩) h5).trans hlc⟩
      obtain ⟨q1, q2, q3, q4⟩ := HC.out wk (Below.refl _ _)
      obtain ⟨go, hgo⟩ : ∃ go, go = goneTo s k := ⟨_, rfl⟩
      rw [← hgo] at hg2 HE ⊢
      clear h7 h8 h9 hclose hul hlife2 h1 h2 h3 hf3 hlc hv hL hnr hl1 hm1 hrel hgk hgo hkk
      go_wp2_with fail
      go_loopw [3, 5, 6] (fun a vo b wi => ∃ i : Nat, i ≤ L ∧ a = .int .i64 ((go + (i - (agedU life (us.take i)).length) : Nat) : Int) ∧ b = .int .i64 i ∧ Hid (OldAt wk us life i vo wi)) (fun _ _ b _ => L - (intOf b).toNat)
      case atStart => exact ⟨0, Nat.zero_le _, by simp [agedU], rfl, cover (OldAt.zero us life)⟩
      case round =>
        obtain ⟨i, hi, rfl, rfl, hat⟩ := hrel
        obtain ⟨p1, p2, p3, p4⟩ := HC.out wr hat.out.bel
        have hsz := hat.out.bel.size
        by_cases hil : i < L
        · obtain ⟨u, hu⟩ : ∃ u, us[i]? = some u := ⟨_, List.getElem?_eq_getElem (by rw [← HLL.out]; exact hil)⟩
          obtain ⟨hb, hv2, hbl, c0, c1, hu0, hu1⟩ := HU.out i u hu
          have e1 := HV.out.symm.trans hv2
          injection e1 with e1
          subst e1
          have d0 := (hat.out.bel.cell (p := ⟨hb, i * 2, none⟩) hbl).trans c0
          have d1 := (hat.out.bel.cell (p := ⟨hb, i * 2 + 1, none⟩) hbl).trans c1
          have hi0 : (0 : Int) ≤ (i : Int) := by omega
          have hi1 : (i : Int) < (L : Int) := by omega
          have HUU := cover (And.intro hu hv2)
          have htk : us.take (i + 1) = us.take i ++ [u] := by rw [List.take_add_one, hu]; rfl
          have hsn := agedU_snoc life (us.take i) u
          rw [← htk] at hsn
          obtain ⟨ll, hll2⟩ : ∃ ll, ll = (agedU life (us.take i)).length := ⟨_, rfl⟩
          have hlli : ll ≤ i := by rw [hll2]; exact Nat.le_trans (agedU_le _ _) (by rw [List.length_take]; omega)
          have HAT := hat
          rw [← hll2]
          have HLI := cover hll2
          clear hu hv2 c0 c1 q1 q2 q3 q4 hll2 htk
          go_wp2_with fail
          obtain ⟨w5, hw5⟩ : ∃ w5, w5 = wr.alloc (.cells #[.slice u.A u.l.length u.c, .int .i64 (u.age + 1)] 81) := ⟨_, rfl⟩
          obtain ⟨bx, hbx⟩ : ∃ bx, bx = wr.heap.size := ⟨_, rfl⟩
          have hx5 : w5.heap[bx]? = some (.cells #[.slice u.A u.l.length u.c, .int .i64 (u.age + 1)] 81 (0, 0)) := by rw [hw5, hbx]; exact heap_alloc_new _ _
          have hb5 : Below wk.heap.size wk w5 := by rw [hw5]; exact hat.out.bel.alloc hsz _
          have hb5r : Below wr.heap.size wr w5 := by rw [hw5]; exact (Below.refl _ _).alloc (Nat.le_refl _) _
          rw [← hw5, ← hbx]
          obtain ⟨r1, r2, r3, r4⟩ := HC.out w5 hb5
          have x0 : w5.cell? ⟨bx, 0, none⟩ = some (.slice u.A u.l.length u.c) := by rw [cell_of_row _ _ _ _ _ _ hx5]; rfl
          have x1 : w5.cell? ⟨bx, 1, none⟩ = some (.int .i64 (u.age + 1)) := by rw [cell_of_row _ _ _ _ _ _ hx5]; rfl
          have HO5 : Hid (w5.ownsRow 0 81 2 u5 (agedU life (us.take i)).length (flat (agedU life (us.take i)))) := cover (own_below hat.out.row hb5r)
          have HB5 := cover (And.intro hb5 (And.intro hx5 hb5.size))
          obtain ⟨ag, hag⟩ : ∃ ag, ag = u.age + 1 := ⟨_, rfl⟩
          have HAG := cover hag
          rw [← hag] at x1 hsn ⊢
          have hag0 : 0 ≤ ag ∧ ag ≤ 1000001 := by omega
          clear hw5 hbx hb5 hb5r hx5 d0 d1 p1 p2 p3 p4 hat hag hu0 hu1 r1 r2 r3 hsz
          by_cases hlast : ag ≤ (life : Int)
          · rw [if_pos hlast] at hsn
            have HSN := cover hsn
            clear hsn
            go_wp2_with fail
            go_quiet (fail)
            have hbd := below_drewN' w5 nq
            have x0' : (w5.drewN nq).cell? ⟨bx, 0, none⟩ = some (.slice u.A u.l.length u.c) := x0
            have x1' : (w5.drewN nq).cell? ⟨bx, 1, none⟩ = some (.int .i64 ag) := x1
            have HO6 : Hid ((w5.drewN nq).ownsRow 0 81 2 u5 (agedU life (us.take i)).length (flat (agedU life (us.take i)))) := cover (own_below HO5.out hbd)
            have HB6 := cover (HB5.out.1.trans (hbd.mono HB5.out.2.2))
            generalize w5.drewN nq = w6 at x0' x1' HO6 HB6 ⊢
            clear x0 x1 hbd r4
            obtain ⟨w7, hw7⟩ : ∃ w7, w7 = w6.alloc (.cells #[.slice u.A u.l.length u.c, .int .i64 ag] 81) := ⟨_, rfl⟩
            have hAP : Appends Try.prog 46 w7 u5 (.slice (some ⟨w6.heap.size, 0, none⟩) 1 1) (Longer w7 u5 (agedU life (us.take i) ++ [⟨u.A, u.c, u.l, ag⟩])) := by
              rw [hw7]
              refine append_r (own_below HO6.out ((Below.refl _ _).alloc (Nat.le_refl _) _)) ⟨w6.heap.size, 0, none⟩ 1 1 rfl (World.news_of_block (cs := #[.slice u.A u.l.length u.c, .int .i64 ag]) (heap_alloc_new w6 _)) (by rw [← HLI.out]; omega)
            have HB7 : Hid (Below wk.heap.size wk w7) := cover (by rw [hw7]; exact HB6.out.alloc HB6.out.size _)
            go_wp2_with (at_builtin; rw [← hw7]; refine appends_list rfl _ _ _ rfl _ _ rfl rfl hAP ?_; intro v8 w8 hL8)
            clear hAP hw7
            have HN : Hid (OldAt wk us life (i + 1) v8 w8) := cover (by
              obtain ⟨A8, c8, e8, hl8⟩ := hL8
              obtain ⟨k1, k2, k3⟩ := hl8.out
              have hfr := HAT.out.fr
              refine ⟨HB7.out.grown k2 HB7.out.size (fun i hi => hfr i hi), ?_, fun g hg => ?_⟩
              · rw [HSN.out]
                rw [HAG.out] at k1 ⊢
                exact k1
              · rcases k3 with k3 | k3
                · exact hfr g (by unfold vfoot at hg ⊢; rw [← k3]; exact hg)
                · have := HB7.out.size
                  unfold vfoot at hg; rw [k3] at hg; injection hg with hg; omega)
            clear hL8
            go_wp2
            go_roundw
            case rel => exact ⟨i + 1, by omega, by rw [HSN.out, List.length_append, ← HLI.out]; show _ = Value.int .i64 ((go + (i + 1 - (ll + 1)) : Nat) : Int); exact congrArg (Value.int .i64) (by omega), by go_num, HN⟩
            case measure => simp [intOf]; omega
          · rw [if_neg hlast, List.append_nil] at hsn
            have HSN := cover hsn
            clear hsn
            go_wp2_with fail
            go_quiet (fail)
            have HN : Hid (OldAt wk us life (i + 1) u5 (w5.drewN nq)) := cover (by
              refine ⟨HB5.out.1.trans ((below_drewN' w5 nq).mono HB5.out.2.2), ?_, HAT.out.fr⟩
              rw [HSN.out]; exact own_below HO5.out (below_drewN' w5 nq))
            generalize w5.drewN nq = w6 at HN ⊢
            clear x0 x1 r4
            go_wp2
            go_roundw
            case rel => exact ⟨i + 1, by omega, by rw [HSN.out, ← HLI.out]; go_num, by go_num, HN⟩
            case measure => simp [intOf]; omega
        · obtain rfl : i = L := by omega
          obtain ⟨AO, cO, hvo, _⟩ := own_shape hat.out.row
          subst hvo
          generalize hlo : (agedU life (us.take i)).length = lo at hat ⊢
          have HF : Hid (RNow S r (s.siftR (k + 1)) w (wr.setCell ⟨g, k, none⟩ (.slice AO lo cO))) := cover (hclose'.out wr _ (by rw [← HLL.out]; exact hat.out))
          have HE2 : Hid (go + (i - lo) = goneTo s (k + 1)) := cover (by rw [HE.out, ← hlo, ← HLL.out, HLL.out, List.take_length])
          rw [HE2.out]
          clear hlo
          clear hat q1 q2 q3 q4
          go_wp2
          go_roundw
          case rel => exact ⟨k + 1, by omega, rfl, by go_num, HF⟩
          case measure => simp [intOf]; omega
    · obtain rfl : k = nn := by omega
      have c0 := hl1.cells.2.2.2
      have f0 := hl1.thaw 3
      have c4 : ∃ g c, wk.cell? ⟨r, 4, none⟩ = some (.slice (some ⟨g, 0, none⟩) (k : Nat) c) := by
        obtain ⟨g, c, cur, V, U, h1, _⟩ := hl1.ex
        have e : (s.siftR k).n * (s.siftR k).n = k := HH.out.2.2.1.symm
        exact ⟨g, c, by rw [cell_of_row _ _ _ _ _ _ h1]; show some (Value.slice _ ((s.siftR k).n * (s.siftR k).n) c) = _; rw [e]⟩
      obtain ⟨g, c, c4⟩ := c4
      have HE : Hid (ageN s = goneTo s k) := cover (by unfold ageN; rw [← HH.out.2.2.1])
      have hls : (s.siftR k).lost = s.lost := rfl
      rw [hls] at c0
      have HF : Hid (RNow S r (ageS s) w (wk.setCell ⟨r, 3, none⟩ (.int .i64 ((s.lost : Int) + (goneTo s k : Int))))) := cover (by
        obtain ⟨S3, k1, k2⟩ := RNow.loss (⟨S1, hl1, hm1⟩ : RNow S r (s.siftR k) w wk) (goneTo s k)
        refine ⟨S3, k1.congr rfl rfl rfl (by show s.lost + ageN s = s.lost + goneTo s k; rw [HE.out]) (fun j hj => ?_) (fun j => ?_), k2⟩
        · have hj' : j < s.n * s.n := hj
          have hj2 : j < k := by rw [HH.out.2.2.1]; exact hj'
          show (if j < s.n * s.n then lasts s.life (older (s.rows j)) else older (s.rows j)) = (if j < k then lasts s.life (older (s.rows j)) else s.rows j)
          rw [if_pos hj', if_pos hj2]
        · show (if j < s.n * s.n then lasts s.life (older (s.rows j)) else older (s.rows j)).length ≤ s.m
          have := HH.out.2.2.2.2 j
          split
          · exact Nat.le_trans (lasts_le _ _) (by rw [older_length]; exact this)
          · rw [older_length]; exact this)
      obtain ⟨go, hgo⟩ : ∃ go, go = goneTo s k := ⟨_, rfl⟩
      rw [← hgo] at hg2 HE HF ⊢
      clear hl1 hm1 hrel hgk hgo
      go_wp2
      go_ret
      exact ⟨by rw [HE.out]; rfl, HF⟩
end Go.Proofs.Ytjidhpmjdhjciaa

namespace Go.Proofs.Ytjidhpmjdhjciaa
open Go.RowKit
set_option linter.unusedVariables false

theorem cutR_ok {s : LS} {f t : Int} (ho : okP s.n f t) : cutR s f t = s.upd (keyP s.n f t) [] := by
  unfold cutR
  rcases hr : theRow s f t with _ | ⟨x, r⟩
  · rw [theRow_ok ho] at hr
    simp only []
    unfold LS.upd
    cases s with
    | mk a b c d e rows =>
      simp only [LS.mk.injEq, true_and]
      funext j; by_cases hj : j = keyP a f t
      · rw [if_pos hj, hj]; exact hr
      · rw [if_neg hj]
  · rfl
theorem cutR_no {s : LS} {f t : Int} (ho : ¬ okP s.n f t) : cutR s f t = s := by unfold cutR; rw [theRow_no ho]
/-- the two rows that a round empties -/
def two (st : Int) (i : Nat) (q : Nat) : Int × Int := if q = 0 then (st, (i : Int)) else ((i : Int), st)
noncomputable def inS (s : LS) (st : Int) (i : Nat) : Nat → LS
  | 0 => s
  | q + 1 => cutR (inS s st i q) (two st i q).1 (two st i q).2
noncomputable def inN (s : LS) (st : Int) (i : Nat) : Nat → Nat
  | 0 => 0
  | q + 1 => inN s st i q + (theRow (inS s st i q) (two st i q).1 (two st i q).2).length
theorem inS_n (s : LS) (st : Int) (i q : Nat) : (inS s st i q).n = s.n := by
  induction q with
  | zero => rfl
  | succ q ih => exact (cutR_same _ _ _).1.trans ih
set_option maxRecDepth 100000 in
set_option maxHeartbeats 3200000 in
theorem rcut_any {S : Foot} {w : World} {r : Nat} {s : LS} (h : RIn S w r s) (st : Int) (hlost : s.lost ≤ 100000000) :
    Calls Try.prog 46 #[ptr r, .int .i64 st] w fun e w' => e = .returned (.int .i64 (cutN s st)) ∧ Hid (RNow S r (cutS s st) w w') := by
  have h16 := h.n16
  obtain ⟨n, hn⟩ : ∃ n, n = s.n := ⟨_, rfl⟩
  rw [← hn] at h16
  have HN := cover hn
  have HST : Hid (RNow S r (cutTo s st 0).1 w w) := cover (RNow.same h)
  have c0 := h.cells.1
  rw [← hn] at c0
  clear h hn
  go_enter Try.func46, Try.ntmps46
  go_wp2_with fail
  go_loopw [5, 6] (fun a b wr => ∃ i : Nat, i ≤ n ∧ a = .int .i64 (cutTo s st i).2 ∧ b = .int .i64 i ∧ (cutTo s st i).2 ≤ 128 * i ∧ Hid (RNow S r (cutTo s st i).1 w wr)) (fun _ b _ => n - (intOf b).toNat)
  case atStart => exact ⟨0, Nat.zero_le _, rfl, rfl, Nat.le_refl _, HST⟩
  case round =>
    clear HST c0
    obtain ⟨i, hi, rfl, rfl, hg, hrel⟩ := hrel
    obtain ⟨wk, rfl⟩ : ∃ wk, wk = wr := ⟨_, rfl⟩
    obtain ⟨S1, hl1, hm1⟩ := hrel.out
    obtain ⟨g0, hg0⟩ : ∃ g0, g0 = (cutTo s st i).2 := ⟨_, rfl⟩
    obtain ⟨s1, hs1⟩ : ∃ s1, s1 = (cutTo s st i).1 := ⟨_, rfl⟩
    rw [← hs1] at hl1
    rw [← hg0] at hg ⊢
    have hsn : s1.n = n := by rw [hs1, HN.out]; exact (cutTo_same s st i).1
    have c0 := hl1.cells.1
    rw [hsn] at c0
    by_cases hlt : i < n
    · have HE : Hid ((cutTo s st (i + 1)).1 = inS s1 st i 2 ∧ (cutTo s st (i + 1)).2 = g0 + inN s1 st i 2) := cover ⟨by rw [hs1]; rfl, by rw [hs1, hg0]; show _ = _ + (0 + _ + _); rw [Nat.zero_add]; rfl⟩
      have hA1 := at_any (w := wk) (r := r) (n := n) c0 h16 st i
      have hA2 := at_any (w := wk) (r := r) (n := n) c0 h16 i st
      have HM := cover hm1
      have HL := cover hl1
      clear hrel hl1 hm1 hs1 hg0
      go_wp2_with fail
      refine hA1.mono ?_
      rintro e w' ⟨rfl, rfl⟩
      clear hA1
      go_wp2_with fail
      refine hA2.mono ?_
      rintro e w' ⟨rfl, rfl⟩
      clear hA2
      go_wp2_with fail
      obtain ⟨w2, hw2⟩ : ∃ w2, w2 = wk.alloc (.cells #[.int .i64 (atI n st i), .int .i64 (atI n i st)] 3) := ⟨_, rfl⟩
      obtain ⟨ba, hba⟩ : ∃ ba, ba = wk.heap.size := ⟨_, rfl⟩
      have hx2 : w2.heap[ba]? = some (.cells #[.int .i64 (atI n st i), .int .i64 (atI n i st)] 3 (0, 0)) := by rw [hw2, hba]; exact heap_alloc_new _ _
      have hb2 : Below wk.heap.size wk w2 := by rw [hw2]; exact (Below.refl _ _).alloc (Nat.le_refl _) _
      have HL2 : Hid (RIn S1 w2 r s1) := cover (HL.out.below hb2)
      have HM2 : Hid (Moves S S1 w w2) := cover (HM.out.then_below hb2)
      have HX2 : Hid (∀ W S2, Moves S1 S2 w2 W → W.heap[ba]? = some (.cells #[.int .i64 (atI n st i), .int .i64 (atI n i st)] 3 (0, 0)) ∧ ¬ S2 ba) := cover fun W S2 hm => by
        have hn1 : ¬ S1 ba := fun hs => by have := HL.out.lt ba hs; omega
        refine ⟨hm.at_ hx2 hn1, fun hs => ?_⟩
        rcases hm.own ba hs with h9 | h9
        · exact hn1 h9
        · have := block_lt hx2; omega
      have HIL : Hid (∀ q, (inS s1 st i q).n = n) := cover fun q => (inS_n s1 st i q).trans hsn
      rw [← hw2, ← hba]
      clear hw2 hba hx2 hb2 HM HL c0 hsn
      go_loopw [5, 8] (fun a b wi => ∃ q : Nat, q ≤ 2 ∧ a = .int .i64 ((g0 + inN s1 st i q : Nat) : Int) ∧ b = .int .i64 q ∧ inN s1 st i q ≤ 64 * q ∧ Hid (RNow S1 r (inS s1 st i q) w2 wi)) (fun _ b _ => 2 - (intOf b).toNat)
      case atStart => exact ⟨0, by omega, rfl, rfl, Nat.le_refl _, cover (RNow.same HL2.out)⟩
      case round =>
        obtain ⟨q, hq, rfl, rfl, hnq, hrel⟩ := hrel
        obtain ⟨wi, rfl⟩ : ∃ wi, wi = wr := ⟨_, rfl⟩
        by_cases hq2 : q < 2
        · obtain ⟨S2, hl2, hm2⟩ := hrel.out
          obtain ⟨hxi, hnb⟩ := HX2.out wi S2 hm2
          have hcb : wi.cell? ⟨ba, q, none⟩ = some (.int .i64 (atI n (two st i q).1 (two st i q).2)) := by
            rw [cell_of_row _ _ _ _ _ _ hxi]
            rcases q with _ | _ | q
            · rfl
            · rfl
            · omega
          have hn2 := HIL.out q
          have hq0 : (0 : Int) ≤ (q : Int) := by omega
          have hq1 : (q : Int) < 2 := by omega
          have HE1 : Hid (inN s1 st i (q + 1) = inN s1 st i q + (theRow (inS s1 st i q) (two st i q).1 (two st i q).2).length) := cover rfl
          have HE2 : Hid (inS s1 st i (q + 1) = cutR (inS s1 st i q) (two st i q).1 (two st i q).2) := cover rfl
          obtain ⟨x, hx⟩ : ∃ x, x = inN s1 st i q := ⟨_, rfl⟩
          rw [← hx] at hnq HE1 ⊢
          obtain ⟨s2, hs2⟩ : ∃ s2, s2 = inS s1 st i q := ⟨_, rfl⟩
          rw [← hs2] at hl2 hn2 HE1 HE2
          obtain ⟨f, hf⟩ : ∃ f, f = (two st i q).1 := ⟨_, rfl⟩
          obtain ⟨t, ht⟩ : ∃ t, t = (two st i q).2 := ⟨_, rfl⟩
          rw [← hf, ← ht] at hcb HE1 HE2
          clear hx hs2 hf ht hrel
          by_cases ho : okP s2.n f t
          · have hk := keyP_lt ho
            obtain ⟨g, c, v, us, h1, h2, h3, h4, h5, h6, h7, h8, h9, hclose⟩ := hl2.place hk
            have hcb2 : wi.cell? ⟨ba, q, none⟩ = some (.int .i64 (keyP s2.n f t : Int)) := by rw [hcb, ← hn2, atI_ok ho]
            have hul := tell2_len h8
            have hll : us.length ≤ 64 := by rw [hul]; exact Nat.le_trans (hl2.len _) hl2.m64
            obtain ⟨AV, cV, hv⟩ := h7.shape
            have HC : Hid (RNow S1 r (inS s1 st i (q + 1)) w2 (wi.setCell ⟨g, keyP s2.n f t, none⟩ (.slice none 0 0))) := cover (by
              rw [HE2.out, cutR_ok ho]
              have hm3 : Moves (vfoot v) (vfoot (.slice none 0 0)) wi wi := (Moves.refl _ _).less (fun k hk => by simp [vfoot, Value.ownBlock] at hk)
              obtain ⟨S3, k1, k2⟩ := hclose wi (.slice none 0 0) [] [] (RRow.nil wi) rfl (Nat.zero_le _) hm3 (fun i ⟨u, hu, _⟩ => by cases hu)
              exact ⟨S3, k1, hm2.trans k2⟩)
            have HE3 : Hid (inN s1 st i (q + 1) = x + us.length) := cover (by rw [HE1.out, theRow_ok ho, hul])
            have hki : (keyP s2.n f t : Int) < ((s2.n * s2.n : Nat) : Int) := by omega
            have hk0 : (0 : Int) ≤ (keyP s2.n f t : Int) := by omega
            have hg3 := h3 (keyP s2.n f t)
            have hne : g ≠ ba ∧ r ≠ ba := by
              refine ⟨fun e => ?_, fun e => ?_⟩
              · subst e
                rw [cell_of_row _ _ _ _ _ _ hxi, hv] at h2
                generalize keyP s2.n f t = k at h2
                rcases k with _ | _ | k <;> simp at h2
              · subst e; exact hnb hl2.r_in
            generalize keyP s2.n f t = k at *
            generalize s2.n * s2.n = nn at *
            obtain ⟨L, hL⟩ : ∃ L, L = us.length := ⟨_, rfl⟩
            rw [← hL] at hv hll HE3
            subst hv
            clear h7 h8 h9 hclose hul hL hl2 hm2 hcb ho h3 hxi hnb
            obtain ⟨gx, hgx⟩ : ∃ gx, gx = g0 + x := ⟨_, rfl⟩
            have hgx2 : gx ≤ 10000 := by omega
            have HGX := cover hgx
            rw [← hgx]
            clear hgx
            go_wp2_with fail
            go_quiet (fail)
            have k1 : (wi.drewN nq).cell? ⟨r, 4, none⟩ = some (.slice (some ⟨g, 0, none⟩) nn c) := h1
            have k2 : (wi.drewN nq).cell? ⟨g, k, none⟩ = some (.slice AV L cV) := h2
            have k3 : (wi.drewN nq).cell? ⟨ba, q, none⟩ = some (.int .i64 (k : Int)) := hcb2
            have k4 : (wi.drewN nq).frozen? ⟨g, k, none⟩ = false := hg3
            have HC5 : Hid (RNow S1 r (inS s1 st i (q + 1)) w2 (((wi.drewN nq).setCell ⟨g, k, none⟩ (.slice none 0 0)).drew)) := cover (HC.out.then_below ⟨rfl, rfl, rfl, Nat.le_refl _, fun i hi => rfl⟩)
            generalize wi.drewN nq = w5 at k1 k2 k3 k4 HC5 ⊢
            clear h1 h2 hcb2 hg3
            go_wp2_with fail
            go_region
            generalize (w5.setCell ⟨g, k, none⟩ (.slice none 0 0)).drew = w6 at HC5 ⊢
            clear k1 k2 k3 k4
            go_wp2
            go_roundw
            case rel => exact ⟨q + 1, by omega, by rw [HE3.out]; exact congrArg (Value.int .i64) (by have := HGX.out; omega), by go_num, by rw [HE3.out]; omega, HC5⟩
            case measure => simp [intOf]; omega
          · have hcb2 : wi.cell? ⟨ba, q, none⟩ = some (.int .i64 (-1)) := by rw [hcb, ← hn2, atI_no ho]
            have HC : Hid (RNow S1 r (inS s1 st i (q + 1)) w2 wi) := cover (by rw [HE2.out, cutR_no ho]; exact ⟨S2, hl2, hm2⟩)
            have HE3 : Hid (inN s1 st i (q + 1) = x) := cover (by rw [HE1.out, theRow_no ho]; rfl)
            obtain ⟨gx, hgx⟩ : ∃ gx, gx = g0 + x := ⟨_, rfl⟩
            have HGX := cover hgx
            rw [← hgx]
            clear hgx hl2 hm2 hcb ho hxi hnb
            go_wp2
            go_roundw
            case rel => exact ⟨q + 1, by omega, by rw [HE3.out, ← HGX.out], by go_num, by rw [HE3.out]; omega, HC⟩
            case measure => simp [intOf]; omega
        · obtain rfl : q = 2 := by omega
          have HF : Hid (RNow S r (cutTo s st (i + 1)).1 w wi) := cover (by
            rw [HE.out.1]
            obtain ⟨S3, k1, k2⟩ := hrel.out
            exact ⟨S3, k1, HM2.out.trans k2⟩)
          have HE3 := HE.out.2
          obtain ⟨gx, hgx⟩ : ∃ gx, gx = g0 + inN s1 st i 2 := ⟨_, rfl⟩
          rw [← hgx] at HE3 ⊢
          have hgx2 : gx ≤ 128 * (i + 1) := by omega
          have HE4 := cover HE3
          clear hgx HE3 hrel hnq
          go_wp2
          go_roundw
          case rel => exact ⟨i + 1, by omega, by rw [HE4.out], by go_num, by rw [HE4.out]; omega, HF⟩
          case measure => simp [intOf]; omega
    · obtain rfl : i = n := by omega
      have c3 := hl1.cells.2.2.2
      have f3 := hl1.thaw 3
      have hls : s1.lost = s.lost := by rw [hs1]; exact (cutTo_same s st i).2.2.2.2
      rw [hls] at c3
      have HE : Hid (cutN s st = g0) := cover (by unfold cutN; rw [← HN.out, hg0])
      have HF : Hid (RNow S r (cutS s st) w (wk.setCell ⟨r, 3, none⟩ (.int .i64 ((s.lost : Int) + (g0 : Int))))) := cover (by
        have h9 := RNow.loss (⟨S1, hl1, hm1⟩ : RNow S r s1 w wk) g0
        rw [hls] at h9
        have e : cutS s st = s1.loss g0 := by unfold cutS; rw [HE.out, ← HN.out, ← hs1]
        rw [e]; exact h9)
      clear hl1 hm1 hrel hs1 hg0
      go_wp2
      go_ret
      exact ⟨by rw [HE.out]; rfl, HF⟩
end Go.Proofs.Ytjidhpmjdhjciaa
