/- The walk of TiesPlays. -/
import Derived.BigQuiet
import Derived.Deep.CutBlock
import Derived.Deep.DeepCutAuto
import Derived.Deep.QuietTactic
import Derived.Deep.RegionHeld3
import Derived.Test.YtjkgiepfglimcaaEHold
import Derived.Test.YtjkgiepfglimcaaERef
import Derived.Test.YtjkgiepfglimcaaEPlay
import Derived.Test.YtjkgiepfglimcaaEAwake
namespace Go.Proofs.Ytjkgiepfglimcaa
open Go.RowKit
set_option linter.unusedVariables false
attribute [local go_sem ↓] eqK_at

/-- at the head of a round -/
def PlAt (B : Nat) (w : World) (t b m n : Nat) (A : Option Addr) (c : Nat) (wr : World) : Prop := ∃ l, PlE B w t b m n A c l l wr
set_option maxRecDepth 100000 in
set_option maxHeartbeats 16000000 in
theorem plays_walk (most : Int) (A0 : Option Addr) (len cap : Nat) (ds : List DT) (w : World) (hm1 : most ≤ 1000) (hlen : len ≤ 150) (hd : DeedsT w w.heap.size A0 len ds ∧ ∀ q ∈ ds, DtOk q) :
    Calls Try.prog 4 #[.int .i64 most, .slice A0 len cap] w fun e w' => e = .returned (.bool true) ∧ Below w.heap.size w w' := by
  have HDS := cover hd.1
  have HQ := cover hd.2
  obtain ⟨B, hB⟩ : ∃ B, w.heap.size = B := ⟨_, rfl⟩
  rw [hB]
  have hBw : B ≤ w.heap.size := by omega
  have HBE := cover hB
  clear hB hd
  obtain ⟨m, hm⟩ : ∃ m : Nat, m = most.toNat := ⟨_, rfl⟩
  have hm1' : ¬ most > 1000 := by omega
  have hl1' : ¬ (len : Int) > 150 := by omega
  go_enter Try.func4, Try.ntmps4
  go_wp2_with fail
  refine (awake_any w).mono ?_
  rintro e w0 ⟨rfl, hb0⟩
  have HB0 : Hid (Below B w w0) := cover (hb0.mono hBw)
  have hs0 : B ≤ w0.heap.size := Nat.le_trans hBw hb0.size
  clear hb0
  go_wp2_with fail
  refine (newI_has most hm1 hs0).mono ?_
  rintro e w1 ⟨t, b, rfl, H1'⟩
  have H1 : Hid (PlAt B w t b m 0 none 0 w1) := cover ⟨[], by rw [hm]; exact H1'.out.1, HB0.out.trans (H1'.out.2.1.mono hs0), World.ownsRow_nil _ _ _ _, rfl, (fun g hg => by cases hg), List.Pairwise.nil⟩
  have hmost : (most < 0 ∧ m = 0) ∨ (0 ≤ most ∧ most = (m : Int)) := by omega
  have HMM : Hid (m ≤ 1000) := cover (by omega)
  clear H1' HB0 hs0 hm
  go_wp2_with fail
  go_loopw [6, 7] (fun v iv wr => ∃ (A : Option Addr) (n c j : Nat), v = .slice A n c ∧ iv = .int .i64 j ∧ j ≤ len ∧ Hid (PlAt B w t b m n A c wr)) (fun _ iv _ => len - (intOf iv).toNat)
  case atStart => exact ⟨none, 0, 0, 0, rfl, rfl, Nat.zero_le _, H1⟩
  case round =>
    obtain ⟨A, n, c, j, rfl, rfl, hj, hrel⟩ := hrel
    by_cases hlt : j < len
    · obtain ⟨l, hpl⟩ := hrel.out
      obtain ⟨q, hq⟩ : ∃ q, ds[j]? = some q := ⟨_, List.getElem?_eq_getElem (by rw [HDS.out.len]; exact hlt)⟩
      obtain ⟨ad, rfl, had, hqa⟩ := HDS.out.at_ j q hq
      have hqo := HQ.out q (List.mem_of_getElem? hq)
      have hblk : (ad.add (j * 10)).block < B := by rw [addr_add_block, ← HBE.out]; exact had
      obtain ⟨c0, c1, c2, c3, c4, c5, c6, c7, c8, c9⟩ := hqa.below hblk hpl.bel
      obtain ⟨y, hy⟩ : ∃ y, y = wr.heap.size := ⟨_, rfl⟩
      obtain ⟨w3, hw3⟩ : ∃ w3, w3 = wr.alloc (deedO q) := ⟨_, rfl⟩
      have hb3 : Below wr.heap.size wr w3 := by rw [hw3]; exact (Below.refl _ _).alloc (Nat.le_refl _) _
      have hn3 : w3.heap[y]? = some (deedO q) := by rw [hw3, hy]; exact heap_alloc_new wr _
      have HP3 : Hid (PlE B w t b m n A c l l w3) := cover (hpl.below hb3)
      have HY : Hid (w3.heap[y]? = some (deedO q) ∧ t < y ∧ b < y ∧ ∀ g, (Value.slice A n c).ownBlock = some g → g < y) := cover ⟨hn3, by rw [hy]; exact hpl.tab.lt.1, by rw [hy]; exact hpl.tab.lt.2, fun g hg => by rw [hy]; exact (hpl.row.lt g hg).2⟩
      have HQO := cover hqo
      have hnc : n ≤ c := by
        rcases hpl.row.2 with ⟨hv, hl⟩ | ⟨g, cp, cur, hv, _, _, r1, _⟩
        · injection hv with e1 e2 e3; omega
        · injection hv with e1 e2 e3; have := hpl.len; subst e3; omega
      have hn1000 : n ≤ 1000 := by have := hpl.tab.most; have := hpl.len; have := HMM.out; omega
      obtain ⟨qd, qx, k⟩ := q
      simp only [] at c0 c1 c2 c3 c4 c5 c6 c7 c8 c9
      go_upto_region 13 with fail
      rw [← hy, ← hw3]
      clear c0 c1 c2 c3 c4 c5 c6 c7 c8 c9 hqa hblk hqo hq had hy hw3 hb3 hn3 hpl hrel
      go_wp2_with fail
      go_loopw [9, 10, 11] (fun va vb vj wx => ∃ i : Nat, i ≤ n ∧ va = .int .i64 (atV l k i) ∧ vb = .int .i64 (min (placeT ltE l k) i : Nat) ∧ vj = .int .i64 i ∧ Hid (Below w3.heap.size w3 wx)) (fun _ _ vj _ => n - (intOf vj).toNat)
      case atStart => exact ⟨0, Nat.zero_le _, by rw [atV_zero], by simp, rfl, cover (Below.refl _ _)⟩
      case round =>
        obtain ⟨i, hi, rfl, rfl, rfl, hrel⟩ := hrel
        by_cases hlt2 : i < n
        · obtain ⟨⟨x1, x2⟩, hx⟩ : ∃ x, l[i]? = some x := ⟨_, List.getElem?_eq_getElem (by rw [HP3.out.len]; exact hlt2)⟩
          obtain ⟨g, rfl, hgl, q0⟩ := HP3.out.rows i _ hx
          have HAT : Hid (atV l k (i + 1) = if sameE x1 k = true then (i : Int) else atV l k i) := cover (atV_step HP3.out.rise hx)
          have HBT : Hid (min (placeT ltE l k) (i + 1) = if ltE x1 k = true then i + 1 else min (placeT ltE l k) i) := cover (bef_step HP3.out.rise hx)
          have HSK : Hid (∀ W', Below w3.heap.size w3 W' → (W'.cell? ⟨g, i * 9, none⟩ = some (.int .u8 x1.a0) ∧ W'.cell? ⟨g, i * 9 + 1, none⟩ = some (.int .u8 x1.a1) ∧ W'.cell? ⟨g, i * 9 + 2, none⟩ = some (.int .u8 x1.a2) ∧ W'.cell? ⟨g, i * 9 + 3, none⟩ = some (.int .u8 x1.a3) ∧ W'.cell? ⟨g, i * 9 + 4, none⟩ = some (.int .u8 x1.a4) ∧ W'.cell? ⟨g, i * 9 + 5, none⟩ = some (.int .u8 x1.a5) ∧ W'.cell? ⟨g, i * 9 + 6, none⟩ = some (.int .i64 x1.near) ∧ W'.cell? ⟨g, i * 9 + 7, none⟩ = some (.int .i64 x1.there_)) ∧ DKey W' y k ∧ Below w3.heap.size w3 W') := cover fun W' hb => by
            obtain ⟨r0, r1, r2, r3, r4, r5, r6, r7, _⟩ := q0.keep (hb.block g hgl)
            exact ⟨⟨r0, r1, r2, r3, r4, r5, r6, r7⟩, deed_key ((hb.block y (block_lt HY.out.1)).trans HY.out.1), hb⟩
          have HLT : Hid (∀ sl, ltE x1 k = sl → ∀ W', Below w3.heap.size w3 W' → Calls Try.prog 16 #[keyV x1, keyV k] W' fun e w' => e = .returned (.bool sl) ∧ Below w3.heap.size w3 w') := cover fun sl hsl W' h => (rless_any x1 k W').mono fun e w' ⟨he, hw⟩ => ⟨by rw [he, hsl], h.trans (hw.mono h.size)⟩
          obtain ⟨av, hav⟩ : ∃ av, av = atV l k i := ⟨_, rfl⟩
          obtain ⟨bv, hbv⟩ : ∃ bv, bv = min (placeT ltE l k) i := ⟨_, rfl⟩
          rw [← hav] at HAT ⊢
          rw [← hbv] at HBT ⊢
          clear hav hbv hx hgl q0
          obtain ⟨⟨r0, r1, r2, r3, r4, r5, r6, r7⟩, ⟨k0, k1, k2, k3, k4, k5, k6, k7⟩, -⟩ := HSK.out _ hrel.out
          have hic : i ≤ c := by omega
          cases hse : sameE x1 k <;> cases hsl : ltE x1 k
          all_goals
            as_aux_lemma =>
              have CR := cover (HLT.out _ hsl)
              have HA2 : Hid (atV l k (i + 1) = if sameE x1 k = true then (i : Int) else av) := HAT
              rw [hse] at HA2
              have HB2 := HBT
              rw [hsl] at HB2
              clear hsl HAT HBT HLT
              go_wp2_with fail
              go_quiet (fail)
              clear r0 r1 r2 r3 r4 r5 r6 r7 k0 k1 k2 k3 k4 k5 k6 k7
              go_wp2_with fail
              go_region_held3 (fun W' => (W'.cell? ⟨g, i * 9, none⟩ = some (.int .u8 x1.a0) ∧ W'.cell? ⟨g, i * 9 + 1, none⟩ = some (.int .u8 x1.a1) ∧ W'.cell? ⟨g, i * 9 + 2, none⟩ = some (.int .u8 x1.a2) ∧ W'.cell? ⟨g, i * 9 + 3, none⟩ = some (.int .u8 x1.a3) ∧ W'.cell? ⟨g, i * 9 + 4, none⟩ = some (.int .u8 x1.a4) ∧ W'.cell? ⟨g, i * 9 + 5, none⟩ = some (.int .u8 x1.a5) ∧ W'.cell? ⟨g, i * 9 + 6, none⟩ = some (.int .i64 x1.near) ∧ W'.cell? ⟨g, i * 9 + 7, none⟩ = some (.int .i64 x1.there_)) ∧ DKey W' y k ∧ Below w3.heap.size w3 W') (first | exact HSK.out _ hbX | exact HSK.out _ (below_drewN hrel.out _) | exact HSK.out _ (below_drewN (below_drewN hrel.out _) 1))
                ((go_at_call 16; refine (CR.out _ ?_).mono ?_; (go_split_ands; assumption); rintro e wX ⟨rfl, hbX⟩))
              have HNX := cover hbX
              clear CR hbX hrel HSK
              go_wp2
              go_roundw
              case rel => exact ⟨i + 1, by omega, by rw [HA2.out]; rfl, by rw [HB2.out]; first | rfl | go_num, by go_num, HNX⟩
              case measure => simp [intOf]; omega
        · obtain rfl : i = n := by omega
          have hpl : PlE B w t b m i A c l l wr := HP3.out.below hrel.out
          have hyx : wr.heap[y]? = some (deedO ⟨qd, qx, k⟩) := (hrel.out.block y (block_lt HY.out.1)).trans HY.out.1
          have HLN : Hid (l.length = i) := cover hpl.len
          obtain ⟨p, hp⟩ : ∃ p, p = placeT ltE l k := ⟨_, rfl⟩
          have hpn : p ≤ i := by rw [hp, ← HLN.out]; exact placeT_le _ _ _
          have e1 : min (placeT ltE l k) i = p := by rw [← hp]; omega
          have e2 : atV l k i = if hasT l k = true then (p : Int) else -1 := by
            have := atV_end (k := k) hpl.rise
            rw [HLN.out] at this
            rw [hp]; exact this
          obtain ⟨av, hav⟩ : ∃ av : Int, av = if hasT l k = true then (p : Int) else -1 := ⟨_, rfl⟩
          rw [e1, e2, ← hav]
          have HAV : Hid ((hasT l k = true ∧ av = (p : Int) ∧ ∃ z, l[p]? = some (k, z)) ∨ (hasT l k = false ∧ av = -1)) := cover (by
            cases hh : hasT l k with
            | true =>
              rw [hh, if_pos rfl] at hav
              refine .inl ⟨rfl, hav, ?_⟩
              rw [hp]; exact (hasT_at ltE_ord hpl.rise).1 hh
            | false =>
              rw [hh, if_neg (by decide)] at hav
              exact .inr ⟨rfl, hav⟩)
          have HP : Hid (p = placeT ltE l k) := cover hp
          have HPX : Hid (PlE B w t b m i A c l l wr) := cover hpl
          have HYX : Hid (wr.heap[y]? = some (deedO ⟨qd, qx, k⟩) ∧ t < y ∧ b < y ∧ ∀ g, (Value.slice A i c).ownBlock = some g → g < y) := cover ⟨hyx, HY.out.2⟩
          have HOK : Hid (I64 qx ∧ OkE k) := cover HQO.out.2
          clear hav hpl hyx hp e1 e2 hrel HP3 HY HQO hlt2 hi
          go_upto_block 4 with fail
          go_cut [6] (fun v wx => ∃ (A' : Option Addr) (n' c' : Nat), v = .slice A' n' c' ∧ Hid (PlAt B w t b m n' A' c' wx))
          case first =>
            have q0 := deed_what HYX.out.1
            simp only [] at q0
            have HKEY : Hid (∀ W', Below wr.heap.size wr W' → Calls Try.prog 18 #[keyV k] W' fun e w' => e = .returned (keyV k) ∧ Below wr.heap.size wr w') := cover fun W' h => (key_any k W').mono fun e w' ⟨he, hw⟩ => ⟨he, h.trans (hw.mono h.size)⟩
            have HSP : Hid (∀ W', Below wr.heap.size wr W' → DKey W' y k ∧ W'.cell? ⟨y, 1, none⟩ = some (.int .i64 qx)) := cover fun W' hb => by
              have h1 := (hb.block y (block_lt HYX.out.1)).trans HYX.out.1
              exact ⟨deed_key h1, deed_x h1⟩
            by_cases hd3 : qd ≤ 3
            · obtain ⟨f, hf⟩ : ∃ f, f = fullT m l k := ⟨_, rfl⟩
              have HF := cover hf
              have HF2 : Hid (f = (!hasT l k && decide (m ≤ i))) := cover (by rw [hf]; unfold fullT; rw [HLN.out])
              clear hf
              go_upto_region 26 with fail
              clear q0 hd3
              go_cut [12] (fun v wx => v = .bool f ∧ Hid (wr = wx))
              case first =>
                rcases HAV.out with ⟨hh, ha, _⟩ | ⟨hh, ha⟩
                · have ha0 : ¬ av < 0 := by omega
                  have hff : f = false := by rw [HF2.out, hh]; rfl
                  subst hff
                  clear HF2 hh ha
                  go_wp2_with fail
                  go_meet
                  exact ⟨rfl, cover rfl⟩
                · have ha0 : av < 0 := by omega
                  have hff : f = decide (m ≤ i) := by rw [HF2.out, hh]; rfl
                  subst hff
                  rcases hmost with ⟨hm0, rfl⟩ | ⟨hm0, rfl⟩
                  · have hm2 : ¬ 0 < most := by omega
                    have hm3 : ¬ 0 ≤ most := by omega
                    clear HF2 hh ha
                    go_wp2_with fail
                    go_meet
                    exact ⟨by simp; omega, cover rfl⟩
                  · have hm2 : ¬ (m : Int) < 0 := by omega
                    clear HF2 hh ha
                    go_wp2_with fail
                    go_meet
                    exact ⟨by simp, cover rfl⟩
              case rest =>
              obtain ⟨rfl, hcut⟩ := hcut
              obtain rfl := hcut.out
              clear hcut
              obtain ⟨ev, hev⟩ : ∃ ev : Int, ev = if f = true then 6 else 0 := ⟨_, rfl⟩
              have HEV := cover hev
              have CP : Hid (∀ W', Below wr.heap.size wr W' → Calls Try.prog 17 #[ptr t, keyV k, .int .i64 qx] W' fun e w' => e = .returned (.int .i64 ev) ∧ Hid (PlE B w t b m i A c (putT ltE m l k qx) l w' ∧ w'.heap[y]? = some (deedO ⟨qd, qx, k⟩))) := cover fun W' hb => by
                have h1 := HPX.out.below hb
                refine (putI_has h1.tab HOK.out.2 qx).mono ?_
                rintro e w' ⟨rfl, hh⟩
                rw [← HF.out, ← HEV.out]
                refine ⟨rfl, cover ⟨h1.turn hh.out, ?_⟩⟩
                have h2 := (hb.block y (block_lt HYX.out.1)).trans HYX.out.1
                exact (hh.out.2.2.2 y (block_lt h2) (by have := HYX.out.2.1; omega) (by have := HYX.out.2.2.1; omega)).trans h2
              clear hev
              go_wp2_with fail
              go_region_held3 (fun W' => DKey W' y k ∧ W'.cell? ⟨y, 1, none⟩ = some (.int .i64 qx)) (first | exact HSP.out _ hbX | exact HSP.out _ (below_drewN (Below.refl _ _) 1) | exact ⟨deed_key H5.out.2, deed_x H5.out.2⟩)
                (first
                  | (go_at_call 18; first | (refine (HKEY.out _ (below_drewN (Below.refl _ _) 1)).mono ?_; rintro e w4 ⟨rfl, hbX⟩))
                  | (go_at_call 17; refine (CP.out _ hbX).mono ?_; rintro e w5 ⟨rfl, H5⟩))
              clear CP HKEY HSP hbX
              rcases HAV.out with ⟨hh, ha, z, hz⟩ | ⟨hh, ha⟩
              · have hff : f = false := by rw [HF2.out, hh]; rfl
                subst hff
                have hee : ev = 0 := by rw [HEV.out]; rfl
                subst hee
                have hpi : p < i := by rw [← HLN.out]; exact (List.getElem?_eq_some_iff.1 hz).1
                have hpc : p < c := by omega
                obtain ⟨g, rfl, hgl, _, _, _, _, _, _, _, _, r8⟩ := H5.out.1.rows p _ hz
                have hx5 := deed_x H5.out.2
                have hfz := H5.out.1.thaw (p * 9 + 8)
                have HN : Hid (PlAt B w t b m i (some ⟨g, 0, none⟩) c (w5.setCell ⟨g, p * 9 + 8, none⟩ (.int .i64 qx))) := cover ⟨setT l k qx, by
                  have h1 := H5.out.1.set (x := qx) hz
                  have e : putT ltE m l k qx = setT l k qx := by unfold putT; rw [hh, if_pos rfl]
                  rw [e] at h1
                  exact h1⟩
                have hp0 : ¬ (p : Int) < 0 := by omega
                clear HF2 hh hz H5 HEV HF hgl
                subst ha
                go_wp2_with fail
                go_meet
                exact ⟨_, _, _, rfl, HN⟩
              · have ha0 : av < 0 := by omega
                cases f with
                | true =>
                  have hee : ev = 6 := by rw [HEV.out]; rfl
                  subst hee
                  have HN : Hid (PlAt B w t b m i A c w5) := cover ⟨l, by
                    have h1 := H5.out.1
                    rw [putT_full ltE qx HF.out.symm] at h1
                    exact h1⟩
                  clear HF2 hh ha H5 HEV HF
                  go_wp2_with fail
                  go_meet
                  exact ⟨_, _, _, rfl, HN⟩
                | false =>
                  have hee : ev = 0 := by rw [HEV.out]; rfl
                  subst hee
                  have hrise := HPX.out.rise
                  have hno := hh
                  obtain ⟨hle, _⟩ := H5.out.1.le
                  have hpc : p ≤ c := by omega
                  have hpl0 : l.length < m := by
                    have := HF.out
                    unfold fullT at this
                    rw [hno] at this
                    simpa using this
                  have HIT : Hid (putT ltE m l k qx = l.take p ++ [(k, qx)] ++ l.drop p ∧ Rise ltE (putT ltE m l k qx)) := cover ⟨by
                    unfold putT
                    rw [hno, if_neg (by decide), if_pos hpl0, HP.out]
                    rfl, hrise.put ltE_ord m⟩
                  have HCE : Hid (0 < i → ∃ g, A = some ⟨g, 0, none⟩ ∧ ∀ wx, Below w5.heap.size w5 wx → ∀ j u, (flatR l)[j]? = some u → wx.cell? ⟨g, j, none⟩ = some u) := cover fun h0 => by
                    obtain ⟨x, hx⟩ : ∃ x, l[0]? = some x := ⟨_, List.getElem?_eq_getElem (by rw [HLN.out]; exact h0)⟩
                    obtain ⟨g, hA, _⟩ := H5.out.1.rows 0 x hx
                    subst hA
                    exact ⟨g, rfl, fun wx hb => OwnR.cells H5.out.1.row HLN.out hb⟩
                  have hlt : (l.take p).length = p := by rw [List.length_take, HLN.out]; omega
                  have HLT := cover hlt
                  have HKS : Hid (∀ W', Below w5.heap.size w5 W' → (fun W' : World => Below w5.heap.size w5 W' ∧ W'.cell? ⟨y, 1, none⟩ = some (.int .i64 qx) ∧ DKey W' y k) W') := cover fun W' hb => by
                    have h1 := (hb.block y (block_lt H5.out.2)).trans H5.out.2
                    exact ⟨hb, deed_x h1, deed_key h1⟩
                  have h3 : (fun W' : World => Below w5.heap.size w5 W' ∧ W'.cell? ⟨y, 1, none⟩ = some (.int .i64 qx) ∧ DKey W' y k) w5.drew := HKS.out _ (Below.refl _ _).drew
                  obtain ⟨tv, htv⟩ : ∃ tv, tv = Value.slice (if c = p then A else Option.map (fun x => x.add (p * 9)) A) (i - p) (c - p) := ⟨_, rfl⟩
                  have mixed : Try.prog.follows .mixedOrders = true := by kernel_rfl
                  have hpi9 : (p : Int) ≤ (i : Int) := by omega
                  have hpc9 : (p : Int) ≤ (c : Int) := by omega
                  have hp09 : (0 : Int) ≤ (p : Int) := by omega
                  have hp99 : ¬ (p : Int) < 0 := by omega
                  subst ha
                  clear HF2 hlt hh hno hrise hpl0
                  go_wp2_with fail
                  refine (wpIn_wide (n := 0)).1 ?_
                  refine held_begin (fun W' : World => Below w5.heap.size w5 W' ∧ W'.cell? ⟨y, 1, none⟩ = some (.int .i64 qx) ∧ DKey W' y k) 16 mixed ?_
                  refine hold_take 1 _ rfl (by kernel_rfl) (by kernel_rfl) (by kernel_rfl) (by kernel_rfl) (by kernel_rfl) (fun _ _ _ h => h) (by rfl) (fun _ => rfl) h3 (fun w' hS => by obtain ⟨q0, q1, q2, q3, q4, q5, q6, q7, q8, q9⟩ := hS; go_simp; rfl) ?_
                  simp only [Act.put, List.setIfInBounds_toArray, List.set_cons_zero, List.set_cons_succ]
                  refine hold_take 2 _ rfl (by kernel_rfl) (by kernel_rfl) (by kernel_rfl) (by kernel_rfl) (by kernel_rfl) (fun _ _ _ h => h) (by rfl) (fun _ => rfl) h3 (fun w' hS => by obtain ⟨q0, q1, q2, q3, q4, q5, q6, q7, q8, q9⟩ := hS; go_simp; rfl) ?_
                  simp only [Act.put, List.setIfInBounds_toArray, List.set_cons_zero, List.set_cons_succ]
                  refine hold_take 3 (.slice A p c) rfl (by kernel_rfl) (by kernel_rfl) (by kernel_rfl) (by kernel_rfl) (by kernel_rfl) (fun _ _ _ h => h) (by rfl) (fun _ => rfl) h3 (fun w' hS => by obtain ⟨q0, q1, q2, q3, q4, q5, q6, q7, q8, q9⟩ := hS; go_simp; skip) ?_
                  simp only [Act.put, List.setIfInBounds_toArray, List.set_cons_zero, List.set_cons_succ]
                  refine hold_take 5 _ rfl (by kernel_rfl) (by kernel_rfl) (by kernel_rfl) (by kernel_rfl) (by kernel_rfl) (fun _ _ _ h => h) (by rfl) (fun _ => rfl) h3 (fun w' hS => by obtain ⟨q0, q1, q2, q3, q4, q5, q6, q7, q8, q9⟩ := hS; go_simp; rfl) ?_
                  simp only [Act.put, List.setIfInBounds_toArray, List.set_cons_zero, List.set_cons_succ]
                  refine hold_take 6 _ rfl (by kernel_rfl) (by kernel_rfl) (by kernel_rfl) (by kernel_rfl) (by kernel_rfl) (fun _ _ _ h => h) (by rfl) (fun _ => rfl) h3 (fun w' hS => by obtain ⟨q0, q1, q2, q3, q4, q5, q6, q7, q8, q9⟩ := hS; go_simp; rfl) ?_
                  simp only [Act.put, List.setIfInBounds_toArray, List.set_cons_zero, List.set_cons_succ]
                  refine hold_take 7 _ rfl (by kernel_rfl) (by kernel_rfl) (by kernel_rfl) (by kernel_rfl) (by kernel_rfl) (fun _ _ _ h => h) (by rfl) (fun _ => rfl) h3 (fun w' hS => by obtain ⟨q0, q1, q2, q3, q4, q5, q6, q7, q8, q9⟩ := hS; go_simp; rfl) ?_
                  simp only [Act.put, List.setIfInBounds_toArray, List.set_cons_zero, List.set_cons_succ]
                  refine hold_take 8 _ rfl (by kernel_rfl) (by kernel_rfl) (by kernel_rfl) (by kernel_rfl) (by kernel_rfl) (fun _ _ _ h => h) (by rfl) (fun _ => rfl) h3 (fun w' hS => by obtain ⟨q0, q1, q2, q3, q4, q5, q6, q7, q8, q9⟩ := hS; go_simp; rfl) ?_
                  simp only [Act.put, List.setIfInBounds_toArray, List.set_cons_zero, List.set_cons_succ]
                  refine hold_take 9 _ rfl (by kernel_rfl) (by kernel_rfl) (by kernel_rfl) (by kernel_rfl) (by kernel_rfl) (fun _ _ _ h => h) (by rfl) (fun _ => rfl) h3 (fun w' hS => by obtain ⟨q0, q1, q2, q3, q4, q5, q6, q7, q8, q9⟩ := hS; go_simp; rfl) ?_
                  simp only [Act.put, List.setIfInBounds_toArray, List.set_cons_zero, List.set_cons_succ]
                  refine hold_take 12 _ rfl (by kernel_rfl) (by kernel_rfl) (by kernel_rfl) (by kernel_rfl) (by kernel_rfl) (fun _ _ _ h => h) (by rfl) (fun _ => rfl) h3 (fun w' hS => by obtain ⟨q0, q1, q2, q3, q4, q5, q6, q7, q8, q9⟩ := hS; go_simp; rfl) ?_
                  simp only [Act.put, List.setIfInBounds_toArray, List.set_cons_zero, List.set_cons_succ]
                  refine hold_take 13 _ rfl (by kernel_rfl) (by kernel_rfl) (by kernel_rfl) (by kernel_rfl) (by kernel_rfl) (fun _ _ _ h => h) (by rfl) (fun _ => rfl) h3 (fun w' hS => by obtain ⟨q0, q1, q2, q3, q4, q5, q6, q7, q8, q9⟩ := hS; go_simp; rfl) ?_
                  simp only [Act.put, List.setIfInBounds_toArray, List.set_cons_zero, List.set_cons_succ]
                  refine hold_take 14 tv rfl (by kernel_rfl) (by kernel_rfl) (by kernel_rfl) (by kernel_rfl) (by kernel_rfl) (fun _ _ _ h => h) (by rfl) (fun _ => rfl) h3 (fun w' hS => by obtain ⟨q0, q1, q2, q3, q4, q5, q6, q7, q8, q9⟩ := hS; go_simp; skip) ?_
                  simp only [Act.put, List.setIfInBounds_toArray, List.set_cons_zero, List.set_cons_succ]
                  have HTV := cover htv
                  clear htv
                  have hb0 : Below w5.heap.size w5 w5.drew := (Below.refl _ _).drew
                  refine hold_two 0 10 (by kernel_rfl) rfl rfl (by rfl) (by rfl) (fun K hK => ?_) (fun K hK => ?_)
                  · obtain ⟨s, hs⟩ : ∃ s, s = w5.drew.heap.size := ⟨_, rfl⟩
                    obtain ⟨w6, hw6⟩ : ∃ w6, w6 = w5.drew.alloc (.cells #[] 44) := ⟨_, rfl⟩
                    obtain ⟨ho6', hb6'⟩ := OwnR.bare (w0 := w5) (w := w5.drew) hb0 hb0.size
                    have ho6 : OwnR w5.heap.size w6 (.slice (some ⟨s, 0, none⟩) 0 0) [] := by rw [hs, hw6]; exact ho6'
                    have hb6 : Below w5.heap.size w5 w6 := by rw [hw6]; exact hb6'
                    have hm6 : Below w5.drew.heap.size w5.drew w6 := by rw [hw6]; exact (Below.refl _ _).alloc (Nat.le_refl _) _
                    have hs6 : s < w6.heap.size := (ho6.lt s rfl).2
                    refine run_in (fun c h => by cases h) (fun _ _ => trivial) (v := .slice (some ⟨s, 0, none⟩) 0 0) (w' := w6) (by rw [hw6, hs]; go_simp) ?_
                    clear ho6' hb6' hw6
                    refine hK _ _ (.inr (HKS.out _ hb6)) ?_
                    clear hK K
                    simp only [Act.put, List.setIfInBounds_toArray, List.set_cons_zero, List.set_cons_succ]
                    refine hold_two 4 10 (by kernel_rfl) rfl rfl (by rfl) (by rfl) (fun K hK => ?_) (fun K hK => ?_)
                    · obtain ⟨v4, w4, hr4, ho4, hb4, hk4⟩ := OwnR.app ho6 hb6 hb6.size (A) (p) (c) (l.take p) (HLT.out) (fun h0 => by
                          obtain ⟨g, hA, hce⟩ := HCE.out (by omega)
                          refine ⟨g, 0, hA, fun j u hj => ?_⟩
                          rw [flatR_take, List.getElem?_take] at hj
                          split at hj
                          · rw [Nat.zero_add]; exact hce _ hb6 j u hj
                          · cases hj) (by simp; omega) 39
                      refine run_in (fun c h => by cases h) (fun _ _ => trivial) (v := v4) (w' := w4) (appends_exec _ _ _ _ rfl (.slice (some ⟨s, 0, none⟩) 0 0) (.slice A p c) (by go_simp) (by go_simp) hr4) ?_
                      rw [List.nil_append] at ho4
                      clear hr4
                      refine hK _ _ (.inr (HKS.out _ hb4)) ?_
                      clear hK K
                      simp only [Act.put, List.setIfInBounds_toArray, List.set_cons_zero, List.set_cons_succ]
                      refine hold_one 10 (by kernel_rfl) rfl (by rfl) fun K hK => ?_
                      obtain ⟨z, hz⟩ : ∃ z, z = w4.heap.size := ⟨_, rfl⟩
                      obtain ⟨wz, hwz⟩ : ∃ wz, wz = w4.alloc (.cells #[.int .u8 k.a0, .int .u8 k.a1, .int .u8 k.a2, .int .u8 k.a3, .int .u8 k.a4, .int .u8 k.a5, .int .i64 k.near, .int .i64 k.there_, .int .i64 qx] 44) := ⟨_, rfl⟩
                      have hmz : Below w4.heap.size w4 wz := by rw [hwz]; exact (Below.refl _ _).alloc (Nat.le_refl _) _
                      have hbz : Below w5.heap.size w5 wz := hb4.trans (hmz.mono hb4.size)
                      have hnz : wz.heap[z]? = some (.cells #[.int .u8 k.a0, .int .u8 k.a1, .int .u8 k.a2, .int .u8 k.a3, .int .u8 k.a4, .int .u8 k.a5, .int .i64 k.near, .int .i64 k.there_, .int .i64 qx] 44 (0, 0)) := by rw [hwz, hz]; exact heap_alloc_new _ _
                      refine run_in (fun c h => by cases h) (fun _ _ => trivial) (v := .slice (some ⟨z, 0, none⟩) 1 1) (w' := wz) (by rw [hwz, hz]; go_simp) ?_
                      clear hwz
                      refine hK _ _ (.inr (HKS.out _ hbz)) ?_
                      clear hK K
                      simp only [Act.put, List.setIfInBounds_toArray, List.set_cons_zero, List.set_cons_succ]
                      have ho4' := OwnR.keep ho4 hmz
                      as_aux_lemma =>
                        refine hold_one 11 (by kernel_rfl) rfl (by rfl) fun K hK => ?_
                        obtain ⟨v11, w11, hr11, ho11, hb11, hk11⟩ := OwnR.app ho4' hbz hbz.size (some ⟨z, 0, none⟩) (1) (1) ([(k, qx)]) (rfl) (fun _ => ⟨z, 0, rfl, flatR_cell (x := (k, qx)) hnz⟩) (by rw [HLT.out]; omega) 39
                        refine run_in (fun c h => by cases h) (fun _ _ => trivial) (v := v11) (w' := w11) (appends_exec _ _ _ _ rfl (v4) (.slice (some ⟨z, 0, none⟩) 1 1) (by go_simp) (by go_simp) hr11) ?_
                        clear hr11 hk11
                        refine hK _ _ (.inr (HKS.out _ hb11)) ?_
                        clear hK K
                        simp only [Act.put, List.setIfInBounds_toArray, List.set_cons_zero, List.set_cons_succ]
                        refine hold_one 15 (by kernel_rfl) rfl (by rfl) fun K hK => ?_
                        have hsrc : 0 < i - p → ∃ g' o, (if c = p then A else Option.map (fun x => x.add (p * 9)) A) = some ⟨g', o, none⟩ ∧ ∀ j u, (flatR (l.drop p))[j]? = some u → w11.cell? ⟨g', o + j, none⟩ = some u := fun h0 => by
                          obtain ⟨g, hA, hce⟩ := HCE.out (by omega)
                          rw [if_neg (by omega), hA]
                          refine ⟨g, p * 9, by rw [Option.map_some, add_off, Nat.zero_add], fun j u hj => ?_⟩
                          rw [flatR_drop, List.getElem?_drop] at hj
                          exact hce _ hb11 _ u hj
                        obtain ⟨v15, w15, hr15, ho15, hb15, hk15⟩ := OwnR.app ho11 hb11 hb11.size (if c = p then A else Option.map (fun x => x.add (p * 9)) A) (i - p) (c - p) (l.drop p) (by rw [List.length_drop, HLN.out]) (hsrc) (by rw [List.length_append, HLT.out]; show p + 1 + (i - p) ≤ 100000; omega) 39
                        refine run_in (fun c h => by cases h) (fun _ _ => trivial) (v := v15) (w' := w15) (appends_exec _ _ _ _ rfl (v11) (tv) (by go_simp) (by go_simp) (by rw [HTV.out]; exact hr15)) ?_
                        rw [← HIT.out.1] at ho15
                        clear hr15 hk15 hsrc
                        refine hK _ _ (.inr (HKS.out _ hb15)) ?_
                        clear hK K
                        simp only [Act.put, List.setIfInBounds_toArray, List.set_cons_zero, List.set_cons_succ]
                        obtain ⟨A9, c9, rfl, hpl9⟩ := H5.out.1.fresh ⟨ho15, hb15⟩ HIT.out.2
                        have HN : Hid (PlAt B w t b m (putT ltE m l k qx).length A9 c9 w15) := cover ⟨_, hpl9⟩
                        refine hold_one 16 (by kernel_rfl) rfl (by rfl) fun K hK => ?_
                        go_simp
                        refine hK _ _ (.inr (HKS.out _ hb15)) (held_done (by kernel_rfl) ?_ _)
                        clear hK K hpl9 ho15 hb15 H5 HPX HCE HTV HIT HKS
                        go_wp2_with fail
                        go_meet
                        exact ⟨_, _, _, rfl, HN⟩
                    · obtain ⟨z, hz⟩ : ∃ z, z = w6.heap.size := ⟨_, rfl⟩
                      obtain ⟨wz, hwz⟩ : ∃ wz, wz = w6.alloc (.cells #[.int .u8 k.a0, .int .u8 k.a1, .int .u8 k.a2, .int .u8 k.a3, .int .u8 k.a4, .int .u8 k.a5, .int .i64 k.near, .int .i64 k.there_, .int .i64 qx] 44) := ⟨_, rfl⟩
                      have hmz : Below w6.heap.size w6 wz := by rw [hwz]; exact (Below.refl _ _).alloc (Nat.le_refl _) _
                      have hbz : Below w5.heap.size w5 wz := hb6.trans (hmz.mono hb6.size)
                      have hnz : wz.heap[z]? = some (.cells #[.int .u8 k.a0, .int .u8 k.a1, .int .u8 k.a2, .int .u8 k.a3, .int .u8 k.a4, .int .u8 k.a5, .int .i64 k.near, .int .i64 k.there_, .int .i64 qx] 44 (0, 0)) := by rw [hwz, hz]; exact heap_alloc_new _ _
                      refine run_in (fun c h => by cases h) (fun _ _ => trivial) (v := .slice (some ⟨z, 0, none⟩) 1 1) (w' := wz) (by rw [hwz, hz]; go_simp) ?_
                      clear hwz
                      refine hK _ _ (.inr (HKS.out _ hbz)) ?_
                      clear hK K
                      simp only [Act.put, List.setIfInBounds_toArray, List.set_cons_zero, List.set_cons_succ]
                      have ho6' := OwnR.keep ho6 hmz
                      refine hold_one 4 (by kernel_rfl) rfl (by rfl) fun K hK => ?_
                      obtain ⟨v4, w4, hr4, ho4, hb4, hk4⟩ := OwnR.app ho6' hbz hbz.size (A) (p) (c) (l.take p) (HLT.out) (fun h0 => by
                          obtain ⟨g, hA, hce⟩ := HCE.out (by omega)
                          refine ⟨g, 0, hA, fun j u hj => ?_⟩
                          rw [flatR_take, List.getElem?_take] at hj
                          split at hj
                          · rw [Nat.zero_add]; exact hce _ hbz j u hj
                          · cases hj) (by simp; omega) 39
                      refine run_in (fun c h => by cases h) (fun _ _ => trivial) (v := v4) (w' := w4) (appends_exec _ _ _ _ rfl (.slice (some ⟨s, 0, none⟩) 0 0) (.slice A p c) (by go_simp) (by go_simp) hr4) ?_
                      rw [List.nil_append] at ho4
                      clear hr4
                      refine hK _ _ (.inr (HKS.out _ hb4)) ?_
                      clear hK K
                      simp only [Act.put, List.setIfInBounds_toArray, List.set_cons_zero, List.set_cons_succ]
                      have hsz : s ≠ z := by omega
                      have hz4 : w4.heap[z]? = some (.cells #[.int .u8 k.a0, .int .u8 k.a1, .int .u8 k.a2, .int .u8 k.a3, .int .u8 k.a4, .int .u8 k.a5, .int .i64 k.near, .int .i64 k.there_, .int .i64 qx] 44 (0, 0)) := (hk4 z (block_lt hnz) (fun e => hsz (by simpa [Value.ownBlock] using e))).trans hnz
                      as_aux_lemma =>
                        refine hold_one 11 (by kernel_rfl) rfl (by rfl) fun K hK => ?_
                        obtain ⟨v11, w11, hr11, ho11, hb11, hk11⟩ := OwnR.app ho4 hb4 hb4.size (some ⟨z, 0, none⟩) (1) (1) ([(k, qx)]) (rfl) (fun _ => ⟨z, 0, rfl, flatR_cell (x := (k, qx)) hz4⟩) (by rw [HLT.out]; omega) 39
                        refine run_in (fun c h => by cases h) (fun _ _ => trivial) (v := v11) (w' := w11) (appends_exec _ _ _ _ rfl (v4) (.slice (some ⟨z, 0, none⟩) 1 1) (by go_simp) (by go_simp) hr11) ?_
                        clear hr11 hk11
                        refine hK _ _ (.inr (HKS.out _ hb11)) ?_
                        clear hK K
                        simp only [Act.put, List.setIfInBounds_toArray, List.set_cons_zero, List.set_cons_succ]
                        refine hold_one 15 (by kernel_rfl) rfl (by rfl) fun K hK => ?_
                        have hsrc : 0 < i - p → ∃ g' o, (if c = p then A else Option.map (fun x => x.add (p * 9)) A) = some ⟨g', o, none⟩ ∧ ∀ j u, (flatR (l.drop p))[j]? = some u → w11.cell? ⟨g', o + j, none⟩ = some u := fun h0 => by
                          obtain ⟨g, hA, hce⟩ := HCE.out (by omega)
                          rw [if_neg (by omega), hA]
                          refine ⟨g, p * 9, by rw [Option.map_some, add_off, Nat.zero_add], fun j u hj => ?_⟩
                          rw [flatR_drop, List.getElem?_drop] at hj
                          exact hce _ hb11 _ u hj
                        obtain ⟨v15, w15, hr15, ho15, hb15, hk15⟩ := OwnR.app ho11 hb11 hb11.size (if c = p then A else Option.map (fun x => x.add (p * 9)) A) (i - p) (c - p) (l.drop p) (by rw [List.length_drop, HLN.out]) (hsrc) (by rw [List.length_append, HLT.out]; show p + 1 + (i - p) ≤ 100000; omega) 39
                        refine run_in (fun c h => by cases h) (fun _ _ => trivial) (v := v15) (w' := w15) (appends_exec _ _ _ _ rfl (v11) (tv) (by go_simp) (by go_simp) (by rw [HTV.out]; exact hr15)) ?_
                        rw [← HIT.out.1] at ho15
                        clear hr15 hk15 hsrc
                        refine hK _ _ (.inr (HKS.out _ hb15)) ?_
                        clear hK K
                        simp only [Act.put, List.setIfInBounds_toArray, List.set_cons_zero, List.set_cons_succ]
                        obtain ⟨A9, c9, rfl, hpl9⟩ := H5.out.1.fresh ⟨ho15, hb15⟩ HIT.out.2
                        have HN : Hid (PlAt B w t b m (putT ltE m l k qx).length A9 c9 w15) := cover ⟨_, hpl9⟩
                        refine hold_one 16 (by kernel_rfl) rfl (by rfl) fun K hK => ?_
                        go_simp
                        refine hK _ _ (.inr (HKS.out _ hb15)) (held_done (by kernel_rfl) ?_ _)
                        clear hK K hpl9 ho15 hb15 H5 HPX HCE HTV HIT HKS
                        go_wp2_with fail
                        go_meet
                        exact ⟨_, _, _, rfl, HN⟩
                  · obtain ⟨z, hz⟩ : ∃ z, z = w5.drew.heap.size := ⟨_, rfl⟩
                    obtain ⟨wz, hwz⟩ : ∃ wz, wz = w5.drew.alloc (.cells #[.int .u8 k.a0, .int .u8 k.a1, .int .u8 k.a2, .int .u8 k.a3, .int .u8 k.a4, .int .u8 k.a5, .int .i64 k.near, .int .i64 k.there_, .int .i64 qx] 44) := ⟨_, rfl⟩
                    have hmz : Below w5.drew.heap.size w5.drew wz := by rw [hwz]; exact (Below.refl _ _).alloc (Nat.le_refl _) _
                    have hbz : Below w5.heap.size w5 wz := hb0.trans (hmz.mono hb0.size)
                    have hnz : wz.heap[z]? = some (.cells #[.int .u8 k.a0, .int .u8 k.a1, .int .u8 k.a2, .int .u8 k.a3, .int .u8 k.a4, .int .u8 k.a5, .int .i64 k.near, .int .i64 k.there_, .int .i64 qx] 44 (0, 0)) := by rw [hwz, hz]; exact heap_alloc_new _ _
                    refine run_in (fun c h => by cases h) (fun _ _ => trivial) (v := .slice (some ⟨z, 0, none⟩) 1 1) (w' := wz) (by rw [hwz, hz]; go_simp) ?_
                    clear hwz
                    refine hK _ _ (.inr (HKS.out _ hbz)) ?_
                    clear hK K
                    simp only [Act.put, List.setIfInBounds_toArray, List.set_cons_zero, List.set_cons_succ]
                    refine hold_one 0 (by kernel_rfl) rfl (by rfl) fun K hK => ?_
                    obtain ⟨s, hs⟩ : ∃ s, s = wz.heap.size := ⟨_, rfl⟩
                    obtain ⟨w6, hw6⟩ : ∃ w6, w6 = wz.alloc (.cells #[] 44) := ⟨_, rfl⟩
                    obtain ⟨ho6', hb6'⟩ := OwnR.bare (w0 := w5) (w := wz) hbz hbz.size
                    have ho6 : OwnR w5.heap.size w6 (.slice (some ⟨s, 0, none⟩) 0 0) [] := by rw [hs, hw6]; exact ho6'
                    have hb6 : Below w5.heap.size w5 w6 := by rw [hw6]; exact hb6'
                    have hm6 : Below wz.heap.size wz w6 := by rw [hw6]; exact (Below.refl _ _).alloc (Nat.le_refl _) _
                    have hs6 : s < w6.heap.size := (ho6.lt s rfl).2
                    refine run_in (fun c h => by cases h) (fun _ _ => trivial) (v := .slice (some ⟨s, 0, none⟩) 0 0) (w' := w6) (by rw [hw6, hs]; go_simp) ?_
                    clear ho6' hb6' hw6
                    refine hK _ _ (.inr (HKS.out _ hb6)) ?_
                    clear hK K
                    simp only [Act.put, List.setIfInBounds_toArray, List.set_cons_zero, List.set_cons_succ]
                    have hnz' := (hm6.block z (block_lt hnz)).trans hnz
                    have hzs := block_lt hnz
                    refine hold_one 4 (by kernel_rfl) rfl (by rfl) fun K hK => ?_
                    obtain ⟨v4, w4, hr4, ho4, hb4, hk4⟩ := OwnR.app ho6 hb6 hb6.size (A) (p) (c) (l.take p) (HLT.out) (fun h0 => by
                        obtain ⟨g, hA, hce⟩ := HCE.out (by omega)
                        refine ⟨g, 0, hA, fun j u hj => ?_⟩
                        rw [flatR_take, List.getElem?_take] at hj
                        split at hj
                        · rw [Nat.zero_add]; exact hce _ hb6 j u hj
                        · cases hj) (by simp; omega) 39
                    refine run_in (fun c h => by cases h) (fun _ _ => trivial) (v := v4) (w' := w4) (appends_exec _ _ _ _ rfl (.slice (some ⟨s, 0, none⟩) 0 0) (.slice A p c) (by go_simp) (by go_simp) hr4) ?_
                    rw [List.nil_append] at ho4
                    clear hr4
                    refine hK _ _ (.inr (HKS.out _ hb4)) ?_
                    clear hK K
                    simp only [Act.put, List.setIfInBounds_toArray, List.set_cons_zero, List.set_cons_succ]
                    have hsz : s ≠ z := by omega
                    have hz4 : w4.heap[z]? = some (.cells #[.int .u8 k.a0, .int .u8 k.a1, .int .u8 k.a2, .int .u8 k.a3, .int .u8 k.a4, .int .u8 k.a5, .int .i64 k.near, .int .i64 k.there_, .int .i64 qx] 44 (0, 0)) := (hk4 z (block_lt hnz') (fun e => hsz (by simpa [Value.ownBlock] using e))).trans hnz'
                    as_aux_lemma =>
                      refine hold_one 11 (by kernel_rfl) rfl (by rfl) fun K hK => ?_
                      obtain ⟨v11, w11, hr11, ho11, hb11, hk11⟩ := OwnR.app ho4 hb4 hb4.size (some ⟨z, 0, none⟩) (1) (1) ([(k, qx)]) (rfl) (fun _ => ⟨z, 0, rfl, flatR_cell (x := (k, qx)) hz4⟩) (by rw [HLT.out]; omega) 39
                      refine run_in (fun c h => by cases h) (fun _ _ => trivial) (v := v11) (w' := w11) (appends_exec _ _ _ _ rfl (v4) (.slice (some ⟨z, 0, none⟩) 1 1) (by go_simp) (by go_simp) hr11) ?_
                      clear hr11 hk11
                      refine hK _ _ (.inr (HKS.out _ hb11)) ?_
                      clear hK K
                      simp only [Act.put, List.setIfInBounds_toArray, List.set_cons_zero, List.set_cons_succ]
                      refine hold_one 15 (by kernel_rfl) rfl (by rfl) fun K hK => ?_
                      have hsrc : 0 < i - p → ∃ g' o, (if c = p then A else Option.map (fun x => x.add (p * 9)) A) = some ⟨g', o, none⟩ ∧ ∀ j u, (flatR (l.drop p))[j]? = some u → w11.cell? ⟨g', o + j, none⟩ = some u := fun h0 => by
                        obtain ⟨g, hA, hce⟩ := HCE.out (by omega)
                        rw [if_neg (by omega), hA]
                        refine ⟨g, p * 9, by rw [Option.map_some, add_off, Nat.zero_add], fun j u hj => ?_⟩
                        rw [flatR_drop, List.getElem?_drop] at hj
                        exact hce _ hb11 _ u hj
                      obtain ⟨v15, w15, hr15, ho15, hb15, hk15⟩ := OwnR.app ho11 hb11 hb11.size (if c = p then A else Option.map (fun x => x.add (p * 9)) A) (i - p) (c - p) (l.drop p) (by rw [List.length_drop, HLN.out]) (hsrc) (by rw [List.length_append, HLT.out]; show p + 1 + (i - p) ≤ 100000; omega) 39
                      refine run_in (fun c h => by cases h) (fun _ _ => trivial) (v := v15) (w' := w15) (appends_exec _ _ _ _ rfl (v11) (tv) (by go_simp) (by go_simp) (by rw [HTV.out]; exact hr15)) ?_
                      rw [← HIT.out.1] at ho15
                      clear hr15 hk15 hsrc
                      refine hK _ _ (.inr (HKS.out _ hb15)) ?_
                      clear hK K
                      simp only [Act.put, List.setIfInBounds_toArray, List.set_cons_zero, List.set_cons_succ]
                      obtain ⟨A9, c9, rfl, hpl9⟩ := H5.out.1.fresh ⟨ho15, hb15⟩ HIT.out.2
                      have HN : Hid (PlAt B w t b m (putT ltE m l k qx).length A9 c9 w15) := cover ⟨_, hpl9⟩
                      refine hold_one 16 (by kernel_rfl) rfl (by rfl) fun K hK => ?_
                      go_simp
                      refine hK _ _ (.inr (HKS.out _ hb15)) (held_done (by kernel_rfl) ?_ _)
                      clear hK K hpl9 ho15 hb15 H5 HPX HCE HTV HIT HKS
                      go_wp2_with fail
                      go_meet
                      exact ⟨_, _, _, rfl, HN⟩
            · by_cases hd4 : qd = 4
              · have h4b : (qd == 4) = true := by rw [beq_iff_eq]; exact hd4
                obtain ⟨⟨k0, k1, k2, k3, k4, k5, k6, k7⟩, _⟩ := HSP.out wr (Below.refl _ _)
                obtain ⟨gv, hgv⟩ : ∃ gv, gv = (getT l k).getD 0 := ⟨_, rfl⟩
                have HG : Hid (∀ W', Below wr.heap.size wr W' → Calls Try.prog 19 #[ptr t, keyV k] W' fun e w' => e = .returned (.tuple #[.int .i64 gv, .bool (hasT l k)]) ∧ Below wr.heap.size wr w') := cover fun W' hb => (getI_has (HPX.out.tab.below hb) HOK.out.2).mono fun e w' ⟨he, hw⟩ => ⟨by rw [he, hgv], hb.trans (hw.mono hb.size)⟩
                have HGV := cover hgv
                have s1 := HKEY.out wr (Below.refl _ _)
                clear HKEY hgv HSP
                go_wp2_with fail
                refine s1.mono ?_
                rintro e w4 ⟨rfl, hb4⟩
                have s2 := HG.out _ hb4
                clear hb4 s1 HG k0 k1 k2 k3 k4 k5 k6 k7 q0
                rcases HAV.out with ⟨hh, ha, z, hz⟩ | ⟨hh, ha⟩
                · rw [hh] at s2
                  subst ha
                  have hp0 : ¬ (p : Int) < 0 := by omega
                  have hp1 : (0 : Int) ≤ (p : Int) := by omega
                  go_wp2_with fail
                  refine s2.mono ?_
                  rintro e w5 ⟨rfl, hb5⟩
                  have h5 := HPX.out.below hb5
                  have hgz : gv = z := by rw [HGV.out, HPX.out.rise |> fun hr => getT_at ltE_ord hr hz]; rfl
                  subst hgz
                  have hpi : p < i := by rw [← HLN.out]; exact (List.getElem?_eq_some_iff.1 hz).1
                  have hpc : p < c := by omega
                  obtain ⟨g, rfl, hgl, _, _, _, _, _, _, _, _, r8⟩ := h5.rows p _ hz
                  have HN : Hid (PlAt B w t b m i (some ⟨g, 0, none⟩) c w5) := cover ⟨l, h5⟩
                  clear s2 hb5 h5 hh hz HGV hgl HPX
                  go_wp2_with fail
                  go_meet
                  exact ⟨_, _, _, rfl, HN⟩
                · rw [hh] at s2
                  subst ha
                  have ha0 : (-1 : Int) < 0 := by decide
                  go_wp2_with fail
                  refine s2.mono ?_
                  rintro e w5 ⟨rfl, hb5⟩
                  have HN : Hid (PlAt B w t b m i A c w5) := cover ⟨l, HPX.out.below hb5⟩
                  clear s2 hb5 hh HGV HPX
                  go_wp2_with fail
                  go_meet
                  exact ⟨_, _, _, rfl, HN⟩
              · have h4b : (qd == 4) = false := by rw [beq_eq_false_iff_ne]; exact hd4
                obtain ⟨⟨k0, k1, k2, k3, k4, k5, k6, k7⟩, _⟩ := HSP.out wr (Below.refl _ _)
                have HD : Hid (∀ W', Below wr.heap.size wr W' → Calls Try.prog 20 #[ptr t, keyV k] W' fun e w' => e = .returned (.bool (hasT l k)) ∧ Hid (PlE B w t b m i A c (delT l k) l w')) := cover fun W' hb => by
                  have h1 := HPX.out.below hb
                  refine (delI_has h1.tab HOK.out.2).mono ?_
                  rintro e w' ⟨rfl, hh⟩
                  exact ⟨rfl, cover (h1.turn hh.out)⟩
                have s1 := HKEY.out wr (Below.refl _ _)
                clear HKEY HSP
                go_wp2_with fail
                refine s1.mono ?_
                rintro e w4 ⟨rfl, hb4⟩
                have s2 := HD.out _ hb4
                clear hb4 s1 HD k0 k1 k2 k3 k4 k5 k6 k7 q0
                rcases HAV.out with ⟨hh, ha, z, hz⟩ | ⟨hh, ha⟩
                · rw [hh] at s2
                  subst ha
                  have hp0 : ¬ (p : Int) < 0 := by omega
                  have hp1 : (0 : Int) ≤ (p : Int) := by omega
                  go_wp2_with fail
                  refine s2.mono ?_
                  rintro e w5 ⟨rfl, H5⟩
                  as_aux_lemma =>
                    have hpi : p < i := by rw [← HLN.out]; exact (List.getElem?_eq_some_iff.1 hz).1
                    have hrise := HPX.out.rise
                    obtain ⟨g, rfl, hgl, _⟩ := H5.out.rows p _ hz
                    obtain ⟨hle, _⟩ := H5.out.le
                    have hpc : p ≤ c := by omega
                    have hpii : (p : Int) + 1 ≤ (i : Int) := by omega
                    have hpii' : p + 1 ≤ i := by omega
                    have hpp0 : ¬ ((p : Int) + 1 < 0) := by omega
                    have hwr : IntKind.i64.wrap ((p : Int) + 1) = (p : Int) + 1 := by rw [IntKind.wrap_i64]; omega
                    obtain ⟨tv, htv⟩ : ∃ tv, tv = Value.slice (if c = p + 1 then some ⟨g, 0, none⟩ else some ⟨g, (p + 1) * 9, none⟩) (i - (p + 1)) (c - (p + 1)) := ⟨_, rfl⟩
                    have HDT : Hid (delT l k = l.take p ++ l.drop (p + 1)) := cover (delT_at ltE_ord hrise hz)
                    have HCE : Hid (∀ wx, Below w5.heap.size w5 wx → ∀ j u, (flatR l)[j]? = some u → wx.cell? ⟨g, j, none⟩ = some u) := cover fun wx hb => OwnR.cells H5.out.row HLN.out hb
                    have hlt : (l.take p).length = p := by rw [List.length_take, HLN.out]; omega
                    have HLT := cover hlt
                    have h3 : (fun W' : World => Below w5.heap.size w5 W' ∧ True) w5.drew := ⟨(Below.refl _ _).drew, trivial⟩
                    have mixed : Try.prog.follows .mixedOrders = true := by kernel_rfl
                    clear hlt hz hh hrise
                    go_wp2_with fail
                    refine (wpIn_wide (n := 0)).1 ?_
                    refine held_begin (fun W' : World => Below w5.heap.size w5 W' ∧ True) 10 mixed ?_
                    refine hold_take 1 _ rfl (by kernel_rfl) (by kernel_rfl) (by kernel_rfl) (by kernel_rfl) (by kernel_rfl) (fun _ _ _ h => h) (by rfl) (fun _ => rfl) h3 (fun w' hS => by obtain ⟨q0, q1⟩ := hS; go_simp; rfl) ?_
                    simp only [Act.put, List.setIfInBounds_toArray, List.set_cons_zero, List.set_cons_succ]
                    refine hold_take 2 _ rfl (by kernel_rfl) (by kernel_rfl) (by kernel_rfl) (by kernel_rfl) (by kernel_rfl) (fun _ _ _ h => h) (by rfl) (fun _ => rfl) h3 (fun w' hS => by obtain ⟨q0, q1⟩ := hS; go_simp; rfl) ?_
                    simp only [Act.put, List.setIfInBounds_toArray, List.set_cons_zero, List.set_cons_succ]
                    refine hold_take 3 (.slice (some ⟨g, 0, none⟩) p c) rfl (by kernel_rfl) (by kernel_rfl) (by kernel_rfl) (by kernel_rfl) (by kernel_rfl) (fun _ _ _ h => h) (by rfl) (fun _ => rfl) h3 (fun w' hS => by obtain ⟨q0, q1⟩ := hS; go_simp; skip) ?_
                    simp only [Act.put, List.setIfInBounds_toArray, List.set_cons_zero, List.set_cons_succ]
                    refine hold_take 5 _ rfl (by kernel_rfl) (by kernel_rfl) (by kernel_rfl) (by kernel_rfl) (by kernel_rfl) (fun _ _ _ h => h) (by rfl) (fun _ => rfl) h3 (fun w' hS => by obtain ⟨q0, q1⟩ := hS; go_simp; rfl) ?_
                    simp only [Act.put, List.setIfInBounds_toArray, List.set_cons_zero, List.set_cons_succ]
                    refine hold_take 6 _ rfl (by kernel_rfl) (by kernel_rfl) (by kernel_rfl) (by kernel_rfl) (by kernel_rfl) (fun _ _ _ h => h) (by rfl) (fun _ => rfl) h3 (fun w' hS => by obtain ⟨q0, q1⟩ := hS; go_simp; rfl) ?_
                    simp only [Act.put, List.setIfInBounds_toArray, List.set_cons_zero, List.set_cons_succ]
                    refine hold_take 7 (.int .i64 ((p : Int) + 1)) rfl (by kernel_rfl) (by kernel_rfl) (by kernel_rfl) (by kernel_rfl) (by kernel_rfl) (fun _ _ _ h => h) (by rfl) (fun _ => rfl) h3 (fun w' hS => by obtain ⟨q0, q1⟩ := hS; go_simp; skip) ?_
                    simp only [Act.put, List.setIfInBounds_toArray, List.set_cons_zero, List.set_cons_succ]
                    refine hold_take 8 tv rfl (by kernel_rfl) (by kernel_rfl) (by kernel_rfl) (by kernel_rfl) (by kernel_rfl) (fun _ _ _ h => h) (by rfl) (fun _ => rfl) h3 (fun w' hS => by obtain ⟨q0, q1⟩ := hS; go_simp; skip) ?_
                    simp only [Act.put, List.setIfInBounds_toArray, List.set_cons_zero, List.set_cons_succ]
                    have HTV := cover htv
                    clear htv
                    refine hold_one 0 (by kernel_rfl) rfl (by rfl) fun K hK => ?_
                    obtain ⟨ho6, hb6⟩ := OwnR.bare (w0 := w5) (w := w5.drew) h3.1 (Nat.le_refl _)
                    obtain ⟨s, hs⟩ : ∃ s, s = w5.heap.size := ⟨_, rfl⟩
                    obtain ⟨w6, hw6⟩ : ∃ w6, w6 = w5.drew.alloc (.cells #[] 44) := ⟨_, rfl⟩
                    have ho6' : OwnR w5.heap.size w6 (.slice (some ⟨s, 0, none⟩) 0 0) [] := by rw [hs, hw6]; exact ho6
                    have hb6' : Below w5.heap.size w5 w6 := by rw [hw6]; exact hb6
                    refine run_in (fun c h => by cases h) (fun _ _ => trivial) (v := .slice (some ⟨s, 0, none⟩) 0 0) (w' := w6) (by rw [hw6, hs]; go_simp) ?_
                    refine hK _ _ (.inr ⟨hb6', trivial⟩) ?_
                    clear hK K ho6 hb6 hw6 hs
                    simp only [Act.put, List.setIfInBounds_toArray, List.set_cons_zero, List.set_cons_succ]
                    refine hold_one 4 (by kernel_rfl) rfl (by rfl) fun K hK => ?_
                    obtain ⟨v7, w7, hr7, ho7, hb7, hk7⟩ := OwnR.app ho6' hb6' hb6'.size (some ⟨g, 0, none⟩) (p) (c) (l.take p) (HLT.out) (fun _ => ⟨g, 0, rfl, fun j u hj => by
                        rw [flatR_take, List.getElem?_take] at hj
                        split at hj
                        · rw [Nat.zero_add]; exact HCE.out _ hb6' j u hj
                        · cases hj⟩) (by simp; omega) 39
                    refine run_in (fun c h => by cases h) (fun _ _ => trivial) (v := v7) (w' := w7) (appends_exec _ _ _ _ rfl (.slice (some ⟨s, 0, none⟩) 0 0) (.slice (some ⟨g, 0, none⟩) p c) (by go_simp) (by go_simp) hr7) ?_
                    rw [List.nil_append] at ho7
                    refine hK _ _ (.inr ⟨hb7, trivial⟩) ?_
                    clear hK K hr7 hk7 ho6' hb6'
                    simp only [Act.put, List.setIfInBounds_toArray, List.set_cons_zero, List.set_cons_succ]
                    refine hold_one 9 (by kernel_rfl) rfl (by rfl) fun K hK => ?_
                    have hsrc : 0 < i - (p + 1) → ∃ g' o, (if c = p + 1 then some (⟨g, 0, none⟩ : Addr) else some ⟨g, (p + 1) * 9, none⟩) = some ⟨g', o, none⟩ ∧ ∀ j u, (flatR (l.drop (p + 1)))[j]? = some u → w7.cell? ⟨g', o + j, none⟩ = some u := fun h0 => by
                      rw [if_neg (by omega)]
                      refine ⟨g, (p + 1) * 9, rfl, fun j u hj => ?_⟩
                      rw [flatR_drop, List.getElem?_drop] at hj
                      exact HCE.out _ hb7 _ u hj
                    obtain ⟨v8, w8, hr8, ho8, hb8, hk8⟩ := OwnR.app ho7 hb7 hb7.size (if c = p + 1 then some (⟨g, 0, none⟩ : Addr) else some ⟨g, (p + 1) * 9, none⟩) (i - (p + 1)) (c - (p + 1)) (l.drop (p + 1)) (by rw [List.length_drop, HLN.out]) (hsrc) (by rw [HLT.out]; omega) 39
                    refine run_in (fun c h => by cases h) (fun _ _ => trivial) (v := v8) (w' := w8) (appends_exec _ _ _ _ rfl (v7) (tv) (by go_simp) (by go_simp) (by rw [HTV.out]; exact hr8)) ?_
                    rw [← HDT.out] at ho8
                    refine hK _ _ (.inr ⟨hb8, trivial⟩) ?_
                    clear hK K hr8 hk8 ho7 hb7 hsrc
                    obtain ⟨A8, c8, rfl, hpl8⟩ := H5.out.fresh ⟨ho8, hb8⟩ (by rw [HDT.out, ← HDT.out]; exact Rise.del HPX.out.rise)
                    have HN : Hid (PlAt B w t b m (delT l k).length A8 c8 w8) := cover ⟨_, hpl8⟩
                    simp only [Act.put, List.setIfInBounds_toArray, List.set_cons_zero, List.set_cons_succ]
                    refine hold_one 10 (by kernel_rfl) rfl (by rfl) fun K hK => ?_
                    go_simp
                    refine hK _ _ (.inr ⟨hb8, trivial⟩) (held_done (by kernel_rfl) ?_ _)
                    clear hK K hpl8 ho8 hb8 H5 HPX HCE HTV
                    go_wp2_with fail
                    go_meet
                    exact ⟨_, _, _, rfl, HN⟩
                · rw [hh] at s2
                  subst ha
                  have ha0 : (-1 : Int) < 0 := by decide
                  go_wp2_with fail
                  refine s2.mono ?_
                  rintro e w5 ⟨rfl, H5⟩
                  have HN : Hid (PlAt B w t b m i A c w5) := cover ⟨l, by
                    have h1 := H5.out
                    rw [delT_no hh] at h1
                    exact h1⟩
                  clear s2 hh H5 HPX
                  go_wp2_with fail
                  go_meet
                  exact ⟨_, _, _, rfl, HN⟩
          case rest =>
            as_aux_lemma =>
              obtain ⟨A', n', c', rfl, hcut⟩ := hcut
              obtain ⟨l', hpl⟩ := hcut.out
              have HPL := cover hpl
              have hn' : n' ≤ 1000 := by have := hpl.tab.most; have := hpl.len; have := HMM.out; omega
              have HLN' : Hid (l'.length = n') := cover hpl.len
              obtain ⟨hc1, hc2⟩ := hpl.le
              obtain ⟨n2, hn2⟩ : ∃ n2 : Nat, n2 = if n' = 0 then 0 else 1 := ⟨_, rfl⟩
              have hmin : min 1 (n' : Int) = (n2 : Int) := by rw [hn2]; split <;> omega
              have hn2n : n2 ≤ n' := by rw [hn2]; split <;> omega
              have CLn : Hid (∀ W', Below wc.heap.size wc W' → Calls Try.prog 21 #[ptr t] W' fun e w' => e = .returned (.int .i64 n') ∧ Below wc.heap.size wc w') := cover fun W' hb => (lenI_has (HPL.out.below hb).tab).mono fun e w' ⟨he, hw⟩ => ⟨by rw [he, HLN'.out], by rw [← hw]; exact hb⟩
              have CW1 : Hid (∀ W', Below wc.heap.size wc W' → Calls Try.prog 23 #[ptr t, .int .i64 (-1)] W' fun e w' => ∃ A c, e = .returned (.slice A n' c) ∧ Hid (Rws w' A l') ∧ Below wc.heap.size wc w') := cover fun W' hb => (walk_any (HPL.out.below hb).tab.1 (-1) n' (by rw [if_neg (by omega)]; exact HLN'.out.symm)).mono fun e w' ho => by
                obtain ⟨A, c, he, ho⟩ := ho
                have e1 : l'.take n' = l' := by rw [← HLN'.out, List.take_length]
                rw [e1, HLN'.out] at he ho
                exact ⟨A, c, he, cover (Rws.of_own ho.out.1), hb.trans (ho.out.2.mono hb.size)⟩
              have htk : (l'.take n2).length = n2 := by rw [List.length_take, HLN'.out]; omega
              have HTK := cover htk
              have CW2 : Hid (∀ W', Below wc.heap.size wc W' → Calls Try.prog 23 #[ptr t, .int .i64 1] W' fun e w' => ∃ A c, e = .returned (.slice A n2 c) ∧ Hid (Rws w' A (l'.take n2)) ∧ Below wc.heap.size wc w') := cover fun W' hb => (walk_any (HPL.out.below hb).tab.1 1 n2 (by rw [HLN'.out, hn2]; split <;> split <;> omega)).mono fun e w' ho => by
                obtain ⟨A, c, he, ho⟩ := ho
                rw [HTK.out] at he ho
                exact ⟨A, c, he, cover (Rws.of_own ho.out.1), hb.trans (ho.out.2.mono hb.size)⟩
              have CS1 : Hid (∀ W' A c, Below wc.heap.size wc W' → Rws W' A l' → Calls Try.prog 22 #[.slice A n' c, .slice A' n' c'] W' fun e w' => e = .returned (.bool true) ∧ Below wc.heap.size wc w') := cover fun W' A c hb hp => (same_same W' HLN'.out (by omega) hp (HPL.out.below hb).rows).mono fun e w' ⟨he, d, hw⟩ => ⟨he, by rw [hw]; exact below_drewN hb d⟩
              have CS2 : Hid (∀ W' A c, Below wc.heap.size wc W' → Rws W' A (l'.take n2) → Calls Try.prog 22 #[.slice A n2 c, .slice A' n2 c'] W' fun e w' => e = .returned (.bool true) ∧ Below wc.heap.size wc w') := cover fun W' A c hb hp => (same_same W' HTK.out (by omega) hp ((HPL.out.below hb).rows.take n2)).mono fun e w' ⟨he, d, hw⟩ => ⟨he, by rw [hw]; exact below_drewN hb d⟩
              have HB0 : Hid (Below wc.heap.size wc wc) := cover (Below.refl _ _)
              have hn2c : n2 ≤ c' := by omega
              have hn2i : (0 : Int) ≤ (n2 : Int) := by omega
              have hn2ci : (n2 : Int) ≤ (c' : Int) := by omega
              clear hcut hpl hn2 htk HPX HYX HP HAV HOK hn1000 hpn
              go_wp2_with fail
              go_region_held3 (fun W' => Below wc.heap.size wc W') (first | exact hbX | exact below_drewN HB0.out 1)
                (first
                  | (go_at_call 21; refine (CLn.out _ (by assumption)).mono ?_; rintro e w6 ⟨rfl, hbX⟩)
                  | (go_at_call 23; (first | (with_reducible refine (CW1.out _ ?_).mono ?_) | (with_reducible refine (CW2.out _ ?_).mono ?_)); (assumption); rintro e w7 ⟨A7, c7, rfl, hp7, hbX⟩)
                  | (go_at_call 22; (first | (with_reducible refine (CS1.out _ _ _ ?_ hp7.out).mono ?_) | (with_reducible refine (CS2.out _ _ _ ?_ hp7.out).mono ?_)); (assumption); rintro e w8 ⟨rfl, hbX⟩))
              all_goals
                have HX : Hid (PlAt B w t b m n' A' c' w8) := cover ⟨l', HPL.out.below hbX⟩
                clear hbX CLn CW1 CW2 CS1 CS2 HB0 HPL
                go_wp2
                go_roundw
                case rel => exact ⟨A', n', c', j + 1, rfl, by go_num, by omega, HX⟩
                case measure => simp [intOf]; omega
    · obtain ⟨l, hpl⟩ := hrel.out
      have HB := cover hpl.bel
      clear hrel hpl
      go_wp2
      go_ret
      exact ⟨rfl, HB.out⟩
set_option maxRecDepth 100000 in
set_option maxHeartbeats 1600000 in
theorem walk_TiesPlays (most : Int) (A : Option Addr) (len cap : Nat) (ds : List DT) (w : World) (hw : (Lit.int .i64 most).wf = true) (hlc : len ≤ cap) (hcm : cap ≤ maxLen) (hd : DeedsT w w.heap.size A len ds ∧ ∀ q ∈ ds, DtOk q) :
    Calls Try.prog 4 #[.int .i64 most, .slice A len cap] w fun e w' => e = .returned (.bool true) ∧ Below w.heap.size w w' := by
  by_cases h1 : (150 : Int) < (len : Int)
  · clear hd hw hcm
    have h2 : 150 < len := by omega
    go_enter Try.func4, Try.ntmps4
    go_wp2_with fail
    refine (awake_any w).mono ?_
    rintro e w0 ⟨rfl, hb0⟩
    go_wp2
    go_ret
    exact ⟨rfl, hb0⟩
  by_cases h2 : 1000 < most
  · clear hd hw hcm
    have h3 : ¬ 150 < len := by omega
    go_enter Try.func4, Try.ntmps4
    go_wp2_with fail
    refine (awake_any w).mono ?_
    rintro e w0 ⟨rfl, hb0⟩
    go_wp2
    go_ret
    exact ⟨rfl, hb0⟩
  · exact plays_walk most A len cap ds w (by omega) (by omega) hd
end Go.Proofs.Ytjkgiepfglimcaa
