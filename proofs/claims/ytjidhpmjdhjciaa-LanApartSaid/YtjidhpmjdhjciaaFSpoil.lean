/- What Spoil does. -/
import Derived.Test.YtjidhpmjdhjciaaFPass
import Derived.Test.YtjidhpmjdhjciaaFBit
namespace Go.Proofs.Ytjidhpmjdhjciaa
open Go.RowKit
set_option linter.unusedVariables false

/-- the first frame's bytes: they are the queue's own, and may be turned -/
theorem FQ.spoil {S : Foot} {w : World} {q : Nat} {m : Int} {b : List Int} {nb : Int} {fs : List (List Int × Int)} (h : FQ S w q m ((b, nb) :: fs)) (h0 : 0 < b.length) :
    ∃ g c, Calls Try.prog 36 #[ptr q, .int .i64 0] w (fun e w' => e = .returned (.tuple #[.agg (fl (some ⟨g, 0, none⟩) b.length c nb), .bool true]) ∧ Below w.heap.size w w') ∧ S g ∧ g < w.heap.size ∧ b.length ≤ c ∧
      ∀ w', Below w.heap.size w w' → (∀ i (hi : i < b.length), w'.cell? ⟨g, i, none⟩ = some (.int .u8 b[i])) ∧ (∀ i, w'.frozen? ⟨g, i, none⟩ = false) ∧
        ∀ i v, i < b.length → FQ S (w'.setCell ⟨g, i, none⟩ (.int .u8 v)) q m ((b.set i v, nb) :: fs) := by
  obtain ⟨G, ps, vs, h1, h2, h3, h4, rfl⟩ := h.ex
  rcases vs with _ | ⟨⟨A, c, l, n⟩, vs⟩
  · cases h2
  have e1 : l = b := by simp at h2; exact h2.1.1
  have e2 : n = nb := by simp at h2; exact h2.1.2
  have e3 : vs.map (fun v => (v.l, v.born)) = fs := by simp at h2; exact h2.2
  subst e1 e2
  have ho := h3 ⟨A, c, l, n⟩ (by simp)
  obtain ⟨A', c', hv, hA⟩ := own_shape ho
  have hA2 : ∃ g, A = some ⟨g, 0, none⟩ := by
    rcases ho.2 with ⟨hv, h9⟩ | ⟨g, cap, cur, hv, _⟩
    · have : l.length = 0 := h9
      omega
    · injection hv with hv; exact ⟨g, hv⟩
  obtain ⟨g, rfl⟩ := hA2
  have hblk : (⟨some ⟨g, 0, none⟩, c, l, n⟩ : FV).blk = some g := rfl
  refine ⟨g, c, peekF_yes h1 0 _ _ _ _ rfl, .inr (.inr (.inr ⟨_, by simp, hblk⟩)), blk_lt ho hblk, own_cap ho, fun w' hb => ?_⟩
  have hk1 : FIn w' q G m ps (List.map FV.item (⟨some ⟨g, 0, none⟩, c, l, n⟩ :: vs)) := h1.below hb
  have hk3 : ∀ v ∈ (⟨some ⟨g, 0, none⟩, c, l, n⟩ : FV) :: vs, OwnB w' 0 v.val v.l := fun v hv => own_keep (h3 v hv) fun j hj => hb.block j (blk_lt (h3 v hv) hj)
  have ho' := hk3 ⟨some ⟨g, 0, none⟩, c, l, n⟩ (by simp)
  refine ⟨fun i hi => ?_, fun i => World.ownsRow.frozenAt ho' i, fun i v hi => ?_⟩
  · rw [World.ownsRow.cellAt ho' i (by simpa using hi), List.getElem?_map, List.getElem?_eq_getElem hi]; rfl
  · obtain ⟨_, cur, hcur⟩ := own_blk ho' hblk
    obtain ⟨n1, n2, n3⟩ := FIn_ne hk1 hcur
    refine ⟨G, ps, ⟨some ⟨g, 0, none⟩, c, l.set i v, n⟩ :: vs, ?_, by simp [e3], ?_, ?_, ?_⟩
    · have : List.map FV.item (⟨some ⟨g, 0, none⟩, c, l.set i v, n⟩ :: vs) = List.map FV.item (⟨some ⟨g, 0, none⟩, c, l, n⟩ :: vs) := by simp [FV.item]
      rw [this]
      refine hk1.keep fun k hk => set_other _ _ ?_
      rcases hk with rfl | hk | hk
      · exact fun e => n1 e.symm
      · exact fun e => n2 (by rw [← e]; exact hk)
      · exact fun e => n3 (by rw [← e]; exact hk)
    · intro u hu
      rcases List.mem_cons.1 hu with rfl | hu'
      · have := (World.ownsRow.stored ho' i (.int .u8 v)).1
        unfold OwnB
        rw [List.length_set, List.map_set]
        show (w'.setCell ⟨g, i, none⟩ (.int .u8 v)).ownsRow 0 _ 1 (.slice (some ⟨g, 0, none⟩) (l.set i v).length c) _ _
        rw [List.length_set]
        exact this
      · refine own_keep (hk3 u (List.mem_cons_of_mem _ hu')) fun j hj => set_other _ _ (fun e => ?_)
        subst e
        rw [List.filterMap_cons, hblk] at h4
        exact (List.nodup_cons.1 h4).1 (List.mem_filterMap.2 ⟨u, hu', hj⟩)
    · simpa [FV.blk, Value.ownBlock] using h4
    · funext k
      apply propext
      unfold qfoot
      simp [FV.blk, Value.ownBlock]
/-- what Spoil leaves -/
noncomputable def spoilB (s : LS) (f t : Int) : Bool := match theRow s f t with | [] => false | x :: _ => decide (0 < x.1.length)
noncomputable def spoilS (s : LS) (f t bit : Int) : LS := match theRow s f t with | [] => s | x :: r => if 0 < x.1.length then setRow' s f t ((turnB x.1 bit, x.2) :: r) else s
theorem spot_walk (bit : Int) (L : Nat) (h0 : 0 < L) (hn : L ≤ 1000000) : (wrap64 (bit.tmod ((L : Int) * 8) + (L : Int) * 8)).tmod ((L : Int) * 8) = (spot bit L : Int) := by
  have := spot_at bit L h0 hn
  rwa [show ((8 * L : Nat) : Int) = (L : Int) * 8 by omega] at this
set_option maxRecDepth 100000 in
set_option maxHeartbeats 1600000 in
theorem spoil_yes {S : Foot} {w : World} {l : Nat} {s : LS} (h : LIn S w l s) (f t bit : Int) {x : List Int × Nat} {r : List (List Int × Nat)} (hr : theRow s f t = x :: r) (hmax : x.1.length ≤ 1000000) (hx0 : 0 < x.1.length) (hxb : Bts x.1) :
    Calls Try.prog 26 #[ptr l, .int .i64 f, .int .i64 t, .int .i64 bit] w fun e w' => e = .returned (.bool (spoilB s f t)) ∧ Hid (LNow S l (spoilS s f t bit) w w') := by
  obtain ⟨ho, hk⟩ := theRow_some hr
  obtain ⟨q, R, hq, hRS, hrow, hclose⟩ := h.open_ f t ho
  have hage := age_of h f t
  have hlen := len_of h f t
  rw [hr] at hq hage hlen
  obtain ⟨nb, hnb⟩ : ∃ nb : Int, nb = (s.now : Int) - (x.2 : Int) := ⟨_, rfl⟩
  obtain ⟨b, a, rfl⟩ : ∃ b a, x = (b, a) := ⟨x.1, x.2, rfl⟩
  simp only at hnb hmax hx0 hxb
  have HE : Hid (∀ y r, encR s.now ((y, a) :: r) = (y, nb) :: encR s.now r) := cover fun _ _ => by rw [hnb]; rfl
  have HH := cover h
  have HC : Hid (∀ w' y, FQ R w' q s.m (encR s.now ((y, a) :: r)) → Moves R R w w' → LNow S l (setRow' s f t ((y, a) :: r)) w w') := cover fun w' y h1 h2 => LNow.of3 (hclose w' R _ h1 h2 (by simpa using hlen) (fun z hz => by
    rcases List.mem_cons.1 hz with rfl | hz
    · exact hage (b, a) (by simp)
    · exact hage z (List.mem_cons_of_mem _ hz)))
  have HB : Hid (spoilB s f t = true) := cover (by unfold spoilB; rw [hr]; simpa using hx0)
  have HS : Hid (spoilS s f t bit = setRow' s f t ((turnB b bit, a) :: r)) := cover (by unfold spoilS; rw [hr]; simp only []; rw [if_pos hx0])
  clear h ho hk hclose hage hlen hnb hr
  have hsw := spot_walk bit b.length hx0 hmax
  have hsl := spot_lt bit hx0
  obtain ⟨k, hkk⟩ : ∃ k, k = spot bit b.length := ⟨_, rfl⟩
  rw [← hkk] at hsw hsl
  have HT : Hid (turnB b bit = turnAt b (k / 8) (k % 8)) := cover (by unfold turnB; rw [hkk])
  clear hkk
  obtain ⟨i, hi⟩ : ∃ i, i = k / 8 := ⟨_, rfl⟩
  obtain ⟨j, hj⟩ : ∃ j, j = k % 8 := ⟨_, rfl⟩
  have hj8 : j < 8 := by omega
  rw [← hi, ← hj] at HT
  rw [← hi] at hsl
  have ei : (k : Int) / 8 = (i : Int) := by omega
  have ej : (k : Int) % 8 = (j : Int) := by omega
  obtain ⟨y, hy⟩ : ∃ y, y = b[i] := ⟨_, rfl⟩
  have hyb : 0 ≤ y ∧ y ≤ 255 := by rw [hy]; exact hxb.at hsl
  have HX : Hid (turnAt b i j = b.set i (bits BinOp.xor IntKind.u8 y (2 ^ j % 256))) := cover (by
    rw [xor8_pow hyb hj8]; unfold turnAt
    rw [List.getD_eq_getElem?_getD, List.getElem?_eq_getElem hsl, hy]; rfl)
  have HY := cover hy
  clear hi hj hy hxb
  go_enter Try.func26, Try.ntmps26
  go_wp2_with fail
  refine hrow.mono ?_
  rintro e w1 ⟨rfl, d, hw1⟩
  have hb1 : Below w.heap.size w w1 := by rw [hw1]; exact below_drewN' _ _
  have hq1 := hq.below hb1
  have hs1 := hb1.size
  rw [HE.out] at hq1
  obtain ⟨g, c, hP, hRg, hgl, hcap, hsp⟩ := hq1.spoil hx0
  have HSP := cover (And.intro hsp (And.intro hRg (And.intro hb1 hs1)))
  clear hw1 hrow hq hsp hq1 hb1
  go_wp2_with fail
  refine hP.mono ?_
  rintro e w2 ⟨rfl, hb2⟩
  obtain ⟨w3, hw3⟩ : ∃ w3, w3 = w2.alloc (.cells #[.slice (some ⟨g, 0, none⟩) b.length c, .int .i64 nb] 73) := ⟨_, rfl⟩
  obtain ⟨z, hz⟩ : ∃ z, z = w2.heap.size := ⟨_, rfl⟩
  have hzl : w3.heap[z]? = some (.cells #[.slice (some ⟨g, 0, none⟩) b.length c, .int .i64 nb] 73 (0, 0)) := by rw [hw3, hz]; exact heap_alloc_new _ _
  have hb13 : Below w1.heap.size w1 w3 := by rw [hw3]; exact hb2.alloc hb2.size _
  have c0 := cell_of_row w3 z 0 _ _ _ hzl
  have c1 := cell_of_row w3 z 1 _ _ _ hzl
  simp at c0 c1
  have cg := (HSP.out.1 w3 hb13).1 i hsl
  rw [← HY.out] at cg
  have fg := (HSP.out.1 w3 hb13).2.1 i
  have hi0 : (0 : Int) ≤ (i : Int) := by omega
  have hi1 : (i : Int) < (b.length : Int) := by omega
  have HB3 := cover hb13
  have HD : Hid (k < 8000000) := cover (by omega)
  have hj80 : (0 : Int) ≤ (j : Int) := by omega
  have hj81 : (j : Int) < 8 := by omega
  clear hP hzl hb13 hb2
  go_wp2_with fail
  rw [← hw3, ← hz]
  clear hw3 hz
  go_region
  have HN : Hid (LNow S l (spoilS s f t bit) w (w3.setCell ⟨g, i, none⟩ (.int .u8 (bits BinOp.xor IntKind.u8 y (2 ^ j % 256)))).drew) := by
    refine cover ?_
    rw [HS.out, HT.out, HX.out]
    have h1 := (HSP.out.1 w3 HB3.out).2.2 i (bits BinOp.xor IntKind.u8 y (2 ^ j % 256)) hsl
    rw [← HE.out] at h1
    refine LNow.then_below (HC.out _ _ h1 ?_) (Below.refl _ _).drew
    exact (Moves.after HSP.out.2.2.1 (Moves.of_below R HB3.out)).setCell (.inl HSP.out.2.1) _ _
  clear cg fg c0 c1
  go_wp2
  go_ret
  exact ⟨ret_bool HB.out.symm, HN⟩
set_option maxRecDepth 100000 in
set_option maxHeartbeats 1600000 in
theorem spoil_no {S : Foot} {w : World} {l : Nat} {s : LS} (h : LIn S w l s) (f t bit : Int) (hr : ∀ x r, theRow s f t = x :: r → x.1 = []) :
    Calls Try.prog 26 #[ptr l, .int .i64 f, .int .i64 t, .int .i64 bit] w fun e w' => e = .returned (.bool (spoilB s f t)) ∧ Hid (LNow S l (spoilS s f t bit) w w') := by
  have HB : Hid (spoilB s f t = false) := cover (by
    unfold spoilB
    rcases hx : theRow s f t with _ | ⟨x, r⟩
    · rfl
    · simp [hr x r hx])
  have HS : Hid (∀ w', Below w.heap.size w w' → LNow S l (spoilS s f t bit) w w') := cover fun w' hb => by
    have : spoilS s f t bit = s := by
      unfold spoilS
      rcases hx : theRow s f t with _ | ⟨x, r⟩
      · rfl
      · simp [hr x r hx]
    rw [this]; exact LNow.below h hb
  by_cases ho : okP s.n f t
  · obtain ⟨q, R, hq, _, hrow, _⟩ := h.open_ f t ho
    rcases hx : theRow s f t with _ | ⟨x, r⟩
    · rw [hx] at hq
      clear h ho hr hx
      go_enter Try.func26, Try.ntmps26
      go_wp2_with fail
      refine hrow.mono ?_
      rintro e w1 ⟨rfl, d, hw1⟩
      have hb1 : Below w.heap.size w w1 := by rw [hw1]; exact below_drewN' _ _
      have hq1 := hq.below hb1
      have hs1 := hb1.size
      clear hw1 hrow hq
      go_wp2_with fail
      refine (peek_q_no hq1 0 (.inr (by simp [encR]))).mono ?_
      rintro e w2 ⟨rfl, hb2⟩
      have hb : Below w.heap.size w w2 := hb1.trans (hb2.mono hs1)
      have HN := cover (fun o => HS.out _ (hb.alloc hb.size o))
      clear hb hb2 hq1 hb1 HS hs1
      go_wp2
      go_ret
      exact ⟨ret_bool HB.out.symm, cover (HN.out _)⟩
    · have hx1 := hr x r hx
      rw [hx] at hq
      obtain ⟨b, a, rfl⟩ : ∃ b a, x = (b, a) := ⟨x.1, x.2, rfl⟩
      simp only at hx1
      subst hx1
      obtain ⟨A, c, _, hP⟩ : ∃ A c, True ∧ ∀ w1, Below w.heap.size w w1 → Calls Try.prog 36 #[ptr q, .int .i64 0] w1 fun e w' => e = .returned (.tuple #[.agg (fl A 0 c ((s.now : Int) - (a : Int))), .bool true]) ∧ Below w1.heap.size w1 w' := by
        obtain ⟨G, ps, vs, h1, h2, h3, h4, rfl⟩ := hq.ex
        rcases vs with _ | ⟨v, vs⟩
        · cases h2
        · have e1 : v.l = [] := by simp [encR] at h2; exact h2.1.1
          have e2 : v.born = (s.now : Int) - (a : Int) := by simp [encR] at h2; exact h2.1.2
          refine ⟨v.A, v.c, trivial, fun w1 hb => ?_⟩
          have := peekF_yes (h1.below hb) 0 v.A v.l.length v.c v.born rfl
          rw [e1, e2] at this
          exact this
      obtain ⟨nb, hnb⟩ : ∃ nb : Int, nb = (s.now : Int) - (a : Int) := ⟨_, rfl⟩
      rw [← hnb] at hP
      clear h ho hr hx hnb hq
      go_enter Try.func26, Try.ntmps26
      go_wp2_with fail
      refine hrow.mono ?_
      rintro e w1 ⟨rfl, d, hw1⟩
      have hb1 : Below w.heap.size w w1 := by rw [hw1]; exact below_drewN' _ _
      have hs1 := hb1.size
      have hP1 := hP w1 hb1
      clear hw1 hrow hP
      go_wp2_with fail
      refine hP1.mono ?_
      rintro e w2 ⟨rfl, hb2⟩
      have hb : Below w.heap.size w w2 := hb1.trans (hb2.mono hs1)
      have HN := cover (fun o => HS.out _ (hb.alloc hb.size o))
      clear hb hb2 hb1 HS hs1 hP1
      go_wp2
      go_ret
      exact ⟨ret_bool HB.out.symm, cover (HN.out _)⟩
  · have hrow := row_none h f t ho
    clear h ho hr
    go_enter Try.func26, Try.ntmps26
    go_wp2_with fail
    refine hrow.mono ?_
    rintro e w1 ⟨rfl, d, hw1⟩
    have hb1 : Below w.heap.size w w1 := by rw [hw1]; exact below_drewN' _ _
    have hs1 := hb1.size
    clear hw1 hrow
    go_wp2_with fail
    refine (peek_nil w1).mono ?_
    rintro e w2 ⟨rfl, hb2⟩
    have hb : Below w.heap.size w w2 := hb1.trans (hb2.mono hs1)
    have HN := cover (fun o => HS.out _ (hb.alloc hb.size o))
    clear hb hb2 hb1 HS hs1
    go_wp2
    go_ret
    exact ⟨ret_bool HB.out.symm, cover (HN.out _)⟩
theorem spoil_any {S : Foot} {w : World} {l : Nat} {s : LS} (h : LIn S w l s) (f t bit : Int) (hmax : ∀ x ∈ theRow s f t, x.1.length ≤ 1000000 ∧ Bts x.1) :
    Calls Try.prog 26 #[ptr l, .int .i64 f, .int .i64 t, .int .i64 bit] w fun e w' => e = .returned (.bool (spoilB s f t)) ∧ Hid (LNow S l (spoilS s f t bit) w w') := by
  rcases hr : theRow s f t with _ | ⟨x, r⟩
  · exact spoil_no h f t bit (fun x r e => by rw [hr] at e; cases e)
  · have hx := hmax x (by rw [hr]; simp)
    by_cases h0 : 0 < x.1.length
    · exact spoil_yes h f t bit hr hx.1 h0 hx.2
    · exact spoil_no h f t bit (fun y r' e => by rw [hr] at e; injection e with e1 e2; rw [← e1]; exact List.eq_nil_of_length_eq_zero (by omega))
end Go.Proofs.Ytjidhpmjdhjciaa
