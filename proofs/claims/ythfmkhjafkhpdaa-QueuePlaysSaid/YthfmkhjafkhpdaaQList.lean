/- Lists of the law's own: a slice of values that lies from some cell on in its row; what is put behind it; two of them compared; deeds that come in. -/
import Derived.Deep.QuietTactic
import Derived.BigQuiet
import Derived.Deep.Slices
import Derived.Deep.Strs
import Derived.Test.YthfmkhjafkhpdaaQMem
import Derived.Test.YthfmkhjafkhpdaaOFrame
namespace Go.Proofs.Ythfmkhjafkhpdaa
open Go.RowKit
set_option linter.unusedVariables false

/-- a slice of values of one cell each: its row lies in block G, from some cell on -/
structure VRow (TE : TypeId) (w : World) (G : Option Nat) (A : Option Addr) (c : Nat) (vs : List Value) : Prop where
  ex : (G = none ∧ A = none ∧ c = 0 ∧ vs = []) ∨ ∃ g o cur, G = some g ∧ A = some ⟨g, o, none⟩ ∧ w.heap[g]? = some (.cells cur TE (0, 0)) ∧ o + c ≤ cur.size ∧ vs.length ≤ c ∧
    ∀ (k : Nat) (v : Value), vs[k]? = some v → cur[o + k]? = some v
section
variable {TE : TypeId} {w w' : World} {G : Option Nat} {A : Option Addr} {c : Nat} {vs : List Value}
theorem VRow.nil (TE : TypeId) (w : World) : VRow TE w none none 0 [] := ⟨.inl ⟨rfl, rfl, rfl, rfl⟩⟩
theorem VRow.keep (h : VRow TE w G A c vs) (hk : ∀ g, G = some g → w'.heap[g]? = w.heap[g]?) : VRow TE w' G A c vs := by
  rcases h.ex with h0 | ⟨g, o, cur, h1, h2, h3, h4⟩
  · exact ⟨.inl h0⟩
  · exact ⟨.inr ⟨g, o, cur, h1, h2, (hk g h1).trans h3, h4⟩⟩
theorem VRow.lt (h : VRow TE w G A c vs) {g : Nat} (hg : G = some g) : ∃ cur, w.heap[g]? = some (.cells cur TE (0, 0)) := by
  rcases h.ex with ⟨h0, _⟩ | ⟨g', o, cur, h1, h2, h3, h4⟩
  · rw [h0] at hg; cases hg
  · rw [h1] at hg; cases hg; exact ⟨cur, h3⟩
theorem VRow.cap (h : VRow TE w G A c vs) : vs.length ≤ c := by
  rcases h.ex with ⟨_, _, rfl, rfl⟩ | ⟨g, o, cur, h1, h2, h3, h4, h5, h6⟩
  · exact Nat.le_refl _
  · exact h5
theorem VRow.cell (h : VRow TE w G A c vs) {k : Nat} {v : Value} (hk : vs[k]? = some v) : ∃ g o, G = some g ∧ A = some ⟨g, o, none⟩ ∧ w.cell? ⟨g, o + k, none⟩ = some v := by
  rcases h.ex with ⟨_, _, _, rfl⟩ | ⟨g, o, cur, h1, h2, h3, h4, h5, h6⟩
  · cases hk
  · exact ⟨g, o, h1, h2, by rw [cell_of_row w g _ cur TE (0, 0) h3]; exact h6 k v hk⟩
theorem VRow.below (h : VRow TE w G A c vs) (hb : Below w.heap.size w w') : VRow TE w' G A c vs :=
  h.keep fun g hg => by obtain ⟨cur, hc⟩ := h.lt hg; exact hb.block g (block_lt hc)
theorem VRow.spare {ts : List TypeId} {B : Nat} (h : VRow TE w G A c vs) (hS : Spare ts B w w') (hT : TE ∉ ts) : VRow TE w' G A c vs :=
  h.keep fun g hg => by
    obtain ⟨cur, hc⟩ := h.lt hg
    rw [hc]; exact hS.block g _ hc (.inr fun c T f e => by injection e with _ e2; subst e2; exact hT)
/-- what is left behind the first k -/
theorem VRow.drop (h : VRow TE w G A c vs) {k : Nat} (hk : k ≤ vs.length) : VRow TE w G (if c = k then A else A.map (·.add k)) (c - k) (vs.drop k) := by
  rcases h.ex with ⟨h1, rfl, rfl, rfl⟩ | ⟨g, o, cur, h1, rfl, h3, h4, h5, h6⟩
  · simp at hk; subst hk; exact ⟨.inl ⟨h1, by simp, rfl, rfl⟩⟩
  · refine ⟨.inr ⟨g, if c = k then o else o + k, cur, h1, ?_, h3, by split <;> omega, by rw [List.length_drop]; omega, fun j v hj => ?_⟩⟩
    · by_cases hck : c = k <;> simp [hck, add_off]
    · rw [List.getElem?_drop] at hj
      obtain ⟨hlt, _⟩ := List.getElem?_eq_some_iff.1 hj
      rw [if_neg (show ¬ c = k by omega), Nat.add_assoc]
      exact h6 _ v hj
/-- the first k -/
theorem VRow.take (h : VRow TE w G A c vs) (k : Nat) : VRow TE w G A c (vs.take k) := by
  rcases h.ex with ⟨h1, rfl, rfl, rfl⟩ | ⟨g, o, cur, h1, rfl, h3, h4, h5, h6⟩
  · exact ⟨.inl ⟨h1, rfl, rfl, by simp⟩⟩
  · refine ⟨.inr ⟨g, o, cur, h1, rfl, h3, h4, by rw [List.length_take]; omega, fun j v hj => ?_⟩⟩
    rw [List.getElem?_take] at hj
    split at hj
    · exact h6 j v hj
    · cases hj
theorem VRow.rowK {κ : IntKind} {l : List Int} (h : VRow TE w G A c (l.map (.int κ))) : RowK κ w w.heap.size A l.length l :=
  ⟨rfl, fun k hk => by
    obtain ⟨g, o, h1, h2, h3⟩ := h.cell (k := k) (v := .int κ l[k]) (by simp [List.getElem?_eq_getElem hk])
    obtain ⟨cur, hc⟩ := h.lt h1
    exact ⟨_, h2, block_lt hc, by rw [add_off]; exact h3⟩⟩
end
theorem VRow.of_own {TE : TypeId} {w : World} {base n c : Nat} {A : Option Addr} {vs : List Value} (h : w.ownsRow base TE 1 (.slice A n c) n vs) : ∃ G, VRow TE w G A c vs ∧ ∀ g, G = some g → base ≤ g := by
  rcases h.2 with ⟨hv, h0⟩ | ⟨g, cap, cur, hv, hg, hh, hnc, hcm, hsz, htk⟩
  · injection hv with h1 h2 h3
    subst h1 h3 h0
    have := h.1
    simp at this
    subst this
    exact ⟨none, VRow.nil _ _, fun g hg => by cases hg⟩
  · injection hv with h1 h2 h3
    subst h1 h3
    have hl := h.1
    simp at hl
    refine ⟨some g, ⟨.inr ⟨g, 0, cur, rfl, rfl, hh, by simp at hsz; omega, by omega, fun k v hk => ?_⟩⟩, fun g' hg' => by injection hg' with e; omega⟩
    have hlt := (List.getElem?_eq_some_iff.1 hk).1
    rw [← htk, List.getElem?_take_of_lt (by omega)] at hk
    rw [Nat.zero_add]; simpa using hk

/-- so many more behind the row: in its room, or in a new row -/
theorem append_vrow {P : Program} {w : World} {TS TE : TypeId} {i : TypeInfo} {z : Value} (ht : P.underlying TS = some (.slice TE)) (hi : P.info? TE = some i) (hz : i.zero = some z) (hs : i.size = 1) (hb : i.bytes = 8) (hz1 : z.cells.size = 1)
    {G : Option Nat} {A : Option Addr} {c : Nat} {vs : List Value} (h : VRow TE w G A c vs) {x : Value} {n : Nat} {news : List Value} (hsrc : Src P 1 TS x n news w) (hpos : A ≠ none ∨ 0 < n) (hbig : (vs.length + n) * 8 ≤ 140737488355328) :
    ∃ A' c' G' w', (∀ ty, (Builtin.append_ #[TS, TS] ty #[.slice A vs.length c, x]).run P w = .ok (.slice A' (vs.length + n) c') w') ∧ VRow TE w' G' A' c' (vs ++ news) ∧ Turned G.toList w w' ∧ Next w G G' ∧ A' ≠ none := by
  have hln : news.length = n := by have := hsrc.newsLen; omega
  rw [← hs] at hsrc
  have hgrow : c < vs.length + n → ∀ (olds : List Value), (Builtin.firstCells i.size vs.length (.slice A vs.length c)).run P w.drew = .ok olds.toArray w.drew → olds = vs →
      ∃ A' c' G' w', (∀ ty, (Builtin.append_ #[TS, TS] ty #[.slice A vs.length c, x]).run P w = .ok (.slice A' (vs.length + n) c') w') ∧ VRow TE w' G' A' c' (vs ++ news) ∧ Turned G.toList w w' ∧ Next w G G' ∧ A' ≠ none := by
    intro hc olds hold ho
    have hrun := fun ty => run_append_grow_src w TS TS ty TE i _ ht hi hz A vs.length c olds hold x n news hsrc hc (by omega) (by rw [hb]; exact growslice_fits hc hbig)
    have hge := grownCap_ge w (vs.length + n) c TE
    refine ⟨_, _, some w.heap.size, _, hrun, ⟨.inr ⟨w.heap.size, 0, _, rfl, rfl, heap_alloc_new w.drew _, ?_, ?_, ?_⟩⟩, (Turned.refl _ _).drew.alloc _, .inr ⟨_, rfl, Nat.le_refl _⟩, by simp⟩
    · subst ho; simp [Builtin.zeroCells, hz1]; omega
    · simp; omega
    · subst ho
      intro k q hk
      obtain ⟨hlt, hkq⟩ := List.getElem?_eq_some_iff.1 hk
      rw [Nat.zero_add, Array.getElem?_append_left (by simpa using hlt)]
      simpa using hk
  rcases h.ex with ⟨rfl, rfl, rfl, rfl⟩ | ⟨g, o, cur, rfl, rfl, hcur, hsz, hle, hat⟩
  · refine hgrow (by simp at hpos ⊢; omega) [] ?_ rfl
    exact run_firstCells_none w.drew i.size 0 0 0
  · by_cases hroom : vs.length + n ≤ c
    · have hrun := fun ty => run_append_room_src w TS TS ty TE i ht hi g o vs.length c x n news hsrc hroom
        (fun j hj => by rw [hs, Nat.mul_one, cell_of_row w g _ cur TE (0, 0) hcur, Array.getElem?_eq_getElem (by omega)]; rfl) (fun j hj => by simp [World.frozen?, hcur])
      refine ⟨_, _, some g, _, hrun, ⟨.inr ⟨g, o, _, rfl, rfl, setCells_block _ _ _ _ hcur, ?_, ?_, ?_⟩⟩, (Turned.refl _ _).setCells (.inl (by simp)) _ _, .inl rfl, by simp⟩
      · rw [setAll_size]; exact hsz
      · simp; omega
      · intro k q hk
        rw [hs, Nat.mul_one]
        by_cases hkl : k < vs.length
        · rw [List.getElem?_append_left hkl] at hk
          rw [setAll_out _ _ _ _ (by omega)]
          exact hat k q hk
        · rw [List.getElem?_append_right (by omega)] at hk
          have hlt := (List.getElem?_eq_some_iff.1 hk).1
          have := setAll_in news cur (o + vs.length) (k - vs.length) (by omega) hlt
          rw [show o + vs.length + (k - vs.length) = o + k by omega] at this
          rw [this]; exact hk
    · refine hgrow (by omega) vs ?_ rfl
      rw [hs]
      refine run_firstCells_some w.drew 1 vs.length ⟨g, o, none⟩ vs.length c _ (by simp) (fun j u hj => ?_)
      rw [add_off]
      show w.cell? _ = _
      rw [cell_of_row w g _ cur TE (0, 0) hcur]
      exact hat j u hj
/-- one value, just laid in a block of its own -/
theorem src_one {P : Program} {w : World} {TS TE : TypeId} (ht : P.underlying TS = some (.slice TE)) (g : Nat) (u : Value) (h : w.cell? ⟨g, 0, none⟩ = some u) (h1 : u.oneCell' = true) : Src P 1 TS (.slice (some ⟨g, 0, none⟩) 1 1) 1 [u] w :=
  Src.ofSlice w ht ⟨g, 0, none⟩ 1 1 [u] rfl (fun j v hj => by
    rcases j with _ | j
    · simp at hj; subst hj; rw [add_off]; exact h
    · simp at hj) (by intro v hv; simp at hv; subst hv; exact h1)
theorem src_row {P : Program} {w : World} {TS TE TF : TypeId} {G : Option Nat} {A : Option Addr} {c : Nat} {vs : List Value} (ht : P.underlying TS = some (.slice TE)) (h : VRow TF w G A c vs) (h1 : ∀ v ∈ vs, v.oneCell' = true) (hn : A ≠ none) : Src P 1 TS (.slice A vs.length c) vs.length vs w := by
  rcases A with _ | ad
  · exact absurd rfl hn
  · refine Src.ofSlice w ht ad vs.length c vs (by simp) (fun j v hj => ?_) h1
    obtain ⟨g, o, _, h2, h3⟩ := h.cell hj
    injection h2 with h2
    rw [h2, add_off]; exact h3

theorem take_snoc_eq {a b : List Int} {k : Nat} {x y : Int} (ha : a[k]? = some x) (hb : b[k]? = some y) (h : a.take k = b.take k) (e : x = y) : a.take (k + 1) = b.take (k + 1) := by
  rw [List.take_add_one, List.take_add_one, h, ha, hb, e]
theorem ne_of_at {a b : List Int} {k : Nat} {x y : Int} (ha : a[k]? = some x) (hb : b[k]? = some y) (e : ¬ x = y) : a ≠ b := by
  rintro rfl
  rw [ha] at hb; injection hb with hb; exact e hb
theorem ints_len (A A' : Option Addr) (n c m c' : Nat) (w : World) (h : n ≠ m) :
    Calls Try.prog 25 #[.slice A n c, .slice A' m c'] w fun e w' => e = .returned (.bool false) ∧ ∃ d, w' = w.drewN d := by
  have hne : ((n : Int) != (m : Int)) = true := by rw [bne_iff_ne]; omega
  go_enter Try.func25, Try.ntmps25
  go_wp2
  go_ret
  exact ⟨rfl, 0, rfl⟩
set_option maxHeartbeats 400000 in
theorem ints_same (A A' : Option Addr) (n c c' B B' : Nat) (l l' : List Int) (w : World) (h1 : RowK .i64 w B A n l) (h2 : RowK .i64 w B' A' n l') (hmax : n ≤ 9223372036854775807) :
    Calls Try.prog 25 #[.slice A n c, .slice A' n c'] w fun e w' => e = .returned (.bool (decide (l = l'))) ∧ ∃ d, w' = w.drewN d := by
  go_enter Try.func25, Try.ntmps25
  go_wp2
  go_loopw [5] (fun i wr => ∃ k : Nat, k ≤ n ∧ i = .int .i64 k ∧ Hid (l.take k = l'.take k) ∧ ∃ d, wr = w.drewN d) (fun i _ => n - (intOf i).toNat)
  case atStart => exact ⟨0, Nat.zero_le _, rfl, cover rfl, 0, rfl⟩
  case round =>
    obtain ⟨k, hk, rfl, heq, d, rfl⟩ := hrel
    by_cases hlt : k < n
    · obtain ⟨ad, x, rfl, had, hc, hx⟩ := h1.at_ hlt
      obtain ⟨ad', y, rfl, had', hc', hy⟩ := h2.at_ hlt
      by_cases hxy : x = y
      · have hn := take_snoc_eq hx.out hy.out heq.out hxy
        have HN := cover hn
        subst hxy
        clear hn
        go_wp2_with fail
        go_quiet (fail)
        go_wp2
        go_roundw
        case rel => exact ⟨k + 1, by omega, by go_num, HN, _, rfl⟩
        case measure => simp [intOf]; omega
      · have hn := ne_of_at hx.out hy.out hxy
        have HN := cover hn
        clear hn
        go_wp2_with fail
        go_quiet (fail)
        go_wp2
        go_ret
        exact ⟨ret_bool (by simp [HN.out]), _, World.drewN_drewN _ _ _⟩
    · obtain rfl : k = n := by omega
      have hl1 := h1.len
      have hl2 := h2.len
      have HN := cover (show l = l' by have := heq.out; rwa [List.take_of_length_le (by omega), List.take_of_length_le (by omega)] at this)
      clear hl1 hl2
      go_wp2
      go_ret
      exact ⟨ret_bool (by simp [HN.out]), _, rfl⟩
theorem ints_any (A A' : Option Addr) (n m c c' B B' : Nat) (l l' : List Int) (w : World) (h1 : RowK .i64 w B A n l) (h2 : RowK .i64 w B' A' m l') (hmax : n ≤ 9223372036854775807) (hmax' : m ≤ 9223372036854775807) :
    Calls Try.prog 25 #[.slice A n c, .slice A' m c'] w fun e w' => e = .returned (.bool (decide (l = l'))) ∧ ∃ d, w' = w.drewN d := by
  by_cases h : n = m
  · subst h; exact ints_same A A' n c c' B B' l l' w h1 h2 hmax
  · have hne : l ≠ l' := fun e => h (by rw [← h1.len, ← h2.len, e])
    rw [decide_eq_false hne]
    exact ints_len A A' n c m c' w h

/-- a slice of deeds that came in: of each its three numbers -/
structure Deeds (w : World) (B : Nat) (A : Option Addr) (n : Nat) (ds : List (Int × Int × Int)) : Prop where
  len : ds.length = n
  cells : ∀ k (h : k < ds.length), ∃ ad, A = some ad ∧ ad.block < B ∧ w.cell? (ad.add (k * 3)) = some (.int .i64 ds[k].1) ∧ w.cell? ⟨(ad.add (k * 3)).block, (ad.add (k * 3)).off + 1, none⟩ = some (.int .i64 ds[k].2.1) ∧ w.cell? ⟨(ad.add (k * 3)).block, (ad.add (k * 3)).off + 2, none⟩ = some (.int .i64 ds[k].2.2)
theorem Deeds.below {w w' : World} {B n : Nat} {A : Option Addr} {ds : List (Int × Int × Int)} (h : Deeds w B A n ds) (hb : Below B w w') : Deeds w' B A n ds :=
  ⟨h.len, fun k hk => by
    obtain ⟨ad, e, hlt, h0, h1, h2⟩ := h.cells k hk
    have hx : ∀ q : Addr, q.block = (ad.add (k * 3)).block → w'.cell? q = w.cell? q := fun q hq => hb.cell (by rw [hq, addr_add_block]; exact hlt)
    exact ⟨ad, e, hlt, (hx _ rfl).trans h0, (hx ⟨(ad.add (k * 3)).block, (ad.add (k * 3)).off + 1, none⟩ rfl).trans h1, (hx ⟨(ad.add (k * 3)).block, (ad.add (k * 3)).off + 2, none⟩ rfl).trans h2⟩⟩
set_option maxRecDepth 100000 in
open Go.ChangeShapes Go.WideShapes Go.ChangeAt in
theorem deeds_in {H : Type} {enc : TypeId × Value → H} {W : World} {r : Reach} {base : Nat} {v : Value} {d : DataW H} {p : List MemPlace}
    (hv : Value.okWide Try.prog W r base 34 v) (h : DataW.Trod enc Try.prog W 0 (fun _ => true) true 34 v d p) :
    ∃ A len cap ds, v = .slice A len cap ∧ len ≤ cap ∧ cap ≤ maxLen ∧ Deeds W W.heap.size A len ds ∧ ∀ q ∈ ds, -9223372036854775808 ≤ q.2.2 ∧ q.2.2 ≤ 9223372036854775807 := by
  obtain ⟨a, len, cap, rfl⟩ := okWide_slice Try.underlying34 hv
  obtain ⟨fuel, hf⟩ := h
  rcases Go.Deep.open_slice Try.underlying34 hf with ⟨hcs, _⟩ | ⟨a', len', cap', m, n, D, Pl, hcs, _, hl, hm, hmm, _, hi⟩
  · simp [Value.cells] at hcs
    obtain ⟨rfl, rfl, rfl⟩ := hcs
    exact ⟨none, 0, 0, [], rfl, Nat.le_refl _, Nat.zero_le _, ⟨rfl, fun k hk => by simp at hk⟩, fun q hq => by cases hq⟩
  · simp [Value.cells] at hcs
    obtain ⟨rfl, rfl, rfl⟩ := hcs
    have hc3 : Try.prog.cellsOf 37 = 3 := by kernel_rfl
    have hci : Try.prog.cellsOf 3 = 1 := by kernel_rfl
    have hlm : len ≤ m := by rw [hmm]; split <;> omega
    obtain ⟨ds, hdl, hds⟩ := list_of (n := len) (P := fun i (q : Int × Int × Int) => W.cell? (a'.add (i * 3)) = some (.int .i64 q.1) ∧ W.cell? ⟨(a'.add (i * 3)).block, (a'.add (i * 3)).off + 1, none⟩ = some (.int .i64 q.2.1) ∧ W.cell? ⟨(a'.add (i * 3)).block, (a'.add (i * 3)).off + 2, none⟩ = some (.int .i64 q.2.2) ∧ (Lit.int .i64 q.2.2).wf = true) (fun i hil => by
      obtain ⟨cs', h1, h2⟩ := hi i (by omega)
      rw [hc3] at h1
      obtain ⟨_, hlen, hat⟩ := World.cells?_some h1
      obtain ⟨y0, y1, y2, n', _, _, h3, h4, h5⟩ := Go.Deep.trod_struct3 Try.underlying37 h2
      match cs', hlen with
      | [c0, c1, c2], _ =>
        simp [hci] at h3 h4 h5
        obtain ⟨x, e0, _, wx⟩ := DataW.trod_int Try.underlying3 h3
        obtain ⟨y, e1, _, wy⟩ := DataW.trod_int Try.underlying3 h4
        obtain ⟨z, e2, _, wz⟩ := DataW.trod_int Try.underlying3 h5
        simp at e0 e1 e2
        subst e0 e1 e2
        exact ⟨(x, y, z), hat 0 (by omega), hat 1 (by omega), hat 2 (by omega), wz⟩)
    refine ⟨some a', len, cap, ds, rfl, hl, hm, ⟨hdl, fun k hk => ⟨a', rfl, by
      have := cell_in (hds k hk).1; rw [addr_add_block] at this; exact this, (hds k hk).1, (hds k hk).2.1, (hds k hk).2.2.1⟩⟩, fun q hq => ?_⟩
    obtain ⟨k, hk, rfl⟩ := List.mem_iff_getElem.1 hq
    have hw := (hds k hk).2.2.2
    simp only [Lit.wf, Bool.and_eq_true, decide_eq_true_eq] at hw
    exact hw
end Go.Proofs.Ythfmkhjafkhpdaa
