/- What Filter does, asked by the law's own question. -/
import Derived.Test.YtjidhpmjdhjciaaFRef
import Derived.Test.YtjidhpmjdhjciaaFDel
import Derived.Test.YtjidhpmjdhjciaaFRow
namespace Go.Proofs.Ytjidhpmjdhjciaa
open Go.RowKit
set_option linter.unusedVariables false

theorem refd_mem {x : FV → Bool} {zs : List (Nat × FV)} (hn : (zs.map Prod.fst).Nodup) {z : Nat × FV} (hz : z ∈ zs) : z.1 ∈ refd x zs ↔ x z.2 = false := by
  unfold refd
  constructor
  · intro h
    obtain ⟨y, hy, he⟩ := List.mem_map.1 h
    obtain ⟨hy1, hy2⟩ := List.mem_filter.1 hy
    have : y = z := by
      obtain ⟨i, hi, rfl⟩ := List.mem_iff_getElem.1 hy1
      obtain ⟨j, hj, rfl⟩ := List.mem_iff_getElem.1 hz
      have hp := List.pairwise_iff_getElem.1 hn
      simp only [List.length_map, List.getElem_map] at hp
      have : i = j := by
        rcases Nat.lt_trichotomy i j with h1 | h1 | h1
        · exact absurd he (hp i j hi hj h1)
        · exact h1
        · exact absurd he.symm (hp j i hj hi h1)
      subst this; rfl
    rw [← this]; simpa using hy2
  · intro h
    exact List.mem_map.2 ⟨z, List.mem_filter.2 ⟨hz, by simp [h]⟩, rfl⟩
/-- those that stay -/
def kept (x : FV → Bool) (zs : List (Nat × FV)) : List (Nat × FV) := zs.filter fun z => x z.2
theorem kept_fst {x : FV → Bool} {zs : List (Nat × FV)} (hn : (zs.map Prod.fst).Nodup) : (zs.map Prod.fst).filter (fun p => !decide (p ∈ refd x zs)) = (kept x zs).map Prod.fst := by
  rw [List.filter_map]
  unfold kept
  congr 1
  refine List.filter_congr fun z hz => ?_
  have := refd_mem (x := x) hn hz
  simp only [Function.comp]
  cases hb : x z.2 with
  | true => rw [hb] at this; simp [this]
  | false => rw [hb] at this; simp [this]

/-- how far the marks have come -/
structure MarkAt (w2 : World) (zs : List (Nat × FV)) (rs : List Nat) (k : Nat) (w : World) : Prop where
  tur : Turned (zs.map Prod.fst) w2 w
  cel : ∀ z ∈ zs, w.heap[z.1]? = some (.cells ((FV.item z.2).push (.bool (decide (z.1 ∈ rs.take k)))) 94 (0, 0))
def FilOut (x : FV → Bool) (q : Nat) (G : Option Nat) (m : Int) (zs : List (Nat × FV)) (w w' : World) : Prop :=
  FIn w' q G m ((kept x zs).map Prod.fst) (((kept x zs).map Prod.snd).map FV.item) ∧ Turned (q :: (G.toList ++ zs.map Prod.fst)) w w'

set_option maxRecDepth 100000 in
set_option maxHeartbeats 1600000 in
theorem filter_any {w : World} {q l : Nat} {G : Option Nat} {m : Int} (x : FV → Bool) (zs : List (Nat × FV)) (h : FIn w q G m (zs.map Prod.fst) ((zs.map Prod.snd).map FV.item)) (hbig : zs.length ≤ 1000000)
    (HLV : ∀ W', Below w.heap.size w W' → ∀ v ∈ zs.map Prod.snd, Calls Try.prog 51 #[ptr l, .agg #[.slice v.A v.l.length v.c, .int .i64 v.born]] W' fun e w' => e = .returned (.bool (x v)) ∧ Below W'.heap.size W' w') :
    Calls Try.prog 50 #[ptr q, .func (.func 51) #[ptr l] #[]] w fun e w' => e = .returned (.int .i64 ((zs.length : Int) - ((kept x zs).length : Int))) ∧ Hid (FilOut x q G m zs w w') := by
  have hfn : ∀ w : World, (binOp .eql 75 (.func (.func 51) #[ptr l] #[]) Value.nilFunc).run Try.prog w = .ok (.bool false) w := fun _ => by kernel_rfl
  have HR := refused_any x zs h hbig HLV
  have HQ := cover h
  clear h HLV
  go_enter Try.func50, Try.ntmps50
  go_wp2_with fail
  refine HR.mono ?_
  clear HR
  rintro e w2 ⟨Ar, cr, rfl, hown, hb2⟩
  obtain ⟨Gr, hv, hGr⟩ := VRow.of_own hown
  have hQ2 := HQ.out.below hb2
  have hrl : (refd x zs).length ≤ zs.length := by unfold refd; rw [List.length_map]; exact List.length_filter_le _ _
  have hsub : ∀ p ∈ refd x zs, p ∈ zs.map Prod.fst := fun p hp => by
    unfold refd at hp
    obtain ⟨z, hz, rfl⟩ := List.mem_map.1 hp
    exact List.mem_map.2 ⟨z, (List.mem_filter.1 hz).1, rfl⟩
  have HV := cover (And.intro hv (And.intro hGr (And.intro hb2 hsub)))
  have HST : Hid (MarkAt w2 zs (refd x zs) 0 w2) := cover ⟨Turned.refl _ _, fun z hz => by
    obtain ⟨i, hi, rfl⟩ := List.mem_iff_getElem.1 hz
    have := hQ2.cells i zs[i].1 (FV.item zs[i].2) (by simp [hi]) (by simp [hi])
    simpa using this⟩
  have HQ2 := cover hQ2
  clear hown hv hGr hb2 hQ2 hsub
  obtain ⟨rs, hrs⟩ : ∃ rs, rs = refd x zs := ⟨_, rfl⟩
  rw [← hrs] at hrl HST HV ⊢
  have HRS := cover hrs
  clear hrs
  go_wp2_with fail
  go_loopw [6, 18] (fun _ i wr => ∃ k : Nat, k ≤ rs.length ∧ i = .int .i64 k ∧ Hid (MarkAt w2 zs rs k wr)) (fun _ i _ => rs.length - (intOf i).toNat)
  case atStart => exact ⟨0, Nat.zero_le _, rfl, HST⟩
  case round =>
    obtain ⟨k, hk, rfl, hrel⟩ := hrel
    by_cases hlt : k < rs.length
    · obtain ⟨p, hp⟩ : ∃ p, rs[k]? = some p := ⟨_, List.getElem?_eq_getElem hlt⟩
      obtain ⟨g, o, hg, rfl, hc⟩ := HV.out.1.cell (k := k) (v := ptr p) (by simp [hp])
      have hpz := HV.out.2.2.2 p (List.mem_of_getElem? hp)
      obtain ⟨z, hz, hzp⟩ := List.mem_map.1 hpz
      have hce := hrel.out.cel z hz
      rw [hzp] at hce
      have hgn : g ∉ zs.map Prod.fst := fun hm => by
        obtain ⟨z', hz', he⟩ := List.mem_map.1 hm
        obtain ⟨cur, hcur⟩ := HV.out.1.lt hg
        obtain ⟨i, hi, rfl⟩ := List.mem_iff_getElem.1 hz'
        have := HQ2.out.cells i zs[i].1 (FV.item zs[i].2) (by simp [hi]) (by simp [hi])
        exact type_ne this hcur (by decide) he
      have hc2 : wr.cell? ⟨g, o + k, none⟩ = some (ptr p) := by
        obtain ⟨cur, hcur⟩ := HV.out.1.lt hg
        rw [← hc]; exact World.cell?_of_block (hrel.out.tur.block g (block_lt hcur) hgn)
      have hcp : wr.cell? ⟨p, 2, none⟩ = some (.bool (decide (p ∈ rs.take k))) := by rw [cell_of_row _ _ _ _ _ _ hce]; rfl
      have hfp : wr.frozen? ⟨p, 2, none⟩ = false := by simp [World.frozen?, hce]
      have HN : Hid (MarkAt w2 zs rs (k + 1) (wr.setCell ⟨p, 2, none⟩ (.bool true))) := by
        refine cover ⟨hrel.out.tur.setCell (.inl hpz) _ _, fun y hy => ?_⟩
        have htk : rs.take (k + 1) = rs.take k ++ [p] := by rw [List.take_add_one, hp]; rfl
        by_cases hyp : y.1 = p
        · have h5 := hrel.out.cel y hy
          rw [hyp] at h5 ⊢
          rw [set_block h5, htk]
          simp
        · rw [set_other _ _ hyp, hrel.out.cel y hy, htk]
          simp [hyp]
      clear hp hc hpz hz hzp hce hgn hg hrel
      go_wp2
      go_roundw
      case rel => exact ⟨k + 1, by omega, by go_num, HN⟩
      case measure => simp [intOf]; omega
    · obtain rfl : k = rs.length := by omega
      have hM := hrel.out
      have hcel : ∀ z ∈ zs, wr.heap[z.1]? = some (.cells ((FV.item z.2).push (.bool (decide (z.1 ∈ rs)))) 94 (0, 0)) := fun z hz => by have := hM.cel z hz; rwa [List.take_length] at this
      obtain ⟨A, c, hh, hr⟩ := HQ2.out.ex
      have hnq : ∀ j (cs : Array Value) (T : TypeId), w2.heap[j]? = some (.cells cs T (0, 0)) → T ≠ 94 → j ∉ zs.map Prod.fst := fun j cs T hj hT hm => by
        obtain ⟨z', hz', he⟩ := List.mem_map.1 hm
        obtain ⟨i, hi, rfl⟩ := List.mem_iff_getElem.1 hz'
        have := HQ2.out.cells i zs[i].1 (FV.item zs[i].2) (by simp [hi]) (by simp [hi])
        exact type_ne this hj (fun e => hT e.symm) he
      have hq3 : wr.heap[q]? = some (.cells #[.int .i64 m, .slice A (zs.map Prod.fst).length c] 92 (0, 0)) := hM.tur.at_ hh (hnq q _ _ hh (by decide))
      have hr3 : PRow 95 wr G A c (zs.map Prod.fst) := hr.other hM.tur (fun g hg => by obtain ⟨cur, hc⟩ := hr.lt hg; exact hnq g _ _ hc (by decide))
      have hc0 : wr.cell? ⟨q, 0, none⟩ = some (.int .i64 m) := by rw [cell_of_row _ _ _ _ _ _ hq3]; rfl
      have hc1 : wr.cell? ⟨q, 1, none⟩ = some (.slice A (zs.map Prod.fst).length c) := by rw [cell_of_row _ _ _ _ _ _ hq3]; rfl
      have HD := delete_gone (fun p => decide (p ∈ rs)) hr3 (by simpa using hbig) (fun p hp => by
        obtain ⟨z, hz, rfl⟩ := List.mem_map.1 hp
        rw [cell_of_row _ _ _ _ _ _ (hcel z hz)]; rfl) (fun p hp hG => by
        obtain ⟨z, hz, rfl⟩ := List.mem_map.1 hp
        obtain ⟨cur, hc⟩ := hr3.lt hG
        exact type_ne (hcel z hz) hc (by decide) rfl)
      have hks : (zs.map Prod.fst).filter (fun p => !decide (p ∈ rs)) = (kept x zs).map Prod.fst := by rw [HRS.out]; exact kept_fst HQ2.out.nd
      have hfin : ∀ w5, PRow 95 w5 G A c ((kept x zs).map Prod.fst) → Turned G.toList wr w5 → (w5.cell? ⟨q, 1, none⟩ = some (.slice A (zs.map Prod.fst).length c) ∧ w5.frozen? ⟨q, 1, none⟩ = false ∧ w5.cell? ⟨q, 0, none⟩ = some (.int .i64 m)) ∧ Hid (FilOut x q G m zs w (w5.setCell ⟨q, 1, none⟩ (.slice A (kept x zs).length c))) := fun w5 hp5 hT5 => by
        have hqG : q ∉ G.toList := fun hm => by
          obtain ⟨cur, hc⟩ := hr3.lt (by simpa using hm)
          exact type_ne hc hq3 (by decide) rfl
        have hq5 := hT5.at_ hq3 hqG
        refine ⟨⟨by rw [cell_of_row _ _ _ _ _ _ hq5]; rfl, by simp [World.frozen?, hq5], by rw [cell_of_row _ _ _ _ _ _ hq5]; rfl⟩, cover ⟨⟨⟨A, c, ?_, ?_⟩, by simp, ?_, ?_⟩, ?_⟩⟩
        · rw [set_block hq5]; simp
        · exact hp5.keep fun g hg => by
            obtain ⟨cur, hc⟩ := hp5.lt hg
            exact set_other _ _ (type_ne hc hq5 (by decide))
        · intro i p y hi hy
          rw [List.getElem?_map] at hi
          obtain ⟨z, hz, rfl⟩ := Option.map_eq_some_iff.1 hi
          have hzk := List.mem_of_getElem? hz
          have hzz := (List.mem_filter.1 hzk).1
          have hzb := (List.mem_filter.1 hzk).2
          simp [hz] at hy
          subst hy
          have h6 := hcel z hzz
          have hnr : z.1 ∉ rs := fun hm => by
            rw [HRS.out] at hm
            have := (refd_mem HQ2.out.nd hzz).1 hm
            simp [this] at hzb
          rw [decide_eq_false hnr] at h6
          rw [set_other _ _ (type_ne h6 hq3 (by decide))]
          refine hT5.at_ h6 (fun hm => ?_)
          obtain ⟨cur, hc⟩ := hr3.lt (by simpa using hm)
          exact type_ne h6 hc (by decide) rfl
        · exact HQ2.out.nd.sublist ((List.filter_sublist).map _)
        · have h8 : Turned (q :: (G.toList ++ zs.map Prod.fst)) w w2 := Turned.of_below HV.out.2.2.1
          refine ((h8.trans hM.tur (fun i hi => .inl (by simp only [List.mem_cons, List.mem_append]; exact .inr (.inr hi)))).trans hT5 (fun i hi => .inl (by simp only [List.mem_cons, List.mem_append]; exact .inr (.inl hi)))).setCell (.inl (by simp)) _ _
      have HF := cover hfin
      have hl2 : (kept x zs).length ≤ zs.length := List.length_filter_le _ _
      unfold DelOut at HD
      rw [hks] at HD
      rw [List.length_map] at HD hc1 HF
      rw [show ((kept x zs).map Prod.fst).length = (kept x zs).length by simp] at HD
      have hzl : (zs.map Prod.fst).length = zs.length := by simp
      have HDD := cover HD
      clear hM hcel hh hr hnq hq3 hr3 HD hks hfin hrel hzl
      generalize hKL : (kept x zs).length = kl at HDD HF hl2 ⊢
      have HKL := cover hKL
      clear hKL
      go_wp2_with fail
      refine HDD.out.mono ?_
      rintro e w5 ⟨rfl, hp5, hT5⟩
      obtain ⟨⟨hd1, hd2, hd3⟩, HO⟩ := HF.out w5 hp5 hT5
      have hw : IntKind.i64.wrap ((zs.length : Int) - (kl : Int)) = (zs.length : Int) - (kl : Int) := by rw [IntKind.wrap_i64]; omega
      clear hp5 hT5 hc0 hc1
      go_wp2
      go_ret
      exact ⟨by rw [HKL.out]; rfl, HO⟩

end Go.Proofs.Ytjidhpmjdhjciaa
