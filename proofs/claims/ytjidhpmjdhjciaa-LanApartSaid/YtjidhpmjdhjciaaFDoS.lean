/- The law's question whether two rows are the same; the document's lan is made. What a deed makes of a lan's plain state: what stays, what grows, which rows turn. -/
import Derived.Deep.RegionHeld3
import Derived.Test.YtjidhpmjdhjciaaFDo
namespace Go.Proofs.Ytjidhpmjdhjciaa
open Go.RowKit
set_option linter.unusedVariables false

theorem RRow.flies {w : World} {A : Option Addr} {c : Nat} {us : List UV} (h : RRow w (.slice A us.length c) us) : Flies w A us.length (tell2 us) := by
  refine ⟨by simp [tell2], fun k x hk => ?_⟩
  unfold tell2 at hk
  rw [List.getElem?_map] at hk
  obtain ⟨u, hu, rfl⟩ := Option.map_eq_some_iff.1 hk
  have hne : us ≠ [] := fun e => by rw [e] at hu; cases hu
  obtain ⟨g, c2, e1, _, _, hgl, hcell⟩ := h.at_ hne
  injection e1 with e1
  subst e1
  obtain ⟨f1, f2⟩ := flat_get us k u hu
  exact ⟨g, u.A, u.c, rfl, hgl, hcell _ _ f1, hcell _ _ f2, (h.own u (List.mem_of_getElem? hu)).row⟩
set_option maxRecDepth 100000 in
set_option maxHeartbeats 1600000 in
theorem row_same {w : World} {A A' : Option Addr} {n c c' : Nat} {rs : List (List Int × Int)} (h : Flies w A n rs) (h' : Flies w A' n rs) (hn : n ≤ 1000) (hmax : ∀ x ∈ rs, x.1.length ≤ 1000000) :
    Calls Try.prog 22 #[.slice A n c, .slice A' n c'] w fun e w' => e = .returned (.bool true) ∧ Below w.heap.size w w' := by
  have HH := cover (And.intro h (And.intro h' hmax))
  clear h h' hmax
  go_enter Try.func22, Try.ntmps22
  go_wp2
  go_loopw [5] (fun v wr => ∃ k : Nat, k ≤ n ∧ v = .int .i64 k ∧ Hid (Below w.heap.size w wr)) (fun v _ => n - (intOf v).toNat)
  case atStart => exact ⟨0, Nat.zero_le _, rfl, cover (Below.refl _ _)⟩
  case round =>
    obtain ⟨k, hk, rfl, hrel⟩ := hrel
    by_cases hlt : k < n
    · obtain ⟨x, hx⟩ : ∃ x, rs[k]? = some x := ⟨_, List.getElem?_eq_getElem (by rw [HH.out.1.len]; exact hlt)⟩
      obtain ⟨g, B, cb, rfl, hg, c1, c2, hr⟩ := HH.out.1.at_ k x hx
      obtain ⟨g', B', cb', rfl, hg', c1', c2', hr'⟩ := HH.out.2.1.at_ k x hx
      have hb := hrel.out
      have d1 := (hb.cell (p := ⟨g, k * 2, none⟩) hg).trans c1
      have d2 := (hb.cell (p := ⟨g, k * 2 + 1, none⟩) hg).trans c2
      have d1' := (hb.cell (p := ⟨g', k * 2, none⟩) hg').trans c1'
      have d2' := (hb.cell (p := ⟨g', k * 2 + 1, none⟩) hg').trans c2'
      have HS : Hid (∀ W', Below wr.heap.size wr W' → Calls Try.prog 17 #[.slice B x.1.length cb, .slice B' x.1.length cb'] W' fun e w' => e = .returned (.bool true) ∧ ∃ d, w' = W'.drewN d) := cover fun W' hb2 => by
        have hbw := hb.trans (hb2.mono hb.size)
        have h9 := same_any B B' x.1.length cb cb' _ _ x.1 x.1 W' (hr.below hbw) (hr'.below hbw) (by have := HH.out.2.2 x (List.mem_of_getElem? hx); omega)
        rwa [decide_eq_true rfl] at h9
      have HK : Hid (∀ W', Below wr.heap.size wr W' → W'.cell? ⟨g, k * 2, none⟩ = some (.slice B x.1.length cb) ∧ W'.cell? ⟨g, k * 2 + 1, none⟩ = some (.int .i64 x.2) ∧ W'.cell? ⟨g', k * 2, none⟩ = some (.slice B' x.1.length cb') ∧ W'.cell? ⟨g', k * 2 + 1, none⟩ = some (.int .i64 x.2)) := cover fun W' hb2 => by
        have hs := hb.size
        exact ⟨(hb2.cell (p := ⟨g, k * 2, none⟩) (by show g < _; omega)).trans d1, (hb2.cell (p := ⟨g, k * 2 + 1, none⟩) (by show g < _; omega)).trans d2, (hb2.cell (p := ⟨g', k * 2, none⟩) (by show g' < _; omega)).trans d1', (hb2.cell (p := ⟨g', k * 2 + 1, none⟩) (by show g' < _; omega)).trans d2'⟩
      have HB := cover hb
      have hk0 : (0 : Int) ≤ (k : Int) := by omega
      have hk1 : (k : Int) < (n : Int) := by omega
      obtain ⟨y, hy⟩ : ∃ y, y = x.2 := ⟨_, rfl⟩
      obtain ⟨m, hm⟩ : ∃ m, m = x.1.length := ⟨_, rfl⟩
      rw [← hm] at HS
      rw [← hm, ← hy] at HK
      clear hx c1 c2 c1' c2' d1 d2 d1' d2' hr hr' hb hrel hg hg' hy hm
      go_wp2_with fail
      go_region_held3 (fun W' => W'.cell? ⟨g, k * 2, none⟩ = some (.slice B m cb) ∧ W'.cell? ⟨g, k * 2 + 1, none⟩ = some (.int .i64 y) ∧ W'.cell? ⟨g', k * 2, none⟩ = some (.slice B' m cb') ∧ W'.cell? ⟨g', k * 2 + 1, none⟩ = some (.int .i64 y))
        (first | exact HK.out _ (Below.refl _ _).drew | exact HK.out _ (below_drewN' _ _))
        (first | (go_at_call 17; refine (HS.out _ (Below.refl _ _).drew).mono ?_; rintro e w1 ⟨rfl, d, rfl⟩))
      have HN : Hid (Below w.heap.size w (wr.drewN (1 + d))) := cover (HB.out.trans ((below_drewN' wr (1 + d)).mono HB.out.size))
      generalize wr.drewN (1 + d) = w5 at HN ⊢
      go_wp2
      go_roundw
      case rel => exact ⟨k + 1, by omega, by go_num, HN⟩
      case measure => simp [intOf]; omega
    · obtain rfl : k = n := by omega
      go_wp2
      go_ret
      exact ⟨rfl, hrel.out⟩
/-- a lan of the document's own on which nothing is on its way -/
theorem RIn.fresh {w : World} {r g n m life : Nat} {cur : Array Value} (hn : 1 ≤ n ∧ n ≤ 16) (hm : m ≤ 64) (h1 : w.heap[r]? = some (.cells #[.int .i64 n, .int .i64 m, .int .i64 life, .int .i64 0, .slice (some ⟨g, 0, none⟩) ((n * n : Nat)) (n * n)] 50 (0, 0)))
    (h2 : w.heap[g]? = some (.cells cur 46 (0, 0))) (h3 : n * n ≤ cur.size) (h4 : ∀ k, k < n * n → cur[k]? = some (.slice none 0 0)) : RIn (fun i => i = r ∨ i = g) w r (LS.fresh n m life) := by
  refine ⟨hn.1, hn.2, hm, fun k => Nat.zero_le _, g, n * n, cur, fun _ => .slice none 0 0, fun _ => [], h1, h2, h3, fun k hk => ⟨h4 k hk, RRow.nil w, rfl⟩, fun k j i hk hj hkj hi => by simp [vfoot, Value.ownBlock] at hi, ?_⟩
  funext i
  apply propext
  constructor
  · rintro (h | h)
    · exact .inl h
    · exact .inr (.inl h)
  · rintro (h | h | ⟨k, _, h | ⟨u, hu, _⟩⟩)
    · exact .inl h
    · exact .inr h
    · simp [vfoot, Value.ownBlock] at h
    · cases hu
end Go.Proofs.Ytjidhpmjdhjciaa

namespace Go.Proofs.Ytjidhpmjdhjciaa
open Go.RowKit
set_option linter.unusedVariables false

def Sm1 (s : LS) : Prop := ∀ k, ∀ x ∈ s.rows k, x.1.length ≤ 200 ∧ Bts x.1
/-- a lan behind so many deeds -/
structure FitT (s : LS) (T : Nat) : Prop where
  now : s.now ≤ T
  lost : s.lost ≤ 20000 * T
  sm : Sm1 s
theorem FitT.fit {s : LS} {T : Nat} (h : FitT s T) (hage : ∀ k, ∀ x ∈ s.rows k, x.2 ≤ s.now) (hT : T ≤ 4000) : Fit s :=
  ⟨by have := h.now; omega, by have := h.lost; omega, fun k x hx => ⟨(h.sm k x hx).1, (h.sm k x hx).2, by have := hage k x hx; have := h.now; omega⟩⟩
theorem fitT_fresh (n m life T : Nat) : FitT (LS.fresh n m life) T := ⟨Nat.zero_le _, Nat.zero_le _, fun k x hx => by cases hx⟩
theorem sm_row {s : LS} (h : Sm1 s) (f t : Int) : ∀ x ∈ theRow s f t, x.1.length ≤ 200 ∧ Bts x.1 := by
  unfold theRow; split
  · exact h _
  · intro x hx; cases hx
theorem sm_upd {s : LS} (h : Sm1 s) (k : Nat) {r : List (List Int × Nat)} (hr : ∀ x ∈ r, x.1.length ≤ 200 ∧ Bts x.1) : Sm1 (s.upd k r) := fun j x hx => by
  by_cases hj : j = k
  · subst hj; rw [LS.upd_at] at hx; exact hr x hx
  · rw [LS.upd_ne _ _ hj] at hx; exact h j x hx
theorem sm_send {s : LS} (h : Sm1 s) (f t : Int) {b : List Int} (hb : b.length ≤ 200 ∧ Bts b) : Sm1 (sendS s f t b) := by
  unfold sendS
  split
  · split
    · refine sm_upd h _ (fun x hx => ?_)
      rcases List.mem_append.1 hx with hx | hx
      · exact h _ x hx
      · simp at hx; subst hx; exact hb
    · exact h
  · exact h
theorem sm_put {s : LS} (h : Sm1 s) (f : Int) {b : List Int} (hb : b.length ≤ 200 ∧ Bts b) (a k : Nat) : Sm1 (putTo s f b a k).1 := by
  induction k with
  | zero => exact h
  | succ k ih => exact sm_send ih _ _ hb
theorem sm_pass {s : LS} (h : Sm1 s) (f t : Int) : Sm1 (passS s f t) := by
  have h1 := sm_row h f t
  unfold passS
  split
  · exact h
  · rename_i x r hr
    exact sm_upd h _ (fun y hy => h1 y (by rw [hr]; exact List.mem_cons_of_mem _ hy))
theorem sm_drop {s : LS} (h : Sm1 s) (f t : Int) : Sm1 (dropS s f t) := by
  have h1 := sm_row h f t
  unfold dropS
  split
  · exact h
  · rename_i x r hr
    exact sm_upd h _ (fun y hy => h1 y (by rw [hr]; exact List.mem_cons_of_mem _ hy))
theorem sm_twice {s : LS} (h : Sm1 s) (f t : Int) : Sm1 (twiceS s f t) := by
  have h1 := sm_row h f t
  unfold twiceS
  split
  · exact h
  · rename_i x r hr
    split
    · refine sm_upd h _ (fun y hy => ?_)
      rcases List.mem_cons.1 hy with rfl | hy
      · exact h1 y (by rw [hr]; simp)
      · exact h1 y (by rw [hr]; exact hy)
    · exact h
theorem sm_spoil {s : LS} (h : Sm1 s) (f t bit : Int) : Sm1 (spoilS s f t bit) := by
  have h1 := sm_row h f t
  unfold spoilS
  split
  · exact h
  · rename_i x r hr
    split
    · refine sm_upd h _ (fun y hy => ?_)
      rcases List.mem_cons.1 hy with rfl | hy
      · have := h1 x (by rw [hr]; simp)
        exact ⟨by rw [turnB_length]; exact this.1, turnB_bts this.2 _⟩
      · exact h1 y (by rw [hr]; exact List.mem_cons_of_mem _ hy)
    · exact h
theorem sm_older {r : List (List Int × Nat)} (h : ∀ x ∈ r, x.1.length ≤ 200 ∧ Bts x.1) : ∀ x ∈ older r, x.1.length ≤ 200 ∧ Bts x.1 := fun x hx => by
  obtain ⟨y, hy, rfl⟩ := List.mem_map.1 hx
  exact h y hy
theorem sm_age {s : LS} (h : Sm1 s) : Sm1 (ageS s) := fun k x hx => by
  have hx' : x ∈ (if k < s.n * s.n then lasts s.life (older (s.rows k)) else older (s.rows k)) := hx
  split at hx'
  · exact sm_older (h k) x (List.mem_filter.1 hx').1
  · exact sm_older (h k) x hx'
theorem sm_cutR {s : LS} (h : Sm1 s) (f t : Int) : Sm1 (cutR s f t) := by
  unfold cutR
  split
  · exact h
  · exact sm_upd h _ (fun y hy => by cases hy)
theorem len_cutR {s : LS} (h : ∀ k, (s.rows k).length ≤ 64) (f t : Int) : ∀ k, ((cutR s f t).rows k).length ≤ 64 := fun k => by
  unfold cutR
  split
  · exact h k
  · unfold setRow'
    by_cases hj : k = keyP s.n f t
    · subst hj; rw [LS.upd_at]; exact Nat.zero_le _
    · rw [LS.upd_ne _ _ hj]; exact h k
theorem len_row {s : LS} (h : ∀ k, (s.rows k).length ≤ 64) (f t : Int) : (theRow s f t).length ≤ 64 := by
  unfold theRow; split
  · exact h _
  · exact Nat.zero_le _
theorem cutTo_facts {s : LS} (h : Sm1 s) (hl : ∀ k, (s.rows k).length ≤ 64) (st : Int) (k : Nat) : Sm1 (cutTo s st k).1 ∧ (∀ j, ((cutTo s st k).1.rows j).length ≤ 64) ∧ (cutTo s st k).2 ≤ 128 * k := by
  induction k with
  | zero => exact ⟨h, hl, Nat.le_refl _⟩
  | succ k ih =>
    obtain ⟨h1, h2, h3⟩ := ih
    refine ⟨sm_cutR (sm_cutR h1 _ _) _ _, len_cutR (len_cutR h2 _ _) _ _, ?_⟩
    have e1 := len_row h2 st k
    have e2 := len_row (len_cutR h2 st k) k st
    show (cutTo s st k).2 + (_ + _) ≤ _
    omega
/-- a deed keeps the lan's numbers; what is lost grows by no more than so many -/
theorem FitT.step {s : LS} {T : Nat} (h : FitT s T) (hl : ∀ k, (s.rows k).length ≤ 64) (hn : s.n ≤ 16) (q : DV) (hb : q.b.length ≤ 200 ∧ Bts q.b) : FitT (doS s q) (T + 1) ∧ (doS s q).n = s.n ∧ (doS s q).m = s.m ∧ (doS s q).life = s.life := by
  have h1 := h.now
  have h2 := h.lost
  unfold doS
  split
  · obtain ⟨e1, e2, e3, e4, e5⟩ := send_same s q.f q.t q.b
    exact ⟨⟨by rw [e4]; omega, by omega, sm_send h.sm _ _ hb⟩, e1, e2, e3⟩
  split
  · unfold putR
    split
    · exact ⟨⟨by show s.now ≤ _; omega, by show s.lost ≤ _; omega, h.sm⟩, rfl, rfl, rfl⟩
    · obtain ⟨e1, e2, e3, e4, e5, _⟩ := putTo_same s q.f q.b (putA s q.b).1 (putA s q.b).2
      have : (putA s q.b).2 ≤ 16 := by
        unfold putA; split
        · show (1 : Nat) ≤ 16; decide
        · exact hn
      exact ⟨⟨by rw [e4]; omega, by omega, sm_put h.sm _ hb _ _⟩, e1, e2, e3⟩
  split
  · refine ⟨⟨?_, ?_, sm_pass h.sm _ _⟩, ?_⟩ <;> unfold passS <;> split <;> first | (show s.now ≤ _; omega) | (show s.lost ≤ _; omega) | exact ⟨rfl, rfl, rfl⟩
  split
  · refine ⟨⟨?_, ?_, sm_drop h.sm _ _⟩, ?_⟩ <;> unfold dropS <;> split <;> first | (show s.now ≤ _; omega) | (show s.lost ≤ _; omega) | (show s.lost + 1 ≤ _; omega) | exact ⟨rfl, rfl, rfl⟩
  split
  · refine ⟨⟨?_, ?_, sm_twice h.sm _ _⟩, ?_⟩ <;> unfold twiceS <;> split <;> (try split) <;> first | (show s.now ≤ _; omega) | (show s.lost ≤ _; omega) | exact ⟨rfl, rfl, rfl⟩
  split
  · refine ⟨⟨?_, ?_, sm_spoil h.sm _ _ _⟩, ?_⟩ <;> unfold spoilS <;> split <;> (try split) <;> first | (show s.now ≤ _; omega) | (show s.lost ≤ _; omega) | exact ⟨rfl, rfl, rfl⟩
  split
  · have hg := goneTo_le' s 64 hl (s.n * s.n)
    have hnn : s.n * s.n ≤ 16 * 16 := Nat.mul_le_mul hn hn
    exact ⟨⟨by show s.now + 1 ≤ _; omega, by show s.lost + ageN s ≤ _; unfold ageN; omega, sm_age h.sm⟩, rfl, rfl, rfl⟩
  · obtain ⟨e1, e2, e3, e4, e5⟩ := cutTo_same s q.f s.n
    obtain ⟨g1, g2, g3⟩ := cutTo_facts h.sm hl q.f s.n
    exact ⟨⟨by show (cutTo s q.f s.n).1.now ≤ _; rw [e4]; omega, by show (cutTo s q.f s.n).1.lost + cutN s q.f ≤ _; rw [e5]; unfold cutN; omega, g1⟩, e1, e2, e3⟩

/-! ### which rows turn -/
theorem row_upd_ne {s : LS} {k : Nat} {r : List (List Int × Nat)} {a b : Int} (h : okP s.n a b → keyP s.n a b ≠ k) : theRow (s.upd k r) a b = theRow s a b := by
  unfold theRow
  have e : (s.upd k r).n = s.n := rfl
  rw [e]
  split
  · rename_i ho; exact LS.upd_ne _ _ (h ho)
  · rfl
theorem key3_ne {f t : Int} (h : okP 3 f t) (hne : ¬ (f = 0 ∧ t = 1)) : keyP 3 0 1 ≠ keyP 3 f t := by
  obtain ⟨a, b, rfl, rfl, ha, hb, hab, hk⟩ := okP_nat h
  rw [hk]
  have e : keyP 3 0 1 = 1 := rfl
  rw [e]
  intro he
  have : a = 0 ∧ b = 1 := by omega
  exact hne ⟨by omega, by omega⟩
/-- deeds of other rows turn nothing of the row from the first station to the second one -/
theorem apart_other {s : LS} (hn : s.n = 3) {q : DV} (h3 : q.what ≠ 3) (h10 : q.what < 10) (hne : ¬ (q.f = 0 ∧ q.t = 1)) : theRow (doS s q) 0 1 = theRow s 0 1 := by
  have hk : okP s.n q.f q.t → keyP s.n 0 1 ≠ keyP s.n q.f q.t := fun ho => by rw [hn] at ho ⊢; exact key3_ne ho hne
  have hset : ∀ x r r', theRow s q.f q.t = x :: r → theRow (setRow' s q.f q.t r') 0 1 = theRow s 0 1 := fun x r r' hr => row_upd_ne (fun _ => hk (theRow_some hr).1)
  unfold doS
  split
  · unfold sendS
    split
    · rename_i ho
      split
      · exact row_upd_ne (fun _ => hk ho)
      · rfl
    · rfl
  split
  · unfold passS; split
    · rfl
    · rename_i x r hr; exact hset x r r hr
  split
  · unfold dropS; split
    · rfl
    · rename_i x r hr; exact hset x r r hr
  split
  · unfold twiceS; split
    · rfl
    · rename_i x r hr
      split
      · exact hset x r _ hr
      · rfl
  split
  · unfold spoilS; split
    · rfl
    · rename_i x r hr
      split
      · exact hset x r _ hr
      · rfl
  · split <;> omega
/-- what befalls that row alone comes of that row alone -/
theorem apart_same {s s' : LS} (hn : s.n = 3) (hn' : s'.n = 3) (hm : s.m = s'.m) (hf : s.life = s'.life) {q : DV} (h3 : q.what ≠ 3) (h10 : q.what ≤ 10) (hy : q.f = 0 ∧ q.t = 1 ∨ q.what = 10) (he : theRow s 0 1 = theRow s' 0 1) : theRow (doS s q) 0 1 = theRow (doS s' q) 0 1 := by
  have ho : okP s.n 0 1 := by rw [hn]; exact ok_01 3 (by decide)
  have ho' : okP s'.n 0 1 := by rw [hn']; exact ok_01 3 (by decide)
  by_cases h : q.what = 10
  · have e1 : doS s q = ageS s := by unfold doS; rw [if_neg (by omega), if_neg h3, if_neg (by omega), if_neg (by omega), if_neg (by omega), if_neg (by omega), if_pos h]
    have e2 : doS s' q = ageS s' := by unfold doS; rw [if_neg (by omega), if_neg h3, if_neg (by omega), if_neg (by omega), if_neg (by omega), if_neg (by omega), if_pos h]
    rw [e1, e2]
    have r1 : ∀ {u : LS}, u.n = 3 → theRow (ageS u) 0 1 = lasts u.life (older (theRow u 0 1)) := fun {u} hu => by
      have hou : okP u.n 0 1 := by rw [hu]; exact ok_01 3 (by decide)
      have hou' : okP (ageS u).n 0 1 := hou
      rw [theRow_ok hou, theRow_ok hou']
      show (if keyP u.n 0 1 < u.n * u.n then lasts u.life (older (u.rows (keyP u.n 0 1))) else older (u.rows (keyP u.n 0 1))) = _
      rw [if_pos (by rw [hu]; decide)]
    rw [r1 hn, r1 hn', he, hf]
  · obtain ⟨e0, e1⟩ : q.f = 0 ∧ q.t = 1 := hy.resolve_right h
    have rs : ∀ r, theRow (setRow' s 0 1 r) 0 1 = r := fun r => row_set ho r
    have rs' : ∀ r, theRow (setRow' s' 0 1 r) 0 1 = r := fun r => row_set ho' r
    unfold doS
    rw [e0, e1]
    split
    · by_cases hfull : (theRow s 0 1).length < s.m
      · rw [sendS_yes ho hfull, sendS_yes ho' (by rw [← he, ← hm]; exact hfull), rs, rs', he]
      · rw [sendS_full ho hfull, sendS_full ho' (by rw [← he, ← hm]; exact hfull)]; exact he
    split
    · rcases hr : theRow s 0 1 with _ | ⟨x, r⟩
      · rw [(pass_none hr).2.2, (pass_none (he ▸ hr)).2.2]; exact he
      · rw [(pass_row hr).2.2, (pass_row (he ▸ hr)).2.2, rs, rs']
    split
    · have d : ∀ {u : LS}, okP u.n 0 1 → theRow (dropS u 0 1) 0 1 = (theRow u 0 1).tail := fun {u} hu => by
        unfold dropS
        split
        · rename_i hr; rw [hr]; rfl
        · rename_i x r hr; rw [hr]; exact row_set hu r
      rw [d ho, d ho', he]
    split
    · have d : ∀ {u : LS}, okP u.n 0 1 → theRow (twiceS u 0 1) 0 1 = (match theRow u 0 1 with | [] => [] | x :: r => if (x :: r).length < u.m then x :: x :: r else x :: r) := fun {u} hu => by
        unfold twiceS
        rcases hr : theRow u 0 1 with _ | ⟨x, r⟩
        · exact hr
        · simp only []
          split
          · exact row_set hu _
          · exact hr
      rw [d ho, d ho', he, hm]
    split
    · have d : ∀ {u : LS}, okP u.n 0 1 → theRow (spoilS u 0 1 q.bit) 0 1 = (match theRow u 0 1 with | [] => [] | x :: r => if 0 < x.1.length then (turnB x.1 q.bit, x.2) :: r else x :: r) := fun {u} hu => by
        unfold spoilS
        rcases hr : theRow u 0 1 with _ | ⟨x, r⟩
        · exact hr
        · simp only []
          split
          · exact row_set hu _
          · exact hr
      rw [d ho, d ho', he]
    · omega
end Go.Proofs.Ytjidhpmjdhjciaa
