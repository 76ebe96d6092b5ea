/- Words for the laws over a hearing: how what was asked comes in, how the lists read, what a question is. -/
import Derived.Deep.Slices
import Derived.Test.YtgpmimohoepeiaaMSix
import Derived.Test.YtgpmimohoepeiaaHVar
import Derived.Test.YtgpmimohoepeiaaHHear
namespace Go.Proofs.Ytgpmimohoepeiaa
open Go.RowKit
set_option linter.unusedVariables false
set_option linter.unusedSimpArgs false

theorem PdusIn.ats {B : Nat} {w : World} {A : Option Addr} {n c : Nat} {ps : List PV} (h : PdusIn B w (.slice A n c) ps) (hne : 0 < ps.length) :
    ∃ g, A = some ⟨g, 0, none⟩ ∧ n = ps.length ∧ ps.length ≤ c ∧ B ≤ g ∧ g < w.heap.size ∧ (∃ cur, w.heap[g]? = some (.cells cur 29 (0, 0))) ∧ ∀ i p, ps[i]? = some p → ∃ A' m, (∀ j, j < 9 → w.cell? ⟨g, i * 9 + j, none⟩ = (cellsP (p, A', m))[j]?) ∧ InfP w (p, A', m) := by
  obtain ⟨p0, hp0⟩ : ∃ p, ps[0]? = some p := ⟨_, List.getElem?_eq_getElem hne⟩
  obtain ⟨g, cc, A1, m1, hv, hc, hB, hg, _, _, hcur⟩ := h.at_ hp0
  have hA : A = some ⟨g, 0, none⟩ := by injection hv
  have hn : n = ps.length := by injection hv
  have hcc : c = cc := by injection hv
  refine ⟨g, hA, hn, by rw [hcc]; exact hc, hB, hg, hcur, fun i p hp => ?_⟩
  obtain ⟨g2, cc2, A2, m2, hv2, _, _, _, h1, h2, _⟩ := h.at_ hp
  have hA2 : A = some ⟨g2, 0, none⟩ := by injection hv2
  rw [hA] at hA2
  have : g = g2 := by simpa using hA2
  subst this
  exact ⟨A2, m2, h1, h2⟩
theorem IndsIn.ats {B : Nat} {w : World} {A : Option Addr} {n c : Nat} {ps : List IV} (h : IndsIn B w (.slice A n c) ps) (hne : 0 < ps.length) :
    ∃ g, A = some ⟨g, 0, none⟩ ∧ n = ps.length ∧ ps.length ≤ c ∧ B ≤ g ∧ g < w.heap.size ∧ (∃ cur, w.heap[g]? = some (.cells cur 60 (0, 0))) ∧ ∀ i p, ps[i]? = some p → ∃ A' m, (∀ j, j < 11 → w.cell? ⟨g, i * 11 + j, none⟩ = (cellsI (p, A', m))[j]?) ∧ InfI w (p, A', m) := by
  obtain ⟨p0, hp0⟩ : ∃ p, ps[0]? = some p := ⟨_, List.getElem?_eq_getElem hne⟩
  obtain ⟨g, cc, A1, m1, hv, hc, hB, hg, _, _, hcur⟩ := h.at_ hp0
  have hA : A = some ⟨g, 0, none⟩ := by injection hv
  have hn : n = ps.length := by injection hv
  have hcc : c = cc := by injection hv
  refine ⟨g, hA, hn, by rw [hcc]; exact hc, hB, hg, hcur, fun i p hp => ?_⟩
  obtain ⟨g2, cc2, A2, m2, hv2, _, _, _, h1, h2, _⟩ := h.at_ hp
  have hA2 : A = some ⟨g2, 0, none⟩ := by injection hv2
  rw [hA] at hA2
  have : g = g2 := by simpa using hA2
  subst this
  exact ⟨A2, m2, h1, h2⟩
section
variable {H : Type} {enc : TypeId × Value → H} {W : World} {r : Reach} {base : Nat} {v : Value} {d : DataW H} {p : List MemPlace}
set_option maxRecDepth 100000 in
open Go.ChangeShapes Go.WideShapes Go.ChangeAt in
theorem ask_in (hv : Value.okWide Try.prog W r base 54 v) (h : DataW.Trod enc Try.prog W 0 (fun _ => true) true 54 v d p) :
    ∃ (f t : Int) (A : Option Addr) (len cap : Nat) (l : List Int), v = .agg #[.int .u8 f, .int .u8 t, .slice A len cap] ∧ (0 ≤ f ∧ f ≤ 255) ∧ (0 ≤ t ∧ t ≤ 255) ∧ len ≤ cap ∧ cap ≤ maxLen ∧ Row W W.heap.size A len l := by
  obtain ⟨cs, rfl, hsz⟩ := okWide_struct Try.underlying54 hv
  obtain ⟨fuel, hf⟩ := h
  have h3 : Try.prog.cellsOf 54 = 3 := by kernel_rfl
  have hi : Try.prog.cellsOf 5 = 1 := by kernel_rfl
  have h1 : Try.prog.cellsOf 27 = 1 := by kernel_rfl
  obtain ⟨l⟩ := cs
  have hl : l.length = 3 := hsz.trans h3
  obtain ⟨xs, n, _, _, _, hlen, hg⟩ := DataW.trod_struct Try.underlying54 hf
  match l, hl with
  | [c0, c1, c2], _ =>
    match xs, hlen with
    | [x0, x1, x2], _ =>
      have g0 := hg 0 _ rfl
      have g1 := hg 1 _ rfl
      have g2 := hg 2 _ rfl
      simp [hi, h1, Value.cells] at g0 g1 g2
      obtain ⟨a0, e0, _, w0⟩ := DataW.trod_int Try.underlying5 g0
      obtain ⟨a1, e1, _, w1⟩ := DataW.trod_int Try.underlying5 g1
      injection e0 with e0; injection e1 with e1
      subst e0 e1
      rcases open_ints Try.underlying27 Try.underlying5 (by kernel_rfl) g2 with ⟨hcs, _⟩ | ⟨ad, len, cap, zs, hcs, _, hl2, hm, hz, _, hcell, hwz⟩
      · injection hcs with hcs
        subst hcs
        exact ⟨a0, a1, none, 0, 0, [], rfl, u8_wf w0, u8_wf w1, Nat.le_refl _, Nat.zero_le _, RowK.none_⟩
      · injection hcs with hcs
        subst hcs
        have hzl : zs.length = cap := by simpa using hz
        refine ⟨a0, a1, some ad, len, cap, zs.take len, rfl, u8_wf w0, u8_wf w1, hl2, hm, ⟨by rw [List.length_take]; omega, fun k hk => ?_⟩⟩
        rw [List.length_take] at hk
        have h1 := hcell k (by omega)
        refine ⟨ad, rfl, ?_, ?_⟩
        · have := cell_in h1; rw [addr_add_block] at this; exact this
        · rw [h1, List.getElem_take, List.getD_eq_getElem?_getD, List.getElem?_eq_getElem (by omega)]; rfl
end
theorem sapF {f : Int} (h : 0 ≤ f ∧ f ≤ 255) : OkSap (2 + 2 * (f % 127)) := by unfold OkSap; omega
theorem one_ask {q : PV} {b : List Int} (hf : q.form = 2) (hk : 0 ≤ q.kind ∧ q.kind ≤ 2) (hr : q.resp = false) (hs : q.ns = 0) (hn : q.nr = 0) (h1 : OkSap q.frm) (h2 : 0 ≤ q.to ∧ q.to ≤ 255) (hb : b.length ≤ 1024) : IsOne { q with info := b } := by
  unfold OkSap at h1
  refine ⟨⟨⟨h2, ⟨by show 0 ≤ q.frm; omega, by show q.frm ≤ 254; omega, h1.2.2⟩, by show 0 ≤ q.ns ∧ q.ns ≤ 127; omega, by show 0 ≤ q.nr ∧ q.nr ≤ 127; omega, by show b.length ≤ 1040; omega⟩, .inr (.inr ⟨hf, hs, hn, ?_⟩)⟩, hf, hk.2⟩
  unfold MayU
  have : q.kind = 0 ∨ q.kind = 1 ∨ q.kind = 2 := by omega
  rcases this with h | h | h
  · exact .inl ⟨h, hr⟩
  · exact .inr (.inl h)
  · exact .inr (.inr (.inl h))
end Go.Proofs.Ytgpmimohoepeiaa
