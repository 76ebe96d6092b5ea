/- What a call keeps, told by the kinds of blocks: a Saps' calls turn maps alone. Numbers put behind a row of the call's own. -/
import Derived.Test.YtgpmimohoepeiaaSHas
namespace Go.Proofs.Ytgpmimohoepeiaa
open Go.RowKit
set_option linter.unusedVariables false

/-- all blocks but those of a kind lie as they lay -/
def KeepO (p : Obj → Prop) (w w' : World) : Prop := ∀ (k : Nat) (o : Obj), w.heap[k]? = some o → ¬ p o → w'.heap[k]? = some o
def isMapO : Obj → Prop := fun o => ∃ es c, o = .map es c
def isTyO (t : TypeId) : Obj → Prop := fun o => ∃ cur fr, o = .cells cur t fr
theorem KeepO.refl (p : Obj → Prop) (w : World) : KeepO p w w := fun _ _ h _ => h
theorem KeepO.trans {p : Obj → Prop} {a b c : World} (h : KeepO p a b) (k : KeepO p b c) : KeepO p a c := fun i o hi hp => k i o (h i o hi hp) hp
theorem KeepO.of_below {p : Obj → Prop} {w w' : World} (h : Below w.heap.size w w') : KeepO p w w' := fun k o hk _ => (h.block k (block_lt hk)).trans hk
theorem KeepO.cell {p : Obj → Prop} {w w' : World} (h : KeepO p w w') {b o : Nat} {v : Value} {cur : Array Value} {t : TypeId} {fr : Nat × Nat} (hb : w.heap[b]? = some (.cells cur t fr)) (hp : ¬ p (.cells cur t fr)) (hc : w.cell? ⟨b, o, none⟩ = some v) : w'.cell? ⟨b, o, none⟩ = some v :=
  (World.cell?_of_block ((h b _ hb hp).trans hb.symm)).trans hc
theorem KeepO.grown {t : TypeId} {w w' : World} {base size n : Nat} {v : Value} {xs : List Value} (ho : w.ownsRow base t size v n xs) (hg : w.grownBy w' v.ownBlock) : KeepO (isTyO t) w w' := fun k o hk hp => by
  refine (hg.block k (block_lt hk) (fun e => hp ?_)).trans hk
  obtain ⟨cur, hc⟩ := row_type ho e.symm
  rw [hk] at hc
  exact ⟨cur, (0, 0), Option.some.inj hc⟩
theorem KeepO.set {t : TypeId} {w : World} {b : Nat} {cur : Array Value} {fr : Nat × Nat} (hb : w.heap[b]? = some (.cells cur t fr)) (o : Nat) (v : Value) : KeepO (isTyO t) w (w.setCell ⟨b, o, none⟩ v) := fun k ob hk hp => by
  refine (set_other o v (fun e => hp ?_)).trans hk
  subst e
  rw [hb] at hk
  exact ⟨cur, fr, (Option.some.inj hk).symm⟩
theorem SNow.kept {w w' : World} {s a b : Nat} {l l' : List SV} (h : SapsIn w s a b l) (n : SNow s a b l' w w') : KeepO isMapO w w' := fun k o hk hp => by
  by_cases e : k = s
  · subst e
    rw [h.hd] at hk
    rw [n.1.hd, hk]
  · refine (n.2.block k (block_lt hk) ?_).trans hk
    rintro (e1 | e1 | e1)
    · exact e e1
    · subst e1
      obtain ⟨D, h1, _⟩ := h.act.ex
      obtain ⟨es, c, h2⟩ := own_obj h1
      rw [hk] at h2
      exact hp ⟨es, c, Option.some.inj h2⟩
    · subst e1
      obtain ⟨D, h1, _⟩ := h.seat.ex
      obtain ⟨es, c, h2⟩ := own_obj h1
      rw [hk] at h2
      exact hp ⟨es, c, Option.some.inj h2⟩
theorem SHas.kept {p : Obj → Prop} {B : Nat} {w w' : World} {s : Nat} {l : List SV} (h : SHas B w s l) (k : KeepO p w w') (hp1 : ∀ es c, ¬ p (.map es c)) (hp2 : ∀ cur fr, ¬ p (.cells cur 67 fr)) : SHas B w' s l := by
  obtain ⟨a, b, h1, h2⟩ := h
  refine ⟨a, b, h1.keep (fun i hi => ?_), h2⟩
  rcases hi with rfl | rfl | rfl
  · rw [k _ _ h1.hd (hp2 _ _), h1.hd]
  · obtain ⟨D, j1, _⟩ := h1.act.ex
    obtain ⟨es, c, j2⟩ := own_obj j1
    rw [k _ _ j2 (hp1 _ _), j2]
  · obtain ⟨D, j1, _⟩ := h1.seat.ex
    obtain ⟨es, c, j2⟩ := own_obj j1
    rw [k _ _ j2 (hp1 _ _), j2]
theorem ty_map {t : TypeId} (es : Array MapEntry) (c : Nat) : ¬ isTyO t (.map es c) := fun ⟨_, _, h⟩ => by cases h
theorem ty_ne {t t' : TypeId} (h : t' ≠ t) (cur : Array Value) (fr : Nat × Nat) : ¬ isTyO t (.cells cur t' fr) := fun ⟨_, _, e⟩ => by
  injection e with _ e2
  exact h e2
theorem map_cells (cur : Array Value) (t : TypeId) (fr : Nat × Nat) : ¬ isMapO (.cells cur t fr) := fun ⟨_, _, h⟩ => by cases h
section
variable {B : Nat} {w : World} {s : Nat} {l : List SV}
/-- what a deed leaves behind -/
def Done (B s : Nat) (l' : List SV) (w w' : World) : Prop := SHas B w' s l' ∧ Below B w w' ∧ KeepO isMapO w w'
theorem open_kp (h : SHas B w s l) {n : Int} (hn : I64 n) (c : Int) : Calls Try.prog 11 #[ptr s, .int .i64 n, .int .i64 c] w fun e w' => e = .returned (.int .i64 (openE l n c)) ∧ Hid (Done B s (openS l n c) w w') := by
  have hB := h.size
  obtain ⟨a, b, h1, h2⟩ := h
  refine (open_any h1 hn).mono ?_
  rintro e w' ⟨rfl, hh⟩
  exact ⟨rfl, cover ⟨(hh.out.has h2 hB).1, (hh.out.has h2 hB).2, hh.out.kept h1⟩⟩
theorem close_kp (h : SHas B w s l) {n : Int} (hn : I64 n) : Calls Try.prog 56 #[ptr s, .int .i64 n] w fun e w' => e = .returned (.int .i64 (closeE l n)) ∧ Hid (Done B s (closeS l n) w w') := by
  have hB := h.size
  obtain ⟨a, b, h1, h2⟩ := h
  refine (close_any h1 hn).mono ?_
  rintro e w' ⟨rfl, hh⟩
  exact ⟨rfl, cover ⟨(hh.out.has h2 hB).1, (hh.out.has h2 hB).2, hh.out.kept h1⟩⟩
theorem join_kp (h : SHas B w s l) {n : Int} (hn : I64 n) (g : Int) : Calls Try.prog 58 #[ptr s, .int .i64 n, .int .i64 g] w fun e w' => e = .returned (.int .i64 (joinE l n g)) ∧ Hid (Done B s (joinS l n g) w w') := by
  have hB := h.size
  obtain ⟨a, b, h1, h2⟩ := h
  refine (join_any h1 hn).mono ?_
  rintro e w' ⟨rfl, hh⟩
  exact ⟨rfl, cover ⟨(hh.out.has h2 hB).1, (hh.out.has h2 hB).2, hh.out.kept h1⟩⟩
theorem leave_kp (h : SHas B w s l) {n : Int} (hn : I64 n) (g : Int) : Calls Try.prog 60 #[ptr s, .int .i64 n, .int .i64 g] w fun e w' => e = .returned (.int .i64 (leaveE l n g)) ∧ Hid (Done B s (leaveS l n g) w w') := by
  have hB := h.size
  obtain ⟨a, b, h1, h2⟩ := h
  refine (leave_any h1 hn).mono ?_
  rintro e w' ⟨rfl, hh⟩
  exact ⟨rfl, cover ⟨(hh.out.has h2 hB).1, (hh.out.has h2 hB).2, hh.out.kept h1⟩⟩
end
/-- numbers put behind a row of the call's own -/
theorem int_info : (Try.prog.info? 3).map (fun i => (i.zero, i.size, i.bytes)) = some (some (.int .i64 0), 1, 8) := by kernel_rfl
theorem append_i {w : World} {base n : Nat} {v : Value} {l : List Int} (h : w.ownsRow base 3 1 v n (l.map (Value.int .i64))) (ad : Addr) (m c : Nat) (news : List Int) (hm : news.length = m) (hr : ∀ j u, (news.map (Value.int .i64))[j]? = some u → w.cell? (ad.add j) = some u) (hbase : base ≤ w.heap.size) (hbig : n + m ≤ 1000000) :
    Appends Try.prog 57 w v (.slice (some ad) m c) (fun v' w' => w'.ownsRow base 3 1 v' (n + m) ((l ++ news).map (Value.int .i64)) ∧ w.grownBy w' v.ownBlock) := by
  intro ty
  obtain ⟨i0, hi, hz0, hz1, hz2⟩ := info_parts int_info
  obtain ⟨v', w', hr', h2, h3, _⟩ := run_append_own (P := Try.prog) w base 57 ty 3 i0 _ 1 8 Try.underlying57 hi hz0 hz1 hz2 rfl (by decide) v n (l.map (Value.int .i64)) h ad m c (news.map (Value.int .i64)) (by simp [hm]) hr
    (fun u hu => by obtain ⟨y, _, rfl⟩ := List.mem_map.1 hu; rfl) (by unfold maxLen; omega) (by omega) hbase
  refine ⟨v', w', hr', ?_, h3⟩
  rw [List.map_append]
  exact h2
end Go.Proofs.Ytgpmimohoepeiaa
