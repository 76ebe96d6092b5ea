/- What the document's own Tick does. -/
import Derived.Deep.CutBlock
import Derived.Deep.DeepCutAuto
import Derived.Test.YtodiocioldakjaaKRef
import Derived.Test.YtodiocioldakjaaKAwake
namespace Go.Proofs.Ytodiocioldakjaa
open Go.RowKit
set_option linter.unusedVariables false

theorem int10_info : (Try.prog.info? 3).map (fun i => (i.zero, i.size, i.bytes)) = some (some (.int .i64 0), 1, 8) := by kernel_rfl
theorem toldK_step {l : List (Int × Int)} {j : Nat} {x : Int × Int} (h : l[j]? = some x) : toldK (l.take (j + 1)) = toldK (l.take j) ++ (if x.2 = 1 then [x.1] else []) := by
  unfold toldK
  rw [List.take_add_one, h, List.filter_append, List.map_append]
  congr 1
  by_cases hx : x.2 = 1
  · rw [if_pos hx]; simp [hx]
  · rw [if_neg hx]; simp [hx]
theorem tickK_step {l : List (Int × Int)} {j : Nat} {x : Int × Int} (h : l[j]? = some x) : tickK (l.take (j + 1)) = tickK (l.take j) ++ (if x.2 = 1 then [] else [(x.1, x.2 - 1)]) := by
  unfold tickK
  rw [List.take_add_one, h, List.filter_append, List.map_append]
  congr 1
  by_cases hx : x.2 = 1
  · rw [if_pos hx]; simp [hx]
  · rw [if_neg hx]; simp [hx]
/-- what the document's Tick hands back and leaves behind -/
def DTick (S : Foot) (r m now : Nat) (l : List (Int × Int)) (w : World) (e : Ending) (w' : World) : Prop :=
  ∃ A cp, e = .returned (.slice A (toldK l).length cp) ∧ Hid (w'.ownsRow w.heap.size 3 1 (.slice A (toldK l).length cp) (toldK l).length ((toldK l).map (Value.int .i64)) ∧ ∃ V', DIn w' r V' m (now + 1) (tickK l) ∧ Moves S (cfoot r V') w w')
/-- how far it has come: those that were told, those that run on; both new -/
structure RTick (b : Nat) (wA : World) (l : List (Int × Int)) (j : Nat) (Ao : Option Addr) (mo co : Nat) (Al : Option Addr) (ml cl : Nat) (wr : World) : Prop where
  told : wr.ownsRow b 3 1 (.slice Ao mo co) mo ((toldK (l.take j)).map (Value.int .i64))
  tick : wr.ownsRow b 54 2 (.slice Al ml cl) ml (flatI (tickK (l.take j)))
  bel : Below b wA wr
theorem RTick.below {b : Nat} {wA : World} {l : List (Int × Int)} {j : Nat} {Ao : Option Addr} {mo co : Nat} {Al : Option Addr} {ml cl : Nat} {wr w' : World} (h : RTick b wA l j Ao mo co Al ml cl wr) (hb : Below wr.heap.size wr w') (hB : b ≤ wr.heap.size) : RTick b wA l j Ao mo co Al ml cl w' :=
  ⟨row_keeps h.told (fun i hi => hb.block i (h.told.lt i hi).2), row_keeps h.tick (fun i hi => hb.block i (h.tick.lt i hi).2), h.bel.trans (hb.mono hB)⟩
set_option maxRecDepth 100000 in
set_option maxHeartbeats 1600000 in
theorem rtick_any {w : World} {r : Nat} {V : Value} {m now : Nat} {l : List (Int × Int)} (h : DIn w r V m now l) (hn : now < 1000000000) :
    Calls Try.prog 21 #[ptr r] w (DTick (cfoot r V) r m now l w) := by
  obtain ⟨i0, hi0, hz0, hz1, hz2⟩ := info_parts int10_info
  obtain ⟨i1, hi1, hy0, hy1, hy2⟩ := info_parts run_info
  have HI0 := cover hi0
  have HI1 := cover hi1
  obtain ⟨A, cp, hV⟩ := h.shape
  have hw1 : IntKind.i64.wrap ((now : Int) + 1) = (now : Int) + 1 := by rw [IntKind.wrap_i64]; omega
  obtain ⟨d0, d1, d2⟩ := h.cells
  rw [hV] at d2
  have hf1 := h.thaw 1
  have HV := cover hV
  have HH := cover h
  have hlen := h.len
  have hrl := block_lt h.hd
  have hb0 : ∀ x ∈ l, 1 ≤ x.2 ∧ x.2 ≤ 10000 := h.ok.left
  have HB0 := cover hb0
  clear h hi0 hi1 hV hb0
  go_enter Try.func21, Try.ntmps21
  go_wp2_with fail
  obtain ⟨wA, hwA⟩ : ∃ wA, wA = w.setCell ⟨r, 1, none⟩ (.int .i64 ((now : Int) + 1)) := ⟨_, rfl⟩
  have hdA : wA.heap[r]? = some (.cells #[.int .i64 m, .int .i64 ((now : Int) + 1), V] 35 (0, 0)) := by rw [hwA, set_block HH.out.hd]; rfl
  have c2 : wA.cell? ⟨r, 2, none⟩ = some (.slice A l.length cp) := by rw [cell_of_row _ _ _ _ _ _ hdA, HV.out]; rfl
  have hrowA : OwnI 54 wA V l := row_keeps HH.out.row (fun i hi => by rw [hwA]; exact set_other _ _ (fun e => HH.out.apart (by rw [hi, e])))
  have hmA : ∀ k, k ≠ r → wA.heap[k]? = w.heap[k]? := fun k hk => by rw [hwA]; exact set_other _ _ hk
  have hsA : wA.heap.size = w.heap.size := by rw [hwA, set_size]
  have hoA : wA.os = w.os ∧ wA.tape = w.tape ∧ wA.output = w.output := by rw [hwA]; exact ⟨rfl, rfl, rfl⟩
  rw [← hwA]
  have HA := cover (And.intro hdA (And.intro hrowA (And.intro hmA (And.intro hsA hoA))))
  have HC2 := cover c2
  obtain ⟨b, hb⟩ : ∃ b, b = wA.heap.size := ⟨_, rfl⟩
  have HBE := cover hb
  have hbA : b ≤ wA.heap.size := by omega
  have hrb : r < b := by rw [hb, hsA]; exact hrl
  clear hwA d0 d1 d2 hf1 hdA hrowA hmA hsA hoA c2 hb
  go_loopw [3, 4, 5] (fun vo vl i wr => ∃ (Ao : Option Addr) (mo co : Nat) (Al : Option Addr) (ml cl j : Nat), j ≤ l.length ∧ mo ≤ j ∧ ml ≤ j ∧ vo = .slice Ao mo co ∧ vl = .slice Al ml cl ∧ i = .int .i64 j ∧ Hid (RTick b wA l j Ao mo co Al ml cl wr)) (fun _ _ i _ => l.length - (intOf i).toNat)
  case atStart => exact ⟨none, 0, 0, none, 0, 0, 0, Nat.zero_le _, Nat.zero_le _, Nat.zero_le _, rfl, rfl, rfl, cover ⟨World.ownsRow_nil _ _ _ _, World.ownsRow_nil _ _ _ _, Below.refl _ _⟩⟩
  case round =>
    obtain ⟨Ao, mo, co, Al, ml, cl, j, hj, hmo, hml, rfl, rfl, rfl, hrel⟩ := hrel
    have c2 := (hrel.out.bel.cell (p := ⟨r, 2, none⟩) hrb).trans HC2.out
    have hsr : b ≤ wr.heap.size := Nat.le_trans hbA hrel.out.bel.size
    by_cases hlt : j < l.length
    · obtain ⟨⟨x1, x2⟩, hx⟩ : ∃ x, l[j]? = some x := ⟨_, List.getElem?_eq_getElem hlt⟩
      have hxb := HB0.out _ (List.mem_of_getElem? hx)
      simp only [] at hxb
      obtain ⟨g, c', hv, _, hgl, k0, k1, _⟩ := HA.out.2.1.cell hx
      have hA : A = some ⟨g, 0, none⟩ := by have := HV.out; rw [hv] at this; injection this with this; exact this.symm
      subst hA
      have k0' : wr.cell? ⟨g, j * 2, none⟩ = some (.int .i64 x1) := (hrel.out.bel.cell (p := ⟨g, j * 2, none⟩) (by show g < b; have := HBE.out; omega)).trans k0
      have k1' : wr.cell? ⟨g, j * 2 + 1, none⟩ = some (.int .i64 x2) := (hrel.out.bel.cell (p := ⟨g, j * 2 + 1, none⟩) (by show g < b; have := HBE.out; omega)).trans k1
      have HX := cover hx
      have hwx : IntKind.i64.wrap (x2 - 1) = x2 - 1 := by rw [IntKind.wrap_i64]; omega
      clear hx hv k0 k1
      go_upto_region 9 with fail
      obtain ⟨y, hy⟩ : ∃ y, y = wr.heap.size := ⟨_, rfl⟩
      obtain ⟨z, hz⟩ : ∃ z, z = x2 - 1 := ⟨_, rfl⟩
      obtain ⟨w3, hw3⟩ : ∃ w3, w3 = wr.alloc (.cells #[.int .i64 x1, .int .i64 z] 54) := ⟨_, rfl⟩
      have hb3 : Below wr.heap.size wr w3 := by rw [hw3]; exact (Below.refl _ _).alloc (Nat.le_refl _) _
      have hn3 : w3.heap[y]? = some (.cells #[.int .i64 x1, .int .i64 z] 54 (0, 0)) := by rw [hw3, hy]; exact heap_alloc_new wr _
      have H3 := cover (hrel.out.below hb3 hsr)
      have hs3 : b ≤ w3.heap.size := Nat.le_trans hsr hb3.size
      have q0 : w3.cell? ⟨y, 0, none⟩ = some (.int .i64 x1) := by rw [cell_of_row _ _ _ _ _ _ hn3]; rfl
      have q1 : w3.cell? ⟨y, 1, none⟩ = some (.int .i64 z) := by rw [cell_of_row _ _ _ _ _ _ hn3]; rfl
      have hown := H3.out.told
      have hown2 := H3.out.tick
      rw [← hy, ← hz, ← hw3]
      have HZ := cover hz
      clear hy hw3 hb3 hn3 hrel c2 k0' k1' hgl hwx hz hsr
      by_cases hx1 : x2 = 1
      · have hzb : (z == 0) = true := by rw [beq_iff_eq, HZ.out]; omega
        have e1 : (toldK (l.take (j + 1))).map (Value.int .i64) = (toldK (l.take j)).map (Value.int .i64) ++ [.int .i64 x1] := by
          rw [toldK_step HX.out, if_pos hx1, List.map_append]; rfl
        have e2 : flatI (tickK (l.take (j + 1))) = flatI (tickK (l.take j)) := by
          rw [tickK_step HX.out, if_pos hx1, List.append_nil]
        have hX := fun {ops : Array Oper} {rest : List Oper} {o : Oper} {a : Act} {Q : Exit → Act → World → Prop} (hg : o.guard = none) (ho : o.op = Op.call { callee := Callee.builtin Builtin.append, args := #[.tmp 37, .tmp 40], argTypes := #[41, 41] }) (hs : a.eval (.tmp 37) = .slice Ao mo co) (hx : a.eval (.tmp 40) = .slice (some ⟨w3.heap.size, 0, none⟩) 1 1) => wpList_append_own (ops := ops) (rest := rest) (o := o) (a := a) (Q := Q) _ hg _ _ 41 ho b 3 i0 (.int .i64 0) 1 8 Try.underlying41 HI0.out hz0 hz1 hz2 rfl (by decide) _ _ _ hs (hown.alloc (.cells #[.int .i64 x1] 3)) ⟨w3.heap.size, 0, none⟩ 1 1 [.int .i64 x1] hx rfl (cell_one_new _ _ _) (fun u hu => by simp at hu; subst hu; rfl) (by unfold maxLen; omega) (by omega) (by simp; omega)
        have E12 := cover (And.intro e1 e2)
        clear hx1 e1 e2 HZ
        go_wp2_with (at_builtin; refine hX rfl rfl rfl rfl ?_)
        intro v' w5 hown' hgrow _
        obtain ⟨A5, c5, rfl, _⟩ := own_shape hown'
        have HN : Hid (RTick b wA l (j + 1) A5 (mo + 1) c5 Al ml cl w5) := by
          refine cover ⟨by rw [E12.out.1]; exact hown', ?_, (H3.out.bel.alloc hs3 _).grown hgrow (by simp; omega) (fun i hi => (hown.lt i hi).1)⟩
          rw [E12.out.2]
          refine row_keeps (hown2.alloc (.cells #[.int .i64 x1] 3)) (fun i hi => ?_)
          refine hgrow.block i ((hown2.alloc _).lt i hi).2 (fun e => ?_)
          obtain ⟨cu, hc1⟩ := row_type hown2 hi
          obtain ⟨cu', hc2⟩ := row_type hown e.symm
          exact type_ne hc1 hc2 (by decide) rfl
        clear hX hown' hgrow hown hown2 q0 q1 H3
        go_wp2
        go_roundw
        case rel => exact ⟨A5, mo + 1, c5, Al, ml, cl, j + 1, by omega, by omega, by omega, rfl, rfl, by go_num, HN⟩
        case measure => simp [intOf]; omega
      · have hzb : (z == 0) = false := by rw [beq_eq_false_iff_ne, HZ.out]; omega
        have e1 : (toldK (l.take (j + 1))).map (Value.int .i64) = (toldK (l.take j)).map (Value.int .i64) := by
          rw [toldK_step HX.out, if_neg hx1, List.append_nil]
        have e2 : flatI (tickK (l.take (j + 1))) = flatI (tickK (l.take j)) ++ [.int .i64 x1, .int .i64 z] := by
          rw [tickK_step HX.out, if_neg hx1, flatI_app, HZ.out]; rfl
        have hX := fun {ops : Array Oper} {rest : List Oper} {o : Oper} {a : Act} {Q : Exit → Act → World → Prop} (hg : o.guard = none) (ho : o.op = Op.call { callee := Callee.builtin Builtin.append, args := #[.tmp 42, .tmp 44], argTypes := #[33, 33] }) (hs : a.eval (.tmp 42) = .slice Al ml cl) (hx : a.eval (.tmp 44) = .slice (some ⟨w3.heap.size, 0, none⟩) 1 1) => wpList_append_own (ops := ops) (rest := rest) (o := o) (a := a) (Q := Q) _ hg _ _ 33 ho b 54 i1 (.agg #[.int .i64 0, .int .i64 0]) 2 16 Try.underlying33 HI1.out hy0 hy1 hy2 rfl (by decide) _ _ _ hs (hown2.alloc (.cells #[.int .i64 x1, .int .i64 z] 54)) ⟨w3.heap.size, 0, none⟩ 1 1 [.int .i64 x1, .int .i64 z] hx rfl (cell_two_new _ _ _ _) (fun u hu => by simp at hu; rcases hu with rfl | rfl <;> rfl) (by unfold maxLen; omega) (by omega) (by simp; omega)
        have E12 := cover (And.intro e1 e2)
        clear hx1 e1 e2 HZ
        go_wp2_with (at_builtin; refine hX rfl rfl rfl rfl ?_)
        intro v' w5 hown' hgrow _
        obtain ⟨A5, c5, rfl, _⟩ := own_shape hown'
        have HN : Hid (RTick b wA l (j + 1) Ao mo co A5 (ml + 1) c5 w5) := by
          refine cover ⟨?_, by rw [E12.out.2]; exact hown', (H3.out.bel.alloc hs3 _).grown hgrow (by simp; omega) (fun i hi => (hown2.lt i hi).1)⟩
          rw [E12.out.1]
          refine row_keeps (hown.alloc (.cells #[.int .i64 x1, .int .i64 z] 54)) (fun i hi => ?_)
          refine hgrow.block i ((hown.alloc _).lt i hi).2 (fun e => ?_)
          obtain ⟨cu, hc1⟩ := row_type hown hi
          obtain ⟨cu', hc2⟩ := row_type hown2 e.symm
          exact type_ne hc1 hc2 (by decide) rfl
        clear hX hown' hgrow hown hown2 q0 q1 H3
        go_wp2
        go_roundw
        case rel => exact ⟨Ao, mo, co, A5, ml + 1, c5, j + 1, by omega, by omega, by omega, rfl, rfl, by go_num, HN⟩
        case measure => simp [intOf]; omega
    · obtain rfl : j = l.length := by omega
      have h5 := hrel.out
      have e1 : (toldK (l.take l.length)) = toldK l := by rw [List.take_length]
      have e2 : (tickK (l.take l.length)) = tickK l := by rw [List.take_length]
      have hmo2 : mo = (toldK l).length := by have := h5.told.1; rw [e1] at this; simpa using this.symm
      have hml2 : ml = (tickK l).length := by have := h5.tick.1; rw [e2, flatI_len] at this; omega
      have hdr : wr.heap[r]? = _ := (h5.bel.block r hrb).trans HA.out.1
      have f2 : wr.frozen? ⟨r, 2, none⟩ = false := by simp [World.frozen?, hdr]
      have HF : Hid (DTick (cfoot r V) r m now l w (.returned (.slice Ao mo co)) (wr.setCell ⟨r, 2, none⟩ (.slice Al ml cl))) := by
        obtain ⟨p0, p1, p2, p3, p4, p5, p6⟩ := HA.out
        have hbe := HBE.out
        have hown1 := h5.told
        have hown2 := h5.tick
        rw [e1] at hown1
        rw [e2] at hown2
        have hnr : ∀ i, (Value.slice Al ml cl).ownBlock = some i → i ≠ r := fun i hi e => by have := (hown2.lt i hi).1; omega
        have hnr1 : ∀ i, (Value.slice Ao mo co).ownBlock = some i → i ≠ r := fun i hi e => by have := (hown1.lt i hi).1; omega
        refine cover ⟨Ao, co, by rw [hmo2], cover ⟨?_, .slice Al ml cl, ⟨by rw [set_block hdr]; rfl, ?_, HH.out.ok.tick, HH.out.mb, by omega⟩, ⟨?_, ?_, ?_, ?_, fun k hk hnk => ?_, fun k hk => ?_⟩⟩⟩
        · rw [← hmo2]
          exact own_base (row_keeps hown1 (fun i hi => set_other _ _ (hnr1 i hi))) (by omega)
        · show World.ownsRow _ 0 _ 2 _ (tickK l).length _
          rw [← hml2]
          exact own_base (row_keeps hown2 (fun i hi => set_other _ _ (hnr i hi))) (Nat.zero_le _)
        · exact h5.bel.os.trans p4
        · exact h5.bel.tape.trans p5
        · exact h5.bel.output.trans p6
        · rw [set_size]; have := h5.bel.size; omega
        · have hkr : k ≠ r := fun e => hnk (.inl e)
          rw [set_other _ _ hkr, h5.bel.block k (by omega), p2 k hkr]
        · rcases hk with rfl | hk
          · exact .inl (.inl rfl)
          · exact .inr (by have := (hown2.lt k hk).1; omega)
      clear hrel h5 e1 e2 hmo2 hml2 hdr HA HC2
      go_wp2
      go_ret
      exact HF.out
end Go.Proofs.Ytodiocioldakjaa
