/- What Row tells: the walk. -/
import Derived.Maps.AppendAt
import Derived.Test.YtjidhpmjdhjciaaFList
namespace Go.Proofs.Ytjidhpmjdhjciaa
open Go.RowKit Go.Shelf
set_option linter.unusedVariables false
attribute [local go_sem] Oper.semAt_some

/-- what the walk over a queue, or over none, does for a body that goes on -/
def EachDoes (w : World) (qv : Option Addr) (ps : List Nat) (vs : List FV) : Prop :=
  ∀ (n lp bq : Nat) (W : World), Below w.heap.size w W → W.cell? ⟨bq, 0, none⟩ = some (.pointer qv) → ∀ J : Nat → World → Prop,
    (∀ i A A', J i A → Turned (List.range' W.heap.size 5) A A' → J i A') → J 0 W →
    (∀ i x W1, vs[i]? = some x → J i W1 → W.heap.size + 5 ≤ W1.heap.size → ∀ m, YieldAt Fence.wide m Try.prog lp #[.int .i64 i, .agg #[.slice x.A x.l.length x.c, .int .i64 x.born]] W1 fun e W' => e = .returned (.bool true) ∧ J (i + 1) W' ∧ Keeps W.heap.size 5 ps W1 W') →
    CallsIn Fence.wide n Try.prog 61 #[.func (.yield lp) #[] #[], ptr bq] W fun e W' => (∃ v, e = .returned v) ∧ J vs.length W'
theorem yield_mono {F : Fence} {m : Nat} {P : Program} {l : Nat} {args : Array Value} {W : World} {R R' : Ending → World → Prop} (h : YieldAt F m P l args W R) (hR : ∀ e W', R e W' → R' e W') : YieldAt F m P l args W R' := by
  obtain ⟨fn, tmps, c1, c2, hy, hF, hr⟩ := h
  exact ⟨fn, tmps, c1, c2, hy, hF, fun c cs hroom => by
    obtain ⟨e, W', he, hst⟩ := hr c cs hroom
    exact ⟨e, W', hR e W' he, hst⟩⟩
theorem eachDoes_some {w : World} {q : Nat} {G : Option Nat} {m : Int} {ps : List Nat} {vs : List FV} (h : FIn w q G m ps (vs.map FV.item)) (hbig : ps.length ≤ 1000000) : EachDoes w (some ⟨q, 0, none⟩) ps vs := by
  intro n lp bq W hb hq J hst h0 hY
  have hl := h.len
  simp at hl
  refine (each1_in (n := n) lp (h.below hb) hbig hq J (fun _ _ => False) hst (fun _ _ _ h _ => h) h0 (fun i x W1 hx hJ hs mm => yield_mono (hY i x W1 hx hJ hs mm) fun e W' hh => .inl hh)).mono ?_
  rintro e W' ⟨hv, hj | ⟨_, hj⟩⟩
  · exact ⟨hv, by rw [← hl]; exact hj⟩
  · exact hj.elim
theorem eachDoes_nil (w : World) : EachDoes w none [] [] := by
  intro n lp bq W hb hq J hst h0 hY
  refine (each1_nil (n := n) lp hq).mono ?_
  rintro e W' ⟨hv, hb'⟩
  exact ⟨hv, hst 0 W W' h0 ((Turned.of_below (L := []) hb').mono (fun i hi => by cases hi))⟩

/-- an operation whose run is known, inside a fence -/
theorem run_in {F : Fence} {n : Nat} {P : Program} {o : Oper} {a : Act} {w w' : World} {K : Act → World → Prop} {Q : Exit → Act → World → Prop} {v : Value} (hnd : ∀ c, o.op ≠ .defer c) (hab : ∀ f, o.about P w a.eval = some f → F.fn f)
    (hr : (execOp a.eval o).run P w = .ok (.value v) w') (h : K (a.put o.dst v) w') : o.wpIn F n P a w K Q := by
  refine ⟨hab, ?_⟩
  rw [Oper.semAt_eq _ _ _ hnd, hr, Oper.uponIn_value]
  exact h
theorem exec_append {P : Program} {o : Oper} {a : Act} {w : World} (d s : Operand) (t t' : TypeId) (ho : o.op = .call { callee := .builtin .append, args := #[d, s], argTypes := #[t, t'] })
    (v u : Value) (hd : a.eval d = v) (hs : a.eval s = u) {v' : Value} {w' : World} (hr : (Builtin.append_ #[t, t'] o.type #[v, u]).run P w = .ok v' w') : (execOp a.eval o).run P w = .ok (.value v') w' := by
  simp [execOp, ho, resolve, invoke, builtin, hd, hs, hr, Result.andThen]
/-- what Row hands back -/
def RowOut (now : Nat) (vs : List FV) (w : World) (e : Ending) (w' : World) : Prop :=
  ∃ A c us, e = .returned (.slice A us.length c) ∧ w'.ownsRow w.heap.size 62 2 (.slice A us.length c) us.length (flat us) ∧ (∀ u ∈ us, OwnB w' w.heap.size u.val u.l) ∧
    us.map (fun u => (u.l, u.age)) = vs.map (fun v => (v.l, (now : Int) - v.born)) ∧ Below w.heap.size w w'
/-- at the head of a round of Row -/
structure RowRound (w3 : World) (b now : Nat) (vs : List FV) (Rc : Obj) (i : Nat) (A : World) : Prop where
  at_ : ∃ us : List UV, us.map (fun u => (u.l, u.age)) = (vs.take i).map (fun v => (v.l, (now : Int) - v.born)) ∧ AtRow [b + 1] w3 (b + 1) (b + 10) us A
  dfr : A.heap[b + 3]? = some (.deferred (some []))
  rcd : A.heap[b + 4]? = some Rc
theorem RowRound.turned {w3 A A' : World} {b now i : Nat} {vs : List FV} {Rc : Obj} (h : RowRound w3 b now vs Rc i A) (hs : w3.heap.size = b + 3) (hT : Turned (List.range' (b + 5) 5) A A') : RowRound w3 b now vs Rc i A' := by
  obtain ⟨us, h1, h2⟩ := h.at_
  exact ⟨⟨us, h1, h2.turned hT (fun hm => by have := List.mem_range'_1.1 hm; omega) (fun i hi => by have := List.mem_range'_1.1 hi; omega)⟩, hT.at_ h.dfr (fun hm => by have := List.mem_range'_1.1 hm; omega), hT.at_ h.rcd (fun hm => by have := List.mem_range'_1.1 hm; omega)⟩

set_option maxRecDepth 100000 in
set_option maxHeartbeats 4000000 in
theorem row_walk {w : World} {l : Nat} (f t : Int) (qv : Option Addr) (ps : List Nat) (vs : List FV) (now : Nat) (hE : EachDoes w qv ps vs) (hps : ∀ p ∈ ps, p < w.heap.size) (hvl : vs.length ≤ 1000)
    (hrow : ∀ W, Below w.heap.size w W → Calls Try.prog 33 #[ptr l, .int .i64 f, .int .i64 t] W fun e w' => e = .returned (.pointer qv) ∧ ∃ d, w' = W.drewN d)
    (hc : w.cell? ⟨l, 2, none⟩ = some (.int .i64 now)) (hnow : now ≤ 1000000) (hv : ∀ v ∈ vs, OwnB w 0 v.val v.l ∧ (0 ≤ v.born ∧ v.born ≤ now) ∧ v.l.length ≤ 1000000) :
    Calls Try.prog 23 #[ptr l, .int .i64 f, .int .i64 t] w (RowOut now vs w) := by
  obtain ⟨i0, hi, hz0, hz1, hz2⟩ := info_parts fly_info
  have hll := cell_in hc
  simp at hll
  obtain ⟨b, hb⟩ : ∃ b, w.heap.size = b := ⟨_, rfl⟩
  have HB := cover hb
  refine (callsIn_wide (n := 9)).1 ?_
  refine callsIn_of_wp_marks Try.func23 rfl trivial ?_ rfl
  simp only [Try.ntmps23, List.size_toArray, List.length_cons, List.length_nil, Nat.reduceAdd, Nat.reduceSub, Array.replicate_succ, Array.replicate_zero, List.push_toArray, List.append_toArray, List.nil_append, List.cons_append]
  gi_wp2_with fail
  obtain ⟨wa, hwa⟩ : ∃ wa, wa = (w.alloc (.cells #[ptr l] 23)).alloc (.cells #[.slice none 0 0] 44) := ⟨_, rfl⟩
  have hsa : wa.heap.size = b + 2 := by rw [hwa]; simp [hb]
  have hla : wa.heap[b]? = some (.cells #[ptr l] 23 (0, 0)) := by
    rw [hwa, Below.heap_alloc _ _ _ (by simp; omega), ← hb]; exact heap_alloc_new w _
  have hoa : wa.heap[b + 1]? = some (.cells #[.slice none 0 0] 44 (0, 0)) := by
    rw [hwa, ← hb]
    have := heap_alloc_new (w.alloc (.cells #[ptr l] 23)) (.cells #[.slice none 0 0] 44)
    rw [World.size_alloc] at this; exact this
  have hba : Below b w wa := by rw [hwa]; exact ((Below.refl _ _).alloc (by omega) _).alloc (by simp; omega) _
  rw [← hwa]
  refine ⟨trivial, (callsIn_wide.2 (hrow wa (by rw [hb]; exact hba))).mono ?_⟩
  rintro e w2 ⟨rfl, d, hw2⟩
  have hb2 : Below b w w2 := by rw [hw2]; exact below_drewN hba d
  have hs2 : w2.heap.size = b + 2 := by rw [hw2]; exact hsa
  have hl2 : w2.heap[b]? = some (.cells #[ptr l] 23 (0, 0)) := by rw [hw2]; exact hla
  have ho2 : w2.heap[b + 1]? = some (.cells #[.slice none 0 0] 44 (0, 0)) := by rw [hw2]; exact hoa
  clear hwa hw2 hsa hla hoa hba hrow
  gi_wp2_with fail
  refine ⟨trivial, (callsIn_wide.2 (eachF_any qv w2)).mono ?_⟩
  rintro e w3 ⟨rfl, hw3⟩
  have hsz : w3.heap.size = b + 3 := by rw [hw3]; simp [hs2]
  have hl3 : w3.heap[b]? = some (.cells #[ptr l] 23 (0, 0)) := by rw [hw3, Below.heap_alloc _ _ _ (by omega)]; exact hl2
  have ho3 : w3.heap[b + 1]? = some (.cells #[.slice none 0 0] 44 (0, 0)) := by rw [hw3, Below.heap_alloc _ _ _ (by omega)]; exact ho2
  have hq3 : w3.cell? ⟨b + 2, 0, none⟩ = some (.pointer qv) := by
    have := heap_alloc_new w2 (.cells #[.pointer qv] 70)
    rw [← hw3] at this
    rw [cell_of_row w3 (b + 2) 0 _ _ _ (by rw [← hs2]; exact this)]; rfl
  have hb3 : Below b w w3 := by rw [hw3]; exact hb2.alloc (by omega) _
  rw [hs2]
  have HE := cover hE
  have HV := cover hv
  have HPS0 := cover hps
  clear hw3 hb hb2 hs2 hl2 ho2 hE hv hps
  gi_wp2_with fail
  have HI := cover hi
  have hfin : ∀ o A, RowRound w3 b now vs o vs.length A → ∀ o', ∃ v, (A.putObj (b + 3 + 1) o').cell? ⟨b + 1, 0, none⟩ = some v ∧ (A.putObj (b + 3 + 1) o').heap[b + 3]? = some (.deferred (some [])) ∧
      Hid (((A.putObj (b + 3 + 1) o').putObj (b + 3) (.deferred none)).cell? ⟨b + 1, 0, none⟩ = some v ∧ RowOut now vs w (.returned v) ((A.putObj (b + 3 + 1) o').putObj (b + 3) (.deferred none))) := by
    intro o A hA o'
    obtain ⟨us, hus, hat⟩ := hA.at_
    rw [List.take_length] at hus
    have hA2 := hat.turned (turned_put (L := [b + 4, b + 3]) (turned_put (Turned.refl _ _) (l := b + 3 + 1) (by simp) o') (l := b + 3) (by simp) (.deferred none)) (by simp) (by simp; omega)
    obtain ⟨v, h1, h2⟩ := hA2.row
    have h1' : (A.putObj (b + 3 + 1) o').heap[b + 1]? = some (.cells #[v] 44 (0, 0)) := by rw [World.putObj_heap_other (by omega)] at h1; exact h1
    obtain ⟨A', c', rfl, _⟩ := own_shape h2
    refine ⟨_, by rw [cell_of_row _ _ _ _ _ _ h1']; rfl, (World.putObj_heap_other (by omega)).trans hA.dfr, cover ⟨by rw [cell_of_row _ _ _ _ _ _ h1]; rfl, A', c', us, rfl, own_base h2 (by rw [HB.out]; omega), fun u hu => OwnB.mono (hA2.own u hu) (by rw [HB.out]; omega), hus, ?_⟩⟩
    rw [HB.out]
    exact hA2.tur.below hb3 (by simp) (by omega)
  have HFIN := cover hfin
  clear hfin
  refine range_outer rfl (by omega) (gf := 61) (ba := #[]) (lb := #[ptr (b + 2)]) rfl trivial (enters_of Try.func61 (by kernel_rfl) rfl)
    (fun A => ∃ o, RowRound w3 b now vs o vs.length A) (fun c A => False) ?hit ?hdone ?hstop
  case hit =>
    intro fn Rc W2 hF hRc hW2
    rw [hsz] at hRc ⊢
    show CallsIn Fence.wide _ _ _ #[.func (.yield (b + 3 + 1)) #[] #[], ptr (b + 2)] _ _
    have hsz2 : W2.heap.size = b + 5 := by rw [hW2]; simp [hsz]
    have hb2 : Below w3.heap.size w3 W2 := by rw [hW2]; exact ((Below.refl _ _).alloc (Nat.le_refl _) _).alloc (by simp) _
    have hdf2 : W2.heap[b + 3]? = some (.deferred (some [])) := by
      rw [hW2, Below.heap_alloc _ _ _ (by simp; omega), ← hsz]; exact World.alloc_heap_new w3 _
    have hrc2 : W2.heap[b + 4]? = some (Rc .ready none) := by
      have := World.alloc_heap_new (w3.alloc (.deferred (some []))) (Rc .ready none)
      rw [World.size_alloc, hsz] at this; rw [hW2]; exact this
    have hq2 : W2.cell? ⟨b + 2, 0, none⟩ = some (.pointer qv) := (hb2.cell (p := ⟨b + 2, 0, none⟩) (by show b + 2 < _; omega)).trans hq3
    have hat2 : AtRow [b + 1] w3 (b + 1) (b + 10) [] W2 := ⟨⟨_, (hb2.block (b + 1) (by omega)).trans ho3, World.ownsRow_nil _ _ _ _⟩, fun u hu => (by cases hu), Turned.of_below hb2⟩
    have hb02 : Below w.heap.size w W2 := by rw [HB.out]; exact hb3.trans (hb2.mono (by omega))
    clear hW2
    refine (HE.out _ (b + 3 + 1) (b + 2) W2 hb02 hq2 (fun i A => RowRound w3 b now vs (Rc .ready none) i A) ?hst ?h0 ?hY).mono ?_
    case hst => rw [hsz2]; exact fun i A A' h hT => h.turned hsz hT
    case h0 => exact ⟨⟨[], rfl, hat2⟩, hdf2, hrc2⟩
    case hY =>
      rw [hsz2]
      intro i x A hx hA hsA mm
      refine yield_any (k := 8) ?_ mm
      refine round_own Rc (fun c _ W' => c = true ∧ RowRound w3 b now vs (Rc .ready none) (i + 1) W' ∧ Keeps (b + 5) 5 ps A W') hRc hF hA.rcd rfl ?walk ?conv
      case conv =>
        rintro c _ W' ⟨rfl, h1, h2⟩
        exact ⟨rfl, h1, h2⟩
      case walk =>
        clear hRc
        have hil : i < vs.length := (List.getElem?_eq_some_iff.1 hx).1
        have hxv := HV.out x (List.mem_of_getElem? hx)
        obtain ⟨us, hus, hat⟩ := hA.at_
        gi_wp2
        obtain ⟨z, hz⟩ : ∃ z, z = A.heap.size := ⟨_, rfl⟩
        have hzb : b + 10 ≤ z := by omega
        refine ⟨(Below.heap_alloc _ _ _ (by omega)).trans hA.rcd, ?_⟩
        obtain ⟨A4, hA4⟩ : ∃ A4, A4 = (A.alloc (.cells #[.slice x.A x.l.length x.c, .int .i64 x.born] 73)).putObj (b + 3 + 1) (Rc .busy none) := ⟨_, rfl⟩
        have hs4 : A4.heap.size = z + 1 := by rw [hA4]; simp [hz]
        have hr4 : A4.heap[b + 4]? = some (Rc .busy none) := by rw [hA4]; exact World.putObj_heap_same (by simp; omega)
        have hT4 : Turned [b + 4] A A4 := by rw [hA4]; exact turned_put ((Turned.refl _ _).alloc _) (by simp) _
        have hz4 : A4.heap[z]? = some (.cells #[.slice x.A x.l.length x.c, .int .i64 x.born] 73 (0, 0)) := by
          rw [hA4, World.putObj_heap_other (by omega), hz]; exact heap_alloc_new _ _
        have hk4 : ∀ k, k ≠ b + 4 → k < z → A4.heap[k]? = A.heap[k]? := fun k hk hkz => by rw [hA4, World.putObj_heap_other hk, Below.heap_alloc _ _ _ (by omega)]
        have hat4 : AtRow [b + 1] w3 (b + 1) (b + 10) us A4 := hat.turned hT4 (by simp) (by simp; omega)
        have hdf4 : A4.heap[b + 3]? = some (.deferred (some [])) := hT4.at_ hA.dfr (by simp)
        obtain ⟨v0, hbox, hown⟩ := hat4.row
        have cz0 : A4.cell? ⟨z, 0, none⟩ = some (.slice x.A x.l.length x.c) := by rw [cell_of_row _ _ _ _ _ _ hz4]; rfl
        have cz1 : A4.cell? ⟨z, 1, none⟩ = some (.int .i64 x.born) := by rw [cell_of_row _ _ _ _ _ _ hz4]; rfl
        have cb1 : A4.cell? ⟨b + 1, 0, none⟩ = some v0 := by rw [cell_of_row _ _ _ _ _ _ hbox]; rfl
        have cb : A4.cell? ⟨b, 0, none⟩ = some (ptr l) := by rw [cell_of_row _ _ _ _ _ _ (hat4.tur.at_ hl3 (by simp))]; rfl
        have cl : A4.cell? ⟨l, 2, none⟩ = some (.int .i64 now) := by
          rw [World.cell?_of_block (hat4.tur.block l (by have := HB.out; omega) (by have := HB.out; simp; omega)), hb3.cell (p := ⟨l, 2, none⟩) (by have := HB.out; show l < b; omega)]; exact hc
        have hox : OwnB A4 0 x.val x.l := own_keep hxv.1 fun g hg => by
          have hgl := blk_lt hxv.1 hg
          have := HB.out
          rw [hat4.tur.block g (by omega) (by simp; omega), hb3.block g (by omega)]
        have HCP : Hid (∀ W', Below A4.heap.size A4 W' → Calls Try.prog 35 #[.slice x.A x.l.length x.c] W' (GivesB W' x.l)) := cover fun W' hb => copyOf_any x.A x.l.length x.c A4.heap.size x.l W' (hox.row.below hb) (by omega)
        have hb1 := hxv.2.1.1
        have hb2' := hxv.2.1.2
        have hsub : IntKind.i64.wrap ((now : Int) - x.born) = (now : Int) - x.born := by rw [IntKind.wrap_i64]; omega
        have hul : us.length = i := by have := congrArg List.length hus; simpa [Nat.min_eq_left (Nat.le_of_lt hil)] using this
        have HX := cover (And.intro hx (And.intro hus (And.intro hs4 (And.intro hr4 (And.intro hat4 (And.intro hdf4 hk4))))))
        have HZ := cover (And.intro hz hzb)
        have HZ4 := cover hz4
        have HBX := cover (And.intro hbox hown)
        rw [← hA4, ← hz]
        clear hz hA4 hA hat hT4 hz4 hs4 hr4 hat4 hdf4 hk4 hus hx hox hxv hb2 hdf2 hrc2 hq2 hat2 hb02
        gi_wp2_with fail
        refine wpIn_mono (Q := fun e a W5 => e = .normal ∧ Hid (W5.heap[b + 4]? = some (Rc .busy none) ∧ RowRound w3 b now vs (Rc .ready none) (i + 1) (W5.putObj (b + 3 + 1) (Rc .ready none)) ∧ Keeps (b + 5) 5 ps A (W5.putObj (b + 3 + 1) (Rc .ready none)))) ?region ?rest
        case region =>
          have mixed : Try.prog.follows .mixedOrders = true := by kernel_rfl
          refine held_begin (fun w' => w'.cell? ⟨b + 1, 0, none⟩ = some v0 ∧ w'.cell? ⟨z, 0, none⟩ = some (.slice x.A x.l.length x.c) ∧ w'.cell? ⟨z, 1, none⟩ = some (.int .i64 x.born) ∧ w'.cell? ⟨b, 0, none⟩ = some (ptr l) ∧ w'.cell? ⟨l, 2, none⟩ = some (.int .i64 now)) 14 mixed ?_
          have HS0 : (fun w' : World => w'.cell? ⟨b + 1, 0, none⟩ = some v0 ∧ w'.cell? ⟨z, 0, none⟩ = some (.slice x.A x.l.length x.c) ∧ w'.cell? ⟨z, 1, none⟩ = some (.int .i64 x.born) ∧ w'.cell? ⟨b, 0, none⟩ = some (ptr l) ∧ w'.cell? ⟨l, 2, none⟩ = some (.int .i64 now)) A4.drew := ⟨cb1, cz0, cz1, cb, cl⟩
          refine held_take 0 (v0) rfl (by kernel_rfl) (by kernel_rfl) (by kernel_rfl) (by kernel_rfl) (by kernel_rfl) (fun c a w h => by cases h.1) (by rfl) (fun _ => rfl) HS0 (fun w' hS => by obtain ⟨s0, s1, s2, s3, s4⟩ := hS; go_simp) ?_
          refine held_take 1 (.pointer (some ⟨z, 0, none⟩)) rfl (by kernel_rfl) (by kernel_rfl) (by kernel_rfl) (by kernel_rfl) (by kernel_rfl) (fun c a w h => by cases h.1) (by rfl) (fun _ => rfl) HS0 (fun w' hS => by obtain ⟨s0, s1, s2, s3, s4⟩ := hS; go_simp) ?_
          refine held_take 2 (.slice x.A x.l.length x.c) rfl (by kernel_rfl) (by kernel_rfl) (by kernel_rfl) (by kernel_rfl) (by kernel_rfl) (fun c a w h => by cases h.1) (by rfl) (fun _ => rfl) HS0 (fun w' hS => by obtain ⟨s0, s1, s2, s3, s4⟩ := hS; go_simp) ?_
          refine held_take 4 (ptr l) rfl (by kernel_rfl) (by kernel_rfl) (by kernel_rfl) (by kernel_rfl) (by kernel_rfl) (fun c a w h => by cases h.1) (by rfl) (fun _ => rfl) HS0 (fun w' hS => by obtain ⟨s0, s1, s2, s3, s4⟩ := hS; go_simp) ?_
          refine held_take 5 (ptr l) rfl (by kernel_rfl) (by kernel_rfl) (by kernel_rfl) (by kernel_rfl) (by kernel_rfl) (fun c a w h => by cases h.1) (by rfl) (fun _ => rfl) HS0 (fun w' hS => by obtain ⟨s0, s1, s2, s3, s4⟩ := hS; go_simp) ?_
          refine held_take 6 (.pointer (some ⟨l, 2, none⟩)) rfl (by kernel_rfl) (by kernel_rfl) (by kernel_rfl) (by kernel_rfl) (by kernel_rfl) (fun c a w h => by cases h.1) (by rfl) (fun _ => rfl) HS0 (fun w' hS => by obtain ⟨s0, s1, s2, s3, s4⟩ := hS; go_simp) ?_
          refine held_take 7 (.int .i64 now) rfl (by kernel_rfl) (by kernel_rfl) (by kernel_rfl) (by kernel_rfl) (by kernel_rfl) (fun c a w h => by cases h.1) (by rfl) (fun _ => rfl) HS0 (fun w' hS => by obtain ⟨s0, s1, s2, s3, s4⟩ := hS; go_simp) ?_
          refine held_take 8 (.pointer (some ⟨z, 1, none⟩)) rfl (by kernel_rfl) (by kernel_rfl) (by kernel_rfl) (by kernel_rfl) (by kernel_rfl) (fun c a w h => by cases h.1) (by rfl) (fun _ => rfl) HS0 (fun w' hS => by obtain ⟨s0, s1, s2, s3, s4⟩ := hS; go_simp) ?_
          refine held_take 9 (.int .i64 x.born) rfl (by kernel_rfl) (by kernel_rfl) (by kernel_rfl) (by kernel_rfl) (by kernel_rfl) (fun c a w h => by cases h.1) (by rfl) (fun _ => rfl) HS0 (fun w' hS => by obtain ⟨s0, s1, s2, s3, s4⟩ := hS; go_simp) ?_
          refine held_take 10 (.int .i64 ((now : Int) - x.born)) rfl (by kernel_rfl) (by kernel_rfl) (by kernel_rfl) (by kernel_rfl) (by kernel_rfl) (fun c a w h => by cases h.1) (by rfl) (fun _ => rfl) HS0 (fun w' hS => by obtain ⟨s0, s1, s2, s3, s4⟩ := hS; go_simp) ?_
          refine held_one 3 (by kernel_rfl) rfl (by rfl) fun K hK => ?_
          go_simp
          gi_wp2_with (refine ⟨trivial, ?_⟩; gi_at_call 35; refine (CallsIn.inRound (b + 3 + 1) (callsIn_wide.2 (HCP.out _ (Below.refl _ _).drew))).mono ?_; rintro e w5 ⟨A2, c2, rfl, ho5, hb5⟩)
          have hs5 := hb5.size
          have e5 : ∀ a : Addr, a.block < z + 1 → w5.cell? a = A4.cell? a := fun a ha => hb5.cell (p := a) (by have := HX.out.2.2.1; show _ < A4.heap.size; omega)
          have HS5 : (fun w' : World => w'.cell? ⟨b + 1, 0, none⟩ = some v0 ∧ w'.cell? ⟨z, 0, none⟩ = some (.slice x.A x.l.length x.c) ∧ w'.cell? ⟨z, 1, none⟩ = some (.int .i64 x.born) ∧ w'.cell? ⟨b, 0, none⟩ = some (ptr l) ∧ w'.cell? ⟨l, 2, none⟩ = some (.int .i64 now)) w5 :=
            ⟨(e5 _ (by show b + 1 < _; omega)).trans cb1, (e5 _ (by show z < _; omega)).trans cz0, (e5 _ (by show z < _; omega)).trans cz1, (e5 _ (by show b < _; omega)).trans cb, (e5 _ (by have := HB.out; show l < _; omega)).trans cl⟩
          have hA4w : Below A4.heap.size A4 w5 := (Below.refl _ _).drew.trans hb5
          have hown5 : w5.ownsRow (b + 10) 62 2 v0 us.length (flat us) := own_below HBX.out.2 hA4w
          have hs45 : z + 1 ≤ w5.heap.size := by have := HX.out.2.2.1; have : A4.drew.heap.size = A4.heap.size := rfl; omega
          obtain ⟨y, hy⟩ : ∃ y, y = w5.heap.size := ⟨_, rfl⟩
          obtain ⟨wb, hwb⟩ : ∃ wb, wb = w5.alloc (.cells #[.slice A2 x.l.length c2, .int .i64 ((now : Int) - x.born)] 62) := ⟨_, rfl⟩
          have hbb : Below w5.heap.size w5 wb := by rw [hwb]; exact (Below.refl _ _).alloc (Nat.le_refl _) _
          have hyb : wb.heap[y]? = some (.cells #[.slice A2 x.l.length c2, .int .i64 ((now : Int) - x.born)] 62 (0, 0)) := by rw [hwb, hy]; exact heap_alloc_new _ _
          have hownb := own_below hown5 hbb
          have HSb : (fun w' : World => w'.cell? ⟨b + 1, 0, none⟩ = some v0 ∧ w'.cell? ⟨z, 0, none⟩ = some (.slice x.A x.l.length x.c) ∧ w'.cell? ⟨z, 1, none⟩ = some (.int .i64 x.born) ∧ w'.cell? ⟨b, 0, none⟩ = some (ptr l) ∧ w'.cell? ⟨l, 2, none⟩ = some (.int .i64 now)) wb := by
            obtain ⟨q0, q1, q2, q3, q4⟩ := HS5
            exact ⟨(hbb.cell (p := ⟨b + 1, 0, none⟩) (by show b + 1 < _; omega)).trans q0, (hbb.cell (p := ⟨z, 0, none⟩) (by show z < _; omega)).trans q1, (hbb.cell (p := ⟨z, 1, none⟩) (by show z < _; omega)).trans q2, (hbb.cell (p := ⟨b, 0, none⟩) (by show b < _; omega)).trans q3, (hbb.cell (p := ⟨l, 2, none⟩) (by have := HB.out; show l < _; omega)).trans q4⟩
          have hbsz := hbb.size
          obtain ⟨v', w6, hrun, hown', hgrow, _, _⟩ := run_append_own_at wb (b + 10) 44 44 62 i0 (.agg #[.slice none 0 0, .int .i64 0]) 2 32 Try.underlying44 HI.out hz0 hz1 hz2 rfl (by decide) v0 us.length (flat us) hownb ⟨y, 0, none⟩ 1 1 [.slice A2 x.l.length c2, .int .i64 ((now : Int) - x.born)] rfl
            (fun j u hj => by
              rw [add_off, cell_of_row _ _ _ _ _ _ hyb]
              rcases j with _ | _ | j
              · simpa using hj
              · simpa using hj
              · simp at hj) (fun u hu => by simp at hu; rcases hu with rfl | rfl <;> rfl) (by unfold maxLen; omega) (by omega) (by omega)
          obtain ⟨Av, cv, rfl, _⟩ := own_shape hown'
          have hbig6 : w6.heap[b + 1]? = some (.cells #[v0] 44 (0, 0)) := by
            have h1 := (hbb.block (b + 1) (by omega)).trans ((hA4w.block (b + 1) (by have := HX.out.2.2.1; omega)).trans HBX.out.1)
            exact (hgrow.block (b + 1) (block_lt h1) (fun e => by have := (hownb.lt _ e.symm).1; omega)).trans h1
          have c6 : w6.cell? ⟨b + 1, 0, none⟩ = some v0 := by rw [cell_of_row _ _ _ _ _ _ hbig6]; rfl
          have f6 : w6.frozen? ⟨b + 1, 0, none⟩ = false := by simp [World.frozen?, hbig6]
          have HFin : Hid ((w6.setCell ⟨b + 1, 0, none⟩ (.slice Av (us.length + 1) cv)).heap[b + 4]? = some (Rc .busy none) ∧ RowRound w3 b now vs (Rc .ready none) (i + 1) ((w6.setCell ⟨b + 1, 0, none⟩ (.slice Av (us.length + 1) cv)).putObj (b + 3 + 1) (Rc .ready none)) ∧ Keeps (b + 5) 5 ps A ((w6.setCell ⟨b + 1, 0, none⟩ (.slice Av (us.length + 1) cv)).putObj (b + 3 + 1) (Rc .ready none))) := by
            obtain ⟨x1, x2, x3, x4, x5, x6, x7⟩ := HX.out
            have hgrow' : (w5.alloc (.cells #[.slice A2 x.l.length c2, .int .i64 ((now : Int) - x.born)] 62)).grownBy w6 v0.ownBlock := by rw [← hwb]; exact hgrow
            have hu : OwnB w5 A4.heap.size (.slice A2 x.l.length c2) x.l := ho5
            obtain ⟨g1, g2, g3⟩ := AtRow.app (u := ⟨A2, c2, x.l, (now : Int) - x.born⟩) HBX.out.1 HBX.out.2 x5.own x5.tur (by simp) (by omega) (by omega) (by omega) hA4w hu hown' hgrow'
            have h6 : (w6.setCell ⟨b + 1, 0, none⟩ (.slice Av (us.length + 1) cv)).heap[b + 4]? = some (Rc .busy none) := (g3 (b + 4) (by omega) (by omega) (by omega)).trans x4
            refine cover ⟨h6, ⟨⟨us ++ [⟨A2, c2, x.l, (now : Int) - x.born⟩], ?_, g1.turned (turned_put (L := [b + 4]) (Turned.refl _ _) (by simp) _) (by simp) (by simp; omega)⟩, ?_, World.putObj_heap_same (block_lt h6)⟩, ⟨?_, ?_⟩⟩
            · rw [List.take_add_one, x1, List.map_append, List.map_append, x2]; rfl
            · rw [World.putObj_heap_other (by omega), g3 (b + 3) (by omega) (by omega) (by omega)]; exact x6
            · have := HZ.out.1; simp only [World.putObj_size]; omega
            · intro j hj
              have hj2 : j ≠ b + 4 ∧ j ≠ b + 1 ∧ j < b + 10 ∧ j < z := by
                rcases hj with hj | hj
                · omega
                · have := HPS0.out j hj; have := HB.out; omega
              rw [World.putObj_heap_other hj2.1, g3 j (by omega) hj2.2.1 hj2.2.2.1, x7 j hj2.1 hj2.2.2.2]
          have HS6 : (fun w' : World => w'.cell? ⟨b + 1, 0, none⟩ = some v0 ∧ w'.cell? ⟨z, 0, none⟩ = some (.slice x.A x.l.length x.c) ∧ w'.cell? ⟨z, 1, none⟩ = some (.int .i64 x.born) ∧ w'.cell? ⟨b, 0, none⟩ = some (ptr l) ∧ w'.cell? ⟨l, 2, none⟩ = some (.int .i64 now)) w6 := by
            obtain ⟨q0, q1, q2, q3, q4⟩ := HSb
            have hzb6 : wb.heap[z]? = some (.cells #[.slice x.A x.l.length x.c, .int .i64 x.born] 73 (0, 0)) := (hbb.block z (by omega)).trans ((hA4w.block z (by have := HX.out.2.2.1; omega)).trans HZ4.out)
            have hne : v0.ownBlock ≠ some z := fun e => by
              rcases hownb.2 with ⟨hv, _⟩ | ⟨g', cap, cur, hv, _, hh, _⟩
              · rw [hv] at e; simp [Value.ownBlock] at e
              · rw [hv] at e
                have : g' = z := by simpa [Value.ownBlock] using e
                subst this; exact type_ne hzb6 hh (by decide) rfl
            have hlo : ∀ j, j < b + 10 → v0.ownBlock ≠ some j := fun j hj e => by have := (hownb.lt _ e).1; omega
            have hbl : ∀ (j o : Nat), j < wb.heap.size → v0.ownBlock ≠ some j → w6.cell? ⟨j, o, none⟩ = wb.cell? ⟨j, o, none⟩ := fun j o hj hn => World.cell?_of_block (hgrow.block j hj (fun e => hn e.symm))
            exact ⟨c6, (hbl z 0 (by omega) hne).trans q1, (hbl z 1 (by omega) hne).trans q2, (hbl b 0 (by omega) (hlo b (by omega))).trans q3, (hbl l 2 (by have := HB.out; omega) (hlo l (by have := HB.out; omega))).trans q4⟩
          have HRUN := cover hrun
          have HWB := cover hwb
          have HYY := cover hy
          clear hown' hgrow hbig6 hownb hyb hbb hwb hown5 hA4w e5 hs5 ho5 hb5 hy hrun
          refine hK _ _ (.inr HS5) ?_
          refine held_take 11 (.agg #[.slice A2 x.l.length c2, .int .i64 ((now : Int) - x.born)]) rfl (by kernel_rfl) (by kernel_rfl) (by kernel_rfl) (by kernel_rfl) (by kernel_rfl) (fun c a w h => by cases h.1) (by rfl) (fun _ => rfl) HS5 (fun w' hS => by obtain ⟨s0, s1, s2, s3, s4⟩ := hS; go_simp) ?_
          refine held_one 12 (by kernel_rfl) rfl (by rfl) fun K2 hK2 => ?_
          refine run_in (fun c h => by cases h) (fun _ _ => trivial) (v := .slice (some ⟨y, 0, none⟩) 1 1) (w' := wb) (by rw [HWB.out, HYY.out]; go_simp) ?_
          refine hK2 _ _ (.inr HSb) ?_
          refine held_one 13 (by kernel_rfl) rfl (by rfl) fun K3 hK3 => ?_
          refine run_in (fun c h => by cases h) (fun _ _ => trivial) (v := .slice Av (us.length + 1) cv) (w' := w6) (exec_append _ _ _ _ rfl _ _ rfl rfl HRUN.out) ?_
          refine hK3 _ _ (.inr HS6) ?_
          refine held_one 14 (by kernel_rfl) rfl (by rfl) fun K4 hK4 => ?_
          clear hul
          go_simp
          exact hK4 _ _ (.inl rfl) (held_done (by kernel_rfl) ⟨rfl, HFin⟩ _)
        case rest =>
          rintro e a W5 ⟨rfl, H5⟩
          exact ⟨H5.out.1, rfl, H5.out.2⟩
    rintro e W' ⟨⟨v, rfl⟩, hA⟩
    exact ⟨⟨v, rfl⟩, hA.dfr, .inl ⟨hA.rcd, _, hA⟩⟩
  case hdone =>
    rintro o' A ⟨o, hA⟩ hd
    rw [hsz] at hd ⊢
    obtain ⟨v, hcv, hd2, HO⟩ := HFIN.out o A hA o'
    clear hd hA
    gi_wp2
    refine ⟨by simp, .inl ⟨_, _, rfl, run_takeDeferred hd2, ?_⟩⟩
    have hcc := HO.out.1
    exact ⟨_, results_tmp (t := 6) rfl _ _ _, HO.out.2⟩
  case hstop =>
    rintro o c A h
    exact h.elim
end Go.Proofs.Ytjidhpmjdhjciaa
