/- Encode and Decode as the laws call them. -/
import Derived.Test.YtbpmhfekjihhhaaMSame
import Derived.Test.YtbpmhfekjihhhaaMEnc
import Derived.Test.YtbpmhfekjihhhaaMDec
import Derived.Test.YtbpmhfekjihhhaaMBack
namespace Go.Proofs.Ytbpmhfekjihhhaa
open Go.RowKit
set_option linter.unusedVariables false

theorem bts_six {t0 t1 t2 t3 t4 t5 : Int} {L : List Int} (h : Bts [t0, t1, t2, t3, t4, t5]) : Bts [t0, t1, t2, t3, t4, t5] := h
/-- what is sealed of a frame, as one row -/
structure SealOf (to fr d s : List Int) : Prop where
  eq : sealB (bodyB to fr d) = s
  bts : Bts s
  len : s.length = 18 + max d.length 46
theorem sealOf {t0 t1 t2 t3 t4 t5 f0 f1 f2 f3 f4 f5 : Int} {d : List Int} (h1 : Bts [t0, t1, t2, t3, t4, t5]) (h2 : Bts [f0, f1, f2, f3, f4, f5]) (h3 : Bts d) : SealOf [t0, t1, t2, t3, t4, t5] [f0, f1, f2, f3, f4, f5] d (sealB (bodyB [t0, t1, t2, t3, t4, t5] [f0, f1, f2, f3, f4, f5] d)) :=
  ⟨rfl, sealB_bts (bodyB_bts h1 h2 h3), enc_length rfl rfl⟩
/-- Encode of a frame that may be -/
theorem enc_ok (T : Array Value) (t0 t1 t2 t3 t4 t5 f0 f1 f2 f3 f4 f5 : Int) (A : Option Addr) (n c B : Nat) (d s : List Int) (w : World) (ht : Made T) (hr : Row w B A n d) (hB : B ≤ w.heap.size) (hc : n ≤ c) (hnil : A = none → c = 0) (h1 : Bts [t0, t1, t2, t3, t4, t5]) (h2 : Bts [f0, f1, f2, f3, f4, f5]) (h3 : Bts d)
    (hg : grp f0 = false) (hn : d.length ≤ 1500) (hs : SealOf [t0, t1, t2, t3, t4, t5] [f0, f1, f2, f3, f4, f5] d s) :
    Calls Try.prog 14 #[.agg T, .agg #[.int .u8 t0, .int .u8 t1, .int .u8 t2, .int .u8 t3, .int .u8 t4, .int .u8 t5, .int .u8 f0, .int .u8 f1, .int .u8 f2, .int .u8 f3, .int .u8 f4, .int .u8 f5, .slice A n c]] w fun e w' => ∃ A' c', e = .returned (.tuple #[.slice A' s.length c', .int .i64 0]) ∧ OwnB w' w.heap.size (.slice A' s.length c') s ∧ Below w.heap.size w w' := by
  have hE : encE f0 d = 0 := by unfold encE; rw [hg, if_neg (by decide), if_neg (by omega)]
  have hO : encO [t0, t1, t2, t3, t4, t5] [f0, f1, f2, f3, f4, f5] d f0 = s := by unfold encO; rw [hE, if_pos rfl, hs.eq]
  refine (enc_any T t0 t1 t2 t3 t4 t5 f0 f1 f2 f3 f4 f5 A n c B d w ht hr hB hc hnil h1 h2 h3).mono ?_
  rintro e w' ⟨A', c', he, ho, hb⟩
  rw [hO] at he ho
  rw [hE] at he
  exact ⟨A', c', he, ho, hb⟩
/-- Decode of a frame that went out -/
theorem dec_ok (T : Array Value) (t0 t1 t2 t3 t4 t5 f0 f1 f2 f3 f4 f5 : Int) (A : Option Addr) (c B : Nat) (d s : List Int) (w : World) (ht : Made T) (hr : Row w B A s.length s) (hB : B ≤ w.heap.size) (hc : s.length ≤ c) (hcm : c ≤ 9223372036854775807)
    (hg : grp f0 = false) (hn : d.length ≤ 1500) (hs : SealOf [t0, t1, t2, t3, t4, t5] [f0, f1, f2, f3, f4, f5] d s) :
    Calls Try.prog 16 #[.agg T, .slice A s.length c] w fun e w' => ∃ A' c', e = .returned (.tuple #[.agg #[.int .u8 t0, .int .u8 t1, .int .u8 t2, .int .u8 t3, .int .u8 t4, .int .u8 t5, .int .u8 f0, .int .u8 f1, .int .u8 f2, .int .u8 f3, .int .u8 f4, .int .u8 f5, .slice A' d.length c'], .int .i64 0]) ∧ OwnB w' w.heap.size (.slice A' d.length c') d ∧ Below w.heap.size w w' := by
  obtain ⟨e1, e2, e3⟩ := enc_D (to := [t0, t1, t2, t3, t4, t5]) (f0 := f0) (l := [f1, f2, f3, f4, f5]) (d := d) rfl rfl hn hg
  have e0 := errD_enc (to := [t0, t1, t2, t3, t4, t5]) (f0 := f0) (l := [f1, f2, f3, f4, f5]) (d := d) rfl rfl hn hg
  rw [hs.eq] at e0 e1 e2 e3
  refine (dec_any T A s.length c B s w ht hr hB hs.bts hc (by rw [hs.len]; omega) hcm).mono ?_
  rintro e w' ⟨x0, x1, x2, x3, x4, x5, y0, y1, y2, y3, y4, y5, A', c', dd, he, hq, ho, hb⟩
  obtain ⟨q1, q2, q3⟩ := hq.out
  rw [e1] at q1
  rw [e2] at q2
  rw [e3] at q3
  rw [e0] at he
  injection q1 with z0 q1; injection q1 with z1 q1; injection q1 with z2 q1; injection q1 with z3 q1; injection q1 with z4 q1; injection q1 with z5 _
  injection q2 with v0 q2; injection q2 with v1 q2; injection q2 with v2 q2; injection q2 with v3 q2; injection q2 with v4 q2; injection q2 with v5 _
  subst z0 z1 z2 z3 z4 z5 v0 v1 v2 v3 v4 v5 q3
  exact ⟨A', c', he, ho, hb⟩
/-- Decode's second answer -/
theorem dec_err (T : Array Value) (A : Option Addr) (n c B : Nat) (l : List Int) (w : World) (ht : Made T) (hr : Row w B A n l) (hB : B ≤ w.heap.size) (hb : Bts l) (hc : n ≤ c) (hmax : n ≤ 140737488355328) (hcm : c ≤ 9223372036854775807) :
    Calls Try.prog 16 #[.agg T, .slice A n c] w fun e w' => (∃ (t0 t1 t2 t3 t4 t5 f0 f1 f2 f3 f4 f5 : Int) (A' : Option Addr) (m c' : Nat), e = .returned (.tuple #[.agg #[.int .u8 t0, .int .u8 t1, .int .u8 t2, .int .u8 t3, .int .u8 t4, .int .u8 t5, .int .u8 f0, .int .u8 f1, .int .u8 f2, .int .u8 f3, .int .u8 f4, .int .u8 f5, .slice A' m c'], .int .i64 (errD l)])) ∧ Below w.heap.size w w' := by
  refine (dec_any T A n c B l w ht hr hB hb hc hmax hcm).mono ?_
  rintro e w' ⟨x0, x1, x2, x3, x4, x5, y0, y1, y2, y3, y4, y5, A', c', dd, he, _, _, hb'⟩
  exact ⟨⟨_, _, _, _, _, _, _, _, _, _, _, _, _, _, _, he⟩, hb'⟩
theorem grp_two : grp 2 = false := by decide
theorem grp_all : grp 255 = true := by decide
theorem grp_nought : grp 0 = false := by decide
end Go.Proofs.Ytbpmhfekjihhhaa
