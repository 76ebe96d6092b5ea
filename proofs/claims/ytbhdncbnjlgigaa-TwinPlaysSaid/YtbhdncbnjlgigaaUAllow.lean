/- What the rule's allows answers. -/
import Derived.Deep.CutBlock
import Derived.Deep.DeepCutAuto
import Derived.Test.YtbhdncbnjlgigaaURule
namespace Go.Proofs.Ytbhdncbnjlgigaa
open Go.RowKit
set_option linter.unusedVariables false
set_option linter.unusedSimpArgs false

/-- does a row allow a unit? -/
def roleB (r : RV) (p : PV) : Bool := if p.resp then r.rsp else r.cmd
def toB (r : RV) (p : PV) : Bool := inB p.to 0 255 && (r.grp || decide (p.to % 2 = 0))
def fromB (p : PV) : Bool := inB p.frm 0 255 && decide (p.frm % 2 = 0)
def allowB (r : RV) (p : PV) : Bool := roleB r p && toB r p && fromB p && inB p.info.length r.least r.most
theorem inB_iff {n a b : Int} : inB n a b = true ↔ a ≤ n ∧ n ≤ b := by simp [inB]

/-- the rule and the unit that were handed in lie behind world w; w2 is the world then -/
structure Laid (w w2 : World) (r : RV) (p : PV) (A : Option Addr) (c : Nat) : Prop where
  eq : w2 = (w.alloc (.cells #[.int .i64 r.code, .bool r.cmd, .bool r.rsp, .bool r.grp, .int .i64 r.least, .int .i64 r.most] 57)).alloc (.cells #[.int .i64 p.to, .int .i64 p.frm, .bool p.resp, .int .i64 p.form, .int .i64 p.kind, .int .i64 p.ns, .int .i64 p.nr, .bool p.poll, .slice A p.info.length c] 30)
theorem Laid.bel {w w2 : World} {r : RV} {p : PV} {A : Option Addr} {c : Nat} (h : Laid w w2 r p A c) : Below w.heap.size w w2 := by
  rw [h.eq]; exact ((Below.refl _ _).alloc (Nat.le_refl _) _).alloc (by simp) _
theorem Laid.rule {w w2 : World} {r : RV} {p : PV} {A : Option Addr} {c : Nat} (h : Laid w w2 r p A c) : w2.heap[w.heap.size]? = some (.cells #[.int .i64 r.code, .bool r.cmd, .bool r.rsp, .bool r.grp, .int .i64 r.least, .int .i64 r.most] 57 (0, 0)) := by
  rw [h.eq, heap_alloc2_old]
theorem Laid.unit {w w2 : World} {r : RV} {p : PV} {A : Option Addr} {c : Nat} (h : Laid w w2 r p A c) : w2.heap[w.heap.size + 1]? = some (.cells #[.int .i64 p.to, .int .i64 p.frm, .bool p.resp, .int .i64 p.form, .int .i64 p.kind, .int .i64 p.ns, .int .i64 p.nr, .bool p.poll, .slice A p.info.length c] 30 (0, 0)) := by
  rw [h.eq, heap_alloc2_new]
/-- three that all must be -/
theorem allow_of {r : RV} {p : PV} {a b d : Bool} (h1 : roleB r p = a) (h2 : toB r p = b) (h3 : fromB p = d) : allowB r p = (a && b && d && inB p.info.length r.least r.most) := by
  unfold allowB; rw [h1, h2, h3]

set_option maxHeartbeats 3200000 in
theorem allows_any (r : RV) (p : PV) (A : Option Addr) (c : Nat) (w : World) :
    Calls Try.prog 34 #[.agg #[.int .i64 r.code, .bool r.cmd, .bool r.rsp, .bool r.grp, .int .i64 r.least, .int .i64 r.most], .agg #[.int .i64 p.to, .int .i64 p.frm, .bool p.resp, .int .i64 p.form, .int .i64 p.kind, .int .i64 p.ns, .int .i64 p.nr, .bool p.poll, .slice A p.info.length c]] w fun e w' => e = .returned (.bool (allowB r p)) ∧ Below w.heap.size w w' := by
  obtain ⟨w2, hw2⟩ : ∃ w2, Hid (Laid w w2 r p A c) := ⟨_, cover ⟨rfl⟩⟩
  have H2 := cover hw2.out.bel
  obtain ⟨r0, r1, r2, r3, r4, r5⟩ := rule_cells hw2.out.rule
  obtain ⟨p0, p1, p2, p3, p4, p5, p6, p7, p8⟩ := pdu_cells hw2.out.unit
  have hw3 := hw2.out.eq
  have HW3 := cover hw3
  clear hw3 hw2
  rcases hq : p.resp with _ | _
  case false =>
    rw [hq] at HW3 p2
    rcases hg : r.grp with _ | _
    case false =>
      rw [hg] at HW3 r3
      have HQ : Hid (roleB r p = r.cmd) := cover (by unfold roleB; rw [hq]; rfl)
      have HG := cover hg
      clear hg
      have HQ2 := cover hq
      clear hq
      go_enter Try.func34, Try.ntmps34
      go_upto_region 4 with fail
      rw [← HW3.out]
      go_cut [6] (fun v wx => Hid (v = .bool (toB r p) ∧ w2 = wx))
      case first =>
        rcases hi : inB p.to 0 255 with _ | _
        case false =>
          have HR : Hid (toB r p = false) := cover (by unfold toB; rw [hi, HG.out]; rfl)
          have HI := cover hi
          clear hi
          have HB : ∀ W, Calls Try.prog 38 #[.int .i64 p.to, .int .i64 0, .int .i64 255] W fun e w' => e = .returned (.bool false) ∧ w' = W := fun W => (isWithin_any p.to 0 255 W).mono fun e w' h => by rw [HI.out] at h; exact h
          go_wp2_with ((go_at_call 38; refine (HB _).mono ?_; rintro e w' ⟨rfl, rfl⟩))
          go_meet
          exact cover ⟨by rw [HR.out], rfl⟩
        case true =>
          by_cases he : p.to % 2 = 0
          case pos =>
            have HR : Hid (toB r p = true) := cover (by unfold toB; rw [hi, HG.out]; simp [he])
            have HI := cover hi
            clear hi
            have HB : ∀ W, Calls Try.prog 38 #[.int .i64 p.to, .int .i64 0, .int .i64 255] W fun e w' => e = .returned (.bool true) ∧ w' = W := fun W => (isWithin_any p.to 0 255 W).mono fun e w' h => by rw [HI.out] at h; exact h
            have HE : ∀ W, Calls Try.prog 39 #[.int .i64 p.to] W fun e w' => e = .returned (.bool true) ∧ w' = W := fun W => (isEven_any p.to W (inB_iff.1 HI.out).1 (inB_iff.1 HI.out).2).mono fun e w' h => by rw [decide_eq_true he] at h; exact h
            have HEV := cover he
            clear he
            go_wp2_with (first | (go_at_call 38; refine (HB _).mono ?_; rintro e w' ⟨rfl, rfl⟩) | (go_at_call 39; refine (HE _).mono ?_; rintro e w' ⟨rfl, rfl⟩))
            go_meet
            exact cover ⟨by rw [HR.out], rfl⟩
          case neg =>
            have HR : Hid (toB r p = false) := cover (by unfold toB; rw [hi, HG.out]; simp; omega)
            have HI := cover hi
            clear hi
            have HB : ∀ W, Calls Try.prog 38 #[.int .i64 p.to, .int .i64 0, .int .i64 255] W fun e w' => e = .returned (.bool true) ∧ w' = W := fun W => (isWithin_any p.to 0 255 W).mono fun e w' h => by rw [HI.out] at h; exact h
            have HE : ∀ W, Calls Try.prog 39 #[.int .i64 p.to] W fun e w' => e = .returned (.bool false) ∧ w' = W := fun W => (isEven_any p.to W (inB_iff.1 HI.out).1 (inB_iff.1 HI.out).2).mono fun e w' h => by rw [decide_eq_false he] at h; exact h
            have HEV := cover he
            clear he
            go_wp2_with (first | (go_at_call 38; refine (HB _).mono ?_; rintro e w' ⟨rfl, rfl⟩) | (go_at_call 39; refine (HE _).mono ?_; rintro e w' ⟨rfl, rfl⟩))
            go_meet
            exact cover ⟨by rw [HR.out], rfl⟩
      case rest =>
        obtain ⟨hv, hwx⟩ := hcut.out
        subst hv
        subst hwx
        clear hcut
        obtain ⟨bt, hbt⟩ : ∃ b, Hid (toB r p = b) := ⟨_, cover rfl⟩
        rw [hbt.out]
        go_upto_region 5 with fail
        go_cut [7] (fun v wx => Hid (v = .bool (fromB p) ∧ w2 = wx))
        case first =>
          rcases hi : inB p.frm 0 255 with _ | _
          case false =>
            have HR : Hid (fromB p = false) := cover (by unfold fromB; rw [hi]; rfl)
            have HI := cover hi
            clear hi
            have HB : ∀ W, Calls Try.prog 38 #[.int .i64 p.frm, .int .i64 0, .int .i64 255] W fun e w' => e = .returned (.bool false) ∧ w' = W := fun W => (isWithin_any p.frm 0 255 W).mono fun e w' h => by rw [HI.out] at h; exact h
            go_wp2_with ((go_at_call 38; refine (HB _).mono ?_; rintro e w' ⟨rfl, rfl⟩))
            go_meet
            exact cover ⟨by rw [HR.out], rfl⟩
          case true =>
            by_cases he : p.frm % 2 = 0
            case pos =>
              have HR : Hid (fromB p = true) := cover (by unfold fromB; rw [hi]; simp [he])
              have HI := cover hi
              clear hi
              have HB : ∀ W, Calls Try.prog 38 #[.int .i64 p.frm, .int .i64 0, .int .i64 255] W fun e w' => e = .returned (.bool true) ∧ w' = W := fun W => (isWithin_any p.frm 0 255 W).mono fun e w' h => by rw [HI.out] at h; exact h
              have HE : ∀ W, Calls Try.prog 39 #[.int .i64 p.frm] W fun e w' => e = .returned (.bool true) ∧ w' = W := fun W => (isEven_any p.frm W (inB_iff.1 HI.out).1 (inB_iff.1 HI.out).2).mono fun e w' h => by rw [decide_eq_true he] at h; exact h
              have HEV := cover he
              clear he
              go_wp2_with (first | (go_at_call 38; refine (HB _).mono ?_; rintro e w' ⟨rfl, rfl⟩) | (go_at_call 39; refine (HE _).mono ?_; rintro e w' ⟨rfl, rfl⟩))
              go_meet
              exact cover ⟨by rw [HR.out], rfl⟩
            case neg =>
              have HR : Hid (fromB p = false) := cover (by unfold fromB; rw [hi]; simp; omega)
              have HI := cover hi
              clear hi
              have HB : ∀ W, Calls Try.prog 38 #[.int .i64 p.frm, .int .i64 0, .int .i64 255] W fun e w' => e = .returned (.bool true) ∧ w' = W := fun W => (isWithin_any p.frm 0 255 W).mono fun e w' h => by rw [HI.out] at h; exact h
              have HE : ∀ W, Calls Try.prog 39 #[.int .i64 p.frm] W fun e w' => e = .returned (.bool false) ∧ w' = W := fun W => (isEven_any p.frm W (inB_iff.1 HI.out).1 (inB_iff.1 HI.out).2).mono fun e w' h => by rw [decide_eq_false he] at h; exact h
              have HEV := cover he
              clear he
              go_wp2_with (first | (go_at_call 38; refine (HB _).mono ?_; rintro e w' ⟨rfl, rfl⟩) | (go_at_call 39; refine (HE _).mono ?_; rintro e w' ⟨rfl, rfl⟩))
              go_meet
              exact cover ⟨by rw [HR.out], rfl⟩
        case rest =>
          obtain ⟨hv, hwx⟩ := hcut.out
          subst hv
          subst hwx
          clear hcut
          obtain ⟨bf, hbf⟩ : ∃ b, Hid (fromB p = b) := ⟨_, cover rfl⟩
          rw [hbf.out]
          have HA := cover (allow_of HQ.out hbt.out hbf.out)
          clear HG HQ2 HW3 r1 r2
          rcases hbq : r.cmd with _ | _
          case false =>
            have HBQ := cover hbq
            clear hbq
            go_wp2_with fail
            go_ret
            exact ⟨ret_bool (by rw [HA.out, HBQ.out]; simp), H2.out⟩
          case true =>
            have HBQ := cover hbq
            clear hbq
            rcases bt with _ | _
            case false =>
              go_wp2_with fail
              go_ret
              exact ⟨ret_bool (by rw [HA.out, HBQ.out]; simp), H2.out⟩
            case true =>
              rcases bf with _ | _
              case false =>
                go_wp2_with fail
                go_ret
                exact ⟨ret_bool (by rw [HA.out, HBQ.out]; simp), H2.out⟩
              case true =>
                go_wp2_with (go_at_call 38; refine (isWithin_any _ _ _ _).mono ?_; rintro e w' ⟨rfl, rfl⟩)
                go_ret
                exact ⟨ret_bool (by rw [HA.out, HBQ.out]; simp), H2.out⟩
    case true =>
      rw [hg] at HW3 r3
      have HQ : Hid (roleB r p = r.cmd) := cover (by unfold roleB; rw [hq]; rfl)
      have HG := cover hg
      clear hg
      have HQ2 := cover hq
      clear hq
      go_enter Try.func34, Try.ntmps34
      go_upto_region 4 with fail
      rw [← HW3.out]
      go_cut [6] (fun v wx => Hid (v = .bool (toB r p) ∧ w2 = wx))
      case first =>
        rcases hi : inB p.to 0 255 with _ | _
        case false =>
          have HR : Hid (toB r p = false) := cover (by unfold toB; rw [hi, HG.out]; rfl)
          have HI := cover hi
          clear hi
          have HB : ∀ W, Calls Try.prog 38 #[.int .i64 p.to, .int .i64 0, .int .i64 255] W fun e w' => e = .returned (.bool false) ∧ w' = W := fun W => (isWithin_any p.to 0 255 W).mono fun e w' h => by rw [HI.out] at h; exact h
          go_wp2_with ((go_at_call 38; refine (HB _).mono ?_; rintro e w' ⟨rfl, rfl⟩))
          go_meet
          exact cover ⟨by rw [HR.out], rfl⟩
        case true =>
          have HR : Hid (toB r p = true) := cover (by unfold toB; rw [hi, HG.out]; rfl)
          have HI := cover hi
          clear hi
          have HB : ∀ W, Calls Try.prog 38 #[.int .i64 p.to, .int .i64 0, .int .i64 255] W fun e w' => e = .returned (.bool true) ∧ w' = W := fun W => (isWithin_any p.to 0 255 W).mono fun e w' h => by rw [HI.out] at h; exact h
          go_wp2_with ((go_at_call 38; refine (HB _).mono ?_; rintro e w' ⟨rfl, rfl⟩))
          go_meet
          exact cover ⟨by rw [HR.out], rfl⟩
      case rest =>
        obtain ⟨hv, hwx⟩ := hcut.out
        subst hv
        subst hwx
        clear hcut
        obtain ⟨bt, hbt⟩ : ∃ b, Hid (toB r p = b) := ⟨_, cover rfl⟩
        rw [hbt.out]
        go_upto_region 5 with fail
        go_cut [7] (fun v wx => Hid (v = .bool (fromB p) ∧ w2 = wx))
        case first =>
          rcases hi : inB p.frm 0 255 with _ | _
          case false =>
            have HR : Hid (fromB p = false) := cover (by unfold fromB; rw [hi]; rfl)
            have HI := cover hi
            clear hi
            have HB : ∀ W, Calls Try.prog 38 #[.int .i64 p.frm, .int .i64 0, .int .i64 255] W fun e w' => e = .returned (.bool false) ∧ w' = W := fun W => (isWithin_any p.frm 0 255 W).mono fun e w' h => by rw [HI.out] at h; exact h
            go_wp2_with ((go_at_call 38; refine (HB _).mono ?_; rintro e w' ⟨rfl, rfl⟩))
            go_meet
            exact cover ⟨by rw [HR.out], rfl⟩
          case true =>
            by_cases he : p.frm % 2 = 0
            case pos =>
              have HR : Hid (fromB p = true) := cover (by unfold fromB; rw [hi]; simp [he])
              have HI := cover hi
              clear hi
              have HB : ∀ W, Calls Try.prog 38 #[.int .i64 p.frm, .int .i64 0, .int .i64 255] W fun e w' => e = .returned (.bool true) ∧ w' = W := fun W => (isWithin_any p.frm 0 255 W).mono fun e w' h => by rw [HI.out] at h; exact h
              have HE : ∀ W, Calls Try.prog 39 #[.int .i64 p.frm] W fun e w' => e = .returned (.bool true) ∧ w' = W := fun W => (isEven_any p.frm W (inB_iff.1 HI.out).1 (inB_iff.1 HI.out).2).mono fun e w' h => by rw [decide_eq_true he] at h; exact h
              have HEV := cover he
              clear he
              go_wp2_with (first | (go_at_call 38; refine (HB _).mono ?_; rintro e w' ⟨rfl, rfl⟩) | (go_at_call 39; refine (HE _).mono ?_; rintro e w' ⟨rfl, rfl⟩))
              go_meet
              exact cover ⟨by rw [HR.out], rfl⟩
            case neg =>
              have HR : Hid (fromB p = false) := cover (by unfold fromB; rw [hi]; simp; omega)
              have HI := cover hi
              clear hi
              have HB : ∀ W, Calls Try.prog 38 #[.int .i64 p.frm, .int .i64 0, .int .i64 255] W fun e w' => e = .returned (.bool true) ∧ w' = W := fun W => (isWithin_any p.frm 0 255 W).mono fun e w' h => by rw [HI.out] at h; exact h
              have HE : ∀ W, Calls Try.prog 39 #[.int .i64 p.frm] W fun e w' => e = .returned (.bool false) ∧ w' = W := fun W => (isEven_any p.frm W (inB_iff.1 HI.out).1 (inB_iff.1 HI.out).2).mono fun e w' h => by rw [decide_eq_false he] at h; exact h
              have HEV := cover he
              clear he
              go_wp2_with (first | (go_at_call 38; refine (HB _).mono ?_; rintro e w' ⟨rfl, rfl⟩) | (go_at_call 39; refine (HE _).mono ?_; rintro e w' ⟨rfl, rfl⟩))
              go_meet
              exact cover ⟨by rw [HR.out], rfl⟩
        case rest =>
          obtain ⟨hv, hwx⟩ := hcut.out
          subst hv
          subst hwx
          clear hcut
          obtain ⟨bf, hbf⟩ : ∃ b, Hid (fromB p = b) := ⟨_, cover rfl⟩
          rw [hbf.out]
          have HA := cover (allow_of HQ.out hbt.out hbf.out)
          clear HG HQ2 HW3 r1 r2
          rcases hbq : r.cmd with _ | _
          case false =>
            have HBQ := cover hbq
            clear hbq
            go_wp2_with fail
            go_ret
            exact ⟨ret_bool (by rw [HA.out, HBQ.out]; simp), H2.out⟩
          case true =>
            have HBQ := cover hbq
            clear hbq
            rcases bt with _ | _
            case false =>
              go_wp2_with fail
              go_ret
              exact ⟨ret_bool (by rw [HA.out, HBQ.out]; simp), H2.out⟩
            case true =>
              rcases bf with _ | _
              case false =>
                go_wp2_with fail
                go_ret
                exact ⟨ret_bool (by rw [HA.out, HBQ.out]; simp), H2.out⟩
              case true =>
                go_wp2_with (go_at_call 38; refine (isWithin_any _ _ _ _).mono ?_; rintro e w' ⟨rfl, rfl⟩)
                go_ret
                exact ⟨ret_bool (by rw [HA.out, HBQ.out]; simp), H2.out⟩
  case true =>
    rw [hq] at HW3 p2
    rcases hg : r.grp with _ | _
    case false =>
      rw [hg] at HW3 r3
      have HQ : Hid (roleB r p = r.rsp) := cover (by unfold roleB; rw [hq]; rfl)
      have HG := cover hg
      clear hg
      have HQ2 := cover hq
      clear hq
      go_enter Try.func34, Try.ntmps34
      go_upto_region 4 with fail
      rw [← HW3.out]
      go_cut [6] (fun v wx => Hid (v = .bool (toB r p) ∧ w2 = wx))
      case first =>
        rcases hi : inB p.to 0 255 with _ | _
        case false =>
          have HR : Hid (toB r p = false) := cover (by unfold toB; rw [hi, HG.out]; rfl)
          have HI := cover hi
          clear hi
          have HB : ∀ W, Calls Try.prog 38 #[.int .i64 p.to, .int .i64 0, .int .i64 255] W fun e w' => e = .returned (.bool false) ∧ w' = W := fun W => (isWithin_any p.to 0 255 W).mono fun e w' h => by rw [HI.out] at h; exact h
          go_wp2_with ((go_at_call 38; refine (HB _).mono ?_; rintro e w' ⟨rfl, rfl⟩))
          go_meet
          exact cover ⟨by rw [HR.out], rfl⟩
        case true =>
          by_cases he : p.to % 2 = 0
          case pos =>
            have HR : Hid (toB r p = true) := cover (by unfold toB; rw [hi, HG.out]; simp [he])
            have HI := cover hi
            clear hi
            have HB : ∀ W, Calls Try.prog 38 #[.int .i64 p.to, .int .i64 0, .int .i64 255] W fun e w' => e = .returned (.bool true) ∧ w' = W := fun W => (isWithin_any p.to 0 255 W).mono fun e w' h => by rw [HI.out] at h; exact h
            have HE : ∀ W, Calls Try.prog 39 #[.int .i64 p.to] W fun e w' => e = .returned (.bool true) ∧ w' = W := fun W => (isEven_any p.to W (inB_iff.1 HI.out).1 (inB_iff.1 HI.out).2).mono fun e w' h => by rw [decide_eq_true he] at h; exact h
            have HEV := cover he
            clear he
            go_wp2_with (first | (go_at_call 38; refine (HB _).mono ?_; rintro e w' ⟨rfl, rfl⟩) | (go_at_call 39; refine (HE _).mono ?_; rintro e w' ⟨rfl, rfl⟩))
            go_meet
            exact cover ⟨by rw [HR.out], rfl⟩
          case neg =>
            have HR : Hid (toB r p = false) := cover (by unfold toB; rw [hi, HG.out]; simp; omega)
            have HI := cover hi
            clear hi
            have HB : ∀ W, Calls Try.prog 38 #[.int .i64 p.to, .int .i64 0, .int .i64 255] W fun e w' => e = .returned (.bool true) ∧ w' = W := fun W => (isWithin_any p.to 0 255 W).mono fun e w' h => by rw [HI.out] at h; exact h
            have HE : ∀ W, Calls Try.prog 39 #[.int .i64 p.to] W fun e w' => e = .returned (.bool false) ∧ w' = W := fun W => (isEven_any p.to W (inB_iff.1 HI.out).1 (inB_iff.1 HI.out).2).mono fun e w' h => by rw [decide_eq_false he] at h; exact h
            have HEV := cover he
            clear he
            go_wp2_with (first | (go_at_call 38; refine (HB _).mono ?_; rintro e w' ⟨rfl, rfl⟩) | (go_at_call 39; refine (HE _).mono ?_; rintro e w' ⟨rfl, rfl⟩))
            go_meet
            exact cover ⟨by rw [HR.out], rfl⟩
      case rest =>
        obtain ⟨hv, hwx⟩ := hcut.out
        subst hv
        subst hwx
        clear hcut
        obtain ⟨bt, hbt⟩ : ∃ b, Hid (toB r p = b) := ⟨_, cover rfl⟩
        rw [hbt.out]
        go_upto_region 5 with fail
        go_cut [7] (fun v wx => Hid (v = .bool (fromB p) ∧ w2 = wx))
        case first =>
          rcases hi : inB p.frm 0 255 with _ | _
          case false =>
            have HR : Hid (fromB p = false) := cover (by unfold fromB; rw [hi]; rfl)
            have HI := cover hi
            clear hi
            have HB : ∀ W, Calls Try.prog 38 #[.int .i64 p.frm, .int .i64 0, .int .i64 255] W fun e w' => e = .returned (.bool false) ∧ w' = W := fun W => (isWithin_any p.frm 0 255 W).mono fun e w' h => by rw [HI.out] at h; exact h
            go_wp2_with ((go_at_call 38; refine (HB _).mono ?_; rintro e w' ⟨rfl, rfl⟩))
            go_meet
            exact cover ⟨by rw [HR.out], rfl⟩
          case true =>
            by_cases he : p.frm % 2 = 0
            case pos =>
              have HR : Hid (fromB p = true) := cover (by unfold fromB; rw [hi]; simp [he])
              have HI := cover hi
              clear hi
              have HB : ∀ W, Calls Try.prog 38 #[.int .i64 p.frm, .int .i64 0, .int .i64 255] W fun e w' => e = .returned (.bool true) ∧ w' = W := fun W => (isWithin_any p.frm 0 255 W).mono fun e w' h => by rw [HI.out] at h; exact h
              have HE : ∀ W, Calls Try.prog 39 #[.int .i64 p.frm] W fun e w' => e = .returned (.bool true) ∧ w' = W := fun W => (isEven_any p.frm W (inB_iff.1 HI.out).1 (inB_iff.1 HI.out).2).mono fun e w' h => by rw [decide_eq_true he] at h; exact h
              have HEV := cover he
              clear he
              go_wp2_with (first | (go_at_call 38; refine (HB _).mono ?_; rintro e w' ⟨rfl, rfl⟩) | (go_at_call 39; refine (HE _).mono ?_; rintro e w' ⟨rfl, rfl⟩))
              go_meet
              exact cover ⟨by rw [HR.out], rfl⟩
            case neg =>
              have HR : Hid (fromB p = false) := cover (by unfold fromB; rw [hi]; simp; omega)
              have HI := cover hi
              clear hi
              have HB : ∀ W, Calls Try.prog 38 #[.int .i64 p.frm, .int .i64 0, .int .i64 255] W fun e w' => e = .returned (.bool true) ∧ w' = W := fun W => (isWithin_any p.frm 0 255 W).mono fun e w' h => by rw [HI.out] at h; exact h
              have HE : ∀ W, Calls Try.prog 39 #[.int .i64 p.frm] W fun e w' => e = .returned (.bool false) ∧ w' = W := fun W => (isEven_any p.frm W (inB_iff.1 HI.out).1 (inB_iff.1 HI.out).2).mono fun e w' h => by rw [decide_eq_false he] at h; exact h
              have HEV := cover he
              clear he
              go_wp2_with (first | (go_at_call 38; refine (HB _).mono ?_; rintro e w' ⟨rfl, rfl⟩) | (go_at_call 39; refine (HE _).mono ?_; rintro e w' ⟨rfl, rfl⟩))
              go_meet
              exact cover ⟨by rw [HR.out], rfl⟩
        case rest =>
          obtain ⟨hv, hwx⟩ := hcut.out
          subst hv
          subst hwx
          clear hcut
          obtain ⟨bf, hbf⟩ : ∃ b, Hid (fromB p = b) := ⟨_, cover rfl⟩
          rw [hbf.out]
          have HA := cover (allow_of HQ.out hbt.out hbf.out)
          clear HG HQ2 HW3 r1 r2
          rcases hbq : r.rsp with _ | _
          case false =>
            have HBQ := cover hbq
            clear hbq
            go_wp2_with fail
            go_ret
            exact ⟨ret_bool (by rw [HA.out, HBQ.out]; simp), H2.out⟩
          case true =>
            have HBQ := cover hbq
            clear hbq
            rcases bt with _ | _
            case false =>
              go_wp2_with fail
              go_ret
              exact ⟨ret_bool (by rw [HA.out, HBQ.out]; simp), H2.out⟩
            case true =>
              rcases bf with _ | _
              case false =>
                go_wp2_with fail
                go_ret
                exact ⟨ret_bool (by rw [HA.out, HBQ.out]; simp), H2.out⟩
              case true =>
                go_wp2_with (go_at_call 38; refine (isWithin_any _ _ _ _).mono ?_; rintro e w' ⟨rfl, rfl⟩)
                go_ret
                exact ⟨ret_bool (by rw [HA.out, HBQ.out]; simp), H2.out⟩
    case true =>
      rw [hg] at HW3 r3
      have HQ : Hid (roleB r p = r.rsp) := cover (by unfold roleB; rw [hq]; rfl)
      have HG := cover hg
      clear hg
      have HQ2 := cover hq
      clear hq
      go_enter Try.func34, Try.ntmps34
      go_upto_region 4 with fail
      rw [← HW3.out]
      go_cut [6] (fun v wx => Hid (v = .bool (toB r p) ∧ w2 = wx))
      case first =>
        rcases hi : inB p.to 0 255 with _ | _
        case false =>
          have HR : Hid (toB r p = false) := cover (by unfold toB; rw [hi, HG.out]; rfl)
          have HI := cover hi
          clear hi
          have HB : ∀ W, Calls Try.prog 38 #[.int .i64 p.to, .int .i64 0, .int .i64 255] W fun e w' => e = .returned (.bool false) ∧ w' = W := fun W => (isWithin_any p.to 0 255 W).mono fun e w' h => by rw [HI.out] at h; exact h
          go_wp2_with ((go_at_call 38; refine (HB _).mono ?_; rintro e w' ⟨rfl, rfl⟩))
          go_meet
          exact cover ⟨by rw [HR.out], rfl⟩
        case true =>
          have HR : Hid (toB r p = true) := cover (by unfold toB; rw [hi, HG.out]; rfl)
          have HI := cover hi
          clear hi
          have HB : ∀ W, Calls Try.prog 38 #[.int .i64 p.to, .int .i64 0, .int .i64 255] W fun e w' => e = .returned (.bool true) ∧ w' = W := fun W => (isWithin_any p.to 0 255 W).mono fun e w' h => by rw [HI.out] at h; exact h
          go_wp2_with ((go_at_call 38; refine (HB _).mono ?_; rintro e w' ⟨rfl, rfl⟩))
          go_meet
          exact cover ⟨by rw [HR.out], rfl⟩
      case rest =>
        obtain ⟨hv, hwx⟩ := hcut.out
        subst hv
        subst hwx
        clear hcut
        obtain ⟨bt, hbt⟩ : ∃ b, Hid (toB r p = b) := ⟨_, cover rfl⟩
        rw [hbt.out]
        go_upto_region 5 with fail
        go_cut [7] (fun v wx => Hid (v = .bool (fromB p) ∧ w2 = wx))
        case first =>
          rcases hi : inB p.frm 0 255 with _ | _
          case false =>
            have HR : Hid (fromB p = false) := cover (by unfold fromB; rw [hi]; rfl)
            have HI := cover hi
            clear hi
            have HB : ∀ W, Calls Try.prog 38 #[.int .i64 p.frm, .int .i64 0, .int .i64 255] W fun e w' => e = .returned (.bool false) ∧ w' = W := fun W => (isWithin_any p.frm 0 255 W).mono fun e w' h => by rw [HI.out] at h; exact h
            go_wp2_with ((go_at_call 38; refine (HB _).mono ?_; rintro e w' ⟨rfl, rfl⟩))
            go_meet
            exact cover ⟨by rw [HR.out], rfl⟩
          case true =>
            by_cases he : p.frm % 2 = 0
            case pos =>
              have HR : Hid (fromB p = true) := cover (by unfold fromB; rw [hi]; simp [he])
              have HI := cover hi
              clear hi
              have HB : ∀ W, Calls Try.prog 38 #[.int .i64 p.frm, .int .i64 0, .int .i64 255] W fun e w' => e = .returned (.bool true) ∧ w' = W := fun W => (isWithin_any p.frm 0 255 W).mono fun e w' h => by rw [HI.out] at h; exact h
              have HE : ∀ W, Calls Try.prog 39 #[.int .i64 p.frm] W fun e w' => e = .returned (.bool true) ∧ w' = W := fun W => (isEven_any p.frm W (inB_iff.1 HI.out).1 (inB_iff.1 HI.out).2).mono fun e w' h => by rw [decide_eq_true he] at h; exact h
              have HEV := cover he
              clear he
              go_wp2_with (first | (go_at_call 38; refine (HB _).mono ?_; rintro e w' ⟨rfl, rfl⟩) | (go_at_call 39; refine (HE _).mono ?_; rintro e w' ⟨rfl, rfl⟩))
              go_meet
              exact cover ⟨by rw [HR.out], rfl⟩
            case neg =>
              have HR : Hid (fromB p = false) := cover (by unfold fromB; rw [hi]; simp; omega)
              have HI := cover hi
              clear hi
              have HB : ∀ W, Calls Try.prog 38 #[.int .i64 p.frm, .int .i64 0, .int .i64 255] W fun e w' => e = .returned (.bool true) ∧ w' = W := fun W => (isWithin_any p.frm 0 255 W).mono fun e w' h => by rw [HI.out] at h; exact h
              have HE : ∀ W, Calls Try.prog 39 #[.int .i64 p.frm] W fun e w' => e = .returned (.bool false) ∧ w' = W := fun W => (isEven_any p.frm W (inB_iff.1 HI.out).1 (inB_iff.1 HI.out).2).mono fun e w' h => by rw [decide_eq_false he] at h; exact h
              have HEV := cover he
              clear he
              go_wp2_with (first | (go_at_call 38; refine (HB _).mono ?_; rintro e w' ⟨rfl, rfl⟩) | (go_at_call 39; refine (HE _).mono ?_; rintro e w' ⟨rfl, rfl⟩))
              go_meet
              exact cover ⟨by rw [HR.out], rfl⟩
        case rest =>
          obtain ⟨hv, hwx⟩ := hcut.out
          subst hv
          subst hwx
          clear hcut
          obtain ⟨bf, hbf⟩ : ∃ b, Hid (fromB p = b) := ⟨_, cover rfl⟩
          rw [hbf.out]
          have HA := cover (allow_of HQ.out hbt.out hbf.out)
          clear HG HQ2 HW3 r1 r2
          rcases hbq : r.rsp with _ | _
          case false =>
            have HBQ := cover hbq
            clear hbq
            go_wp2_with fail
            go_ret
            exact ⟨ret_bool (by rw [HA.out, HBQ.out]; simp), H2.out⟩
          case true =>
            have HBQ := cover hbq
            clear hbq
            rcases bt with _ | _
            case false =>
              go_wp2_with fail
              go_ret
              exact ⟨ret_bool (by rw [HA.out, HBQ.out]; simp), H2.out⟩
            case true =>
              rcases bf with _ | _
              case false =>
                go_wp2_with fail
                go_ret
                exact ⟨ret_bool (by rw [HA.out, HBQ.out]; simp), H2.out⟩
              case true =>
                go_wp2_with (go_at_call 38; refine (isWithin_any _ _ _ _).mono ?_; rintro e w' ⟨rfl, rfl⟩)
                go_ret
                exact ⟨ret_bool (by rw [HA.out, HBQ.out]; simp), H2.out⟩
end Go.Proofs.Ytbhdncbnjlgigaa
