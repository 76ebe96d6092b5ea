/- The grid's rules, each function's: what it hands back. Written by gen/genjrules.py. -/
import Derived.Great.BuildSlice
import Derived.Test.YtlffhnplcgmhlaaRows
import Derived.Test.YtlffhnplcgmhlaaJRow
namespace Go.Proofs.Ytlffhnplcgmhlaa
open Go.RowKit
set_option linter.unusedVariables false
set_option linter.unusedSimpArgs false

def askingL (s : Int) : List RuleV := [(11, [12, 7], 0), (8, [2], s), (9, [3, 12, 7], 0), (2, [1, 33, 13], 6), (29, [0, 32, 13], s), (33, [12, 7], 0)]
def linkedL  : List RuleV := [(3, [12, 0, 33, 13], 3), (2, [12, 1, 33, 13], 6), (8, [12, 8], 4), (9, [12, 2, 7], 0), (11, [12, 7], 0), (12, [12, 8], 5), (28, [12, 4, 33, 13], 7), (33, [12, 8], 5)]
def sendingL (s a p n : Int) : List RuleV := [(5, [31], s), (19, [20, 19, 31], s), (20, [20, 19, a, 31], s), (22, [19, 21, 17], s), (23, [19, 21, 17, a], s), (25, [20, 19, 22, 34, 31], s), (26, [20, 19, 22, 34, a, 31], s), (29, [p, 14, 32, 34], n), (32, [p, 14, 32], n)]
def awaitingL (s a p n : Int) : List RuleV := [(19, [20, 19], s), (20, [20, 19, a], s), (21, [20, 19, 22, 33, 31], n), (22, [19, 21], s), (23, [19, 21, a], s), (24, [19, 21, 17, 22, 33], n), (25, [20, 19], s), (26, [20, 19, a], s), (27, [20, 19, 22, 34, 33, 31], n), (30, [p, 14, 32], s)]
def admL  : List RuleV := [(0, [0, 33, 13], 2), (8, [5], 1), (9, [3], 0), (20, [3], 0)]
def connL  : List RuleV := [(1, [2, 10], 8), (2, [3], 0), (9, [2, 7], 0)]
def setupL  : List RuleV := [(10, [12, 10, 6], 8)]
def resetL  : List RuleV := [(10, [12, 10, 9], 8)]
def resetCheckL  : List RuleV := [(4, [2, 10], 8), (2, [3], 0), (9, [2, 7], 0), (11, [7], 0)]
def resetWaitL  : List RuleV := [(3, [0, 33, 13], 3), (2, [1, 33, 13], 6), (8, [8], 4), (9, [2, 7], 0), (11, [7], 0)]
def dConnL  : List RuleV := [(10, [12], 0), (11, [12], 0), (8, [3, 12], 0), (9, [2], 6), (29, [1, 32, 13], 6), (33, [12], 0)]
def inErrorL  : List RuleV := [(8, [12, 8], 4), (9, [2, 12, 7], 0), (11, [12, 7], 0), (12, [12, 8], 5), (20, [4], 7), (29, [4, 32, 13], 7), (33, [12, 8], 5), (3, [12, 0, 33, 13], 3), (2, [12, 1, 33, 13], 6)]
def normalL  : List RuleV := [(6, [25], 9), (13, [19, 18, 23, 31], 8), (14, [19, 18, 24, 31], 8), (16, [19, 27, 15, 31], 10), (17, [19, 28, 15, 31], 10)]
def busyL  : List RuleV := [(7, [23], 8), (13, [19, 25, 31], 9), (14, [19, 26, 31], 9), (16, [19, 25, 31], 9), (17, [19, 26, 31], 9)]
def rejectL  : List RuleV := [(6, [16, 25], 9), (13, [19, 18, 16, 23, 31], 8), (14, [19, 18, 16, 24, 31], 8), (16, [19, 31], 10), (17, [19, 24, 31], 10), (31, [29, 14, 32], 13)]
def awaitL  : List RuleV := [(6, [25], 12), (13, [19, 18, 23], 11), (14, [19, 18, 24], 11), (15, [20, 19, 18, 22, 33, 23, 31], 8), (16, [19, 27, 15], 13), (17, [19, 28, 15], 13), (18, [20, 19, 22, 33, 27, 15, 31], 10)]
def awaitBusyL  : List RuleV := [(7, [23], 11), (13, [19, 25], 12), (14, [19, 26], 12), (15, [20, 19, 22, 33, 25, 31], 9), (16, [19, 25], 12), (17, [19, 26], 12), (18, [20, 19, 22, 33, 25, 31], 9)]
def awaitRejectL  : List RuleV := [(6, [16, 25], 12), (13, [19, 18, 16, 23], 11), (14, [19, 18, 16, 24], 11), (15, [20, 19, 18, 16, 22, 33, 23, 31], 8), (16, [19], 13), (17, [19, 24], 13), (18, [20, 19, 22, 33, 31], 10)]
/-- a call hands back rules; nothing that was there has turned -/
def RulesOut (w : World) (rs : List RuleV) (e : Ending) (w' : World) : Prop := ∃ v, e = .returned v ∧ Hid (RulesIn w' w.heap.size v rs ∧ Below w.heap.size w w')
def busyB (s : Int) : Bool := s == 9 || s == 12
def askedI (s : Int) : Int := if busyB s = true then 26 else 24
def pollI (s : Int) : Int := if busyB s = true then 30 else 29
def partnerI (s : Int) : Int := if s = 8 then 11 else if s = 9 then 12 else if s = 10 then 13 else if s = 11 then 8 else if s = 12 then 9 else 10
theorem isBusy_any (s : Int) (w : World) : Calls Try.prog 60 #[.int .i64 s] w fun e w' => e = .returned (.bool (busyB s)) ∧ w' = w := by
  by_cases h1 : s = 9
  · subst h1
    go_enter Try.func60, Try.ntmps60
    go_wp2
    go_ret
    exact ⟨rfl, rfl⟩
  · go_enter Try.func60, Try.ntmps60
    go_wp2
    go_ret
    exact ⟨rfl, rfl⟩
theorem asked_any (s : Int) (w : World) : Calls Try.prog 57 #[.int .i64 s] w fun e w' => e = .returned (.int .i64 (askedI s)) ∧ w' = w := by
  have h1 := cover (isBusy_any s w)
  unfold askedI
  cases hb : busyB s
  all_goals
    rw [hb] at h1
    clear hb
    go_enter Try.func57, Try.ntmps57
    go_wp2_with fail
    refine h1.out.mono ?_
    rintro e w1 ⟨rfl, rfl⟩
    go_wp2
    go_ret
    exact ⟨rfl, rfl⟩
theorem poll_any (s : Int) (w : World) : Calls Try.prog 58 #[.int .i64 s] w fun e w' => e = .returned (.int .i64 (pollI s)) ∧ w' = w := by
  have h1 := cover (isBusy_any s w)
  unfold pollI
  cases hb : busyB s
  all_goals
    rw [hb] at h1
    clear hb
    go_enter Try.func58, Try.ntmps58
    go_wp2_with fail
    refine h1.out.mono ?_
    rintro e w1 ⟨rfl, rfl⟩
    go_wp2
    go_ret
    exact ⟨rfl, rfl⟩
theorem partner_any (s : Int) (w : World) : Calls Try.prog 59 #[.int .i64 s] w fun e w' => e = .returned (.int .i64 (partnerI s)) ∧ w' = w := by
  have go : ∀ n, partnerI s = n → Calls Try.prog 59 #[.int .i64 s] w fun e w' => e = .returned (.int .i64 n) ∧ w' = w := by
    intro n hn
    unfold partnerI at hn
    by_cases h0 : s = 8
    · subst h0; simp at hn; subst hn
      go_enter Try.func59, Try.ntmps59
      go_wp2
      go_ret
      exact ⟨rfl, rfl⟩
    by_cases h1 : s = 9
    · subst h1; simp at hn; subst hn
      go_enter Try.func59, Try.ntmps59
      go_wp2
      go_ret
      exact ⟨rfl, rfl⟩
    by_cases h2 : s = 10
    · subst h2; simp at hn; subst hn
      go_enter Try.func59, Try.ntmps59
      go_wp2
      go_ret
      exact ⟨rfl, rfl⟩
    by_cases h3 : s = 11
    · subst h3; simp at hn; subst hn
      go_enter Try.func59, Try.ntmps59
      go_wp2
      go_ret
      exact ⟨rfl, rfl⟩
    by_cases h4 : s = 12
    · subst h4; simp at hn; subst hn
      go_enter Try.func59, Try.ntmps59
      go_wp2
      go_ret
      exact ⟨rfl, rfl⟩
    simp [h0, h1, h2, h3, h4] at hn
    subst hn
    go_enter Try.func59, Try.ntmps59
    go_wp2
    go_ret
    exact ⟨rfl, rfl⟩
  exact go _ rfl

theorem asking_any (s : Int) (w : World) : Calls Try.prog 37 #[.int .i64 s] w (RulesOut w (askingL s)) := by
  go_enter Try.func37, Try.ntmps37
  go_wp2
  go_ret
  exact ⟨_, rfl, cover (rules_made w (askingL s))⟩

theorem linked_any (s : Int) (w : World) : Calls Try.prog 38 #[.int .i64 s] w (RulesOut w linkedL) := by
  go_enter Try.func38, Try.ntmps38
  go_wp2
  go_ret
  exact ⟨_, rfl, cover (rules_made w linkedL)⟩

theorem adm_any (w : World) : Calls Try.prog 43 #[] w (RulesOut w admL) := by
  go_enter Try.func43, Try.ntmps43
  go_wp2
  go_ret
  exact ⟨_, rfl, cover (rules_made w admL)⟩

theorem conn_any (w : World) : Calls Try.prog 44 #[] w (RulesOut w connL) := by
  go_enter Try.func44, Try.ntmps44
  go_wp2
  go_ret
  exact ⟨_, rfl, cover (rules_made w connL)⟩

theorem setup_any (w : World) : Calls Try.prog 45 #[] w (RulesOut w setupL) := by
  go_enter Try.func45, Try.ntmps45
  go_wp2
  go_ret
  exact ⟨_, rfl, cover (rules_made w setupL)⟩

theorem reset_any (w : World) : Calls Try.prog 46 #[] w (RulesOut w resetL) := by
  go_enter Try.func46, Try.ntmps46
  go_wp2
  go_ret
  exact ⟨_, rfl, cover (rules_made w resetL)⟩

theorem resetCheck_any (w : World) : Calls Try.prog 47 #[] w (RulesOut w resetCheckL) := by
  go_enter Try.func47, Try.ntmps47
  go_wp2
  go_ret
  exact ⟨_, rfl, cover (rules_made w resetCheckL)⟩

theorem resetWait_any (w : World) : Calls Try.prog 48 #[] w (RulesOut w resetWaitL) := by
  go_enter Try.func48, Try.ntmps48
  go_wp2
  go_ret
  exact ⟨_, rfl, cover (rules_made w resetWaitL)⟩

theorem dConn_any (w : World) : Calls Try.prog 49 #[] w (RulesOut w dConnL) := by
  go_enter Try.func49, Try.ntmps49
  go_wp2
  go_ret
  exact ⟨_, rfl, cover (rules_made w dConnL)⟩

theorem inError_any (w : World) : Calls Try.prog 50 #[] w (RulesOut w inErrorL) := by
  go_enter Try.func50, Try.ntmps50
  go_wp2
  go_ret
  exact ⟨_, rfl, cover (rules_made w inErrorL)⟩

theorem normal_any (w : World) : Calls Try.prog 51 #[] w (RulesOut w normalL) := by
  go_enter Try.func51, Try.ntmps51
  go_wp2
  go_ret
  exact ⟨_, rfl, cover (rules_made w normalL)⟩

theorem busy_any (w : World) : Calls Try.prog 52 #[] w (RulesOut w busyL) := by
  go_enter Try.func52, Try.ntmps52
  go_wp2
  go_ret
  exact ⟨_, rfl, cover (rules_made w busyL)⟩

theorem reject_any (w : World) : Calls Try.prog 53 #[] w (RulesOut w rejectL) := by
  go_enter Try.func53, Try.ntmps53
  go_wp2
  go_ret
  exact ⟨_, rfl, cover (rules_made w rejectL)⟩

theorem await_any (w : World) : Calls Try.prog 54 #[] w (RulesOut w awaitL) := by
  go_enter Try.func54, Try.ntmps54
  go_wp2
  go_ret
  exact ⟨_, rfl, cover (rules_made w awaitL)⟩

theorem awaitBusy_any (w : World) : Calls Try.prog 55 #[] w (RulesOut w awaitBusyL) := by
  go_enter Try.func55, Try.ntmps55
  go_wp2
  go_ret
  exact ⟨_, rfl, cover (rules_made w awaitBusyL)⟩

theorem awaitReject_any (w : World) : Calls Try.prog 56 #[] w (RulesOut w awaitRejectL) := by
  go_enter Try.func56, Try.ntmps56
  go_wp2
  go_ret
  exact ⟨_, rfl, cover (rules_made w awaitRejectL)⟩

set_option maxHeartbeats 1600000 in
theorem sending_any (s : Int) (w : World) : Calls Try.prog 39 #[.int .i64 s] w (RulesOut w (sendingL s (askedI s) (pollI s) (partnerI s))) := by
  have h1 := cover (fun w => asked_any s w)
  have h2 := cover (fun w => poll_any s w)
  have h3 := cover (fun w => partner_any s w)
  obtain ⟨a, ha⟩ : ∃ a, a = askedI s := ⟨_, rfl⟩
  obtain ⟨p, hp⟩ : ∃ p, p = pollI s := ⟨_, rfl⟩
  obtain ⟨n, hn⟩ : ∃ n, n = partnerI s := ⟨_, rfl⟩
  rw [← ha] at h1 ⊢
  rw [← hp] at h2 ⊢
  rw [← hn] at h3 ⊢
  clear ha hp hn
  go_enter Try.func39, Try.ntmps39
  go_wp2_with fail
  refine (h1.out _).mono ?_
  rintro e w1 ⟨rfl, rfl⟩
  go_wp2_with fail
  refine (h2.out _).mono ?_
  rintro e w2 ⟨rfl, rfl⟩
  go_wp2_with fail
  refine (h3.out _).mono ?_
  rintro e w3 ⟨rfl, rfl⟩
  go_wp2
  go_ret
  exact ⟨_, rfl, cover (rules_made w3 (sendingL s a p n))⟩

set_option maxHeartbeats 1600000 in
theorem awaiting_any (s : Int) (w : World) : Calls Try.prog 40 #[.int .i64 s] w (RulesOut w (awaitingL s (askedI s) (pollI s) (partnerI s))) := by
  have h1 := cover (fun w => asked_any s w)
  have h2 := cover (fun w => poll_any s w)
  have h3 := cover (fun w => partner_any s w)
  obtain ⟨a, ha⟩ : ∃ a, a = askedI s := ⟨_, rfl⟩
  obtain ⟨p, hp⟩ : ∃ p, p = pollI s := ⟨_, rfl⟩
  obtain ⟨n, hn⟩ : ∃ n, n = partnerI s := ⟨_, rfl⟩
  rw [← ha] at h1 ⊢
  rw [← hp] at h2 ⊢
  rw [← hn] at h3 ⊢
  clear ha hp hn
  go_enter Try.func40, Try.ntmps40
  go_wp2_with fail
  refine (h1.out _).mono ?_
  rintro e w1 ⟨rfl, rfl⟩
  go_wp2_with fail
  refine (h2.out _).mono ?_
  rintro e w2 ⟨rfl, rfl⟩
  go_wp2_with fail
  refine (h3.out _).mono ?_
  rintro e w3 ⟨rfl, rfl⟩
  go_wp2
  go_ret
  exact ⟨_, rfl, cover (rules_made w3 (awaitingL s a p n))⟩

/-- the rules of one state alone -/
def ownL (s : Int) : List RuleV :=
  if s = 0 then admL else if s = 1 then connL else if s = 2 then setupL else if s = 3 then resetL else if s = 4 then resetCheckL else if s = 5 then resetWaitL else if s = 6 then dConnL else if s = 7 then inErrorL else if s = 8 then normalL else if s = 9 then busyL else if s = 10 then rejectL else if s = 11 then awaitL else if s = 12 then awaitBusyL else if s = 13 then awaitRejectL else []
theorem ownRules_any (s : Int) (w : World) : Calls Try.prog 36 #[.int .i64 s] w (RulesOut w (ownL s)) := by
  obtain ⟨rs, hrs⟩ : ∃ rs, rs = ownL s := ⟨_, rfl⟩
  rw [← hrs]
  unfold ownL at hrs
  by_cases h0 : s = 0
  · subst h0
    obtain rfl : rs = admL := hrs
    have c1 := cover (adm_any w)
    go_enter Try.func36, Try.ntmps36
    go_wp2_with fail
    refine c1.out.mono ?_
    rintro e w1 ⟨v, rfl, hv⟩
    go_wp2
    go_ret
    exact ⟨_, rfl, hv⟩
  by_cases h1 : s = 1
  · subst h1
    obtain rfl : rs = connL := hrs
    have c1 := cover (conn_any w)
    go_enter Try.func36, Try.ntmps36
    go_wp2_with fail
    refine c1.out.mono ?_
    rintro e w1 ⟨v, rfl, hv⟩
    go_wp2
    go_ret
    exact ⟨_, rfl, hv⟩
  by_cases h2 : s = 2
  · subst h2
    obtain rfl : rs = setupL := hrs
    have c1 := cover (setup_any w)
    go_enter Try.func36, Try.ntmps36
    go_wp2_with fail
    refine c1.out.mono ?_
    rintro e w1 ⟨v, rfl, hv⟩
    go_wp2
    go_ret
    exact ⟨_, rfl, hv⟩
  by_cases h3 : s = 3
  · subst h3
    obtain rfl : rs = resetL := hrs
    have c1 := cover (reset_any w)
    go_enter Try.func36, Try.ntmps36
    go_wp2_with fail
    refine c1.out.mono ?_
    rintro e w1 ⟨v, rfl, hv⟩
    go_wp2
    go_ret
    exact ⟨_, rfl, hv⟩
  by_cases h4 : s = 4
  · subst h4
    obtain rfl : rs = resetCheckL := hrs
    have c1 := cover (resetCheck_any w)
    go_enter Try.func36, Try.ntmps36
    go_wp2_with fail
    refine c1.out.mono ?_
    rintro e w1 ⟨v, rfl, hv⟩
    go_wp2
    go_ret
    exact ⟨_, rfl, hv⟩
  by_cases h5 : s = 5
  · subst h5
    obtain rfl : rs = resetWaitL := hrs
    have c1 := cover (resetWait_any w)
    go_enter Try.func36, Try.ntmps36
    go_wp2_with fail
    refine c1.out.mono ?_
    rintro e w1 ⟨v, rfl, hv⟩
    go_wp2
    go_ret
    exact ⟨_, rfl, hv⟩
  by_cases h6 : s = 6
  · subst h6
    obtain rfl : rs = dConnL := hrs
    have c1 := cover (dConn_any w)
    go_enter Try.func36, Try.ntmps36
    go_wp2_with fail
    refine c1.out.mono ?_
    rintro e w1 ⟨v, rfl, hv⟩
    go_wp2
    go_ret
    exact ⟨_, rfl, hv⟩
  by_cases h7 : s = 7
  · subst h7
    obtain rfl : rs = inErrorL := hrs
    have c1 := cover (inError_any w)
    go_enter Try.func36, Try.ntmps36
    go_wp2_with fail
    refine c1.out.mono ?_
    rintro e w1 ⟨v, rfl, hv⟩
    go_wp2
    go_ret
    exact ⟨_, rfl, hv⟩
  by_cases h8 : s = 8
  · subst h8
    obtain rfl : rs = normalL := hrs
    have c1 := cover (normal_any w)
    go_enter Try.func36, Try.ntmps36
    go_wp2_with fail
    refine c1.out.mono ?_
    rintro e w1 ⟨v, rfl, hv⟩
    go_wp2
    go_ret
    exact ⟨_, rfl, hv⟩
  by_cases h9 : s = 9
  · subst h9
    obtain rfl : rs = busyL := hrs
    have c1 := cover (busy_any w)
    go_enter Try.func36, Try.ntmps36
    go_wp2_with fail
    refine c1.out.mono ?_
    rintro e w1 ⟨v, rfl, hv⟩
    go_wp2
    go_ret
    exact ⟨_, rfl, hv⟩
  by_cases h10 : s = 10
  · subst h10
    obtain rfl : rs = rejectL := hrs
    have c1 := cover (reject_any w)
    go_enter Try.func36, Try.ntmps36
    go_wp2_with fail
    refine c1.out.mono ?_
    rintro e w1 ⟨v, rfl, hv⟩
    go_wp2
    go_ret
    exact ⟨_, rfl, hv⟩
  by_cases h11 : s = 11
  · subst h11
    obtain rfl : rs = awaitL := hrs
    have c1 := cover (await_any w)
    go_enter Try.func36, Try.ntmps36
    go_wp2_with fail
    refine c1.out.mono ?_
    rintro e w1 ⟨v, rfl, hv⟩
    go_wp2
    go_ret
    exact ⟨_, rfl, hv⟩
  by_cases h12 : s = 12
  · subst h12
    obtain rfl : rs = awaitBusyL := hrs
    have c1 := cover (awaitBusy_any w)
    go_enter Try.func36, Try.ntmps36
    go_wp2_with fail
    refine c1.out.mono ?_
    rintro e w1 ⟨v, rfl, hv⟩
    go_wp2
    go_ret
    exact ⟨_, rfl, hv⟩
  by_cases h13 : s = 13
  · subst h13
    obtain rfl : rs = awaitRejectL := hrs
    have c1 := cover (awaitReject_any w)
    go_enter Try.func36, Try.ntmps36
    go_wp2_with fail
    refine c1.out.mono ?_
    rintro e w1 ⟨v, rfl, hv⟩
    go_wp2
    go_ret
    exact ⟨_, rfl, hv⟩
  obtain rfl : rs = [] := by rw [hrs]; simp [h0, h1, h2, h3, h4, h5, h6, h7, h8, h9, h10, h11, h12, h13]
  clear hrs
  go_enter Try.func36, Try.ntmps36
  go_wp2
  go_ret
  exact ⟨_, rfl, cover ⟨.inl ⟨rfl, rfl⟩, Below.refl _ _⟩⟩
end Go.Proofs.Ytlffhnplcgmhlaa
