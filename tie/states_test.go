package tie_test

import (
	"fmt"
	"testing"

	"antiphon/api"
)

// P19.2 and P19.3: each event of a user, each U, and what asks outside of data states, in each state.

// call is one thing that is done to a connection as reached makes it; n is 11 where it may be asked for.
type call struct {
	name string
	is   func(r *rig) string // what is handed out, as a text
}

func doing(event int) func(r *rig) string {
	return func(r *rig) string { return outText(r.x.Do(event, 11)) }
}

func hearing(p api.Pdu) func(r *rig) string {
	return func(r *rig) string { return outText(r.x.Hear(p, 11)) }
}

// ofOwn is a PDU of one's own number, ofOther one of the other one's.
func ofOwn(of func(n int) api.Pdu) func(r *rig) string {
	return func(r *rig) string {
		own, _ := r.x.Numbers()
		return outText(r.x.Hear(of(own), 11))
	}
}

func ofOther(of func(n int) api.Pdu) func(r *rig) string {
	return func(r *rig) string {
		_, other := r.x.Numbers()
		return outText(r.x.Hear(of(other), 11))
	}
}

func withoutP(of func(n int) api.Pdu) func(n int) api.Pdu {
	return func(n int) api.Pdu {
		p := of(n)
		p.Poll = false
		return p
	}
}

// calls are of all kinds that need no data state; numbers that are nobody's are 55, 66, 77, 88.
func calls() []call {
	return []call{
		{"connect", doing(api.UConnect)},
		{"accept", doing(api.UAccept)},
		{"disconnect", doing(api.UDisconnect)},
		{"reset", doing(api.UReset)},
		{"resetok", doing(api.UResetOk)},
		{"usend", doing(api.USend)},
		{"busy", doing(api.UBusy)},
		{"free", doing(api.UFree)},
		{"sabme new", hearing(sabme(55))},
		{"sabme new, no P", hearing(withoutP(sabme)(55))},
		{"sabme same", ofOther(sabme)},
		{"sabme same, no P", ofOther(withoutP(sabme))},
		{"sabme own", ofOwn(sabme)},
		{"disc", hearing(disc(66))},
		{"disc, no P", hearing(withoutP(disc)(66))},
		{"ua own", ofOwn(ua)},
		{"ua own, no F", ofOwn(withoutP(ua))},
		{"ua else", hearing(ua(77))},
		{"dm own", ofOwn(dm)},
		{"dm own, no F", ofOwn(withoutP(dm))},
		{"dm else", hearing(dm(88))},
		{"frmr", hearing(frmr())},
		{"frmr, no F", hearing(unit(api.Frmr, true, false, 0, 0, 0, 0, 0))},
	}
}

// answer is what a call hands out, and how it all looks behind it.
type answer struct {
	out, look string
}

// linkedAnswers are those of a data state, but for the window's width and the retries, which stay as they are where no attempt begins.
func linkedAnswers(r, w int) map[string]answer {
	look := func(state string, own, other, r, t int) string {
		return fmt.Sprintf("%s v3/2/0 q5/3 n%d/%d r%d w%d e1 t%d", state, own, other, r, w, t)
	}
	end := answer{"say Disconnect", look("Adm", 7, 5, r, 0)}
	told := answer{"say Reset", look("ResetWait", 7, 5, r, 0)}
	asked := answer{"say Reset", look("ResetCheck", 7, 55, r, 0)}
	return map[string]answer{
		"disconnect":      {"Disc P 0000000b, used", look("DConn", 11, 5, 0, 1)},
		"reset":           {"Sabme P 0000000b, used", look("Reset", 11, 5, 0, 1)},
		"sabme new":       asked,
		"sabme new, no P": asked,
		"sabme own":       {"say Reset", look("ResetCheck", 7, 7, r, 0)},
		"disc":            {"ua f 00000042, say Disconnect", look("Adm", 7, 5, r, 0)},
		"disc, no P":      {"ua 00000042, say Disconnect", look("Adm", 7, 5, r, 0)},
		"dm own":          end,
		"dm own, no F":    end,
		"dm else":         end,
		"frmr":            told,
		"frmr, no F":      told,
	}
}

// and lays what a state has of its own beside what it shares.
func and(shared, own map[string]answer) map[string]answer {
	for name, a := range own {
		shared[name] = a
	}
	return shared
}

// answers are those of a state; whatever is not there does nothing, and hands out nothing.
func answers(state int) map[string]answer {
	switch state {
	case api.Normal:
		return and(linkedAnswers(0, 3), map[string]answer{
			"busy":             {"rnr 0 2", "Busy v3/2/0 q5/3 n7/5 r0 w3 e1 t1"},
			"sabme same":       {"ua f 00000005", "Normal v3/2/0 q5/3 n7/5 r0 w3 e1 t1"},
			"sabme same, no P": {"ua 00000005", "Normal v3/2/0 q5/3 n7/5 r0 w3 e1 t1"},
		})
	case api.Busy:
		return and(linkedAnswers(0, 3), map[string]answer{
			"free":             {"rr 0 2", "Normal v3/2/0 q5/3 n7/5 r0 w3 e1 t1"},
			"sabme same":       {"ua f 00000005", "Busy v3/2/0 q5/3 n7/5 r0 w3 e1 t1"},
			"sabme same, no P": {"ua 00000005", "Busy v3/2/0 q5/3 n7/5 r0 w3 e1 t1"},
		})
	case api.Reject:
		return and(linkedAnswers(0, 3), map[string]answer{
			"busy":             {"rnr 0 2", "Busy v3/2/0 q5/3 n7/5 r0 w3 e1 t1"},
			"sabme same":       {"ua f 00000005", "Reject v3/2/0 q5/3 n7/5 r0 w3 e1 t2"},
			"sabme same, no P": {"ua 00000005", "Reject v3/2/0 q5/3 n7/5 r0 w3 e1 t2"},
		})
	case api.Await:
		return and(linkedAnswers(1, 1), map[string]answer{
			"busy":             {"rnr 0 2", "AwaitBusy v3/2/0 q5/3 n7/5 r1 w1 e1 t1"},
			"sabme same":       {"ua f 00000005", "Await v3/2/0 q5/3 n7/5 r1 w1 e1 t1"},
			"sabme same, no P": {"ua 00000005", "Await v3/2/0 q5/3 n7/5 r1 w1 e1 t1"},
		})
	case api.AwaitBusy:
		return and(linkedAnswers(1, 1), map[string]answer{
			"free":             {"rr 0 2", "Await v3/2/0 q5/3 n7/5 r1 w1 e1 t1"},
			"sabme same":       {"ua f 00000005", "AwaitBusy v3/2/0 q5/3 n7/5 r1 w1 e1 t1"},
			"sabme same, no P": {"ua 00000005", "AwaitBusy v3/2/0 q5/3 n7/5 r1 w1 e1 t1"},
		})
	case api.AwaitReject:
		return and(linkedAnswers(1, 1), map[string]answer{
			"busy":             {"rnr 0 2", "AwaitBusy v3/2/0 q5/3 n7/5 r1 w1 e1 t1"},
			"sabme same":       {"ua f 00000005", "AwaitReject v3/2/0 q5/3 n7/5 r1 w1 e1 t2"},
			"sabme same, no P": {"ua 00000005", "AwaitReject v3/2/0 q5/3 n7/5 r1 w1 e1 t2"},
		})
	}
	return answersBelow(state)
}

// answersBelow are those of a state that is no data state.
func answersBelow(state int) map[string]answer {
	switch state {
	case api.Adm:
		return map[string]answer{
			"connect":          {"Sabme P 0000000b, used", "Setup v0/0/0 q0/0 n11/0 r0 w3 e0 t1"},
			"sabme new":        {"say Connect", "Conn v0/0/0 q0/0 n0/55 r0 w3 e0 t0"},
			"sabme new, no P":  {"say Connect", "Conn v0/0/0 q0/0 n0/55 r0 w3 e0 t0"},
			"sabme same":       {"dm f 00000000", "Adm v0/0/0 q0/0 n0/0 r0 w3 e0 t0"},
			"sabme same, no P": {"dm 00000000", "Adm v0/0/0 q0/0 n0/0 r0 w3 e0 t0"},
			"sabme own":        {"dm f 00000000", "Adm v0/0/0 q0/0 n0/0 r0 w3 e0 t0"}, // both numbers are 0
			"disc":             {"dm f 00000042", "Adm v0/0/0 q0/0 n0/0 r0 w3 e0 t0"},
			"disc, no P":       {"dm 00000042", "Adm v0/0/0 q0/0 n0/0 r0 w3 e0 t0"},
		}
	case api.Conn:
		return map[string]answer{
			"accept":          {"ua f 00000005", "Normal v0/0/0 q0/0 n0/5 r0 w3 e1 t0"},
			"disconnect":      {"dm f 00000005", "Adm v0/0/0 q0/0 n0/5 r0 w3 e0 t0"},
			"sabme new":       {"", "Conn v0/0/0 q0/0 n0/55 r0 w3 e0 t0"},
			"sabme new, no P": {"", "Conn v0/0/0 q0/0 n0/55 r0 w3 e0 t0"},
			"sabme own":       {"", "Conn v0/0/0 q0/0 n0/0 r0 w3 e0 t0"},
			"disc":            {"ua f 00000042, say Disconnect", "Adm v0/0/0 q0/0 n0/5 r0 w3 e0 t0"},
			"disc, no P":      {"ua 00000042, say Disconnect", "Adm v0/0/0 q0/0 n0/5 r0 w3 e0 t0"},
		}
	case api.Setup:
		return map[string]answer{
			"disconnect":       {"Disc P 0000000b, used", "DConn v0/0/0 q0/0 n11/0 r0 w3 e0 t1"},
			"sabme new":        {"ua f 00000037", "Setup v0/0/0 q0/0 n7/55 r0 w3 e0 t1"},
			"sabme new, no P":  {"ua 00000037", "Setup v0/0/0 q0/0 n7/55 r0 w3 e0 t1"},
			"sabme same":       {"ua f 00000000", "Setup v0/0/0 q0/0 n7/0 r0 w3 e0 t1"},
			"sabme same, no P": {"ua 00000000", "Setup v0/0/0 q0/0 n7/0 r0 w3 e0 t1"},
			"sabme own":        {"ua f 00000007", "Setup v0/0/0 q0/0 n7/7 r0 w3 e0 t1"},
			"disc":             {"dm f 00000042, say Disconnect", "Adm v0/0/0 q0/0 n7/0 r0 w3 e0 t0"},
			"disc, no P":       {"dm 00000042, say Disconnect", "Adm v0/0/0 q0/0 n7/0 r0 w3 e0 t0"},
			"ua own":           {"say Connected", "Normal v0/0/0 q0/0 n7/0 r0 w3 e1 t0"},
			"ua own, no F":     {"say Connected", "Normal v0/0/0 q0/0 n7/0 r0 w3 e1 t0"},
			"dm own":           {"say Disconnect", "Adm v0/0/0 q0/0 n7/0 r0 w3 e0 t0"},
			"dm own, no F":     {"say Disconnect", "Adm v0/0/0 q0/0 n7/0 r0 w3 e0 t0"},
		}
	case api.Reset:
		return map[string]answer{
			"disconnect":       {"Disc P 0000000b, used", "DConn v3/2/0 q5/3 n11/5 r0 w3 e1 t1"},
			"sabme new":        {"ua f 00000037", "Reset v3/2/0 q5/3 n9/55 r0 w3 e1 t1"},
			"sabme new, no P":  {"ua 00000037", "Reset v3/2/0 q5/3 n9/55 r0 w3 e1 t1"},
			"sabme same":       {"ua f 00000005", "Reset v3/2/0 q5/3 n9/5 r0 w3 e1 t1"},
			"sabme same, no P": {"ua 00000005", "Reset v3/2/0 q5/3 n9/5 r0 w3 e1 t1"},
			"sabme own":        {"ua f 00000009", "Reset v3/2/0 q5/3 n9/9 r0 w3 e1 t1"},
			"disc":             {"dm f 00000042, say Disconnect", "Adm v3/2/0 q5/3 n9/5 r0 w3 e1 t0"},
			"disc, no P":       {"dm 00000042, say Disconnect", "Adm v3/2/0 q5/3 n9/5 r0 w3 e1 t0"},
			"ua own":           {"say ResetDone", "Normal v0/0/0 q0/0 n9/5 r0 w3 e2 t0"},
			"ua own, no F":     {"say ResetDone", "Normal v0/0/0 q0/0 n9/5 r0 w3 e2 t0"},
			"dm own":           {"say Disconnect", "Adm v3/2/0 q5/3 n9/5 r0 w3 e1 t0"},
			"dm own, no F":     {"say Disconnect", "Adm v3/2/0 q5/3 n9/5 r0 w3 e1 t0"},
		}
	}
	return answersOfReset(state)
}

func answersOfReset(state int) map[string]answer {
	end := answer{"say Disconnect", "Adm v3/2/0 q5/3 n7/5 r0 w3 e1 t0"}
	wait := answer{"say Reset", "ResetWait v3/2/0 q5/3 n7/5 r0 w3 e1 t0"}
	check := answer{"say Reset", "ResetCheck v3/2/0 q5/3 n7/55 r0 w3 e1 t0"}
	checkOwn := answer{"say Reset", "ResetCheck v3/2/0 q5/3 n7/7 r0 w3 e1 t0"}
	switch state {
	case api.ResetCheck:
		endOf6 := answer{"say Disconnect", "Adm v3/2/0 q5/3 n7/6 r0 w3 e1 t0"}
		return map[string]answer{
			"disconnect":      {"dm f 00000006", "Adm v3/2/0 q5/3 n7/6 r0 w3 e1 t0"},
			"resetok":         {"ua f 00000006", "Normal v0/0/0 q0/0 n7/6 r0 w3 e2 t0"},
			"sabme new":       {"", "ResetCheck v3/2/0 q5/3 n7/55 r0 w3 e1 t0"},
			"sabme new, no P": {"", "ResetCheck v3/2/0 q5/3 n7/55 r0 w3 e1 t0"},
			"sabme own":       {"", "ResetCheck v3/2/0 q5/3 n7/7 r0 w3 e1 t0"},
			"disc":            {"ua f 00000042, say Disconnect", "Adm v3/2/0 q5/3 n7/6 r0 w3 e1 t0"},
			"disc, no P":      {"ua 00000042, say Disconnect", "Adm v3/2/0 q5/3 n7/6 r0 w3 e1 t0"},
			"dm own":          endOf6,
			"dm own, no F":    endOf6,
			"dm else":         endOf6,
		}
	case api.ResetWait:
		return map[string]answer{
			"disconnect":       {"Disc P 0000000b, used", "DConn v3/2/0 q5/3 n11/5 r0 w3 e1 t1"},
			"reset":            {"Sabme P 0000000b, used", "Reset v3/2/0 q5/3 n11/5 r0 w3 e1 t1"},
			"sabme new":        check,
			"sabme new, no P":  check,
			"sabme same":       {"dm f 00000005", "ResetWait v3/2/0 q5/3 n7/5 r0 w3 e1 t0"},
			"sabme same, no P": {"dm 00000005", "ResetWait v3/2/0 q5/3 n7/5 r0 w3 e1 t0"},
			"sabme own":        checkOwn,
			"disc":             {"ua f 00000042, say Disconnect", "Adm v3/2/0 q5/3 n7/5 r0 w3 e1 t0"},
			"disc, no P":       {"ua 00000042, say Disconnect", "Adm v3/2/0 q5/3 n7/5 r0 w3 e1 t0"},
			"dm own":           end,
			"dm own, no F":     end,
			"dm else":          end,
		}
	case api.DConn:
		over := answer{"", "Adm v3/2/0 q5/3 n9/5 r0 w3 e1 t0"}
		return map[string]answer{
			"sabme new":        {"dm f 00000037", "Adm v3/2/0 q5/3 n9/55 r0 w3 e1 t0"},
			"sabme new, no P":  {"dm 00000037", "Adm v3/2/0 q5/3 n9/55 r0 w3 e1 t0"},
			"sabme same":       {"dm f 00000005", "DConn v3/2/0 q5/3 n9/5 r0 w3 e1 t1"},
			"sabme same, no P": {"dm 00000005", "DConn v3/2/0 q5/3 n9/5 r0 w3 e1 t1"},
			"sabme own":        {"dm f 00000009", "Adm v3/2/0 q5/3 n9/9 r0 w3 e1 t0"},
			"disc":             {"ua f 00000042", "DConn v3/2/0 q5/3 n9/5 r0 w3 e1 t1"},
			"disc, no P":       {"ua 00000042", "DConn v3/2/0 q5/3 n9/5 r0 w3 e1 t1"},
			"ua own":           over,
			"ua own, no F":     over,
			"dm own":           over,
			"dm own, no F":     over,
		}
	case api.Error:
		return map[string]answer{
			"disconnect":       {"Disc P 0000000b, used", "DConn v3/2/0 q5/3 n11/5 r0 w3 e1 t1"},
			"reset":            {"Sabme P 0000000b, used", "Reset v3/2/0 q5/3 n11/5 r0 w3 e1 t1"},
			"sabme new":        check,
			"sabme new, no P":  check,
			"sabme same":       {"dm f 00000005", "Error v3/2/0 q5/3 n7/5 r0 w3 e1 t1"},
			"sabme same, no P": {"dm 00000005", "Error v3/2/0 q5/3 n7/5 r0 w3 e1 t1"},
			"sabme own":        checkOwn,
			"disc":             {"ua f 00000042, say Disconnect", "Adm v3/2/0 q5/3 n7/5 r0 w3 e1 t0"},
			"disc, no P":       {"ua 00000042, say Disconnect", "Adm v3/2/0 q5/3 n7/5 r0 w3 e1 t0"},
			"dm own":           end,
			"dm own, no F":     end,
			"dm else":          end,
			"frmr":             wait,
			"frmr, no F":       wait,
		}
	}
	return nil
}

func TestEachUserEventAndUInEachState(t *testing.T) {
	for state := range states {
		wanted := answers(state)
		for _, c := range calls() {
			r := reached(t, plainConfig(), state)
			want, is := wanted[c.name]
			if !is {
				want = answer{"", looks(r.x)}
			}
			delete(wanted, c.name)
			if got := c.is(r); got != want.out || looks(r.x) != want.look {
				t.Errorf("%s, %s: %q, %s; want %q, %s", stateName(state), c.name, got, looks(r.x), want.out, want.look)
			}
		}
		for name := range wanted {
			t.Errorf("%s: there is no call %q", stateName(state), name)
		}
	}
}

// What asks in a state that is no data state: in Adm it is told that there is no connection, by number 0, whatever an I has behind it; in Error it is told why; else nothing.
func TestWhatAsksBelowNormal(t *testing.T) {
	for state := range api.Normal {
		for _, p := range []api.Pdu{
			info(0, 0, none, "abcd"), info(2, 1, withP, "abcd"), info(5, 99, withP, "\x00\x00\x00\x07"), info(0, 0, withF, "abcd"), info(0, 0, respond, "abcd"),
			status(api.Rr, 0, none), status(api.Rr, 3, withP), status(api.Rnr, 77, withP), status(api.Rej, 1, withP),
			status(api.Rr, 0, withF), status(api.Rnr, 0, withF), status(api.Rej, 0, withF), status(api.Rej, 99, respond),
		} {
			r := reached(t, plainConfig(), state)
			want := ""
			if p.Poll && !p.Response && state == api.Adm {
				want = "dm f 00000000"
			}
			if p.Poll && !p.Response && state == api.Error {
				want = "frmr f 0108060408"
			}
			r.hear(p, want, looks(r.x))
		}
	}
}

// Events of Do are those of users alone: what comes from there, from timers, or is no event does nothing; nor does USend, which is Send's.
func TestDoOfWhatIsNoUsersEvent(t *testing.T) {
	list := far()
	for event := -300; event <= 600; event++ {
		list = append(list, event)
	}
	for state := range states {
		r := reached(t, plainConfig(), state)
		for _, event := range list {
			if event < api.UConnect || event > api.UFree || event == api.USend {
				r.do(event, 11, "", looks(r.x))
			}
		}
	}
}
