package tie_test

import (
	"fmt"
	"strings"
	"testing"

	"antiphon/api"
	"antiphon/tie"
)

// P19.3: each I and S in each data state. What reached makes has a, b, c out and d, e behind them; what is heard acknowledges a.

// heardRow is what is heard without a mark, with P, with F.
type heardRow struct {
	what                string
	plain, asked, final answer
}

// sendingRows are those of a state that awaits no answer: F is as none there. Who is busy says so by rnr.
func sendingRows(state, asked string, timers int) []heardRow {
	look := func(vs, queued, out, w, t int) string {
		return fmt.Sprintf("%s v%d/2/1 q%d/%d n7/5 r0 w%d e1 t%d", state, vs, queued, out, w, t)
	}
	goesOn, stops, back := look(4, 4, 3, 3, timers), look(3, 4, 2, 3, timers+1), look(2, 4, 1, 1, timers)
	return []heardRow{
		{"rr", answer{`I 3 2 "d"`, goesOn}, answer{asked + `, I 3 2 "d"`, goesOn}, answer{`I 3 2 "d"`, goesOn}},
		{"rnr", answer{"", stops}, answer{asked, stops}, answer{"", stops}},
		{"rej", answer{`I 1 2 "b"`, back}, answer{asked + `, I 1 2 "b"`, back}, answer{`I 1 2 "b"`, back}},
	}
}

// awaitingRows are those of a state that awaits an answer; behind F it is the other state, and what was out goes again.
func awaitingRows(state, asked, behind string, timers int) []heardRow {
	stay := fmt.Sprintf("%s v3/2/1 q4/2 n7/5 r0 w2 e1 t%d", state, timers+1) // the timer of StartAck, too
	look := func(vs, out, w int) string {
		return fmt.Sprintf("%s v%d/2/1 q4/%d n7/5 r0 w%d e1 t%d", behind, vs, out, w, timers) // no timer of StartP, but one of StartAck, or of StartBusy
	}
	return []heardRow{
		{"rr", answer{"", stay}, answer{asked, stay}, answer{`I 1 2 "b", I 2 2 "c"`, look(3, 2, 2)}},
		{"rnr", answer{"", stay}, answer{asked, stay}, answer{"", look(1, 0, 2)}},
		{"rej", answer{"", stay}, answer{asked, stay}, answer{`I 1 2 "b"`, look(2, 1, 1)}},
	}
}

func heardRows(state int) []heardRow {
	switch state {
	case api.Normal:
		took, gap := "Normal v4/3/1 q4/3 n7/5 r0 w3 e1 t1", "Reject v4/2/1 q4/3 n7/5 r0 w3 e1 t2"
		return append(sendingRows("Normal", "rr 0 2 f", 1),
			heardRow{"info", answer{`rr 0 3, I 3 3 "d", took "q"`, took}, answer{`rr 0 3 f, I 3 3 "d", took "q"`, took}, answer{`rr 0 3, I 3 3 "d", took "q"`, took}},
			heardRow{"gap", answer{`rej 0 2, I 3 2 "d"`, gap}, answer{`rej 0 2 f, I 3 2 "d"`, gap}, answer{`rej 0 2, I 3 2 "d"`, gap}})
	case api.Busy:
		busy := "Busy v4/2/1 q4/3 n7/5 r0 w3 e1 t1"
		no, asked := answer{`rnr 0 2, I 3 2 "d"`, busy}, answer{`rnr 0 2 f, I 3 2 "d"`, busy}
		return append(sendingRows("Busy", "rnr 0 2 f", 1), heardRow{"info", no, asked, no}, heardRow{"gap", no, asked, no})
	case api.Reject:
		took, gap := "Normal v4/3/1 q4/3 n7/5 r0 w3 e1 t1", "Reject v4/2/1 q4/3 n7/5 r0 w3 e1 t2"
		return append(sendingRows("Reject", "rr 0 2 f", 2),
			heardRow{"info", answer{`rr 0 3, I 3 3 "d", took "q"`, took}, answer{`rr 0 3 f, I 3 3 "d", took "q"`, took}, answer{`rr 0 3, I 3 3 "d", took "q"`, took}},
			heardRow{"gap", answer{`I 3 2 "d"`, gap}, answer{`rr 0 2 f, I 3 2 "d"`, gap}, answer{`I 3 2 "d"`, gap}})
	case api.Await:
		took, gap := "Await v3/3/1 q4/2 n7/5 r0 w2 e1 t2", "AwaitReject v3/2/1 q4/2 n7/5 r0 w2 e1 t3"
		return append(awaitingRows("Await", "rr 0 2 f", "Normal", 1),
			heardRow{"info", answer{`rr 0 3, took "q"`, took}, answer{`rr 0 3 f, took "q"`, took}, answer{`rr 0 3, I 1 3 "b", I 2 3 "c", took "q"`, "Normal v3/3/1 q4/2 n7/5 r0 w2 e1 t1"}},
			heardRow{"gap", answer{"rej 0 2", gap}, answer{"rej 0 2 f", gap}, answer{`rej 0 2, I 1 2 "b", I 2 2 "c"`, "Reject v3/2/1 q4/2 n7/5 r0 w2 e1 t2"}})
	case api.AwaitBusy:
		busy := "AwaitBusy v3/2/1 q4/2 n7/5 r0 w2 e1 t2"
		no, asked, final := answer{"rnr 0 2", busy}, answer{"rnr 0 2 f", busy}, answer{`rnr 0 2, I 1 2 "b", I 2 2 "c"`, "Busy v3/2/1 q4/2 n7/5 r0 w2 e1 t1"}
		return append(awaitingRows("AwaitBusy", "rnr 0 2 f", "Busy", 1), heardRow{"info", no, asked, final}, heardRow{"gap", no, asked, final})
	case api.AwaitReject:
		took, gap := "Await v3/3/1 q4/2 n7/5 r0 w2 e1 t2", "AwaitReject v3/2/1 q4/2 n7/5 r0 w2 e1 t3"
		return append(awaitingRows("AwaitReject", "rr 0 2 f", "Reject", 2),
			heardRow{"info", answer{`rr 0 3, took "q"`, took}, answer{`rr 0 3 f, took "q"`, took}, answer{`rr 0 3, I 1 3 "b", I 2 3 "c", took "q"`, "Normal v3/3/1 q4/2 n7/5 r0 w2 e1 t1"}},
			heardRow{"gap", answer{"", gap}, answer{"rr 0 2 f", gap}, answer{`I 1 2 "b", I 2 2 "c"`, "Reject v3/2/1 q4/2 n7/5 r0 w2 e1 t2"}})
	}
	return nil
}

func heardOf(what string, mark int) api.Pdu {
	switch what {
	case "info":
		return info(2, 1, mark, "q")
	case "gap":
		return info(3, 1, mark, "q")
	case "rr":
		return status(api.Rr, 1, mark)
	case "rnr":
		return status(api.Rnr, 1, mark)
	}
	return status(api.Rej, 1, mark)
}

func TestEachIAndSInEachDataState(t *testing.T) {
	for state := api.Normal; state < states; state++ {
		rows := heardRows(state)
		if len(rows) != 5 {
			t.Errorf("%s: %d rows", stateName(state), len(rows))
		}
		for _, row := range rows {
			for mark, want := range map[int]answer{none: row.plain, withP: row.asked, withF: row.final, respond: row.plain} {
				reached(t, plainConfig(), state).hear(heardOf(row.what, mark), want.out, want.look)
			}
		}
	}
}

// An N(R) that may not be ends it in each data state, whatever PDU has it: the Frmr tells of that PDU, and of the numbers as they are.
func TestWrongNumbersInEachDataState(t *testing.T) {
	for state := api.Normal; state < states; state++ {
		for _, w := range []struct {
			p    api.Pdu
			frmr string
		}{
			{status(api.Rr, 4, none), "frmr 0108060408"},
			{status(api.Rr, 4, withP), "frmr f 0109060408"},
			{status(api.Rr, 4, withF), "frmr f 0109060508"},
			{status(api.Rr, 4, respond), "frmr 0108060508"},
			{status(api.Rnr, 127, none), "frmr 05fe060408"},
			{status(api.Rnr, 127, withP), "frmr f 05ff060408"},
			{status(api.Rej, 64, none), "frmr 0980060408"},
			{status(api.Rej, 64, respond), "frmr 0980060508"},
			{info(2, 4, none, "q"), "frmr 0408060408"},
			{info(127, 100, withP, "q"), "frmr f fec9060408"},
			{info(0, 5, respond, "q"), "frmr 000a060508"},
			{info(99, 127, withF, ""), "frmr f c6ff060508"},
		} {
			r := reached(t, plainConfig(), state)
			look := fmt.Sprintf("Error v3/2/0 q5/3 n7/5 r0 w%d e1 t1", r.x.Width())
			r.hear(w.p, w.frmr, look)
			r.hear(w.p, onlyWhere(w.p.Poll && !w.p.Response, w.frmr), look) // there it asks alone
			r.hear(status(api.Rr, 0, withP), "frmr f "+w.frmr[len(w.frmr)-10:], look)
			r.ticks(10, "frmr "+w.frmr[len(w.frmr)-10:], strings.Replace(look, "r0", "r1", 1))
		}
	}
}

func onlyWhere(is bool, text string) string {
	if is {
		return text
	}
	return ""
}

// What is right stands from V(A) to V(S), wherever they are on the ring.
func TestEachNumberRoundTheRing(t *testing.T) {
	for _, sent := range []int{0, 1, 60, 125, 126, 127, 128, 130} {
		for nr := range 128 {
			c := plainConfig()
			r := newRig(t, fmt.Sprintf("%d sent, N(R) %d", sent, nr), c)
			r.do(api.UConnect, 7, "-", "-")
			r.hear(ua(7), "-", "-")
			for n := range sent {
				r.send("s", fmt.Sprintf(`I %d 0 "s"`, n%128), "-")
				r.hear(status(api.Rr, (n+1)%128, none), "", "-")
			}
			for n := range 3 {
				r.send("t", fmt.Sprintf(`I %d 0 "t"`, (sent+n)%128), "-")
			}
			up := (nr - sent%128 + 128) % 128
			if up > 3 {
				r.hear(status(api.Rr, nr, none), "-", fmt.Sprintf("Error v%d/0/%d q3/3 n7/0 r0 w3 e1 t1", (sent+3)%128, sent%128))
				continue
			}
			timers := 1
			if up == 3 {
				timers = 0
			}
			r.hear(status(api.Rr, nr, none), "", fmt.Sprintf("Normal v%d/0/%d q%d/%d n7/0 r0 w3 e1 t%d", (sent+3)%128, nr, 3-up, 3-up, timers))
		}
	}
}

// What comes is taken in order, past 127 as well; each once.
func TestTakenRoundTheRing(t *testing.T) {
	r := newRig(t, "taken", plainConfig())
	r.hear(sabme(5), "say Connect", "-")
	r.do(api.UAccept, 9, "ua f 00000005", "Normal v0/0/0 q0/0 n0/5 r0 w3 e1 t0")
	for n := range 300 {
		vr := (n + 1) % 128
		r.hear(info(n%128, 0, none, fmt.Sprint(n)), fmt.Sprintf("rr 0 %d, took %q", vr, fmt.Sprint(n)), fmt.Sprintf("Normal v0/%d/0 q0/0 n0/5 r0 w3 e1 t0", vr))
	}
	r.hear(info(43, 0, none, "again"), "rej 0 44", "Reject v0/44/0 q0/0 n0/5 r0 w3 e1 t1")
	r.hear(info(44, 0, none, ""), `rr 0 45, took ""`, "Normal v0/45/0 q0/0 n0/5 r0 w3 e1 t0")
}

// Whatever a PDU may have behind it is taken: up to 16 bytes more than an SDU.
func TestTakenOfEachLength(t *testing.T) {
	for _, length := range []int{0, 1, 2, maxSdu - 1, maxSdu, maxSdu + 1, mostInfo} {
		r := reached(t, plainConfig(), api.Normal)
		sdu := strings.Repeat("z", length)
		o := r.x.Hear(info(2, 0, none, sdu), 9)
		if len(o.Took) != 1 || string(o.Took[0]) != sdu {
			t.Errorf("%d bytes: %d lists were taken", length, len(o.Took))
		}
		r = reached(t, plainConfig(), api.Normal)
		r.hear(info(2, 0, none, strings.Repeat("z", mostInfo+1)), "", looks(r.x))
	}
}

// P19.2: Send.

func TestSendOutsideDataStates(t *testing.T) {
	for state := range states {
		for _, sdu := range []string{"", "f", strings.Repeat("z", maxSdu), strings.Repeat("z", maxSdu+1)} {
			r := reached(t, plainConfig(), state)
			switch {
			case state < api.Normal:
				r.refuses(sdu, api.ErrState) // it is told ahead of ErrLong
			case len(sdu) > maxSdu:
				r.refuses(sdu, api.ErrLong)
			default:
				w := r.x.Width()
				r.send(sdu, "", fmt.Sprintf("%s v3/2/0 q6/3 n7/5 r%d w%d e1 t%d", stateName(state), r.x.Retries(), w, r.x.Timers()))
			}
		}
	}
}

func TestSendOfEachLength(t *testing.T) {
	for length := 0; length <= maxSdu+300; length++ {
		r := newRig(t, fmt.Sprint(length, " bytes"), plainConfig())
		r.do(api.UConnect, 7, "-", "-")
		r.hear(ua(7), "-", "-")
		sdu := strings.Repeat("z", length)
		if length > maxSdu {
			r.refuses(sdu, api.ErrLong)
			continue
		}
		r.send(sdu, fmt.Sprintf("I 0 0 %q", sdu), "Normal v1/0/0 q1/1 n7/0 r0 w3 e1 t1")
	}
}

func TestSendIntoAFullQueue(t *testing.T) {
	for state := api.Normal; state < states; state++ {
		r := reached(t, plainConfig(), state)
		for range maxQueue - 5 {
			r.send("f", "-", "-")
		}
		r.refuses("g", api.ErrFull)
		r.refuses("", api.ErrFull)
		r.refuses(strings.Repeat("z", maxSdu), api.ErrFull)
		r.refuses(strings.Repeat("z", maxSdu+1), api.ErrLong) // it is told ahead of ErrFull
		if queued, _ := r.x.Queue(); queued != maxQueue {
			t.Errorf("%s: %d are queued", r.what, queued)
		}
	}
	r := reached(t, plainConfig(), api.Normal)
	for range maxQueue - 5 {
		r.send("f", "-", "-")
	}
	r.hear(status(api.Rr, 2, none), `I 3 2 "d", I 4 2 "e"`, "Normal v5/2/2 q62/3 n7/5 r0 w3 e1 t1")
	r.send("g", "", "-")
	r.send("g", "", "Normal v5/2/2 q64/3 n7/5 r0 w3 e1 t1")
	r.refuses("g", api.ErrFull)
}

// Push.

// open is a connection in Normal, of that window.
func open(t *testing.T, window int) *rig {
	t.Helper()
	c := plainConfig()
	c.Window = window
	r := newRig(t, fmt.Sprint("a window of ", window), c)
	r.do(api.UConnect, 7, "-", "-")
	r.hear(ua(7), "-", "-")
	return r
}

func TestPushByEachWindow(t *testing.T) {
	for window := 1; window <= maxWindow; window++ {
		r := open(t, window)
		for n := range maxQueue {
			out := min(n+1, window)
			r.send("s", onlyWhere(n < window, fmt.Sprintf(`I %d 0 "s"`, n)), fmt.Sprintf("Normal v%d/0/0 q%d/%d n7/0 r0 w%d e1 t1", out, n+1, out, window))
		}
		r.refuses("s", api.ErrFull)
		one := onlyWhere(window < maxQueue, fmt.Sprintf(`I %d 0 "s"`, window))
		r.hear(status(api.Rr, 1, none), one, fmt.Sprintf("Normal v%d/0/1 q63/%d n7/0 r0 w%d e1 t1", min(window+1, 64), min(window, 63), window))
	}
}

func TestPushOfOneAtATime(t *testing.T) {
	r := open(t, 1)
	r.send("a", `I 0 0 "a"`, "Normal v1/0/0 q1/1 n7/0 r0 w1 e1 t1")
	r.send("b", "", "Normal v1/0/0 q2/1 n7/0 r0 w1 e1 t1")
	r.send("c", "", "Normal v1/0/0 q3/1 n7/0 r0 w1 e1 t1")
	r.hear(status(api.Rr, 0, none), "", "Normal v1/0/0 q3/1 n7/0 r0 w1 e1 t1")
	r.hear(status(api.Rr, 1, none), `I 1 0 "b"`, "Normal v2/0/1 q2/1 n7/0 r0 w1 e1 t1")
	r.hear(status(api.Rr, 2, none), `I 2 0 "c"`, "Normal v3/0/2 q1/1 n7/0 r0 w1 e1 t1")
	r.hear(status(api.Rr, 3, none), "", "Normal v3/0/3 q0/0 n7/0 r0 w1 e1 t0")
	r.hear(status(api.Rr, 3, withP), "rr 0 0 f", "Normal v3/0/3 q0/0 n7/0 r0 w1 e1 t0") // nothing waits, and nothing is out: no timer
}

// All 64 at once, acknowledged in one.
func TestPushOfAll(t *testing.T) {
	r := open(t, 64)
	r.hear(status(api.Rnr, 0, none), "", "Normal v0/0/0 q0/0 n7/0 r0 w64 e1 t1")
	var all []string
	for n := range 64 {
		r.send(fmt.Sprint("s", n), "", fmt.Sprintf("Normal v0/0/0 q%d/0 n7/0 r0 w64 e1 t1", n+1))
		all = append(all, fmt.Sprintf(`I %d 0 "s%d"`, n, n))
	}
	r.hear(status(api.Rr, 0, none), strings.Join(all, ", "), "Normal v64/0/0 q64/64 n7/0 r0 w64 e1 t1")
	r.hear(status(api.Rr, 64, none), "", "Normal v64/0/64 q0/0 n7/0 r0 w64 e1 t0")
}

// While the other one is busy nothing is pushed, and its timer runs; what is out is acknowledged all the same, and asked for.
func TestPushWhileTheOtherOneIsBusy(t *testing.T) {
	r := reached(t, plainConfig(), api.Normal)
	r.hear(status(api.Rnr, 1, none), "", "Normal v3/2/1 q4/2 n7/5 r0 w3 e1 t2")
	r.send("f", "", "Normal v3/2/1 q5/2 n7/5 r0 w3 e1 t2")
	r.hear(info(2, 2, none, "q"), `rr 0 3, took "q"`, "Normal v3/3/2 q4/1 n7/5 r0 w3 e1 t2") // an I does not say that it is free
	r.hear(info(2, 2, none, "r"), "rej 0 3", "Reject v3/3/2 q4/1 n7/5 r0 w3 e1 t3")
	r.hear(info(3, 3, none, "r"), `rr 0 4, took "r"`, "Normal v3/4/3 q3/0 n7/5 r0 w3 e1 t1")
	r.send("g", "", "Normal v3/4/3 q4/0 n7/5 r0 w3 e1 t1")
	r.hear(status(api.Rr, 3, none), `I 3 4 "d", I 4 4 "e", I 5 4 "f"`, "Normal v6/4/3 q4/3 n7/5 r0 w3 e1 t1")
	r.hear(status(api.Rnr, 3, none), "", "Normal v6/4/3 q4/3 n7/5 r0 w3 e1 t2")
	r.hear(status(api.Rej, 4, none), `I 4 4 "e"`, "Normal v5/4/4 q3/1 n7/5 r0 w1 e1 t1") // nor is it busy behind a Rej
}

// Clear frees it: a new epoch knows of no busy one.
func TestClearForgetsThatTheOtherOneIsBusy(t *testing.T) {
	r := reached(t, plainConfig(), api.Normal)
	r.hear(status(api.Rnr, 1, none), "", "Normal v3/2/1 q4/2 n7/5 r0 w3 e1 t2")
	r.hear(sabme(6), "say Reset", "ResetCheck v3/2/1 q4/2 n7/6 r0 w3 e1 t0")
	r.do(api.UResetOk, 9, "ua f 00000006", "Normal v0/0/0 q0/0 n7/6 r0 w3 e2 t0")
	r.send("n", `I 0 0 "n"`, "Normal v1/0/0 q1/1 n7/6 r0 w3 e2 t1")
}

// Clear makes the window as wide as it may be, and empties the queue.
func TestClearBeginsAnew(t *testing.T) {
	r := reached(t, plainConfig(), api.Normal)
	r.hear(status(api.Rej, 0, none), `I 0 2 "a"`, "Normal v1/2/0 q5/1 n7/5 r0 w1 e1 t1")
	r.do(api.UReset, 12, "Sabme P 0000000c, used", "Reset v1/2/0 q5/1 n12/5 r0 w1 e1 t1")
	r.hear(ua(12), "say ResetDone", "Normal v0/0/0 q0/0 n12/5 r0 w3 e2 t0")
	for n := range 3 {
		r.send("n", fmt.Sprintf(`I %d 0 "n"`, n), "-")
	}
	r.send("n", "", "Normal v3/0/0 q4/3 n12/5 r0 w3 e2 t1")
	r.hear(info(0, 3, none, "first"), `rr 0 1, I 3 1 "n", took "first"`, "Normal v4/1/3 q1/1 n12/5 r0 w3 e2 t1")
}

// GoBack and Slow: behind a loss one goes, then more and more.
func TestTheWindowBehindARej(t *testing.T) {
	r := open(t, 4)
	for n := range 8 {
		r.send(fmt.Sprint(n), onlyWhere(n < 4, fmt.Sprintf(`I %d 0 "%d"`, n, n)), "-")
	}
	r.hear(status(api.Rej, 0, none), `I 0 0 "0"`, "Normal v1/0/0 q8/1 n7/0 r0 w1 e1 t1")
	r.hear(status(api.Rr, 1, none), `I 1 0 "1", I 2 0 "2"`, "Normal v3/0/1 q7/2 n7/0 r0 w2 e1 t1")
	r.hear(status(api.Rr, 2, none), `I 3 0 "3"`, "Normal v4/0/2 q6/2 n7/0 r0 w2 e1 t1")
	r.hear(status(api.Rr, 3, none), `I 4 0 "4", I 5 0 "5"`, "Normal v6/0/3 q5/3 n7/0 r0 w3 e1 t1")
	r.hear(status(api.Rr, 6, none), `I 6 0 "6", I 7 0 "7"`, "Normal v8/0/6 q2/2 n7/0 r0 w4 e1 t1")
	r.hear(status(api.Rr, 8, none), "", "Normal v8/0/8 q0/0 n7/0 r0 w4 e1 t0")
}

// The timers of Config, each by what is heard, what is sent, and what is told.

func TestTimerOfAck(t *testing.T) {
	r := open(t, 3)
	r.still(50) // none runs while nothing is out
	r.send("a", `I 0 0 "a"`, "Normal v1/0/0 q1/1 n7/0 r0 w3 e1 t1")
	r.still(6)
	r.send("b", `I 1 0 "b"`, "Normal v2/0/0 q2/2 n7/0 r0 w3 e1 t1") // it runs: it is not started anew
	r.still(3)
	r.ticks(1, "Rr 0 0 P", "Await v2/0/0 q2/2 n7/0 r1 w1 e1 t1")

	r = open(t, 3)
	r.send("a", "-", "-")
	r.send("b", "-", "-")
	r.still(9)
	r.hear(status(api.Rr, 0, none), "", "Normal v2/0/0 q2/2 n7/0 r0 w3 e1 t1") // nothing went up: it runs on
	r.ticks(1, "Rr 0 0 P", "Await v2/0/0 q2/2 n7/0 r1 w1 e1 t1")

	r = open(t, 3)
	r.send("a", "-", "-")
	r.send("b", "-", "-")
	r.still(9)
	r.hear(status(api.Rr, 1, none), "", "Normal v2/0/1 q1/1 n7/0 r0 w3 e1 t1") // one went up: anew
	r.still(9)
	r.ticks(1, "Rr 0 0 P", "Await v2/0/1 q1/1 n7/0 r1 w1 e1 t1")

	r = open(t, 3)
	r.send("a", "-", "-")
	r.hear(status(api.Rr, 1, none), "", "Normal v1/0/1 q0/0 n7/0 r0 w3 e1 t0")
	r.still(100)
}

// The timer of StartP is stopped by RetryZero alone; PollRr stops that of StartAck.
func TestTimerOfPoll(t *testing.T) {
	r := open(t, 3)
	r.send("a", "-", "-")
	r.ticks(10, "Rr 0 0 P", "Await v1/0/0 q1/1 n7/0 r1 w1 e1 t1")
	r.ticks(20, "Rr 0 0 P", "Await v1/0/0 q1/1 n7/0 r2 w1 e1 t1")
	r.still(19)
	r.hear(status(api.Rr, 0, withF), `I 0 0 "a"`, "Normal v1/0/0 q1/1 n7/0 r0 w1 e1 t1")
	r.still(9)
	r.ticks(1, "Rr 0 0 P", "Await v1/0/0 q1/1 n7/0 r1 w1 e1 t1")
	r.still(19)
	r.hear(status(api.Rr, 1, none), "", "Await v1/0/1 q0/0 n7/0 r0 w2 e1 t1") // acknowledged, yet not answered
	r.ticks(1, "Rr 0 0 P", "Await v1/0/1 q0/0 n7/0 r1 w2 e1 t1")
	r.hear(status(api.Rr, 1, withF), "", "Normal v1/0/1 q0/0 n7/0 r0 w2 e1 t0")
}

// A timer of StartAck that Ack starts in Await is told there, and nothing comes of it; a poll stops it.
func TestTimerOfAckInAwait(t *testing.T) {
	c := plainConfig()
	r := newRig(t, "Await", c)
	r.do(api.UConnect, 7, "-", "-")
	r.hear(ua(7), "-", "-")
	r.send("a", "-", "-")
	r.send("b", "-", "-")
	r.ticks(10, "Rr 0 0 P", "Await v2/0/0 q2/2 n7/0 r1 w1 e1 t1")
	r.still(2)
	r.hear(status(api.Rr, 1, none), "", "Await v2/0/1 q1/1 n7/0 r0 w2 e1 t2")
	r.ticks(10, "", "Await v2/0/1 q1/1 n7/0 r0 w2 e1 t1")
	r.ticks(8, "Rr 0 0 P", "Await v2/0/1 q1/1 n7/0 r1 w2 e1 t1")
	r.ticks(15, "", "-")
	r.hear(status(api.Rnr, 1, none), "", "Await v2/0/1 q1/1 n7/0 r1 w2 e1 t1") // nothing went up
	r.ticks(5, "Rr 0 0 P", "Await v2/0/1 q1/1 n7/0 r2 w2 e1 t1")
}

func TestTimerOfRej(t *testing.T) {
	r := open(t, 3)
	r.hear(info(1, 0, none, "b"), "rej 0 0", "Reject v0/0/0 q0/0 n7/0 r0 w3 e1 t1")
	r.still(12)
	r.hear(info(2, 0, none, "c"), "", "Reject v0/0/0 q0/0 n7/0 r0 w3 e1 t1") // it runs on
	r.ticks(18, "Rr 0 0 P", "AwaitReject v0/0/0 q0/0 n7/0 r1 w3 e1 t1")
	r.ticks(20, "Rr 0 0 P", "AwaitReject v0/0/0 q0/0 n7/0 r2 w3 e1 t1")
	r.hear(status(api.Rr, 0, withF), "", "Reject v0/0/0 q0/0 n7/0 r0 w3 e1 t0")
	r.still(100) // the chapter's table starts none there
	r.hear(info(0, 0, none, "a"), `rr 0 1, took "a"`, "Normal v0/1/0 q0/0 n7/0 r0 w3 e1 t0")
	r.hear(info(2, 0, none, "c"), "rej 0 1", "Reject v0/1/0 q0/0 n7/0 r0 w3 e1 t1")
	r.hear(info(1, 0, none, "b"), `rr 0 2, took "b"`, "Normal v0/2/0 q0/0 n7/0 r0 w3 e1 t0")
	r.still(100)
	r.hear(info(5, 0, none, "c"), "rej 0 2", "Reject v0/2/0 q0/0 n7/0 r0 w3 e1 t1")
	r.do(api.UBusy, 9, "rnr 0 2", "Busy v0/2/0 q0/0 n7/0 r0 w3 e1 t0")
	r.still(100)
	r.do(api.UFree, 9, "rr 0 2", "Normal v0/2/0 q0/0 n7/0 r0 w3 e1 t0")
}

func TestTimerOfBusy(t *testing.T) {
	for _, state := range []string{"Normal", "Busy", "Reject"} {
		r := open(t, 3)
		poll, timers := "Rr 0 0 P", 1
		if state == "Busy" {
			r.do(api.UBusy, 9, "-", "-")
			poll = "Rnr 0 0 P"
		}
		if state == "Reject" {
			r.hear(info(1, 0, none, "b"), "-", "-")
			r.ticks(20, "", "-")
			timers = 2
		}
		r.hear(status(api.Rnr, 0, none), "", fmt.Sprintf("%s v0/0/0 q0/0 n7/0 r0 w3 e1 t%d", state, timers))
		if state == "Reject" { // the timer of StartRej is over first
			r.ticks(10, "Rr 0 0 P", "AwaitReject v0/0/0 q0/0 n7/0 r1 w3 e1 t2")
			r.hear(status(api.Rnr, 0, withF), "", "Reject v0/0/0 q0/0 n7/0 r0 w3 e1 t1")
		}
		r.still(15)
		r.hear(status(api.Rnr, 0, none), "", fmt.Sprintf("%s v0/0/0 q0/0 n7/0 r0 w3 e1 t1", state)) // anew
		r.ticks(40, poll, "-")
		if got, want := looks(r.x), fmt.Sprintf("%s v0/0/0 q0/0 n7/0 r1 w3 e1 t1", "Await"+strings.Replace(state, "Normal", "", 1)); got != want {
			t.Errorf("%s: %s, want %s", state, got, want)
		}
		r.ticks(20, poll, "-")
		r.hear(status(api.Rr, 0, withF), "", fmt.Sprintf("%s v0/0/0 q0/0 n7/0 r0 w3 e1 t0", state))
		r.still(100)
	}
}

// Rnr in a state that awaits an answer starts no timer; with F it does.
func TestBusyInAwait(t *testing.T) {
	r := reached(t, plainConfig(), api.Await)
	r.hear(status(api.Rnr, 0, none), "", "Await v3/2/0 q5/3 n7/5 r1 w1 e1 t1")
	r.hear(status(api.Rr, 0, none), "", "Await v3/2/0 q5/3 n7/5 r1 w1 e1 t1")
	r.hear(status(api.Rnr, 0, withF), "", "Normal v0/2/0 q5/0 n7/5 r0 w1 e1 t1")
	r.still(39)
	r.ticks(1, "Rr 0 2 P", "Await v0/2/0 q5/0 n7/5 r1 w1 e1 t1")
	r.hear(status(api.Rr, 0, none), "", "Await v0/2/0 q5/0 n7/5 r1 w1 e1 t1") // it is free, but nothing goes ahead of the answer
	r.hear(info(2, 0, withF, "q"), `rr 0 3, I 0 3 "a", took "q"`, "Normal v1/3/0 q5/1 n7/5 r0 w1 e1 t1")
}

// A timer that is over in a state where the table has nothing for it is over, and nothing comes of it.
func TestTimersOfOtherStates(t *testing.T) {
	r := reached(t, plainConfig(), api.Reject)
	r.ticks(10, "Rr 0 2 P", "AwaitReject v3/2/0 q5/3 n7/5 r1 w1 e1 t2")
	r.hear(status(api.Rr, 0, none), "", "-")
	r.ticks(19, "", "-")
	r.ticks(1, "Rr 0 2 P", "AwaitReject v3/2/0 q5/3 n7/5 r2 w1 e1 t1") // that of StartRej is over, too: the same tick
	r.hear(status(api.Rnr, 0, withF), "", "Reject v0/2/0 q5/0 n7/5 r0 w1 e1 t1")
	r.ticks(40, "Rr 0 2 P", "AwaitReject v0/2/0 q5/0 n7/5 r1 w1 e1 t1")
	r.ticks(1, "", "-")
	r.hear(status(api.Rnr, 0, withF), "", "Reject v0/2/0 q5/0 n7/5 r0 w1 e1 t1")
	r.do(api.UBusy, 9, "rnr 0 2", "Busy v0/2/0 q5/0 n7/5 r0 w1 e1 t1")
	r.ticks(40, "Rnr 0 2 P", "AwaitBusy v0/2/0 q5/0 n7/5 r1 w1 e1 t1")
}

// Timers that are over in one tick are told in the order in which they were started, each in the state as it is then.
func TestTimersOfOneTick(t *testing.T) {
	same := tie.Config{Window: 3, Tries: 3, Ack: 5, Poll: 5, Rej: 5, Busy: 5}
	both := func(first, second func(r *rig), out, look string) {
		t.Helper()
		r := newRig(t, "two timers", same)
		r.do(api.UConnect, 7, "-", "-")
		r.hear(ua(7), "-", "-")
		first(r)
		second(r)
		r.still(4)
		r.ticks(1, out, look)
	}
	send := func(r *rig) { r.send("a", "-", "-") }
	gap := func(r *rig) { r.hear(info(1, 0, none, "b"), "-", "-") }
	halt := func(r *rig) { r.hear(status(api.Rnr, 0, none), "-", "-") }
	// TimeAck makes the window narrow, TimeRej and TimeBusy do not: so the first one is told from the second.
	both(send, gap, "Rr 0 0 P", "AwaitReject v1/0/0 q1/1 n7/0 r1 w1 e1 t1")
	both(gap, send, "Rr 0 0 P", "AwaitReject v1/0/0 q1/1 n7/0 r1 w3 e1 t1")
	both(send, halt, "Rr 0 0 P", "Await v1/0/0 q1/1 n7/0 r1 w1 e1 t1")
	both(halt, gap, "Rr 0 0 P", "AwaitReject v0/0/0 q0/0 n7/0 r1 w3 e1 t1")
	both(func(r *rig) { send(r); halt(r) }, func(r *rig) { gap(r) }, "Rr 0 0 P", "AwaitReject v1/0/0 q1/1 n7/0 r1 w1 e1 t1")
	both(func(r *rig) { gap(r); send(r) }, halt, "Rr 0 0 P", "AwaitReject v1/0/0 q1/1 n7/0 r1 w3 e1 t1")
}

// Where the first one of a tick ends it all, those behind it find nothing to do.
func TestTimersBehindTheLastTry(t *testing.T) {
	c := tie.Config{Window: 3, Tries: 1, Ack: 5, Poll: 5, Rej: 10, Busy: 10}
	r := newRig(t, "the last try", c)
	r.do(api.UConnect, 7, "-", "-")
	r.hear(ua(7), "-", "-")
	r.send("a", "-", "-")
	r.hear(status(api.Rnr, 0, none), "", "-")
	r.hear(info(1, 0, none, "b"), "rej 0 0", "Reject v1/0/0 q1/1 n7/0 r0 w3 e1 t3")
	r.ticks(5, "Rr 0 0 P", "AwaitReject v1/0/0 q1/1 n7/0 r1 w1 e1 t3")
	r.ticks(5, "say Reset", "ResetWait v1/0/0 q1/1 n7/0 r1 w1 e1 t0") // those of StartBusy and StartRej are told ahead of it
	r.still(50)
}

// Retries: just below Tries it is tried again, at Tries it is over.
func TestRetriesUpToTries(t *testing.T) {
	for _, tries := range []int{1, 2, 3, maxTries} {
		c := tie.Config{Window: 3, Tries: tries, Ack: 2, Poll: 3, Rej: 4, Busy: 5}
		name := fmt.Sprint(tries, " tries")

		r := newRig(t, name+" of a Sabme", c)
		r.do(api.UConnect, 7, "-", "-")
		for n := range tries {
			r.ticks(2, "Sabme P 00000007", fmt.Sprintf("Setup v0/0/0 q0/0 n7/0 r%d w3 e0 t1", n+1))
		}
		r.ticks(2, "say Disconnect", fmt.Sprintf("Adm v0/0/0 q0/0 n7/0 r%d w3 e0 t0", tries))
		r.still(20)
		r.do(api.UConnect, 8, "Sabme P 00000008, used", "Setup v0/0/0 q0/0 n8/0 r0 w3 e0 t1") // anew, with all its tries
		for range tries {
			r.ticks(2, "Sabme P 00000008", "-")
		}
		r.hear(ua(8), "say Connected", fmt.Sprintf("Normal v0/0/0 q0/0 n8/0 r%d w3 e1 t0", tries)) // nothing sets them 0 there
		r.send("a", "-", "-")
		r.ticks(2, "say Reset", fmt.Sprintf("ResetWait v1/0/0 q1/1 n8/0 r%d w3 e1 t0", tries)) // so there is no try left
		r.do(api.UReset, 9, "Sabme P 00000009, used", "-")
		for range tries {
			r.ticks(2, "Sabme P 00000009", "-")
		}
		r.ticks(2, "say Disconnect", fmt.Sprintf("Adm v1/0/0 q1/1 n9/0 r%d w3 e1 t0", tries))

		r = newRig(t, name+" of a poll", c)
		r.do(api.UConnect, 7, "-", "-")
		r.hear(ua(7), "-", "-")
		r.send("a", "-", "-")
		r.ticks(2, "Rr 0 0 P", "Await v1/0/0 q1/1 n7/0 r1 w1 e1 t1")
		for n := 1; n < tries; n++ {
			r.ticks(3, "Rr 0 0 P", fmt.Sprintf("Await v1/0/0 q1/1 n7/0 r%d w1 e1 t1", n+1))
		}
		r.ticks(3, "say Reset", fmt.Sprintf("ResetWait v1/0/0 q1/1 n7/0 r%d w1 e1 t0", tries))

		r = newRig(t, name+" of a Disc", c)
		r.do(api.UConnect, 7, "-", "-")
		r.do(api.UDisconnect, 8, "Disc P 00000008, used", "DConn v0/0/0 q0/0 n8/0 r0 w3 e0 t1")
		for n := range tries {
			r.ticks(2, "Disc P 00000008", fmt.Sprintf("DConn v0/0/0 q0/0 n8/0 r%d w3 e0 t1", n+1))
		}
		r.ticks(2, "", fmt.Sprintf("Adm v0/0/0 q0/0 n8/0 r%d w3 e0 t0", tries)) // there nothing is said
	}
}

func TestRetriesOfAFrmr(t *testing.T) {
	for _, tries := range []int{1, 2, 3, maxTries} {
		c := tie.Config{Window: 3, Tries: tries, Ack: 2, Poll: 3, Rej: 4, Busy: 5}
		r := newRig(t, fmt.Sprint(tries, " tries of a Frmr"), c)
		r.do(api.UConnect, 7, "-", "-")
		r.hear(ua(7), "-", "-")
		r.send("a", "-", "-")
		r.hear(status(api.Rnr, 2, withP), "frmr f 0505020008", "Error v1/0/0 q1/1 n7/0 r0 w3 e1 t1")
		for n := range tries {
			r.ticks(2, "frmr 0505020008", fmt.Sprintf("Error v1/0/0 q1/1 n7/0 r%d w3 e1 t1", n+1))
		}
		r.ticks(2, "say Reset", fmt.Sprintf("ResetWait v1/0/0 q1/1 n7/0 r%d w3 e1 t0", tries))
	}
}

// The retries are 0 where an N(R) goes up, in Await as well: the tries begin anew.
func TestRetriesAreZeroWhereItGoesUp(t *testing.T) {
	r := reached(t, plainConfig(), api.Await)
	r.ticks(20, "Rr 0 2 P", "Await v3/2/0 q5/3 n7/5 r2 w1 e1 t1")
	r.hear(status(api.Rr, 0, none), "", "Await v3/2/0 q5/3 n7/5 r2 w1 e1 t1")
	r.hear(status(api.Rr, 1, none), "", "Await v3/2/1 q4/2 n7/5 r0 w2 e1 t2")
	r.ticks(20, "Rr 0 2 P", "Await v3/2/1 q4/2 n7/5 r1 w2 e1 t1")
	r.ticks(20, "Rr 0 2 P", "Await v3/2/1 q4/2 n7/5 r2 w2 e1 t1")
	r.ticks(20, "say Reset", "ResetWait v3/2/1 q4/2 n7/5 r2 w2 e1 t0")
}
