package tie_test

import (
	"fmt"
	"slices"
	"strings"
	"testing"

	"antiphon/api"
	"antiphon/tie"
)

// ends of a line: 0 is at SAP 4, 1 at SAP 8.
type pair struct {
	t    *testing.T
	x    [2]*tie.Tie
	line [2][]api.Pdu // what each has sent, and the other one has not heard
	n    int          // attempts' numbers
	took [2][]string
	said [2][]string
}

func newPair(t *testing.T, c tie.Config) *pair {
	t.Helper()
	return &pair{t: t, x: [2]*tie.Tie{made(t, c, near, there), made(t, c, there, near)}}
}

// shown is what an end hands out, as a text; what it sends goes onto the line.
func (p *pair) shown(end int, o tie.Out) string {
	p.line[end] = append(p.line[end], o.Send...)
	for _, b := range o.Took {
		p.took[end] = append(p.took[end], string(b))
	}
	for _, s := range o.Say {
		p.said[end] = append(p.said[end], outText(tie.Out{Say: []int{s}}))
	}
	if o.Used {
		p.n++
	}
	if end == 1 { // so that its SAPs are told like those of end 0
		o.Send = slices.Clone(o.Send)
		for i := range o.Send {
			o.Send[i] = turned(o.Send[i])
		}
	}
	return outText(o)
}

func (p *pair) want(call string, end int, o tie.Out, out, look string) {
	p.t.Helper()
	if got := p.shown(end, o); out != "-" && got != out {
		p.t.Errorf("%d: %s: %q, want %q", end, call, got, out)
	}
	if got := looks(p.x[end]); look != "-" && got != look {
		p.t.Errorf("%d: behind %s: %s, want %s", end, call, got, look)
	}
}

func (p *pair) do(end, event int, out, look string) {
	p.t.Helper()
	p.want(fmt.Sprintf("Do(%d)", event), end, p.x[end].Do(event, p.n+1), out, look)
}

func (p *pair) send(end int, sdu, out, look string) {
	p.t.Helper()
	o, e := p.x[end].Send([]byte(sdu))
	if e != api.OK {
		p.t.Errorf("%d: Send(%q): %v", end, sdu, e)
	}
	p.want(fmt.Sprintf("Send(%q)", sdu), end, o, out, look)
}

// pass lets an end hear what the other one has sent first.
func (p *pair) pass(end int, out, look string) {
	p.t.Helper()
	from := 1 - end
	if len(p.line[from]) == 0 {
		p.t.Fatalf("%d: nothing is on the line", end)
	}
	u := p.line[from][0]
	p.line[from] = p.line[from][1:]
	p.want("Hear of "+pduText(u), end, p.x[end].Hear(u, p.n+1), out, look)
}

func (p *pair) ticks(end, n int, out, look string) {
	p.t.Helper()
	for i := 1; i < n; i++ {
		p.want("Tick", end, p.x[end].Tick(p.n+1), "", "-")
	}
	p.want("Tick", end, p.x[end].Tick(p.n+1), out, look)
}

// lose takes what an end has sent first off the line.
func (p *pair) lose(end int) {
	p.line[end] = p.line[end][1:]
}

func (p *pair) wantEmpty() {
	p.t.Helper()
	for end, l := range p.line {
		if len(l) > 0 {
			p.t.Errorf("%d: %d are on the line still", end, len(l))
		}
	}
}

// A whole connection: asked for, begun, sent over both ways, polled, reset, and ended.
func TestTwoConnections(t *testing.T) {
	p := newPair(t, tie.Config{Window: 2, Tries: 3, Ack: 5, Poll: 6, Rej: 7, Busy: 8})

	p.do(0, api.UConnect, "Sabme P 00000001, used", "Setup v0/0/0 q0/0 n1/0 r0 w2 e0 t1")
	p.pass(1, "say Connect", "Conn v0/0/0 q0/0 n0/1 r0 w2 e0 t0")
	p.ticks(0, 5, "Sabme P 00000001", "Setup v0/0/0 q0/0 n1/0 r1 w2 e0 t1")
	p.do(1, api.UAccept, "ua f 00000001", "Normal v0/0/0 q0/0 n0/1 r0 w2 e1 t0")
	p.pass(1, "ua f 00000001", "Normal v0/0/0 q0/0 n0/1 r0 w2 e1 t0") // the Sabme that was sent again
	p.pass(0, "say Connected", "Normal v0/0/0 q0/0 n1/0 r1 w2 e1 t0")
	p.pass(0, "", "Normal v0/0/0 q0/0 n1/0 r1 w2 e1 t0")
	p.wantEmpty()

	p.send(0, "a", `I 0 0 "a"`, "Normal v1/0/0 q1/1 n1/0 r1 w2 e1 t1")
	p.send(0, "b", `I 1 0 "b"`, "Normal v2/0/0 q2/2 n1/0 r1 w2 e1 t1")
	p.send(0, "c", "", "Normal v2/0/0 q3/2 n1/0 r1 w2 e1 t1")
	p.send(1, "A", `I 0 0 "A"`, "Normal v1/0/0 q1/1 n0/1 r0 w2 e1 t1")
	p.pass(1, `rr 0 1, took "a"`, "Normal v1/1/0 q1/1 n0/1 r0 w2 e1 t1")
	p.pass(1, `rr 0 2, took "b"`, "Normal v1/2/0 q1/1 n0/1 r0 w2 e1 t1")
	p.pass(0, `rr 0 1, took "A"`, "Normal v2/1/0 q3/2 n1/0 r1 w2 e1 t1")
	p.pass(0, `I 2 1 "c"`, "Normal v3/1/1 q2/2 n1/0 r0 w2 e1 t1")
	p.pass(0, "", "Normal v3/1/2 q1/1 n1/0 r0 w2 e1 t1")
	p.pass(1, "", "Normal v1/2/1 q0/0 n0/1 r0 w2 e1 t0")
	p.pass(1, `rr 0 3, took "c"`, "Normal v1/3/1 q0/0 n0/1 r0 w2 e1 t0")
	p.pass(0, "", "Normal v3/1/3 q0/0 n1/0 r0 w2 e1 t0")
	p.wantEmpty()

	// What is lost is asked for, by a Rej, or by a poll.
	p.send(1, "B", `I 1 3 "B"`, "Normal v2/3/1 q1/1 n0/1 r0 w2 e1 t1")
	p.send(1, "C", `I 2 3 "C"`, "Normal v3/3/1 q2/2 n0/1 r0 w2 e1 t1")
	p.lose(1)
	p.pass(0, "rej 0 1", "Reject v3/1/3 q0/0 n1/0 r0 w2 e1 t1")
	p.pass(1, `I 1 3 "B"`, "Normal v2/3/1 q2/1 n0/1 r0 w1 e1 t1")
	p.pass(0, `rr 0 2, took "B"`, "Normal v3/2/3 q0/0 n1/0 r0 w2 e1 t0")
	p.pass(1, `I 2 3 "C"`, "Normal v3/3/2 q1/1 n0/1 r0 w2 e1 t1")
	p.lose(1)
	p.ticks(1, 5, "Rr 0 3 P", "Await v3/3/2 q1/1 n0/1 r1 w1 e1 t1")
	p.lose(1)
	p.ticks(1, 6, "Rr 0 3 P", "Await v3/3/2 q1/1 n0/1 r2 w1 e1 t1")
	p.pass(0, "rr 0 2 f", "Normal v3/2/3 q0/0 n1/0 r0 w2 e1 t0")
	p.pass(1, `I 2 3 "C"`, "Normal v3/3/2 q1/1 n0/1 r0 w1 e1 t1")
	p.pass(0, `rr 0 3, took "C"`, "Normal v3/3/3 q0/0 n1/0 r0 w2 e1 t0")
	p.pass(1, "", "Normal v3/3/3 q0/0 n0/1 r0 w2 e1 t0")
	p.wantEmpty()

	// Who is busy says so; who is told waits, and asks.
	p.do(0, api.UBusy, "rnr 0 3", "Busy v3/3/3 q0/0 n1/0 r0 w2 e1 t0")
	p.send(1, "D", `I 3 3 "D"`, "Normal v4/3/3 q1/1 n0/1 r0 w2 e1 t1")
	p.pass(1, "", "Normal v4/3/3 q1/1 n0/1 r0 w2 e1 t2")
	p.pass(0, "rnr 0 3", "Busy v3/3/3 q0/0 n1/0 r0 w2 e1 t0")
	p.pass(1, "", "Normal v4/3/3 q1/1 n0/1 r0 w2 e1 t2")
	p.ticks(1, 5, "Rr 0 3 P", "Await v4/3/3 q1/1 n0/1 r1 w1 e1 t2")
	p.pass(0, "rnr 0 3 f", "Busy v3/3/3 q0/0 n1/0 r0 w2 e1 t0")
	p.pass(1, "", "Normal v3/3/3 q1/0 n0/1 r0 w1 e1 t1")
	p.do(0, api.UFree, "rr 0 3", "Normal v3/3/3 q0/0 n1/0 r0 w2 e1 t0")
	p.pass(1, `I 3 3 "D"`, "Normal v4/3/3 q1/1 n0/1 r0 w1 e1 t1")
	p.pass(0, `rr 0 4, took "D"`, "Normal v3/4/3 q0/0 n1/0 r0 w2 e1 t0")
	p.pass(1, "", "Normal v4/3/4 q0/0 n0/1 r0 w2 e1 t0")
	p.wantEmpty()

	// A reset: a new epoch at both ends; what was out is gone.
	p.send(0, "d", `I 3 4 "d"`, "Normal v4/4/3 q1/1 n1/0 r0 w2 e1 t1")
	p.lose(0)
	p.do(1, api.UReset, "Sabme P 00000002, used", "Reset v4/3/4 q0/0 n2/1 r0 w2 e1 t1")
	p.pass(0, "say Reset", "ResetCheck v4/4/3 q1/1 n1/2 r0 w2 e1 t0")
	p.do(0, api.UResetOk, "ua f 00000002", "Normal v0/0/0 q0/0 n1/2 r0 w2 e2 t0")
	p.send(0, "e", `I 0 0 "e"`, "Normal v1/0/0 q1/1 n1/2 r0 w2 e2 t1")
	p.pass(1, "say ResetDone", "Normal v0/0/0 q0/0 n2/1 r0 w2 e2 t0")
	p.pass(1, `rr 0 1, took "e"`, "Normal v0/1/0 q0/0 n2/1 r0 w2 e2 t0")
	p.pass(0, "", "Normal v1/0/1 q0/0 n1/2 r0 w2 e2 t0")

	// The end: a Disc that is lost is sent again, and answered each time.
	p.do(0, api.UDisconnect, "Disc P 00000003, used", "DConn v1/0/1 q0/0 n3/2 r0 w2 e2 t1")
	p.lose(0)
	p.ticks(0, 5, "Disc P 00000003", "DConn v1/0/1 q0/0 n3/2 r1 w2 e2 t1")
	p.pass(1, "ua f 00000003, say Disconnect", "Adm v0/1/0 q0/0 n2/1 r0 w2 e2 t0")
	p.lose(1)
	p.ticks(0, 5, "Disc P 00000003", "DConn v1/0/1 q0/0 n3/2 r2 w2 e2 t1")
	p.pass(1, "dm f 00000003", "Adm v0/1/0 q0/0 n2/1 r0 w2 e2 t0")
	p.pass(0, "", "Adm v1/0/1 q0/0 n3/2 r2 w2 e2 t0")
	p.wantEmpty()

	// And once more, from the other end: numbers go on, and what is queued no more does not come back.
	p.do(1, api.UConnect, "Sabme P 00000004, used", "Setup v0/1/0 q0/0 n4/1 r0 w2 e2 t1")
	p.pass(0, "say Connect", "Conn v1/0/1 q0/0 n3/4 r2 w2 e2 t0")
	p.do(0, api.UAccept, "ua f 00000004", "Normal v0/0/0 q0/0 n3/4 r2 w2 e3 t0")
	p.pass(1, "say Connected", "Normal v0/0/0 q0/0 n4/1 r0 w2 e3 t0")
	p.do(0, api.UDisconnect, "Disc P 00000005, used", "DConn v0/0/0 q0/0 n5/4 r0 w2 e3 t1")
	p.pass(1, "ua f 00000005, say Disconnect", "Adm v0/0/0 q0/0 n4/1 r0 w2 e3 t0")
	p.pass(0, "", "Adm v0/0/0 q0/0 n5/4 r0 w2 e3 t0")
	p.wantEmpty()

	if got := strings.Join(p.took[0], "") + " " + strings.Join(p.took[1], ""); got != "ABCD abce" {
		t.Errorf("taken: %s", got)
	}
}

// Both ask at once: each answers the other one's Sabme, and both are connected.
func TestBothAskAtOnce(t *testing.T) {
	p := newPair(t, plainConfig())
	p.do(0, api.UConnect, "Sabme P 00000001, used", "-")
	p.do(1, api.UConnect, "Sabme P 00000002, used", "-")
	p.pass(0, "ua f 00000002", "Setup v0/0/0 q0/0 n1/2 r0 w3 e0 t1")
	p.pass(1, "ua f 00000001", "Setup v0/0/0 q0/0 n2/1 r0 w3 e0 t1")
	p.pass(0, "say Connected", "Normal v0/0/0 q0/0 n1/2 r0 w3 e1 t0")
	p.send(0, "a", `I 0 0 "a"`, "-")
	p.pass(1, "say Connected", "Normal v0/0/0 q0/0 n2/1 r0 w3 e1 t0")
	p.pass(1, `rr 0 1, took "a"`, "Normal v0/1/0 q0/0 n2/1 r0 w3 e1 t0")
	p.pass(0, "", "Normal v1/0/1 q0/0 n1/2 r0 w3 e1 t0")
	p.wantEmpty()
}

// Who is asked says no; who asks is told.
func TestRefused(t *testing.T) {
	p := newPair(t, plainConfig())
	p.do(0, api.UConnect, "Sabme P 00000001, used", "-")
	p.pass(1, "say Connect", "-")
	p.do(1, api.UDisconnect, "dm f 00000001", "Adm v0/0/0 q0/0 n0/1 r0 w3 e0 t0")
	p.pass(0, "say Disconnect", "Adm v0/0/0 q0/0 n1/0 r0 w3 e0 t0")
	p.do(0, api.UConnect, "Sabme P 00000002, used", "Setup v0/0/0 q0/0 n2/0 r0 w3 e0 t1")
	p.pass(1, "say Connect", "Conn v0/0/0 q0/0 n0/2 r0 w3 e0 t0")
	p.do(1, api.UAccept, "ua f 00000002", "Normal v0/0/0 q0/0 n0/2 r0 w3 e1 t0")
	p.pass(0, "say Connected", "-")
	p.wantEmpty()
}

// An elder answer is none to the attempt that is: P19.2's numbers, where the line is slow.
func TestElderAnswers(t *testing.T) {
	p := newPair(t, plainConfig())
	p.do(0, api.UConnect, "Sabme P 00000001, used", "-")
	p.ticks(0, 10, "Sabme P 00000001", "-")
	p.pass(1, "say Connect", "-")
	p.do(1, api.UAccept, "ua f 00000001", "-")
	p.do(0, api.UDisconnect, "Disc P 00000002, used", "DConn v0/0/0 q0/0 n2/0 r0 w3 e0 t1")
	p.pass(0, "", "DConn v0/0/0 q0/0 n2/0 r0 w3 e0 t1") // the Ua of the Sabme
	p.pass(1, "ua f 00000001", "Normal v0/0/0 q0/0 n0/1 r0 w3 e1 t0")
	p.pass(0, "", "DConn v0/0/0 q0/0 n2/0 r0 w3 e0 t1")
	p.pass(1, "ua f 00000002, say Disconnect", "Adm v0/0/0 q0/0 n0/1 r0 w3 e1 t0")
	p.pass(0, "", "Adm v0/0/0 q0/0 n2/0 r0 w3 e0 t0")
	p.wantEmpty()

	// A Sabme that comes late, when its connection is over, begins none.
	p.do(0, api.UConnect, "Sabme P 00000003, used", "-")
	p.line[0] = append(p.line[0], p.line[0][0])
	p.pass(1, "say Connect", "-")
	p.do(1, api.UAccept, "ua f 00000003", "-")
	p.do(1, api.UDisconnect, "Disc P 00000004, used", "DConn v0/0/0 q0/0 n4/3 r0 w3 e2 t1")
	p.pass(1, "dm f 00000003", "DConn v0/0/0 q0/0 n4/3 r0 w3 e2 t1")
	p.pass(0, "say Connected", "-")
	p.pass(0, "ua f 00000004, say Disconnect", "Adm v0/0/0 q0/0 n3/0 r0 w3 e1 t0")
	p.pass(0, "", "Adm v0/0/0 q0/0 n3/0 r0 w3 e1 t0")
	p.pass(1, "", "Adm v0/0/0 q0/0 n4/3 r0 w3 e2 t0")
	p.wantEmpty()
}

// Over a line that loses and doubles by chance, but does not overtake, what is taken in an epoch is what was sent in one, in order, from its beginning on; and once the line loses nothing any more, it is all of it.
// (A Rej of what was only sent again lets V(S) go back behind what was taken there; if the N(R) that says so first is lost, the next one is wrong, by chapter 8, and both ends are told. So some runs end early.)
func TestOverALineThatLoses(t *testing.T) {
	const runs = 60
	whole := 0
	for seed := range runs {
		c := tie.Config{Window: 1 + seed/2%9, Tries: 100, Ack: 4, Poll: 5, Rej: 6, Busy: 7}
		p := newPair(t, c)
		p.do(0, api.UConnect, "-", "-")
		p.pass(1, "-", "-")
		p.do(1, api.UAccept, "-", "-")
		p.pass(0, "-", "-")
		d := dice(seed)
		sent := p.chance(&d, seed%2 == 1)
		p.settle()
		early := len(p.said[0]) + len(p.said[1]) - 2
		for end := range 2 {
			if !isAhead(p.took[end], sent[1-end]) {
				t.Errorf("seed %d: %v were taken of %v", seed, p.took[end], sent[1-end])
			}
			if early == 0 && (len(p.took[end]) != len(sent[1-end]) || len(p.took[end]) < 100) {
				t.Errorf("seed %d: %d of %d were taken", seed, len(p.took[end]), len(sent[1-end]))
			}
		}
		if early == 0 {
			whole++
		} else if early != 2 || len(p.said[0]) != 2 || p.said[0][1] != "say Reset" || p.said[1][1] != "say Reset" {
			t.Errorf("seed %d: said %v", seed, p.said)
		}
	}
	if whole < runs/2 {
		t.Errorf("%d of %d runs were whole", whole, runs)
	}
}

// chance lets both ends and the line do what they may, by chance: what was sent.
func (p *pair) chance(d *dice, doubles bool) [2][]string {
	p.t.Helper()
	var sent [2][]string
	for step := range 6000 {
		end := d.below(2)
		k := d.below(20)
		switch {
		case k < 10 && len(p.line[1-end]) == 0:
			p.ticks(end, 1, "-", "-")
		case k < 8:
			p.pass(end, "-", "-")
		case k == 8 || k == 9 && !doubles:
			p.lose(1 - end)
		case k == 9:
			p.line[1-end] = slices.Insert(p.line[1-end], 0, p.line[1-end][0])
		case k < 11:
			p.ticks(end, 1, "-", "-")
		case k < 13:
			sdu := fmt.Sprint(end, ".", step)
			if o, e := p.x[end].Send([]byte(sdu)); e == api.OK {
				sent[end] = append(sent[end], sdu)
				p.want("Send", end, o, "-", "-")
			}
		case k < 14:
			p.do(end, d.one(api.UBusy, api.UFree, api.UFree), "-", "-")
		}
		state, width := p.x[end].State(), p.x[end].Width()
		if _, out := p.x[end].Queue(); state >= api.Normal && state < api.Await && out > width {
			p.t.Fatalf("step %d: %s: %d are out, of a window of %d", step, stateName(state), out, width)
		}
	}
	return sent
}

// settle passes all there is and lets both tick, for a while; nobody is busy any more.
func (p *pair) settle() {
	for range 500 {
		for end := range 2 {
			p.do(end, api.UFree, "-", "-")
			for len(p.line[1-end]) > 0 {
				p.pass(end, "-", "-")
			}
			p.ticks(end, 1, "-", "-")
		}
	}
}

func isAhead(list, of []string) bool {
	return len(list) <= len(of) && slices.Equal(list, of[:len(list)])
}
