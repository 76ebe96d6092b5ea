package tie_test

import (
	"fmt"
	"math"
	"strings"
	"testing"

	"antiphon/api"
	"antiphon/tie"
)

// Limits are written out: were those of api other ones, the tests would tell.
const (
	maxWindow = 64
	maxTries  = 100
	maxTicks  = 10000
	maxQueue  = 64
	maxSdu    = 1024
	mostInfo  = maxSdu + 16
)

// Whose connection it is.
const (
	near  = 4
	there = 8
)

// plainConfig has a number of its own for each timer: which one runs is told by when it is over.
func plainConfig() tie.Config {
	return tie.Config{Window: 3, Tries: 2, Ack: 10, Poll: 20, Rej: 30, Busy: 40}
}

// far are numbers beyond what a tie knows; in 8, 16 or 32 bits some would be small ones.
func far() []int {
	return []int{math.MinInt, math.MinInt + 1, -1 << 32, -1<<32 + 1, -1<<32 + 4, -65536 + 4, -256 + 4, -4, -2, -1,
		256 + 4, 256 + 8, 65536 + 1, 65536 + 4, 65536 + 8, 1<<31 + 4, 1 << 32, 1<<32 + 1, 1<<32 + 4, 1<<32 + 8, math.MaxInt - 1, math.MaxInt}
}

func made(t *testing.T, c tie.Config, near, there int) *tie.Tie {
	t.Helper()
	x, e := tie.New(c, near, there)
	if e != api.OK || x == nil {
		t.Fatalf("New(%v, %d, %d): %v, %v", c, near, there, x, e)
	}
	return x
}

// PDUs that come from there.

func unit(kind int, response, poll bool, info ...byte) api.Pdu {
	return api.Pdu{To: near, From: there, Response: response, Form: api.FormU, Kind: kind, Poll: poll, Info: info}
}

// number is in four bytes.
func number(n int) []byte {
	return []byte{byte(n >> 24), byte(n >> 16), byte(n >> 8), byte(n)}
}

func sabme(n int) api.Pdu { return unit(api.Sabme, false, true, number(n)...) }
func disc(n int) api.Pdu  { return unit(api.Disc, false, true, number(n)...) }
func ua(n int) api.Pdu    { return unit(api.Ua, true, true, number(n)...) }
func dm(n int) api.Pdu    { return unit(api.Dm, true, true, number(n)...) }
func frmr() api.Pdu       { return unit(api.Frmr, true, true, 1, 2, 4, 6, 8) }

// Marks of what is heard.
const (
	none = iota
	withP
	withF
	respond // a response without F
)

func marked(p api.Pdu, mark int) api.Pdu {
	p.Response = mark == withF || mark == respond
	p.Poll = mark == withP || mark == withF
	return p
}

func info(ns, nr, mark int, sdu string) api.Pdu {
	return marked(api.Pdu{To: near, From: there, Form: api.FormI, Ns: ns, Nr: nr, Info: []byte(sdu)}, mark)
}

func status(kind, nr, mark int) api.Pdu {
	return marked(api.Pdu{To: near, From: there, Form: api.FormS, Kind: kind, Nr: nr}, mark)
}

// turned is what goes as it comes: from the other end.
func turned(p api.Pdu) api.Pdu {
	p.To, p.From = p.From, p.To
	return p
}

func nameOf(names string, i int) string {
	list := strings.Fields(names)
	if i < 0 || i >= len(list) {
		return fmt.Sprintf("?%d", i)
	}
	return list[i]
}

func stateName(state int) string {
	return nameOf("Adm Conn Setup Reset ResetCheck ResetWait DConn Error Normal Busy Reject Await AwaitBusy AwaitReject", state)
}

// pduText tells all of a PDU: a command by its name and P, a response by its name in small letters and f; SAPs where they are not from near to there.
func pduText(p api.Pdu) string {
	s := "I"
	switch p.Form {
	case api.FormS:
		s = nameOf("Rr Rnr Rej", p.Kind)
	case api.FormU:
		s = nameOf("Ui Xid Test Sabme Disc Ua Dm Frmr Ac0 Ac1", p.Kind)
	}
	mark := " P"
	if p.Response {
		s, mark = strings.ToLower(s), " f"
	}
	if p.Form != api.FormU {
		s += fmt.Sprintf(" %d %d", p.Ns, p.Nr)
	} else if p.Ns != 0 || p.Nr != 0 {
		s += fmt.Sprintf(" numbers %d %d of a U", p.Ns, p.Nr)
	}
	if p.Poll {
		s += mark
	}
	switch {
	case p.Form == api.FormI:
		s += fmt.Sprintf(" %q", p.Info)
	case len(p.Info) > 0:
		s += fmt.Sprintf(" %x", p.Info)
	}
	if p.From != near || p.To != there {
		s += fmt.Sprintf(" from %d to %d", p.From, p.To)
	}
	return s
}

// outText tells all of what a call hands out; nothing where it is nothing.
func outText(o tie.Out) string {
	var list []string
	for _, p := range o.Send {
		list = append(list, pduText(p))
	}
	for _, s := range o.Say {
		list = append(list, "say "+nameOf("Connect Connected Disconnect Reset ResetDone", s-api.SayConnect))
	}
	for _, b := range o.Took {
		list = append(list, fmt.Sprintf("took %q", b))
	}
	if o.Used {
		list = append(list, "used")
	}
	return strings.Join(list, ", ")
}

// looks tells all that a tie can be asked: its state; V(S), V(R), V(A); how many are queued, and out; one's own number, and the other one's; retries; width; epoch; timers.
func looks(x *tie.Tie) string {
	vs, vr, va := x.Vars()
	there, out := x.Queue()
	own, other := x.Numbers()
	return fmt.Sprintf("%s v%d/%d/%d q%d/%d n%d/%d r%d w%d e%d t%d", stateName(x.State()), vs, vr, va, there, out, own, other, x.Retries(), x.Width(), x.Epoch(), x.Timers())
}

// rig is a connection and what is wanted of it, call by call.
type rig struct {
	t    *testing.T
	what string
	x    *tie.Tie
	call int
}

func newRig(t *testing.T, what string, c tie.Config) *rig {
	t.Helper()
	return &rig{t: t, what: what, x: made(t, c, near, there)}
}

// want holds what a call handed out, and all that is told behind it; "-" asks nothing.
func (r *rig) want(call string, o tie.Out, out, look string) {
	r.t.Helper()
	r.call++
	if got := outText(o); out != "-" && got != out {
		r.t.Errorf("%s: call %d, %s: %q, want %q", r.what, r.call, call, got, out)
	}
	for range 2 { // looking changes nothing
		if got := looks(r.x); look != "-" && got != look {
			r.t.Errorf("%s: behind call %d, %s: %s, want %s", r.what, r.call, call, got, look)
		}
	}
}

func (r *rig) do(event, n int, out, look string) {
	r.t.Helper()
	r.want(fmt.Sprintf("Do(%d, %d)", event, n), r.x.Do(event, n), out, look)
}

func (r *rig) hear(p api.Pdu, out, look string) {
	r.t.Helper()
	r.want("Hear of "+pduText(turned(p)), r.x.Hear(p, 99), out, look)
}

func (r *rig) send(sdu, out, look string) {
	r.t.Helper()
	o, e := r.x.Send([]byte(sdu))
	if e != api.OK {
		r.t.Errorf("%s: Send(%q): %v", r.what, sdu, e)
	}
	r.want(fmt.Sprintf("Send(%q)", sdu), o, out, look)
}

// refuses is a Send that is an error, and does nothing.
func (r *rig) refuses(sdu string, want api.Errno) {
	r.t.Helper()
	before := looks(r.x)
	o, e := r.x.Send([]byte(sdu))
	if e != want {
		r.t.Errorf("%s: Send of %d bytes: %v, want %v", r.what, len(sdu), e, want)
	}
	r.want(fmt.Sprintf("Send of %d bytes", len(sdu)), o, "", before)
}

// ticks are so many: nothing is handed out but at the last one.
func (r *rig) ticks(n int, out, look string) {
	r.t.Helper()
	for i := 1; i < n; i++ {
		r.want(fmt.Sprintf("Tick %d of %d", i, n), r.x.Tick(99), "", "-")
	}
	r.want(fmt.Sprintf("Tick %d of %d", n, n), r.x.Tick(99), out, look)
}

// still is so many ticks of which nothing comes.
func (r *rig) still(n int) {
	r.t.Helper()
	before := looks(r.x)
	r.ticks(n, "", before)
}

// states are all there are; each is reached by the shortest way there is.
const states = 14

// reached is a connection in that state: its own number is 7 or 9, the other one's 5 or 6; in data states it has sent a, b, c of a to e, and taken two.
func reached(t *testing.T, c tie.Config, state int) *rig {
	t.Helper()
	r := newRig(t, stateName(state), c)
	switch state {
	case api.Conn:
		r.hear(sabme(5), "-", "-")
	case api.Setup:
		r.do(api.UConnect, 7, "-", "-")
	}
	if state > api.Setup {
		r.do(api.UConnect, 7, "-", "-")
		r.hear(sabme(5), "-", "-") // so the other one has a number
		r.hear(ua(7), "-", "-")
		r.hear(info(0, 0, none, "x"), "-", "-")
		r.hear(info(1, 0, none, "y"), "-", "-")
		for _, sdu := range []string{"a", "b", "c", "d", "e"} {
			r.send(sdu, "-", "-")
		}
	}
	r.lead(state)
	if r.x.State() != state {
		t.Fatalf("%s: %s", r.what, looks(r.x))
	}
	return r
}

// lead leads from Normal on.
func (r *rig) lead(state int) {
	r.t.Helper()
	switch state {
	case api.Reset:
		r.do(api.UReset, 9, "-", "-")
	case api.ResetCheck:
		r.hear(sabme(6), "-", "-")
	case api.ResetWait:
		r.hear(frmr(), "-", "-")
	case api.DConn:
		r.do(api.UDisconnect, 9, "-", "-")
	case api.Error:
		r.hear(status(api.Rr, 4, none), "-", "-")
	case api.Busy:
		r.do(api.UBusy, 9, "-", "-")
	case api.Reject, api.AwaitReject:
		r.hear(info(5, 0, none, "z"), "-", "-")
	}
	switch state {
	case api.Await, api.AwaitBusy, api.AwaitReject:
		for r.x.State() < api.Await {
			r.x.Tick(9)
		}
	}
	if state == api.AwaitBusy {
		r.do(api.UBusy, 9, "-", "-")
	}
}
