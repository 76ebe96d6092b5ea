package tie_test

import (
	"bytes"
	"fmt"
	"math"
	"slices"
	"testing"

	"antiphon/api"
	"antiphon/tie"
)

// What is heard of, and does nothing: another SAP's, other types', and what may not be.

func changed(p api.Pdu, change func(p *api.Pdu)) api.Pdu {
	change(&p)
	return p
}

// foreign are PDUs that would do something, were they not from another SAP, or to another one.
func foreign() []api.Pdu {
	var list []api.Pdu
	for _, p := range rightOnes() {
		for _, n := range append(far(), near, near+1, there+1, there+2, 0, 255) {
			list = append(list, changed(p, func(p *api.Pdu) { p.From = n }))
		}
		for _, n := range append(far(), there, near+1, near+2, there+1, 0, 255) {
			list = append(list, changed(p, func(p *api.Pdu) { p.To = n }))
		}
		list = append(list, turned(p))
	}
	return list
}

// rightOnes are PDUs of each kind of type 2, most of which do something in some state.
func rightOnes() []api.Pdu {
	return []api.Pdu{sabme(55), disc(66), ua(7), ua(9), dm(7), dm(9), frmr(), info(2, 1, withP, "q"), info(3, 99, none, "q"),
		status(api.Rr, 1, withP), status(api.Rnr, 1, withF), status(api.Rej, 1, none), status(api.Rr, 99, withP)}
}

// otherTypes are PDUs of types 1 and 3.
func otherTypes() []api.Pdu {
	var list []api.Pdu
	for _, kind := range []int{api.Ui, api.Xid, api.Test, api.Ac0, api.Ac1} {
		for _, poll := range []bool{false, true} {
			for _, b := range []string{"", "\x00\x00\x00\x07", "\x00\x00\x00\x05", "\x01\x02\x03\x04\x05"} {
				list = append(list, unit(kind, false, poll, []byte(b)...), unit(kind, true, poll, []byte(b)...))
			}
		}
	}
	return list
}

// impossible are PDUs that may not be, each for one reason, and some for several.
func impossible() []api.Pdu {
	list := []api.Pdu{
		changed(sabme(55), func(p *api.Pdu) { p.Response = true }), changed(disc(66), func(p *api.Pdu) { p.Response = true }),
		changed(ua(7), func(p *api.Pdu) { p.Response = false }), changed(ua(9), func(p *api.Pdu) { p.Response = false }),
		changed(dm(7), func(p *api.Pdu) { p.Response = false }), changed(dm(9), func(p *api.Pdu) { p.Response = false }), changed(frmr(), func(p *api.Pdu) { p.Response = false }),
		changed(status(api.Rr, 1, withP), func(p *api.Pdu) { p.Info = []byte{1} }), changed(status(api.Rr, 1, withP), func(p *api.Pdu) { p.Ns = 1 }),
		info(2, 1, none, string(make([]byte, mostInfo+1))), {}, {To: near, From: there, Form: 9, Kind: 9, Ns: -1, Nr: -1},
	}
	for _, kind := range []int{api.Sabme, api.Disc, api.Ua, api.Dm, api.Frmr} {
		most := 4
		if kind == api.Frmr {
			most = 5
		}
		for length := range 9 {
			if length != most {
				list = append(list, unit(kind, kind != api.Sabme && kind != api.Disc, true, make([]byte, length)...))
			}
		}
	}
	for _, p := range rightOnes() {
		for _, n := range append(far(), -1, 3, 4, 128) {
			list = append(list, changed(p, func(p *api.Pdu) { p.Form = n }))
		}
		for _, n := range append(far(), 10, 11) {
			list = append(list, changed(p, func(p *api.Pdu) { p.Kind = n }))
		}
		for _, n := range append(far(), 128, 129, 255) {
			list = append(list, changed(p, func(p *api.Pdu) { p.Ns = n }), changed(p, func(p *api.Pdu) { p.Nr = n }))
		}
		if p.Form == api.FormU {
			list = append(list, changed(p, func(p *api.Pdu) { p.Ns = 1 }), changed(p, func(p *api.Pdu) { p.Nr = 1 }))
		}
	}
	return list
}

func TestHearOfWhatIsNothing(t *testing.T) {
	list := slices.Concat(foreign(), otherTypes(), impossible())
	for state := range states {
		r := reached(t, plainConfig(), state)
		for _, p := range list {
			before := looks(r.x)
			for _, n := range []int{0, 7, 9, -1} {
				if got := outText(r.x.Hear(p, n)); got != "" || looks(r.x) != before {
					t.Fatalf("%s: Hear of %v: %q, %s, want nothing, %s", r.what, p, got, looks(r.x), before)
				}
			}
		}
	}
}

// SAPs that are none are not taken for the connection's own ones.
func TestHearAtTheEdgesOfSaps(t *testing.T) {
	x := made(t, plainConfig(), 254, 2)
	for _, p := range []api.Pdu{sabme(5), {To: 254, From: 3}, {To: 255, From: 2}, {To: 254, From: 258}, {To: 254 - 256, From: 2}} {
		p.Form, p.Kind, p.Poll, p.Info = api.FormU, api.Sabme, true, number(5)
		if got := outText(x.Hear(p, 1)); got != "" {
			t.Errorf("from %d to %d: %q", p.From, p.To, got)
		}
	}
	p := sabme(5)
	p.To, p.From = 254, 2
	if got := outText(x.Hear(p, 1)); got != "say Connect" {
		t.Errorf("from 2 to 254: %q", got)
	}
}

// R7: a nil one, and a zero one.

func TestNil(t *testing.T) {
	var x *tie.Tie
	for event := -2; event <= api.Events; event++ {
		if got := outText(x.Do(event, 7)); got != "" {
			t.Errorf("Do(%d): %q", event, got)
		}
	}
	for _, p := range append(rightOnes(), api.Pdu{}) {
		p.From, p.To = 0, 0
		if got := outText(x.Hear(p, 7)); got != "" {
			t.Errorf("Hear: %q", got)
		}
	}
	for _, b := range [][]byte{nil, []byte("a"), make([]byte, maxSdu), make([]byte, maxSdu+1)} {
		if o, e := x.Send(b); outText(o) != "" || e != api.ErrArg {
			t.Errorf("Send of %d bytes: %q, %v, want %v", len(b), outText(o), e, api.ErrArg)
		}
	}
	if got := outText(x.Tick(7)); got != "" {
		t.Errorf("Tick: %q", got)
	}
	if got := looks(x); got != "Adm v0/0/0 q0/0 n0/0 r0 w0 e0 t0" {
		t.Error(got)
	}
}

// A zero one has parts of 0 room: it is between SAP 0 and SAP 0, no timer runs, nothing is queued, and nothing is out.
func TestZero(t *testing.T) {
	var x tie.Tie
	if got := looks(&x); got != "Adm v0/0/0 q0/0 n0/0 r0 w0 e0 t0" {
		t.Error(got)
	}
	if o, e := x.Send([]byte("a")); outText(o) != "" || e != api.ErrState {
		t.Errorf("Send: %q, %v", outText(o), e)
	}
	for _, p := range rightOnes() {
		if got := outText(x.Hear(p, 7)); got != "" {
			t.Errorf("Hear: %q", got)
		}
	}
	d := dice(1)
	w := &walk{t: t, dice: d, x: &x, m: newModel(tie.Config{}, 0, 0)}
	for range 4000 {
		x.Do(d.below(10)-1, d.below(9))
		p := w.either()
		p.From, p.To = 0, 0
		x.Hear(p, 7)
		x.Tick(7)
		o, e := x.Send([]byte("a"))
		if outText(o) != "" || e == api.OK {
			t.Fatalf("Send: %q, %v", outText(o), e)
		}
		if x.State() >= api.Normal && e != api.ErrFull {
			t.Fatalf("Send in %s: %v", stateName(x.State()), e)
		}
		if queued, out := x.Queue(); queued != 0 || out != 0 || x.Timers() != 0 || x.Width() != 0 {
			t.Fatal(looks(&x))
		}
	}
}

// R1: no number makes anything panic, or go on for ever.
func TestAnyNumbers(t *testing.T) {
	list := append(far(), 0, 1, 3, 8, 100, math.MaxInt32, math.MinInt32)
	for state := range states {
		for _, n := range list {
			r := reached(t, plainConfig(), state)
			for _, event := range list {
				r.x.Do(event, n)
			}
			for _, m := range list {
				r.x.Hear(api.Pdu{To: n, From: m, Form: n, Kind: m, Ns: n, Nr: m}, n)
				r.x.Hear(api.Pdu{To: near, From: there, Form: m, Kind: n, Ns: m, Nr: n, Poll: true, Info: []byte{1}}, m)
			}
			for range 3 {
				r.x.Tick(n)
			}
			if got := r.x.State(); got < 0 || got >= states {
				t.Errorf("%s, %d: state %d", r.what, n, got)
			}
		}
	}
}

// R4: what is handed in is not changed, nor kept; what is handed out is new, and shares nothing.

// rough is b with spare room behind it, and what tells whether all of it is as it was, and then turns it.
func rough(b []byte) ([]byte, func() bool) {
	const spare = 16
	all := append(bytes.Clone(b), bytes.Repeat([]byte{0xee}, spare)...)
	was := bytes.Clone(all)
	return all[:len(b):len(all)], func() bool {
		same := bytes.Equal(all, was)
		fill(all, 0xff)
		return same
	}
}

func fill(b []byte, with byte) {
	for i := range b {
		b[i] = with
	}
}

// turnAll turns all lists that were handed out, spare room too: do no two of them share any?
func turnAll(o tie.Out) bool {
	lists := slices.Clone(o.Took)
	for _, p := range o.Send {
		lists = append(lists, p.Info)
	}
	for i, b := range lists {
		fill(b[:cap(b)], byte(i))
	}
	alone := true
	for i, b := range lists {
		for _, x := range b[:cap(b)] {
			alone = alone && x == byte(i)
		}
	}
	for i := range o.Send[:cap(o.Send)] {
		o.Send[:cap(o.Send)][i] = api.Pdu{Form: 9}
	}
	for i := range o.Say[:cap(o.Say)] {
		o.Say[:cap(o.Say)][i] = 99
	}
	for i := range o.Took[:cap(o.Took)] {
		o.Took[:cap(o.Took)][i] = []byte("turned")
	}
	return alone
}

// The walks against the model turn all that is handed in and out, too; here it is told by hand.

func TestWhatIsSentStaysAsItWas(t *testing.T) {
	r := open(t, 2)
	for _, sdu := range []string{"first", "second", "third"} {
		b, same := rough([]byte(sdu))
		o, e := r.x.Send(b)
		if !same() || e != api.OK || !turnAll(o) {
			t.Errorf("Send(%q): what was handed in was changed, or kept: %v", sdu, e)
		}
	}
	r.hear(status(api.Rej, 0, none), `I 0 0 "first"`, "-")
	turnAll(r.x.Hear(status(api.Rej, 0, none), 0))
	r.hear(status(api.Rej, 0, none), `I 0 0 "first"`, "-")
	r.hear(status(api.Rr, 1, none), `I 1 0 "second", I 2 0 "third"`, "Normal v3/0/1 q2/2 n7/0 r0 w2 e1 t1")
}

func TestWhatIsTakenStaysAsItWas(t *testing.T) {
	r := open(t, 2)
	b, same := rough([]byte("first"))
	p := info(0, 0, none, "")
	p.Info = b
	o := r.x.Hear(p, 9)
	if !same() || outText(o) != `rr 0 1, took "first"` {
		t.Errorf("Hear of an I: %q", outText(o))
	}
}

func TestWhyStaysAsItWas(t *testing.T) {
	r := open(t, 2)
	b, same := rough([]byte("first"))
	p := info(0, 9, withP, "")
	p.Info = b
	o := r.x.Hear(p, 9)
	if !same() || outText(o) != "frmr f 0013000008" || !turnAll(o) {
		t.Errorf("Hear of a wrong I: %q", outText(o))
	}
	r.hear(status(api.Rr, 0, withP), "frmr f 0013000008", "-")
	turnAll(r.x.Hear(status(api.Rr, 0, withP), 9))
	r.ticks(10, "frmr 0013000008", "-")
}

// R5: one that is asked among others answers as it does alone.
func TestConnectionsBesideOneAnother(t *testing.T) {
	var walks []*walk
	for seed := range 5 {
		c := tie.Config{Window: 1 + seed, Tries: 2, Ack: 1 + seed, Poll: 3, Rej: 4, Busy: 5}
		walks = append(walks, newWalk(t, 1000+seed, c))
	}
	for range 3000 {
		for _, w := range walks {
			w.step()
		}
	}
}

func TestTheSameCallsHaveTheSameAnswers(t *testing.T) {
	var first []string
	for round := range 3 {
		w := newWalk(t, 77, plainConfig())
		for i := range 1500 {
			text := w.step()
			if round == 0 {
				first = append(first, text)
			} else if text != first[i] {
				t.Fatalf("round %d, call %d: %s, want %s", round, i, text, first[i])
			}
		}
	}
}

// P19.5.

// quietBound is how many ticks it may take till who hears nothing says so.
func quietBound(c tie.Config) int {
	return (c.Tries + 2) * (c.Ack + c.Poll + c.Rej + c.Busy)
}

// rests says whether a connection need not say anything, whatever time comes.
func rests(w *walk) bool {
	switch w.m.state {
	case api.Adm, api.Conn, api.ResetCheck, api.ResetWait:
		return true
	case api.Setup, api.Reset, api.DConn, api.Error:
		return w.x.Timers() == 0
	}
	return w.m.out == 0 && !w.m.otherIsBusy || w.x.Timers() == 0
}

func TestWhoHearsNothingSaysSo(t *testing.T) {
	var from [states]int
	for seed := range 1500 {
		c := tie.Config{Window: 1 + seed%5, Tries: 1 + seed%4, Ack: 1 + seed%7, Poll: 1 + seed%6, Rej: 1 + seed%5, Busy: 1 + seed%9}
		w := newWalk(t, 5000+seed, c)
		for range 20 + w.below(120) {
			w.step()
		}
		if rests(w) {
			continue
		}
		from[w.x.State()]++
		before, said := looks(w.x), ""
		for range quietBound(c) {
			for _, s := range w.x.Tick(9).Say {
				if s == api.SayDisconnect || s == api.SayReset {
					said = "it"
				}
			}
			if w.x.State() == api.Adm {
				said = "it"
			}
		}
		if said == "" {
			t.Errorf("seed %d: %s says nothing within %d ticks: %s", seed, before, quietBound(c), looks(w.x))
		}
	}
	for _, state := range []int{api.Setup, api.Reset, api.DConn, api.Error, api.Normal, api.Busy, api.Reject, api.Await, api.AwaitBusy, api.AwaitReject} {
		if from[state] < 3 {
			t.Errorf("%s was met %d times", stateName(state), from[state])
		}
	}
}

// At the greatest numbers of Config, too.
func TestWhoHearsNothingSaysSoAtTheMost(t *testing.T) {
	c := ends()[1]
	c.Window = 3
	for state := range states {
		r := reached(t, c, state)
		if r.x.Timers() == 0 {
			continue
		}
		ticks := 0
		for ticks < quietBound(c) && r.x.State() != api.Adm && r.x.State() != api.ResetWait {
			r.x.Tick(9)
			ticks++
		}
		if ticks >= quietBound(c) {
			t.Errorf("%s: %s behind %d ticks", r.what, looks(r.x), ticks)
		}
	}
}

// Above, the walks see to it that no more are out than the window is wide behind each I that goes; here it is told at the edges.
func TestNoMoreThan64AreOut(t *testing.T) {
	r := open(t, maxWindow)
	for n := range 1000 {
		r.x.Send([]byte(fmt.Sprint(n)))
		_, out := r.x.Queue()
		vs, _, va := r.x.Vars()
		if out != min(n+1, 64) || (vs-va+128)%128 != out {
			t.Fatalf("behind %d: %s", n+1, looks(r.x))
		}
	}
	for n := range 1000 {
		vs, _, va := r.x.Vars()
		r.x.Hear(status(api.Rr, (va+1)%128, none), 9)
		r.x.Send([]byte(fmt.Sprint(n)))
		if now, _, _ := r.x.Vars(); now != (vs+1)%128 {
			t.Fatalf("behind %d: %s", n, looks(r.x))
		}
		if queued, out := r.x.Queue(); queued != 64 || out != 64 {
			t.Fatalf("behind %d: %s", n, looks(r.x))
		}
	}
}
