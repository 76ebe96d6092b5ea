package tell_test

import (
	"bytes"
	"math"
	"slices"
	"testing"

	"antiphon/api"
	"antiphon/pdu"
	"antiphon/tell"
)

// sort is what the chapters say of PDUs of one kind.
type sort struct {
	name                     string
	form, kind               int
	linkType                 int // what Type tells
	event                    int // the one alone, without P and F
	command, response, group bool
	ns, nr                   bool // may they be above 0?
	least, most              int  // bytes behind
}

func sorts() []sort {
	return []sort{
		{"I", api.FormI, 0, 2, api.GotInfo, true, true, false, true, true, 0, 1040},
		{"Rr", api.FormS, api.Rr, 2, api.GotRr, true, true, false, false, true, 0, 0},
		{"Rnr", api.FormS, api.Rnr, 2, api.GotRnr, true, true, false, false, true, 0, 0},
		{"Rej", api.FormS, api.Rej, 2, api.GotRej, true, true, false, false, true, 0, 0},
		{"Ui", api.FormU, api.Ui, 1, -1, true, false, true, false, false, 0, 1040},
		{"Xid", api.FormU, api.Xid, 1, -1, true, true, true, false, false, 0, 1040},
		{"Test", api.FormU, api.Test, 1, -1, true, true, true, false, false, 0, 1040},
		{"Sabme", api.FormU, api.Sabme, 2, api.GotSabme, true, false, false, false, false, 4, 4},
		{"Disc", api.FormU, api.Disc, 2, api.GotDisc, true, false, false, false, false, 4, 4},
		{"Ua", api.FormU, api.Ua, 2, api.GotUa, false, true, false, false, false, 4, 4},
		{"Dm", api.FormU, api.Dm, 2, api.GotDm, false, true, false, false, false, 4, 4},
		{"Frmr", api.FormU, api.Frmr, 2, api.GotFrmr, false, true, false, false, false, 5, 5},
		{"Ac0", api.FormU, api.Ac0, 3, -1, true, true, false, false, false, 0, 1040},
		{"Ac1", api.FormU, api.Ac1, 3, -1, true, true, false, false, false, 0, 1040},
	}
}

func sortOf(name string) sort {
	all := sorts()
	return all[slices.IndexFunc(all, func(s sort) bool { return s.name == name })]
}

// plain is one of that kind that may be, if the kind may be in that role.
func (s sort) plain(response, poll bool) api.Pdu {
	return api.Pdu{To: 4, From: 8, Response: response, Form: s.form, Kind: s.kind, Poll: poll, Info: make([]byte, s.least)}
}

func (s sort) inRole(response bool) bool {
	return response && s.response || !response && s.command
}

// eachSort tells of each kind, as a command and as a response, with P/F and without, as far as it may be.
func eachSort(yield func(sort, api.Pdu) bool) {
	for _, s := range sorts() {
		for _, response := range bools() {
			for _, poll := range bools() {
				if s.inRole(response) && !yield(s, s.plain(response, poll)) {
					return
				}
			}
		}
	}
}

func bools() []bool { return []bool{false, true} }

// edges are numbers about the ends and the middle of the ring, and a ring ahead and behind.
func edges() []int {
	return []int{-129, -128, -127, -2, -1, 0, 1, 2, 63, 64, 65, 126, 127, 128, 129, 255, 256}
}

// far are numbers of which some lie further apart than an int can tell.
func far() []int {
	return []int{math.MinInt, math.MinInt + 1, math.MinInt + 127, -1 << 32, -1<<31 - 1, -65537, 65535, 1 << 31, 1<<32 + 1, math.MaxInt - 128, math.MaxInt - 1, math.MaxInt}
}

// states are all that there are, and some that there are not.
func states() []int {
	list := []int{math.MinInt, -256, -2, -1, 14, 15, 16, 127, 256, 1 << 32, math.MaxInt}
	for s := api.Adm; s <= api.AwaitReject; s++ {
		list = append(list, s)
	}
	return list
}

// fold is n modulo 128, by the language's own remainder.
func fold(n int) int { return (n%128 + 128) % 128 }

// isOneOf walks up from va to vs.
func isOneOf(nr, va, vs int) bool {
	for n := fold(va); ; n = fold(n + 1) {
		if n == fold(nr) {
			return true
		}
		if n == fold(vs) {
			return false
		}
	}
}

// fault is one reason for which a PDU may not be: turn makes it so, where it is of this kind.
type fault struct {
	name string
	of   func(sort) bool
	turn func(*api.Pdu)
}

func faults() []fault {
	every := func(sort) bool { return true }
	noGroup := func(s sort) bool { return !s.group }
	noNs := func(s sort) bool { return !s.ns }
	noNr := func(s sort) bool { return !s.nr }
	ofForm := func(form int) func(sort) bool { return func(s sort) bool { return s.form == form } }
	fixed := func(s sort) bool { return s.most > 0 && s.least == s.most }
	long := func(s sort) bool { return s.most > 5 }
	none := func(s sort) bool { return s.most == 0 }
	oneRole := func(s sort) bool { return s.command != s.response }
	return []fault{
		{"To below 0", every, func(p *api.Pdu) { p.To = -2 }},
		{"To above 255", every, func(p *api.Pdu) { p.To = 256 }},
		{"a group", noGroup, func(p *api.Pdu) { p.To = 5 }},
		{"all", noGroup, func(p *api.Pdu) { p.To = 255 }},
		{"From below 0", every, func(p *api.Pdu) { p.From = -2 }},
		{"From above 254", every, func(p *api.Pdu) { p.From = 256 }},
		{"From odd", every, func(p *api.Pdu) { p.From = 9 }},
		{"Form below I", every, func(p *api.Pdu) { p.Form = -1 }},
		{"Form above U", every, func(p *api.Pdu) { p.Form = 3 }},
		{"Form far", every, func(p *api.Pdu) { p.Form += 1 << 32 }},
		{"Kind below 0", every, func(p *api.Pdu) { p.Kind = -1 }},
		{"Kind of I", ofForm(api.FormI), func(p *api.Pdu) { p.Kind = 1 }},
		{"Kind of S", ofForm(api.FormS), func(p *api.Pdu) { p.Kind = 3 }},
		{"Kind of U", ofForm(api.FormU), func(p *api.Pdu) { p.Kind = 10 }},
		{"Kind far", every, func(p *api.Pdu) { p.Kind += 1 << 32 }},
		{"Ns below 0", every, func(p *api.Pdu) { p.Ns = -1 }},
		{"Ns above 127", every, func(p *api.Pdu) { p.Ns = 128 }},
		{"Ns above 0", noNs, func(p *api.Pdu) { p.Ns = 1 }},
		{"Nr below 0", every, func(p *api.Pdu) { p.Nr = -1 }},
		{"Nr above 127", every, func(p *api.Pdu) { p.Nr = 128 }},
		{"Nr above 0", noNr, func(p *api.Pdu) { p.Nr = 1 }},
		{"too many behind", long, func(p *api.Pdu) { p.Info = make([]byte, 1041) }},
		{"something behind", none, func(p *api.Pdu) { p.Info = make([]byte, 1) }},
		{"one too many behind", fixed, func(p *api.Pdu) { p.Info = append(p.Info, 0) }},
		{"one too few behind", fixed, func(p *api.Pdu) { p.Info = p.Info[1:] }},
		{"nothing behind", fixed, func(p *api.Pdu) { p.Info = nil }},
		{"the wrong role", oneRole, func(p *api.Pdu) { p.Response = !p.Response }},
	}
}

// eachFaulty tells of PDUs that may not be: of each kind, in each role, for each of the reasons.
func eachFaulty(yield func(string, api.Pdu) bool) {
	for s, p := range eachSort {
		for _, f := range faults() {
			if !f.of(s) {
				continue
			}
			q := p
			q.Info = bytes.Clone(p.Info)
			f.turn(&q)
			if !yield(s.name+": "+f.name, q) {
				return
			}
		}
	}
}

func wantType(t *testing.T, what string, p api.Pdu, want int) {
	t.Helper()
	if got := tell.Type(p); got != want {
		t.Errorf("%s: Type(%+v): %d, want %d", what, p, got, want)
	}
}

func wantAsks(t *testing.T, what string, p api.Pdu, want bool) {
	t.Helper()
	if tell.Asks(p) != want {
		t.Errorf("%s: Asks(%+v): %v", what, p, !want)
	}
}

func wantWrong(t *testing.T, what string, p api.Pdu, va, vs int, want bool) {
	t.Helper()
	if tell.Wrong(p, va, vs) != want {
		t.Errorf("%s: Wrong(%+v, %d, %d): %v", what, p, va, vs, !want)
	}
}

// at is where a connection stands.
type at struct {
	state, vr, va, vs int
}

func wantEvent(t *testing.T, what string, p api.Pdu, c at, want int) {
	t.Helper()
	if got := tell.Event(p, c.state, c.vr, c.va, c.vs); got != want {
		t.Errorf("%s: Event(%+v, %+v): %d, want %d", what, p, c, got, want)
	}
}

func TestChapterExamples(t *testing.T) {
	c := at{state: api.Normal, vr: 3, va: 0, vs: 2}
	wantEvent(t, "I", api.Pdu{To: 4, From: 8, Form: api.FormI, Ns: 3, Nr: 1}, c, api.GotInfo)
	wantEvent(t, "I with P", api.Pdu{To: 4, From: 8, Form: api.FormI, Ns: 4, Nr: 1, Poll: true}, c, api.GotGapP)
	wantEvent(t, "Rr", api.Pdu{To: 4, From: 8, Form: api.FormS, Kind: api.Rr, Nr: 3}, c, api.GotWrong)
	wantEvent(t, "Rr with F", api.Pdu{To: 4, From: 8, Response: true, Form: api.FormS, Kind: api.Rr, Nr: 2, Poll: true}, c, api.GotRr)
}

// P8.1: Type.

func TestTypeOfEachKind(t *testing.T) {
	for s, p := range eachSort {
		wantType(t, s.name, p, s.linkType)
	}
}

func TestTypeByHand(t *testing.T) {
	number := []byte{0, 0, 0, 1}
	wantType(t, "the zero PDU is an I", api.Pdu{}, 2)
	wantType(t, "I", api.Pdu{To: 4, From: 8, Ns: 127, Nr: 127, Info: []byte{1}}, 2)
	wantType(t, "Rej", api.Pdu{To: 4, From: 8, Response: true, Form: api.FormS, Kind: api.Rej, Nr: 5}, 2)
	wantType(t, "Ui to all", api.Pdu{To: 255, From: 8, Form: api.FormU, Kind: api.Ui, Info: number}, 1)
	wantType(t, "Xid", api.Pdu{To: 4, From: 0, Form: api.FormU, Kind: api.Xid}, 1)
	wantType(t, "Test to a group", api.Pdu{To: 5, From: 8, Response: true, Form: api.FormU, Kind: api.Test, Poll: true}, 1)
	wantType(t, "Sabme", api.Pdu{To: 4, From: 8, Form: api.FormU, Kind: api.Sabme, Poll: true, Info: number}, 2)
	wantType(t, "Dm", api.Pdu{To: 4, From: 8, Response: true, Form: api.FormU, Kind: api.Dm, Info: number}, 2)
	wantType(t, "Frmr", api.Pdu{To: 4, From: 8, Response: true, Form: api.FormU, Kind: api.Frmr, Info: make([]byte, 5)}, 2)
	wantType(t, "Ac0", api.Pdu{To: 4, From: 8, Form: api.FormU, Kind: api.Ac0}, 3)
	wantType(t, "Ac1", api.Pdu{To: 4, From: 8, Response: true, Form: api.FormU, Kind: api.Ac1, Info: number}, 3)
}

func TestTypeHangsOnTheKindAlone(t *testing.T) {
	for s, p := range eachSort {
		for n := range 128 {
			p.To, p.From = 2*n, 254-2*n
			if s.group && n%3 == 0 {
				p.To++
			}
			if s.ns {
				p.Ns = n
			}
			if s.nr {
				p.Nr = 127 - n
			}
			p.Info = make([]byte, min(s.most, s.least+9*n))
			wantType(t, s.name, p, s.linkType)
		}
	}
}

func TestTypeOfOneThatMayNotBe(t *testing.T) {
	for what, p := range eachFaulty {
		if pdu.May(p) {
			t.Fatalf("%s: it may be: %+v", what, p)
		}
		wantType(t, what, p, 0)
	}
}

// In each role and of each length that a kind may ask for: a kind that there is not is of no type.
func TestTypeOfNoFormAndNoKind(t *testing.T) {
	for form := -3; form <= 6; form++ {
		for kind := -3; kind <= 20; kind++ {
			for length := range 7 {
				for _, response := range bools() {
					p := api.Pdu{To: 4, From: 8, Response: response, Form: form, Kind: kind, Info: make([]byte, length)}
					want := 0
					for _, s := range sorts() {
						if s.form == form && s.kind == kind && s.inRole(response) && length >= s.least && length <= s.most {
							want = s.linkType
						}
					}
					wantType(t, "of a form and a kind", p, want)
				}
			}
		}
	}
}

// P8.1: Asks.

func TestAsks(t *testing.T) {
	for s, p := range eachSort {
		wantAsks(t, s.name, p, p.Poll && !p.Response)
	}
}

func TestAsksByHand(t *testing.T) {
	for _, form := range []int{api.FormI, api.FormS, api.FormU} {
		p := api.Pdu{To: 4, From: 8, Form: form}
		wantAsks(t, "a command", p, false)
		p.Poll = true
		wantAsks(t, "a command with P", p, true)
		p.Response = true
		wantAsks(t, "a response with F", p, false)
		p.Poll = false
		wantAsks(t, "a response", p, false)
	}
}

func TestAsksOfOneThatMayNotBe(t *testing.T) {
	for what, p := range eachFaulty {
		for _, p.Response = range bools() {
			for _, p.Poll = range bools() {
				wantAsks(t, what, p, p.Poll && !p.Response)
			}
		}
	}
}

// P8.1: Wrong.

func TestWrongByHand(t *testing.T) {
	for _, c := range []struct {
		nr, va, vs int
		want       bool
	}{
		{0, 0, 0, false}, {1, 0, 0, true}, {126, 0, 0, true}, {127, 0, 0, true},
		{127, 127, 127, false}, {0, 127, 127, true}, {126, 127, 127, true},
		{0, 0, 1, false}, {1, 0, 1, false}, {2, 0, 1, true}, {127, 0, 1, true},
		{126, 126, 127, false}, {127, 126, 127, false}, {0, 126, 127, true}, {125, 126, 127, true},
		{127, 127, 0, false}, {0, 127, 0, false}, {1, 127, 0, true}, {126, 127, 0, true},
		{126, 126, 1, false}, {127, 126, 1, false}, {0, 126, 1, false}, {1, 126, 1, false}, {2, 126, 1, true}, {125, 126, 1, true},
		{0, 0, 127, false}, {1, 0, 127, false}, {126, 0, 127, false}, {127, 0, 127, false},
		{0, 1, 0, false}, {1, 1, 0, false}, {126, 127, 126, false}, {127, 127, 126, false}, {0, 127, 126, false},
		{0, 2, 0, false}, {1, 2, 0, true}, {126, 1, 126, false}, {127, 1, 126, true}, {0, 1, 126, true},
		{10, 20, 30, true}, {20, 20, 30, false}, {25, 20, 30, false}, {30, 20, 30, false}, {31, 20, 30, true},
		{10, 30, 20, false}, {20, 30, 20, false}, {25, 30, 20, true}, {30, 30, 20, false}, {31, 30, 20, false},
	} {
		wantWrong(t, "I", api.Pdu{To: 4, From: 8, Form: api.FormI, Nr: c.nr}, c.va, c.vs, c.want)
		wantWrong(t, "S", api.Pdu{To: 4, From: 8, Form: api.FormS, Nr: c.nr}, c.va, c.vs, c.want)
		wantWrong(t, "U", api.Pdu{To: 4, From: 8, Form: api.FormU, Nr: c.nr}, c.va, c.vs, false)
		wantWrong(t, "no form", api.Pdu{To: 4, From: 8, Form: 3, Nr: c.nr}, c.va, c.vs, c.want)
	}
}

func TestWrongAllRoundTheRing(t *testing.T) {
	for va := range 128 {
		for vs := range 128 {
			var right [128]bool
			for n := va; ; n = (n + 1) % 128 {
				right[n] = true
				if n == vs {
					break
				}
			}
			for nr := range 128 {
				wantWrong(t, "I", api.Pdu{To: 4, From: 8, Nr: nr}, va, vs, !right[nr])
			}
		}
	}
}

func TestWrongOfEachKind(t *testing.T) {
	for s, p := range eachSort {
		for _, va := range edges() {
			for _, vs := range edges() {
				for _, nr := range []int{0, 1, 2, 64, 126, 127} {
					if s.nr {
						p.Nr = nr
					}
					wantWrong(t, s.name, p, va, vs, s.nr && !isOneOf(p.Nr, va, vs))
				}
			}
		}
	}
}

func TestWrongOfAnyNumbers(t *testing.T) {
	list := append(edges(), far()...)
	for _, form := range []int{math.MinInt, -1, api.FormI, api.FormS, api.FormU, 3, math.MaxInt} {
		for _, va := range list {
			for _, vs := range list {
				for _, nr := range list {
					p := api.Pdu{To: 4, From: 8, Form: form, Nr: nr}
					wantWrong(t, "any numbers", p, va, vs, form != api.FormU && !isOneOf(nr, va, vs))
				}
			}
		}
	}
}

func TestWrongOfOneThatMayNotBe(t *testing.T) {
	for what, p := range eachFaulty {
		for _, va := range []int{-1, 0, 1, 126, 127, 128} {
			for _, vs := range []int{-1, 0, 1, 126, 127, 128} {
				wantWrong(t, what, p, va, vs, p.Form != api.FormU && !isOneOf(p.Nr, va, vs))
			}
		}
	}
}

// P8.2: Event.

func TestEventOfAnotherType(t *testing.T) {
	for s, p := range eachSort {
		for _, state := range states() {
			if s.linkType != 2 {
				wantEvent(t, s.name, p, at{state: state}, -1)
				wantEvent(t, s.name, p, at{state: state, vr: 5, va: 1, vs: 9}, -1)
			}
		}
	}
}

func TestEventOfOneThatMayNotBe(t *testing.T) {
	for what, p := range eachFaulty {
		for _, state := range states() {
			wantEvent(t, what, p, at{state: state}, -1)
			wantEvent(t, what, p, at{state: state, vr: p.Ns, va: p.Nr, vs: p.Nr}, -1)
		}
	}
}

func TestEventOfEachU(t *testing.T) {
	number := []byte{0, 0, 0, 9}
	for _, poll := range bools() {
		for _, state := range states() {
			for _, c := range []at{{state, 0, 0, 0}, {state, -1, 5, 9}, {state, 127, 126, 200}} {
				wantEvent(t, "Sabme", api.Pdu{To: 4, From: 8, Form: api.FormU, Kind: api.Sabme, Poll: poll, Info: number}, c, api.GotSabme)
				wantEvent(t, "Disc", api.Pdu{To: 4, From: 8, Form: api.FormU, Kind: api.Disc, Poll: poll, Info: number}, c, api.GotDisc)
				wantEvent(t, "Ua", api.Pdu{To: 4, From: 8, Response: true, Form: api.FormU, Kind: api.Ua, Poll: poll, Info: number}, c, api.GotUa)
				wantEvent(t, "Dm", api.Pdu{To: 4, From: 8, Response: true, Form: api.FormU, Kind: api.Dm, Poll: poll, Info: number}, c, api.GotDm)
				wantEvent(t, "Frmr", api.Pdu{To: 4, From: 8, Response: true, Form: api.FormU, Kind: api.Frmr, Poll: poll, Info: make([]byte, 5)}, c, api.GotFrmr)
			}
		}
	}
}

// Below Normal neither the kind nor a number matters: none of them is GotWrong or GotGap there.
func TestEventBelowNormal(t *testing.T) {
	below := []int{math.MinInt, -1, api.Adm, api.Conn, api.Setup, api.Reset, api.ResetCheck, api.ResetWait, api.DConn, api.Error}
	for s, p := range eachSort {
		for _, state := range below {
			for _, n := range []int{0, 1, 64, 127} {
				for _, c := range []at{{state, 0, 0, 0}, {state, n, n, n}, {state, n + 1, n + 1, n + 2}, {state, -1, 128, 128}} {
					p.Nr = n
					want := api.GotRr
					if p.Poll && !p.Response {
						want = api.GotRrP
					}
					if s.nr {
						wantEvent(t, s.name, p, c, want)
					}
				}
			}
		}
	}
}

// marked are the events of one kind in one place: alone, with P, with F.
type marked struct {
	name                string
	ns                  int
	alone, withP, withF int
}

func allMarked() []marked {
	return []marked{
		{"I", 3, api.GotInfo, api.GotInfoP, api.GotInfoF},
		{"I", 4, api.GotGap, api.GotGapP, api.GotGapF},
		{"I", 2, api.GotGap, api.GotGapP, api.GotGapF},
		{"Rr", 0, api.GotRr, api.GotRrP, api.GotRrF},
		{"Rnr", 0, api.GotRnr, api.GotRnrP, api.GotRnrF},
		{"Rej", 0, api.GotRej, api.GotRejP, api.GotRejF},
	}
}

func TestEventAloneWithPAndWithF(t *testing.T) {
	waits := []int{api.Await, api.AwaitBusy, api.AwaitReject, 14, 15, math.MaxInt}
	waitsNot := []int{api.Normal, api.Busy, api.Reject}
	want := func(m marked, response, poll bool, state, want int) {
		p := sortOf(m.name).plain(response, poll)
		p.Ns, p.Nr = m.ns, 6
		wantEvent(t, m.name, p, at{state: state, vr: 3, va: 5, vs: 7}, want)
	}
	for _, m := range allMarked() {
		for _, state := range append(waits, waitsNot...) {
			want(m, false, false, state, m.alone)
			want(m, true, false, state, m.alone)
			want(m, false, true, state, m.withP)
		}
		for _, state := range waits {
			want(m, true, true, state, m.withF)
		}
		for _, state := range waitsNot {
			want(m, true, true, state, m.alone)
		}
	}
}

func TestEventOfNsAllRoundTheRing(t *testing.T) {
	for ns := range 128 {
		p := api.Pdu{To: 4, From: 8, Ns: ns}
		for vr := range 128 {
			want := api.GotGap
			if ns == vr {
				want = api.GotInfo
			}
			for _, around := range []int{vr, vr - 128, vr + 128, vr - 1<<40, vr + 1<<40} {
				wantEvent(t, "I", p, at{state: api.Normal, vr: around}, want)
			}
		}
	}
}

func TestEventOfNsBesideVr(t *testing.T) {
	for _, vr := range append(edges(), far()...) {
		for _, c := range []struct{ ns, want int }{{fold(vr), api.GotInfo}, {fold(fold(vr) + 1), api.GotGap}, {fold(fold(vr) - 1), api.GotGap}} {
			wantEvent(t, "a command", api.Pdu{To: 4, From: 8, Ns: c.ns}, at{state: api.Busy, vr: vr}, c.want)
			wantEvent(t, "with P", api.Pdu{To: 4, From: 8, Ns: c.ns, Poll: true}, at{state: api.Busy, vr: vr}, c.want+1)
			wantEvent(t, "with F", api.Pdu{To: 4, From: 8, Ns: c.ns, Poll: true, Response: true}, at{state: api.AwaitBusy, vr: vr}, c.want+2)
		}
	}
}

// GotWrong goes ahead of all others, from Normal on.
func TestEventOfAWrongNr(t *testing.T) {
	for s, p := range eachSort {
		for _, state := range states() {
			for _, c := range []at{{state, 0, 1, 5}, {state, 1, 6, 127}, {state, 0, -128, -1}, {state, 0, 1, 127}} {
				for _, nr := range []int{0, 127, 5} {
					p.Nr = nr
					if s.nr && state >= api.Normal && !isOneOf(nr, c.va, c.vs) {
						wantEvent(t, s.name, p, c, api.GotWrong)
					}
				}
			}
		}
	}
	gap := api.Pdu{To: 4, From: 8, Response: true, Ns: 9, Nr: 4, Poll: true}
	wantEvent(t, "right", gap, at{api.Await, 0, 4, 4}, api.GotGapF)
	wantEvent(t, "one ahead of va", gap, at{api.Await, 0, 5, 7}, api.GotWrong)
	wantEvent(t, "one behind vs", gap, at{api.Await, 0, 2, 3}, api.GotWrong)
}

// event is P8.2, word for word.
func event(s sort, p api.Pdu, c at) int {
	step := 0
	switch {
	case p.Poll && !p.Response:
		step = 1
	case p.Poll && p.Response && c.state >= api.Await:
		step = 2
	}
	switch {
	case s.linkType != 2 || s.form == api.FormU:
		return s.event
	case c.state < api.Normal && step == 1:
		return api.GotRrP
	case c.state < api.Normal:
		return api.GotRr
	case !isOneOf(p.Nr, c.va, c.vs):
		return api.GotWrong
	case s.form == api.FormI && p.Ns != fold(c.vr):
		return api.GotGap + step
	}
	return s.event + step
}

func TestEventOfMany(t *testing.T) {
	for s, p := range eachSort {
		for _, state := range states() {
			for _, vr := range edges() {
				for i, va := range edges() {
					for j, vs := range edges() {
						if s.ns {
							p.Ns = fold(vr + i%3 - 1)
						}
						if s.nr {
							p.Nr = fold(va + j%4 - 1)
						}
						c := at{state, vr, va, vs}
						wantEvent(t, s.name, p, c, event(s, p, c))
					}
				}
			}
		}
	}
}

// What stands behind, and from where to where it goes, make no other event of it.
func TestEventHangsOnNothingElse(t *testing.T) {
	for s, p := range eachSort {
		for n := range 128 {
			p.To, p.From = 2*n, 254-2*n
			p.Info = bytes.Repeat([]byte{byte(n)}, min(s.most, s.least+9*n))
			for _, state := range states() {
				c := at{state: state}
				wantEvent(t, s.name, p, c, event(s, p, c))
			}
		}
	}
}

// R1: each call ends, and none panics.
func TestAnyNumbersEndWell(t *testing.T) {
	list := append(far(), -1, 0, 1, 2, 3, 7, 9, 10, 127, 128, 255, 256)
	call := func(p api.Pdu, n, m int) {
		if typ := tell.Type(p); typ < 0 || typ > 3 {
			t.Errorf("Type(%+v): %d", p, typ)
		}
		if e := tell.Event(p, n, m, n, m); e < -1 || e >= api.Events {
			t.Errorf("Event(%+v, %d, %d, %d, %d): %d", p, n, m, n, m, e)
		}
		tell.Event(p, m, n, m, m)
		tell.Wrong(p, n, m)
		tell.Asks(p)
	}
	for _, n := range list {
		for _, m := range list {
			for _, k := range list {
				for _, response := range bools() {
					call(api.Pdu{To: 4, From: 8, Form: n, Kind: m, Ns: k, Response: response}, n, m)
					call(api.Pdu{To: 4, From: 8, Form: n, Kind: k, Nr: m, Response: response, Info: make([]byte, 4)}, k, m)
					call(api.Pdu{To: n, From: m, Form: k, Response: response, Poll: true, Info: make([]byte, 5)}, m, k)
					call(api.Pdu{Ns: n, Nr: m, Response: response}, k, n)
				}
			}
		}
	}
}

// R4, R5: nothing that is handed in is turned, and nothing is kept.

func TestNothingHandedInIsTurned(t *testing.T) {
	for s, p := range eachSort {
		whole := []byte{9, 8, 7, 6, 5, 4, 3, 2, 1}
		before := bytes.Clone(whole)
		for n := range len(whole) {
			p.Info = whole[:n]
			tell.Type(p)
			tell.Asks(p)
			tell.Wrong(p, 1, 2)
			for _, state := range states() {
				tell.Event(p, state, 0, 0, 0)
			}
			if !bytes.Equal(whole, before) {
				t.Errorf("%s: what was handed in, its spare room too: %v, want %v", s.name, whole, before)
			}
		}
	}
}

func TestNothingIsKeptFromCallToCall(t *testing.T) {
	for range 3 {
		for s, p := range eachSort {
			for _, c := range []at{{}, {api.Normal, 0, 0, 0}, {api.Await, 1, 0, 5}, {api.AwaitReject, 0, 1, 5}} {
				wantType(t, s.name, p, s.linkType)
				wantEvent(t, s.name, p, c, event(s, p, c))
				wantAsks(t, s.name, p, p.Poll && !p.Response)
				wantWrong(t, s.name, p, c.va, c.vs, s.nr && c.va == 1)
				wantType(t, "no form", api.Pdu{Form: 3}, 0)
				wantEvent(t, "no kind", api.Pdu{Kind: 1}, c, -1)
			}
		}
	}
}
