package plain_test

import (
	"bytes"
	"fmt"
	"math"
	"slices"
	"strings"
	"testing"

	"antiphon/api"
	"antiphon/pdu"
	"antiphon/plain"
	"antiphon/saps"
)

// maxSdu is written out: were api.MaxSdu another one, the tests would tell.
const maxSdu = 1024

var (
	peer  = api.Addr{2, 0, 0, 0, 0, 7}
	other = api.Addr{6, 5, 4, 3, 2, 1}
)

// far are numbers that lie beyond all SAPs and groups; in 8 or 16 bits some of them would be a SAP or a group.
var far = []int{math.MinInt, math.MinInt + 1, math.MinInt32, -1<<32 + 4, -65536 + 4, -256 + 4, -256 + 5, -255, -254, -128, -127, -5, -4, -3, -2, -1,
	256, 257, 258, 259, 260, 261, 510, 511, 512 + 4, 512 + 5, 65536 + 4, 65536 + 5, 1<<32 + 4, 1<<32 + 5, math.MaxInt32, math.MaxInt - 1, math.MaxInt}

// every are the numbers round about SAPs and groups, and those far from them.
func every() []int {
	list := slices.Clone(far)
	for n := -300; n < 600; n++ {
		list = append(list, n)
	}
	return list
}

// row is so many bytes, no two of them in a row alike.
func row(n int) []byte {
	b := make([]byte, n)
	for i := range b {
		b[i] = byte(i*7 + 3)
	}
	return b
}

// lengths are those of what a user may hand over, none and the most among them.
var lengths = []int{0, 1, 2, 3, 4, 45, 255, 256, maxSdu - 1, maxSdu}

// tooLong are longer, by one and more; up to 16 more a PDU might have.
var tooLong = []int{maxSdu + 1, maxSdu + 2, maxSdu + 15, maxSdu + 16, maxSdu + 17, 2 * maxSdu, 65536 + 1, 65536 + maxSdu}

func wantErr(t *testing.T, what string, got, want api.Errno) {
	t.Helper()
	if got != want {
		t.Errorf("%s: %v, want %v", what, got, want)
	}
}

// text tells a PDU with all its fields; nil and an empty list are one.
func text(p api.Pdu) string {
	info := fmt.Sprintf("%x", p.Info)
	if len(info) > 32 {
		info = fmt.Sprintf("%d bytes %s.. %08x", len(p.Info), info[:16], hash(p.Info))
	}
	return fmt.Sprintf("to %d from %d response %v form %d kind %d ns %d nr %d poll %v [%s]", p.To, p.From, p.Response, p.Form, p.Kind, p.Ns, p.Nr, p.Poll, info)
}

func hash(b []byte) (sum uint32) {
	for _, x := range b {
		sum = sum*16777619 ^ uint32(x)
	}
	return sum
}

// telling tells an Ind with all its fields.
func telling(i api.Ind) string {
	return fmt.Sprintf("kind %d sap %d far %d peer %v status %d [%d: %x]", i.Kind, i.Sap, i.Far, i.Peer, i.Status, len(i.B), i.B)
}

func wantPdu(t *testing.T, what string, got, want api.Pdu) {
	t.Helper()
	if g, w := text(got), text(want); g != w || !bytes.Equal(got.Info, want.Info) {
		t.Errorf("%s: %s, want %s", what, g, w)
	}
}

func wantZero(t *testing.T, what string, p api.Pdu) {
	t.Helper()
	wantPdu(t, what, p, api.Pdu{})
}

func wantInds(t *testing.T, what string, got []api.Ind, want ...api.Ind) {
	t.Helper()
	if len(got) != len(want) {
		t.Errorf("%s: %d are told: %v, want %d: %v", what, len(got), got, len(want), want)
		return
	}
	for i, w := range want {
		if a, b := telling(got[i]), telling(w); a != b {
			t.Errorf("%s: told %d: %s, want %s", what, i, a, b)
		}
	}
}

func wantPdus(t *testing.T, what string, got []api.Pdu, want ...api.Pdu) {
	t.Helper()
	if len(got) != len(want) {
		t.Errorf("%s: %d are sent: %v, want %d: %v", what, len(got), got, len(want), want)
		return
	}
	for i, w := range want {
		wantPdu(t, fmt.Sprintf("%s: sent %d", what, i), got[i], w)
	}
}

// wantNothing: nobody is told, nothing is sent.
func wantNothing(t *testing.T, what string, s *saps.Saps, p api.Pdu) {
	t.Helper()
	told, sent := plain.Hear(s, peer, p)
	wantInds(t, what, told)
	wantPdus(t, what, sent)
}

// wantRefused: the error, and beside it the zero value (R2).
func wantRefused(t *testing.T, what string, p api.Pdu, got, want api.Errno) {
	t.Helper()
	wantErr(t, what, got, want)
	wantZero(t, what, p)
}

// call is one of the three that make PDUs, of so many bytes (a Xid has its own).
type call struct {
	name    string
	make    func(from, to int) (api.Pdu, api.Errno)
	leastTo int
}

func calls(b []byte) []call {
	return []call{
		{"Unit", func(from, to int) (api.Pdu, api.Errno) { return plain.Unit(from, to, b) }, 1},
		{"AskTest", func(from, to int) (api.Pdu, api.Errno) { return plain.AskTest(from, to, b) }, 0},
		{"AskXid", func(from, to int) (api.Pdu, api.Errno) { return plain.AskXid(from, to, 16) }, 0},
	}
}

// member is a SAP in a group.
type member struct {
	sap, group int
}

// made has SAPs of these classes, and these of them in groups.
func made(t *testing.T, classes map[int]int, seats ...member) *saps.Saps {
	t.Helper()
	s := saps.New()
	for sap, class := range classes {
		wantErr(t, fmt.Sprintf("Open(%d, %d)", sap, class), s.Open(sap, class), api.OK)
	}
	for _, m := range seats {
		wantErr(t, fmt.Sprintf("Join(%d, %d)", m.sap, m.group), s.Join(m.sap, m.group), api.OK)
	}
	return s
}

// four has a SAP of each class, the first and the last SAP among them, one in group 1, two in group 5, all in 253.
func four(t *testing.T) *saps.Saps {
	t.Helper()
	return made(t, map[int]int{2: 3, 8: 1, 100: 2, 254: 4}, member{254, 1}, member{254, 5}, member{8, 5}, member{2, 253}, member{8, 253}, member{100, 253}, member{254, 253})
}

// heardAt are four's SAPs that hear what goes to each number that anybody hears, rising.
var heardAt = map[int][]int{2: {2}, 8: {8}, 100: {100}, 254: {254}, 1: {254}, 5: {8, 254}, 253: {2, 8, 100, 254}, 255: {2, 8, 100, 254}}

// classBytes are what a Xid is answered with by each of four, and by the station itself.
var classBytes = map[int][]byte{0: {129, 7, 128}, 2: {129, 5, 128}, 8: {129, 1, 128}, 100: {129, 3, 128}, 254: {129, 7, 128}}

// u is a U PDU of such a kind.
func u(kind, to, from int, response, poll bool, info ...byte) api.Pdu {
	return api.Pdu{To: to, From: from, Response: response, Form: api.FormU, Kind: kind, Poll: poll, Info: info}
}

// state is all that can be asked of a Saps.
func state(s *saps.Saps) string {
	var told strings.Builder
	fmt.Fprint(&told, s.List())
	for n := -3; n < 300; n++ {
		fmt.Fprint(&told, " ", n, s.Class(n), s.Hears(n))
	}
	return told.String()
}

// The chapter's example.

func TestExample(t *testing.T) {
	s := made(t, map[int]int{4: 1, 8: 1})
	told, sent := plain.Hear(s, peer, u(api.Test, 255, 6, false, true, 1, 2))
	wantInds(t, "a Test to 255", told)
	wantPdus(t, "a Test to 255", sent, u(api.Test, 6, 0, true, true, 1, 2), u(api.Test, 6, 4, true, true, 1, 2), u(api.Test, 6, 8, true, true, 1, 2))
}

// P13.1: what is sent.

func TestUnit(t *testing.T) {
	for _, to := range []int{1, 2, 4, 8, 9, 253, 254, 255} {
		p, e := plain.Unit(4, to, []byte{1, 2, 3})
		what := fmt.Sprintf("Unit to %d", to)
		wantErr(t, what, e, api.OK)
		wantPdu(t, what, p, u(api.Ui, to, 4, false, false, 1, 2, 3))
	}
}

func TestAskTest(t *testing.T) {
	for _, to := range []int{0, 1, 2, 4, 8, 9, 253, 254, 255} {
		p, e := plain.AskTest(4, to, []byte{1, 2, 3})
		what := fmt.Sprintf("AskTest to %d", to)
		wantErr(t, what, e, api.OK)
		wantPdu(t, what, p, u(api.Test, to, 4, false, true, 1, 2, 3))
	}
}

func TestAskXid(t *testing.T) {
	for _, to := range []int{0, 1, 2, 4, 8, 9, 253, 254, 255} {
		p, e := plain.AskXid(4, to, 16)
		what := fmt.Sprintf("AskXid to %d", to)
		wantErr(t, what, e, api.OK)
		wantPdu(t, what, p, u(api.Xid, to, 4, false, true, 129, 7, 32))
	}
}

// What is sent may be, and its bytes on the line are these.
func TestOnTheLine(t *testing.T) {
	unit, _ := plain.Unit(4, 9, []byte{1, 2})
	test, _ := plain.AskTest(254, 0, []byte{7})
	xid, _ := plain.AskXid(8, 255, 127)
	for _, x := range []struct {
		what string
		p    api.Pdu
		want []byte
	}{
		{"Unit", unit, []byte{9, 4, 3, 1, 2}},
		{"AskTest", test, []byte{0, 254, 227 + 16, 7}},
		{"AskXid", xid, []byte{255, 8, 175 + 16, 129, 7, 254}},
	} {
		b, e := pdu.Encode(x.p)
		wantErr(t, x.what, e, api.OK)
		if !bytes.Equal(b, x.want) {
			t.Errorf("%s: on the line %v, want %v", x.what, b, x.want)
		}
	}
}

func TestFromOfEachNumber(t *testing.T) {
	for _, c := range calls([]byte{9}) {
		for _, from := range every() {
			what := fmt.Sprintf("%s from %d", c.name, from)
			p, e := c.make(from, 8)
			if from >= 2 && from <= 254 && from%2 == 0 {
				wantErr(t, what, e, api.OK)
				if p.From != from || p.To != 8 {
					t.Errorf("%s: %s", what, text(p))
				}
			} else {
				wantRefused(t, what, p, e, api.ErrArg)
			}
		}
	}
}

func TestToOfEachNumber(t *testing.T) {
	for _, c := range calls([]byte{9}) {
		for _, to := range every() {
			what := fmt.Sprintf("%s to %d", c.name, to)
			p, e := c.make(8, to)
			if to >= c.leastTo && to <= 255 {
				wantErr(t, what, e, api.OK)
				if p.From != 8 || p.To != to {
					t.Errorf("%s: %s", what, text(p))
				}
			} else {
				wantRefused(t, what, p, e, api.ErrArg)
			}
		}
	}
}

func TestFromAndToAtTheEdges(t *testing.T) {
	for _, c := range calls(nil) {
		for _, bad := range []member{{0, 8}, {1, 8}, {3, 8}, {253, 8}, {255, 8}, {256, 8}, {-1, 8}, {-2, 8}, {4, 256}, {4, -1}, {4, -2}, {0, 0}, {0, 255}, {256, 256}, {-4, -4}} {
			p, e := c.make(bad.sap, bad.group)
			wantRefused(t, fmt.Sprintf("%s from %d to %d", c.name, bad.sap, bad.group), p, e, api.ErrArg)
		}
		for _, good := range []member{{2, 1}, {2, 2}, {2, 254}, {2, 255}, {254, 1}, {254, 254}, {254, 255}} {
			p, e := c.make(good.sap, good.group)
			wantErr(t, fmt.Sprintf("%s from %d to %d", c.name, good.sap, good.group), e, api.OK)
			if p.From != good.sap || p.To != good.group {
				t.Errorf("%s from %d to %d: %s", c.name, good.sap, good.group, text(p))
			}
		}
	}
	p, e := plain.Unit(4, 0, nil)
	wantRefused(t, "Unit to 0", p, e, api.ErrArg)
}

func TestLengths(t *testing.T) {
	if api.MaxSdu != maxSdu {
		t.Errorf("MaxSdu: %d, want %d", api.MaxSdu, maxSdu)
	}
	for _, n := range lengths {
		b := row(n)
		unit, e := plain.Unit(4, 8, b)
		wantErr(t, fmt.Sprintf("Unit of %d bytes", n), e, api.OK)
		wantPdu(t, fmt.Sprintf("Unit of %d bytes", n), unit, u(api.Ui, 8, 4, false, false, b...))
		test, e := plain.AskTest(4, 8, b)
		wantErr(t, fmt.Sprintf("AskTest of %d bytes", n), e, api.OK)
		wantPdu(t, fmt.Sprintf("AskTest of %d bytes", n), test, u(api.Test, 8, 4, false, true, b...))
	}
	for _, n := range tooLong {
		b := row(n)
		unit, e := plain.Unit(4, 8, b)
		wantRefused(t, fmt.Sprintf("Unit of %d bytes", n), unit, e, api.ErrLong)
		test, e := plain.AskTest(4, 8, b)
		wantRefused(t, fmt.Sprintf("AskTest of %d bytes", n), test, e, api.ErrLong)
	}
}

// nil and an empty list are one (R4).
func TestNoByte(t *testing.T) {
	for _, b := range [][]byte{nil, {}, make([]byte, 0, 9)} {
		unit, e := plain.Unit(4, 8, b)
		wantErr(t, "Unit of no byte", e, api.OK)
		wantPdu(t, "Unit of no byte", unit, u(api.Ui, 8, 4, false, false))
		test, e := plain.AskTest(4, 8, b)
		wantErr(t, "AskTest of no byte", e, api.OK)
		wantPdu(t, "AskTest of no byte", test, u(api.Test, 8, 4, false, true))
	}
}

func TestWindowOfEachNumber(t *testing.T) {
	for _, window := range every() {
		what := fmt.Sprintf("AskXid of window %d", window)
		p, e := plain.AskXid(4, 8, window)
		if window >= 0 && window <= 127 {
			wantErr(t, what, e, api.OK)
			wantPdu(t, what, p, u(api.Xid, 8, 4, false, true, 129, 7, byte(2*window)))
		} else {
			wantRefused(t, what, p, e, api.ErrArg)
		}
	}
}

// Which one it is where several fit (R6).
func TestSeveralErrors(t *testing.T) {
	for _, n := range tooLong {
		for _, c := range calls(row(n))[:2] {
			for _, bad := range []member{{0, 8}, {3, 8}, {256, 8}, {-2, 8}, {4, 256}, {4, -1}, {0, 256}} {
				p, e := c.make(bad.sap, bad.group)
				wantRefused(t, fmt.Sprintf("%s from %d to %d of %d bytes", c.name, bad.sap, bad.group, n), p, e, api.ErrArg)
			}
			p, e := c.make(4, 255)
			wantRefused(t, fmt.Sprintf("%s of %d bytes", c.name, n), p, e, api.ErrLong)
		}
		p, e := plain.Unit(4, 0, row(n))
		wantRefused(t, "Unit to 0, too long", p, e, api.ErrArg)
		p, e = plain.AskTest(4, 0, row(n))
		wantRefused(t, "AskTest to 0, too long", p, e, api.ErrLong)
	}
	for _, window := range []int{-1, 128} {
		p, e := plain.AskXid(3, 256, window)
		wantRefused(t, "AskXid of nothing that is right", p, e, api.ErrArg)
	}
}

// P13.2: what is heard of a datagram.

func TestHearUiAtEachNumber(t *testing.T) {
	s := four(t)
	for to := range 256 {
		var want []api.Ind
		for _, sap := range heardAt[to] {
			want = append(want, api.Ind{Kind: api.IndUnit, Sap: sap, Far: 6, Peer: peer, B: []byte{1, 2, 3}})
		}
		what := fmt.Sprintf("a Ui to %d", to)
		told, sent := plain.Hear(s, peer, u(api.Ui, to, 6, false, false, 1, 2, 3))
		wantInds(t, what, told, want...)
		wantPdus(t, what, sent)
	}
}

// Where it comes from, of which station, its P and its bytes change nothing in who is told.
func TestHearUiFromAnywhere(t *testing.T) {
	s := four(t)
	for _, from := range []int{0, 2, 4, 8, 100, 254} {
		for _, whose := range []api.Addr{peer, other, {}, {255, 255, 255, 255, 255, 255}} {
			for _, poll := range []bool{false, true} {
				for _, n := range []int{0, 1, maxSdu, maxSdu + 16} {
					told, sent := plain.Hear(s, whose, u(api.Ui, 5, from, false, poll, row(n)...))
					what := fmt.Sprintf("a Ui of %d bytes from %d at %v", n, from, whose)
					wantInds(t, what, told,
						api.Ind{Kind: api.IndUnit, Sap: 8, Far: from, Peer: whose, B: row(n)},
						api.Ind{Kind: api.IndUnit, Sap: 254, Far: from, Peer: whose, B: row(n)})
					wantPdus(t, what, sent)
				}
			}
		}
	}
}

func TestHearUiToAll(t *testing.T) {
	s := saps.New()
	ui := u(api.Ui, 255, 6, false, false, 9)
	wantNothing(t, "a Ui to 255, of no SAP", s, ui)
	var want []api.Ind
	for n := range api.MaxSaps {
		sap := 2*n + 2
		wantErr(t, "Open", s.Open(sap, 1+n%4), api.OK)
		want = append(want, api.Ind{Kind: api.IndUnit, Sap: sap, Far: 6, Peer: peer, B: []byte{9}})
		told, sent := plain.Hear(s, peer, ui)
		wantInds(t, fmt.Sprintf("a Ui to 255, of %d SAPs", n+1), told, want...)
		wantPdus(t, "a Ui to 255", sent)
	}
}

// P13.2: what is heard of a command.

// responses are what four sends back of a Test or a Xid to that number from SAP 6.
func responses(kind, to int, poll bool, b []byte) (list []api.Pdu) {
	from := heardAt[to]
	if to == 0 || to == 255 {
		from = append([]int{0}, from...)
	}
	for _, sap := range from {
		p := u(kind, 6, sap, true, poll, b...)
		if kind == api.Xid {
			p.Info = classBytes[sap]
		}
		list = append(list, p)
	}
	return list
}

func TestHearCommandsAtEachNumber(t *testing.T) {
	s := four(t)
	for to := range 256 {
		for _, kind := range []int{api.Test, api.Xid} {
			for _, poll := range []bool{true, false} {
				what := fmt.Sprintf("a command of kind %d to %d, P %v", kind, to, poll)
				told, sent := plain.Hear(s, peer, u(kind, to, 6, false, poll, 129, 7, 32))
				wantInds(t, what, told)
				wantPdus(t, what, sent, responses(kind, to, poll, []byte{129, 7, 32})...)
			}
		}
	}
}

// A command from a SAP is answered to that SAP, whichever it is.
func TestHearCommandsFromEachSap(t *testing.T) {
	s := four(t)
	for from := 2; from <= 254; from += 2 {
		what := fmt.Sprintf("from %d", from)
		_, sent := plain.Hear(s, peer, u(api.Test, 255, from, false, true, 5))
		wantPdus(t, "a Test "+what, sent, u(api.Test, from, 0, true, true, 5), u(api.Test, from, 2, true, true, 5), u(api.Test, from, 8, true, true, 5), u(api.Test, from, 100, true, true, 5), u(api.Test, from, 254, true, true, 5))
		_, sent = plain.Hear(s, peer, u(api.Xid, 100, from, false, false, 129, 7, 32))
		wantPdus(t, "a Xid "+what, sent, u(api.Xid, from, 100, true, false, 129, 3, 128))
	}
}

// Nothing is answered to another station itself but by a station itself.
func TestHearCommandsFromAStation(t *testing.T) {
	s := four(t)
	for to := range 256 {
		for _, poll := range []bool{true, false} {
			var test, xid []api.Pdu
			if to == 0 {
				test = []api.Pdu{u(api.Test, 0, 0, true, poll, 5, 6, 7)}
				xid = []api.Pdu{u(api.Xid, 0, 0, true, poll, 129, 7, 128)}
			}
			what := fmt.Sprintf("from 0 to %d, P %v", to, poll)
			told, sent := plain.Hear(s, peer, u(api.Test, to, 0, false, poll, 5, 6, 7))
			wantInds(t, "a Test "+what, told)
			wantPdus(t, "a Test "+what, sent, test...)
			told, sent = plain.Hear(s, peer, u(api.Xid, to, 0, false, poll, 129, 7, 2))
			wantInds(t, "a Xid "+what, told)
			wantPdus(t, "a Xid "+what, sent, xid...)
		}
	}
}

// What a Xid tells is the SAP's, the station's, whatever class and window it asked with.
func TestHearXidOfEachClass(t *testing.T) {
	for class, types := range map[int]byte{1: 1, 2: 3, 3: 5, 4: 7} {
		s := made(t, map[int]int{40: class}, member{40, 77})
		for _, b := range [][]byte{{129, 7, 32}, {129, 1, 0}, {129, 31, 254}, {0, 0, 0}} {
			what := fmt.Sprintf("a Xid, class %d", class)
			station := u(api.Xid, 6, 0, true, true, 129, 7, 128)
			its := u(api.Xid, 6, 40, true, true, 129, types, 128)
			_, sent := plain.Hear(s, peer, u(api.Xid, 40, 6, false, true, b...))
			wantPdus(t, what+" to it", sent, its)
			_, sent = plain.Hear(s, peer, u(api.Xid, 77, 6, false, true, b...))
			wantPdus(t, what+" to its group", sent, its)
			_, sent = plain.Hear(s, peer, u(api.Xid, 255, 6, false, true, b...))
			wantPdus(t, what+" to all", sent, station, its)
			_, sent = plain.Hear(s, peer, u(api.Xid, 0, 6, false, true, b...))
			wantPdus(t, what+" to the station", sent, station)
		}
	}
}

// A SAP that is closed, opened again with another class, or out of its group, is answered for as it is now.
func TestHearFollowsSaps(t *testing.T) {
	s := made(t, map[int]int{4: 1, 8: 2}, member{4, 5}, member{8, 5})
	xid := u(api.Xid, 5, 6, false, true, 129, 7, 32)
	_, sent := plain.Hear(s, peer, xid)
	wantPdus(t, "at first", sent, u(api.Xid, 6, 4, true, true, 129, 1, 128), u(api.Xid, 6, 8, true, true, 129, 3, 128))
	wantErr(t, "Close", s.Close(4), api.OK)
	_, sent = plain.Hear(s, peer, xid)
	wantPdus(t, "one is closed", sent, u(api.Xid, 6, 8, true, true, 129, 3, 128))
	wantErr(t, "Open", s.Open(4, 4), api.OK)
	wantErr(t, "Join", s.Join(4, 5), api.OK)
	wantErr(t, "Leave", s.Leave(8, 5), api.OK)
	_, sent = plain.Hear(s, peer, xid)
	wantPdus(t, "it is open again", sent, u(api.Xid, 6, 4, true, true, 129, 7, 128))
}

func TestHearOfNoSap(t *testing.T) {
	s := saps.New()
	for to := range 256 {
		for _, kind := range []int{api.Ui, api.Test, api.Xid} {
			p := u(kind, to, 6, false, true, 1, 2)
			if kind != api.Ui && (to == 0 || to == 255) {
				want := u(kind, 6, 0, true, true, 1, 2)
				if kind == api.Xid {
					want.Info = []byte{129, 7, 128}
				}
				told, sent := plain.Hear(s, peer, p)
				wantInds(t, text(p), told)
				wantPdus(t, text(p), sent, want)
			} else {
				wantNothing(t, text(p), s, p)
			}
			if kind != api.Ui {
				p.Response = true
				wantNothing(t, text(p), s, p)
			}
		}
	}
}

// All the room is taken: the station itself is ahead of 16.
func TestHearOfAsManySapsAsThereMayBe(t *testing.T) {
	s := saps.New()
	want := []api.Pdu{u(api.Test, 6, 0, true, true, 9)}
	for n := range api.MaxSaps {
		wantErr(t, "Open", s.Open(254-2*n, 1+n%4), api.OK)
		want = slices.Insert(want, 1, u(api.Test, 6, 254-2*n, true, true, 9))
	}
	_, sent := plain.Hear(s, peer, u(api.Test, 255, 6, false, true, 9))
	wantPdus(t, "a Test to 255", sent, want...)
}

func TestHearBytesOfATest(t *testing.T) {
	s := four(t)
	for _, n := range append(slices.Clone(lengths), maxSdu+1, maxSdu+15, maxSdu+16) {
		what := fmt.Sprintf("a Test of %d bytes", n)
		told, sent := plain.Hear(s, peer, u(api.Test, 5, 6, false, true, row(n)...))
		wantInds(t, what, told)
		wantPdus(t, what, sent, u(api.Test, 6, 8, true, true, row(n)...), u(api.Test, 6, 254, true, true, row(n)...))
		told, sent = plain.Hear(s, peer, u(api.Test, 8, 6, true, true, row(n)...))
		wantInds(t, what+", a response", told, api.Ind{Kind: api.IndTest, Sap: 8, Far: 6, Peer: peer, B: row(n)})
		wantPdus(t, what+", a response", sent)
	}
}

// P13.2: what is heard of a response.

func TestHearResponsesAtEachNumber(t *testing.T) {
	s := four(t)
	for to := range 256 {
		for kind, ind := range map[int]int{api.Test: api.IndTest, api.Xid: api.IndXid} {
			for _, poll := range []bool{true, false} {
				for _, from := range []int{0, 6, 254} {
					var want []api.Ind
					if to == 2 || to == 8 || to == 100 || to == 254 {
						want = []api.Ind{{Kind: ind, Sap: to, Far: from, Peer: other, B: []byte{129, 3, 32}}}
					}
					what := fmt.Sprintf("a response of kind %d to %d from %d, F %v", kind, to, from, poll)
					told, sent := plain.Hear(s, other, u(kind, to, from, true, poll, 129, 3, 32))
					wantInds(t, what, told, want...)
					wantPdus(t, what, sent)
				}
			}
		}
	}
}

// P13.2: a Xid whose bytes are no Class is heard likewise.
func TestHearXidOfNoClass(t *testing.T) {
	s := four(t)
	for _, b := range [][]byte{nil, {}, {129}, {129, 7}, {129, 7, 33}, {129, 32, 32}, {129, 255, 255}, {129, 7, 32, 0}, {0, 0, 1}, row(maxSdu), row(maxSdu + 16)} {
		what := fmt.Sprintf("a Xid of %d bytes", len(b))
		told, sent := plain.Hear(s, peer, u(api.Xid, 255, 6, false, true, b...))
		wantInds(t, what, told)
		wantPdus(t, what, sent, responses(api.Xid, 255, true, nil)...)
		told, sent = plain.Hear(s, peer, u(api.Xid, 254, 6, true, true, b...))
		wantInds(t, what+", a response", told, api.Ind{Kind: api.IndXid, Sap: 254, Far: 6, Peer: peer, B: b})
		wantPdus(t, what+", a response", sent)
	}
}

// P13.2: nothing, of another type.
func TestHearOfAnotherType(t *testing.T) {
	s := four(t)
	for _, role := range []bool{false, true} {
		for _, poll := range []bool{false, true} {
			for _, to := range []int{0, 2, 8, 254} {
				for _, kind := range []int{api.Rr, api.Rnr, api.Rej} {
					wantOther(t, s, api.Pdu{To: to, From: 6, Response: role, Form: api.FormS, Kind: kind, Nr: 3, Poll: poll})
				}
				wantOther(t, s, api.Pdu{To: to, From: 6, Response: role, Form: api.FormI, Ns: 1, Nr: 3, Poll: poll, Info: []byte{1}})
				wantOther(t, s, api.Pdu{To: to, From: 6, Response: role, Form: api.FormI, Poll: poll})
				wantOther(t, s, u(api.Ac0, to, 6, role, poll, 1, 2))
				wantOther(t, s, u(api.Ac1, to, 6, role, poll, 1, 2))
			}
		}
	}
	for _, to := range []int{0, 2, 8, 254} {
		wantOther(t, s, u(api.Sabme, to, 6, false, true, 0, 0, 0, 1))
		wantOther(t, s, u(api.Disc, to, 6, false, true, 0, 0, 0, 1))
		wantOther(t, s, u(api.Ua, to, 6, true, true, 0, 0, 0, 1))
		wantOther(t, s, u(api.Dm, to, 6, true, true, 0, 0, 0, 1))
		wantOther(t, s, u(api.Frmr, to, 6, true, true, 0, 0, 0, 0, 1))
	}
}

// wantOther: it may be, and nothing comes of it here.
func wantOther(t *testing.T, s *saps.Saps, p api.Pdu) {
	t.Helper()
	if !pdu.May(p) {
		t.Errorf("%s: may not be", text(p))
	}
	wantNothing(t, text(p), s, p)
}

// P13.2: nothing, of one that may not be.
func TestHearOfOneThatMayNotBe(t *testing.T) {
	s := four(t)
	for _, kind := range []int{api.Ui, api.Xid, api.Test} {
		for _, to := range []int{0, 5, 8, 255} {
			good := u(kind, to, 6, false, true, 1, 2, 3)
			var bad []api.Pdu
			add := func(turn func(p *api.Pdu)) {
				p := good
				turn(&p)
				bad = append(bad, p)
			}
			for _, n := range []int{1, 7, 255, 256, -1, -2, 264, math.MinInt, math.MaxInt} {
				add(func(p *api.Pdu) { p.From = n })
				add(func(p *api.Pdu) { p.From, p.Response = n, true })
			}
			for _, n := range []int{1, 127, 128, -1} {
				add(func(p *api.Pdu) { p.Ns = n })
				add(func(p *api.Pdu) { p.Nr = n })
			}
			for _, n := range []int{-1, 3, 4, math.MaxInt, api.FormS + 256, api.FormU + 256} {
				add(func(p *api.Pdu) { p.Form = n })
			}
			for _, n := range []int{-1, -2, 10, 256, 257, 258, math.MinInt, math.MaxInt} {
				add(func(p *api.Pdu) { p.Kind = n })
			}
			add(func(p *api.Pdu) { p.Info = row(maxSdu + 17) })
			add(func(p *api.Pdu) { p.Info, p.Response = row(maxSdu+17), true })
			if kind == api.Ui {
				add(func(p *api.Pdu) { p.Response = true })
			}
			for _, p := range bad {
				wantNothing(t, text(p), s, p)
			}
		}
		for _, to := range far {
			for _, response := range []bool{false, true} {
				p := u(kind, to, 6, response, true, 1)
				wantNothing(t, text(p), s, p)
			}
		}
	}
	wantNothing(t, "a zero PDU", s, api.Pdu{})
}

// P13.3: a Test's bytes come back as they went, one for each that hears.

// overLine is what the other side reads of a PDU.
func overLine(t *testing.T, p api.Pdu) api.Pdu {
	t.Helper()
	b, e := pdu.Encode(p)
	wantErr(t, "Encode of "+text(p), e, api.OK)
	got, e := pdu.Decode(b)
	wantErr(t, "Decode of "+text(p), e, api.OK)
	return got
}

// comesBack is what the asking user is told by each response, in their order.
func comesBack(t *testing.T, here, there *saps.Saps, p api.Pdu) (list []api.Ind) {
	t.Helper()
	told, sent := plain.Hear(there, peer, overLine(t, p))
	wantInds(t, text(p), told)
	for _, r := range sent {
		told, more := plain.Hear(here, other, overLine(t, r))
		wantPdus(t, text(r), more)
		list = append(list, told...)
	}
	return list
}

func TestATestComesBack(t *testing.T) {
	here := made(t, map[int]int{20: 1, 22: 4}, member{20, 5}, member{22, 5})
	there := four(t)
	for _, n := range lengths {
		for to := range 256 {
			from := heardAt[to]
			if to == 0 || to == 255 {
				from = append([]int{0}, from...)
			}
			var want []api.Ind
			for _, sap := range from {
				want = append(want, api.Ind{Kind: api.IndTest, Sap: 20, Far: sap, Peer: other, B: row(n)})
			}
			p, e := plain.AskTest(20, to, row(n))
			wantErr(t, "AskTest", e, api.OK)
			wantInds(t, fmt.Sprintf("a Test of %d bytes to %d", n, to), comesBack(t, here, there, p), want...)
		}
	}
}

func TestAnExchangeTellsClasses(t *testing.T) {
	here := made(t, map[int]int{20: 1})
	there := four(t)
	p, e := plain.AskXid(20, 255, 1)
	wantErr(t, "AskXid", e, api.OK)
	var want []api.Ind
	for _, sap := range []int{0, 2, 8, 100, 254} {
		want = append(want, api.Ind{Kind: api.IndXid, Sap: 20, Far: sap, Peer: other, B: classBytes[sap]})
	}
	wantInds(t, "a Xid to 255", comesBack(t, here, there, p), want...)
	p, _ = plain.AskXid(22, 255, 1)
	wantInds(t, "a Xid of a SAP that is closed since", comesBack(t, here, there, p))
}

// A datagram that is sent is told with its bytes, once to each that hears.
func TestADatagramIsTold(t *testing.T) {
	there := four(t)
	for _, n := range lengths {
		p, e := plain.Unit(20, 5, row(n))
		wantErr(t, "Unit", e, api.OK)
		told, sent := plain.Hear(there, peer, overLine(t, p))
		wantInds(t, "a Ui", told, api.Ind{Kind: api.IndUnit, Sap: 8, Far: 20, Peer: peer, B: row(n)}, api.Ind{Kind: api.IndUnit, Sap: 254, Far: 20, Peer: peer, B: row(n)})
		wantPdus(t, "a Ui", sent)
	}
}

// The rules that hold everywhere.

// R7: of a nil Saps, and of a zero one, nobody is active; the station itself answers as it does.
func TestNilAndZeroSaps(t *testing.T) {
	for what, s := range map[string]*saps.Saps{"nil": nil, "zero": {}} {
		for to := range 256 {
			wantNothing(t, what+": a Ui", s, u(api.Ui, to, 6, false, false, 1))
			wantNothing(t, what+": a Test response", s, u(api.Test, to, 6, true, true, 1))
			wantNothing(t, what+": a Xid response", s, u(api.Xid, to, 6, true, true, 129, 7, 2))
			var test, xid []api.Pdu
			if to == 0 || to == 255 {
				test = []api.Pdu{u(api.Test, 6, 0, true, true, 1)}
				xid = []api.Pdu{u(api.Xid, 6, 0, true, true, 129, 7, 128)}
			}
			told, sent := plain.Hear(s, peer, u(api.Test, to, 6, false, true, 1))
			wantInds(t, what+": a Test", told)
			wantPdus(t, fmt.Sprintf("%s: a Test to %d", what, to), sent, test...)
			told, sent = plain.Hear(s, peer, u(api.Xid, to, 6, false, true))
			wantInds(t, what+": a Xid", told)
			wantPdus(t, fmt.Sprintf("%s: a Xid to %d", what, to), sent, xid...)
		}
		wantNothing(t, what+": a zero PDU", s, api.Pdu{})
	}
}

// within is a list with bytes ahead of it and spare room behind, in memory that can be looked at.
func within(b []byte) (list, memory []byte) {
	memory = append(append([]byte{201, 202}, b...), 203, 204, 205)
	return memory[2 : 2+len(b) : len(memory)], memory
}

// lists are all those of an answer.
func lists(told []api.Ind, sent []api.Pdu) (list [][]byte) {
	for _, i := range told {
		list = append(list, i.B)
	}
	for _, p := range sent {
		list = append(list, p.Info)
	}
	return list
}

// carried are the lists of all that is answered where b itself is handed in.
func carried(t *testing.T, b []byte) (list [][]byte) {
	t.Helper()
	s := four(t)
	for _, kind := range []int{api.Ui, api.Test, api.Xid} {
		list = append(list, lists(plain.Hear(s, peer, u(kind, 255, 6, false, true, b...)))...)
		list = append(list, lists(plain.Hear(s, peer, u(kind, 8, 6, true, true, b...)))...)
	}
	unit, _ := plain.Unit(4, 8, b)
	test, _ := plain.AskTest(4, 8, b)
	return append(list, unit.Info, test.Info)
}

// R4: what is handed in is neither changed nor kept.
func TestWhatIsHandedInStays(t *testing.T) {
	for _, n := range []int{0, 1, 3, maxSdu, maxSdu + 1} {
		b, memory := within(row(n))
		was := slices.Clone(memory)
		answered := carried(t, b)
		for _, l := range answered {
			spoil(l[:cap(l)], 0)
		}
		if !bytes.Equal(memory, was) {
			t.Errorf("%d bytes: what was handed in is changed, or shared by an answer", n)
		}
		answered = carried(t, b)
		before := fmt.Sprint(answered)
		spoil(memory, 0)
		if fmt.Sprint(answered) != before {
			t.Errorf("%d bytes: an answer has changed with what was handed in", n)
		}
	}
}

func spoil(b []byte, with byte) {
	for i := range b {
		b[i] = with + byte(i)
	}
}

// R4: no two lists of one answer share any, spare room too.
func TestListsOfOneAnswer(t *testing.T) {
	s := four(t)
	for _, n := range []int{0, 1, 3, 9, 33, maxSdu} {
		for _, kind := range []int{api.Ui, api.Test, api.Xid} {
			for _, to := range []int{5, 253, 255} {
				list := lists(plain.Hear(s, peer, u(kind, to, 6, false, true, row(n)...)))
				if len(list) < len(heardAt[to]) {
					t.Errorf("kind %d to %d: %d lists", kind, to, len(list))
				}
				wantApart(t, fmt.Sprintf("kind %d to %d of %d bytes", kind, to, n), list)
			}
		}
	}
}

// wantApart writes each list's bytes and spare room full with its number: each must keep its own.
func wantApart(t *testing.T, what string, lists [][]byte) {
	t.Helper()
	for i, l := range lists {
		whole := l[:cap(l)]
		for at := range whole {
			whole[at] = byte(i)
		}
	}
	for i, l := range lists {
		for _, x := range l[:cap(l)] {
			if x != byte(i) {
				t.Errorf("%s: lists %d and %d share memory", what, i, x)
				break
			}
		}
	}
}

// R4, R5: what was answered stays as it was, and what is done with it changes nothing later.
func TestAnswersStay(t *testing.T) {
	s := four(t)
	p := u(api.Xid, 255, 6, false, true, 1, 2, 3)
	_, first := plain.Hear(s, peer, p)
	kept := fmt.Sprint(first)
	_, second := plain.Hear(s, peer, p)
	for i := range second {
		spoil(second[i].Info, 99)
		second[i] = api.Pdu{}
	}
	if fmt.Sprint(first) != kept {
		t.Errorf("what was answered has changed: %v, was %v", first, kept)
	}
	_, third := plain.Hear(s, peer, p)
	wantPdus(t, "again", third, responses(api.Xid, 255, true, nil)...)
	one, _ := plain.AskXid(4, 8, 16)
	spoil(one.Info, 99)
	two, _ := plain.AskXid(4, 8, 16)
	wantPdu(t, "AskXid again", two, u(api.Xid, 8, 4, false, true, 129, 7, 32))
}

// What is asked of a Saps changes nothing in it.
func TestSapsStay(t *testing.T) {
	s := four(t)
	was := state(s)
	for form := -1; form < 4; form++ {
		for kind := -1; kind < 11; kind++ {
			for to := range 256 {
				for _, response := range []bool{false, true} {
					plain.Hear(s, peer, api.Pdu{To: to, From: 6, Form: form, Kind: kind, Response: response, Poll: true, Info: []byte{129, 7, 32}})
				}
			}
		}
	}
	if now := state(s); now != was {
		t.Errorf("Hear changed something:\n%s\nwas:\n%s", now, was)
	}
}

// R5: the order in which SAPs were opened is not seen, nor what else was heard.
func TestOrderIsNotSeen(t *testing.T) {
	list := []int{2, 4, 8, 16, 32, 64, 128, 254}
	want := []api.Pdu{u(api.Test, 6, 0, true, false, 1)}
	for _, sap := range list {
		want = append(want, u(api.Test, 6, sap, true, false, 1))
	}
	for turn := range list {
		s := saps.New()
		for i := range list {
			sap := list[(turn+i*3)%len(list)]
			wantErr(t, "Open", s.Open(sap, 1+i%4), api.OK)
			wantErr(t, "Join", s.Join(sap, 7), api.OK)
			plain.Hear(s, other, u(api.Test, 255, 8, false, true, 9))
		}
		_, sent := plain.Hear(s, peer, u(api.Test, 255, 6, false, false, 1))
		wantPdus(t, "to all", sent, want...)
		_, sent = plain.Hear(s, peer, u(api.Test, 7, 6, false, false, 1))
		wantPdus(t, "to a group", sent, want[1:]...)
	}
}

// R1: every call ends well, whatever numbers and lists it is handed.
func TestAnyNumbersEndWell(t *testing.T) {
	some := append(slices.Clone(far), 0, 1, 2, 3, 4, 5, 8, 253, 254, 255)
	s := four(t)
	for _, a := range some {
		for _, b := range some {
			for _, info := range [][]byte{nil, {1}, row(3), row(maxSdu + 20)} {
				plain.Unit(a, b, info)
				plain.AskTest(a, b, info)
				plain.AskXid(a, b, a)
				for kind := -1; kind < 11; kind++ {
					p := api.Pdu{To: a, From: b, Response: len(info) == 3, Form: api.FormU, Kind: kind, Poll: kind%2 == 0, Info: info}
					told, sent := plain.Hear(s, peer, p)
					if !pdu.May(p) && len(told)+len(sent) > 0 {
						t.Errorf("%s: %v %v", text(p), told, sent)
					}
					for _, r := range sent {
						if !pdu.May(r) {
							t.Errorf("%s: sent %s, which may not be", text(p), text(r))
						}
					}
				}
				plain.Hear(s, peer, api.Pdu{To: a, From: b, Form: b, Kind: a, Ns: a, Nr: b, Info: info})
				plain.Hear(nil, other, api.Pdu{To: a, From: a, Form: a, Kind: b, Ns: b, Nr: a, Info: info})
			}
		}
	}
}
