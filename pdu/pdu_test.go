package pdu_test

import (
	"bytes"
	"math"
	"slices"
	"testing"

	"antiphon/api"
	"antiphon/pdu"
)

const mostBehind = 1040 // MaxSdu + 16

// sort is what the chapter says of PDUs of one kind.
type sort struct {
	name                     string
	form, kind               int
	code                     int // the control's first byte, without N(S) and P/F
	command, response, group bool
	ns, nr                   bool // may they be above 0?
	least, most              int  // bytes behind
}

func sorts() []sort {
	return []sort{
		{"I", api.FormI, 0, 0, true, true, false, true, true, 0, mostBehind},
		{"Rr", api.FormS, api.Rr, 1, true, true, false, false, true, 0, 0},
		{"Rnr", api.FormS, api.Rnr, 5, true, true, false, false, true, 0, 0},
		{"Rej", api.FormS, api.Rej, 9, true, true, false, false, true, 0, 0},
		{"Ui", api.FormU, api.Ui, 0x03, true, false, true, false, false, 0, mostBehind},
		{"Xid", api.FormU, api.Xid, 0xAF, true, true, true, false, false, 0, mostBehind},
		{"Test", api.FormU, api.Test, 0xE3, true, true, true, false, false, 0, mostBehind},
		{"Sabme", api.FormU, api.Sabme, 0x6F, true, false, false, false, false, 4, 4},
		{"Disc", api.FormU, api.Disc, 0x43, true, false, false, false, false, 4, 4},
		{"Ua", api.FormU, api.Ua, 0x63, false, true, false, false, false, 4, 4},
		{"Dm", api.FormU, api.Dm, 0x0F, false, true, false, false, false, 4, 4},
		{"Frmr", api.FormU, api.Frmr, 0x87, false, true, false, false, false, 5, 5},
		{"Ac0", api.FormU, api.Ac0, 0x67, true, true, false, false, false, 0, mostBehind},
		{"Ac1", api.FormU, api.Ac1, 0xE7, true, true, false, false, false, 0, mostBehind},
	}
}

func (s sort) inRole(response bool) bool {
	return response && s.response || !response && s.command
}

// plain is one of that kind that may be, if the kind may be in that role: from 8 to 4, its numbers 0.
func (s sort) plain(response bool) api.Pdu {
	return api.Pdu{To: 4, From: 8, Response: response, Form: s.form, Kind: s.kind, Info: pattern(s.least, s.code)}
}

// lengths are those of what stands behind that may make a difference to this kind.
func (s sort) lengths() []int {
	if s.most == s.least {
		return []int{s.least}
	}
	return []int{0, 1, 2, 3, 4, 5, 6, 100, 255, 256, 1023, 1024, 1025, 1039, mostBehind}
}

// numbers are the pairs of N(S) and N(R) that may be, of many.
func (s sort) numbers() [][2]int {
	var list [][2]int
	for _, ns := range []int{0, 1, 2, 63, 64, 65, 126, 127} {
		for _, nr := range []int{0, 1, 2, 31, 64, 126, 127} {
			if (s.ns || ns == 0) && (s.nr || nr == 0) {
				list = append(list, [2]int{ns, nr})
			}
		}
	}
	return list
}

func roles() []bool {
	return []bool{false, true}
}

// saps are pairs of the bytes that tell To and From: each one beside some.
func saps() [][2]int {
	var list [][2]int
	for one := range 256 {
		for _, other := range []int{0, 1, 8, 9, 127, 254, 255} {
			list = append(list, [2]int{one, other}, [2]int{other, one})
		}
	}
	return list
}

// pattern is a row of so many bytes that look like no rule; each seed has another one.
func pattern(n, seed int) []byte {
	b := make([]byte, n)
	s := uint32(seed)*2654435761 + 12345
	for i := range b {
		s = s*1664525 + 1013904223
		b[i] = byte(s >> 24)
	}
	return b
}

// eachInRole tells of each kind, as a command and as a response, with P/F and without, as far as it may be.
func eachInRole(yield func(sort, api.Pdu) bool) {
	for _, s := range sorts() {
		for _, response := range roles() {
			for _, poll := range roles() {
				p := s.plain(response)
				p.Poll = poll
				if s.inRole(response) && !yield(s, p) {
					return
				}
			}
		}
	}
}

// each tells of many PDUs that may be, each of them once: of each kind, in each role, of many numbers and lengths, from and to many SAPs.
func each(yield func(sort, api.Pdu) bool) {
	for s, p := range eachInRole {
		for _, numbers := range s.numbers() {
			for i, length := range s.lengths() {
				p.Ns, p.Nr = numbers[0], numbers[1]
				p.To, p.From = 2*((i*37+p.Ns)%128), 2*((i*53+p.Nr)%128)
				p.Info = pattern(length, i)
				if s.group && i%2 == 1 {
					p.To++
				}
				if !yield(s, p) {
					return
				}
			}
		}
	}
}

// line is p's bytes, laid out by the chapter's table.
func line(s sort, p api.Pdu) []byte {
	one := func(is bool) int {
		if is {
			return 1
		}
		return 0
	}
	b := []byte{byte(p.To), byte(p.From + one(p.Response))}
	switch p.Form {
	case api.FormI:
		b = append(b, byte(2*p.Ns), byte(2*p.Nr+one(p.Poll)))
	case api.FormS:
		b = append(b, byte(1+4*p.Kind), byte(2*p.Nr+one(p.Poll)))
	case api.FormU:
		b = append(b, byte(s.code+16*one(p.Poll)))
	}
	return append(b, p.Info...)
}

// may is P6.1, by the table above.
func may(p api.Pdu) bool {
	for _, s := range sorts() {
		if s.form == p.Form && s.kind == p.Kind {
			return s.inRole(p.Response) && len(p.Info) >= s.least && len(p.Info) <= s.most &&
				p.To >= 0 && p.To <= 255 && (s.group || p.To%2 == 0) &&
				p.From >= 0 && p.From <= 254 && p.From%2 == 0 &&
				p.Ns >= 0 && p.Ns <= 127 && (s.ns || p.Ns == 0) &&
				p.Nr >= 0 && p.Nr <= 127 && (s.nr || p.Nr == 0)
		}
	}
	return false
}

// told is P6.2's Decode: by all the controls that there are, written out.
func told(b []byte) (api.Pdu, api.Errno) {
	if len(b) < 3 || len(b) < 4 && b[2]%4 != 3 {
		return api.Pdu{}, api.ErrShort
	}
	p := api.Pdu{To: int(b[0]), From: int(b[1]) / 2 * 2, Response: b[1]%2 == 1}
	for _, s := range sorts() {
		p.Form, p.Kind = s.form, s.kind
		switch {
		case s.form == api.FormI && b[2]%2 == 0:
			p.Ns, p.Nr, p.Poll, p.Info = int(b[2])/2, int(b[3])/2, b[3]%2 == 1, b[4:]
		case s.form == api.FormS && int(b[2]) == s.code:
			p.Nr, p.Poll, p.Info = int(b[3])/2, b[3]%2 == 1, b[4:]
		case s.form == api.FormU && (int(b[2]) == s.code || int(b[2]) == s.code+16):
			p.Poll, p.Info = int(b[2]) == s.code+16, b[3:]
		default:
			continue
		}
		if may(p) {
			return p, api.OK
		}
		break
	}
	return api.Pdu{}, api.ErrForm
}

// alike holds all fields against one another, and takes nil and an empty list as one (R4).
func alike(a, b api.Pdu) bool {
	same := bytes.Equal(a.Info, b.Info)
	numbers := func(p api.Pdu) [6]int { return [6]int{p.To, p.From, p.Form, p.Kind, p.Ns, p.Nr} }
	return same && numbers(a) == numbers(b) && a.Response == b.Response && a.Poll == b.Poll
}

// wantMay holds May, and Encode's error, against the same answer.
func wantMay(t *testing.T, what string, p api.Pdu, want bool) {
	t.Helper()
	if pdu.May(p) != want {
		t.Errorf("%s: May(%+v): %v", what, p, !want)
	}
	b, e := pdu.Encode(p)
	if want && e != api.OK || !want && (e != api.ErrArg || len(b) != 0) {
		t.Errorf("%s: Encode(%+v): %v, %v", what, p, b, e)
	}
}

func wantEncode(t *testing.T, what string, p api.Pdu, want []byte) {
	t.Helper()
	if got, e := pdu.Encode(p); e != api.OK || !bytes.Equal(got, want) {
		t.Errorf("%s: Encode(%+v): %v, %v, want %v", what, p, got, e, want)
	}
}

func wantDecode(t *testing.T, what string, b []byte, want api.Pdu) {
	t.Helper()
	if got, e := pdu.Decode(b); e != api.OK || !alike(got, want) {
		t.Errorf("%s: Decode(%v): %+v, %v, want %+v", what, b, got, e, want)
	}
}

func wantNoDecode(t *testing.T, what string, b []byte, want api.Errno) {
	t.Helper()
	if got, e := pdu.Decode(b); e != want || !alike(got, api.Pdu{}) {
		t.Errorf("%s: Decode(%v): %+v, %v, want zero, %v", what, b, got, e, want)
	}
}

// wantTold holds Decode against what the chapter's words say of b.
func wantTold(t *testing.T, b []byte) {
	t.Helper()
	want, wantError := told(b)
	if got, e := pdu.Decode(b); e != wantError || !alike(got, want) {
		t.Errorf("Decode(%v): %+v, %v, want %+v, %v", b, got, e, want, wantError)
	}
}

func wantBytes(t *testing.T, what string, got, want []byte) {
	t.Helper()
	if !bytes.Equal(got, want) {
		t.Errorf("%s: %v, want %v", what, got, want)
	}
}

// far are numbers that nothing of a PDU may be, some of which are small ones once bits are cut off.
func far() []int {
	return []int{math.MinInt, math.MinInt + 1, math.MinInt + 4, -1 << 32, -65536, -256, -255, -129, -128, -127, 257, 258, 260, 511, 512, 516, 65536, 65540, 1 << 31, 1 << 32, 1<<32 + 4, math.MaxInt - 1, math.MaxInt}
}

// spoil writes over a list and its spare room.
func spoil(b []byte) {
	b = b[:cap(b)]
	for i := range b {
		b[i] ^= 0xEE
	}
}

func TestChapterExamples(t *testing.T) {
	p := api.Pdu{To: 4, From: 8, Form: api.FormI, Ns: 1, Nr: 2, Poll: true, Info: []byte{9}}
	wantEncode(t, "I", p, []byte{4, 8, 2, 5, 9})
	p = api.Pdu{To: 4, From: 8, Response: true, Form: api.FormU, Kind: api.Ua, Info: []byte{0, 0, 0, 1}}
	wantDecode(t, "Ua", []byte{4, 9, 99, 0, 0, 0, 1}, p)
}

// P6.1: May.

func TestMayOfManyThatMayBe(t *testing.T) {
	for s, p := range each {
		wantMay(t, s.name, p, true)
	}
}

func TestMayTo(t *testing.T) {
	for s, p := range eachInRole {
		for to := -300; to <= 600; to++ {
			p.To = to
			wantMay(t, s.name+": To", p, to >= 0 && to <= 255 && (s.group || to%2 == 0))
		}
		for _, p.To = range far() {
			wantMay(t, s.name+": a far To", p, false)
		}
	}
}

func TestMayToByHand(t *testing.T) {
	odd := map[string]bool{"Ui": true, "Xid": true, "Test": true}
	for s, p := range eachInRole {
		for _, to := range []int{1, 3, 127, 253, 255} {
			p.To = to
			wantMay(t, s.name+": an odd To", p, odd[s.name])
		}
		for _, to := range []int{0, 2, 4, 128, 254} {
			p.To = to
			wantMay(t, s.name+": an even To", p, true)
		}
		for _, to := range []int{-2, -1, 256, 257} {
			p.To = to
			wantMay(t, s.name+": no To", p, false)
		}
	}
}

func TestMayFrom(t *testing.T) {
	for s, p := range eachInRole {
		for from := -300; from <= 600; from++ {
			p.From = from
			wantMay(t, s.name+": From", p, from >= 0 && from <= 254 && from%2 == 0)
		}
		for _, p.From = range far() {
			wantMay(t, s.name+": a far From", p, false)
		}
	}
}

func TestMayForm(t *testing.T) {
	for _, s := range sorts() {
		for _, response := range roles() {
			p := s.plain(response)
			for _, form := range append(far(), -3, -2, -1, 3, 4, 5, 6, 7) {
				p.Form = form
				wantMay(t, s.name+": no form", p, false)
			}
		}
	}
}

// As command and as response, with each length that a kind may ask for: a kind that there is not may be in no way.
func TestMayKind(t *testing.T) {
	kinds := map[int]int{api.FormI: 1, api.FormS: 3, api.FormU: 10}
	for form, count := range kinds {
		for _, kind := range append(far(), -3, -2, -1, count, count+1, count+2, 11, 12, 127, 128, 175, 255, 256) {
			for length := range 7 {
				for _, response := range roles() {
					p := api.Pdu{To: 4, From: 8, Response: response, Form: form, Kind: kind, Info: make([]byte, length)}
					wantMay(t, "no kind", p, false)
				}
			}
		}
	}
}

func TestMayNsAndNr(t *testing.T) {
	for s, p := range eachInRole {
		for n := -300; n <= 600; n++ {
			within := n >= 0 && n <= 127
			p.Ns, p.Nr = n, 0
			wantMay(t, s.name+": Ns", p, n == 0 || within && s.ns)
			p.Ns, p.Nr = 0, n
			wantMay(t, s.name+": Nr", p, n == 0 || within && s.nr)
		}
		for _, n := range append(far(), -1, 128) {
			p.Ns, p.Nr = n, 0
			wantMay(t, s.name+": a far Ns", p, false)
			p.Ns, p.Nr = 0, n
			wantMay(t, s.name+": a far Nr", p, false)
		}
	}
}

func TestMayEachPairOfNumbers(t *testing.T) {
	for s, p := range eachInRole {
		for ns := -1; ns <= 128; ns++ {
			for nr := -1; nr <= 128; nr++ {
				p.Ns, p.Nr = ns, nr
				want := (ns == 0 || s.ns && ns > 0 && ns < 128) && (nr == 0 || s.nr && nr > 0 && nr < 128)
				if pdu.May(p) != want {
					t.Errorf("%s: Ns %d, Nr %d: %v", s.name, ns, nr, !want)
				}
			}
		}
	}
}

func TestMayBehind(t *testing.T) {
	for s, p := range eachInRole {
		for n := range 1100 {
			p.Info = make([]byte, n)
			want := n <= mostBehind
			switch s.name {
			case "Rr", "Rnr", "Rej":
				want = n == 0
			case "Sabme", "Disc", "Ua", "Dm":
				want = n == 4
			case "Frmr":
				want = n == 5
			}
			wantMay(t, s.name+": so many behind", p, want)
		}
		p.Info = make([]byte, 70000)
		wantMay(t, s.name+": far too many behind", p, false)
	}
}

func TestMayOfNilAndOfAnEmptyList(t *testing.T) {
	for s, p := range eachInRole {
		for _, p.Info = range [][]byte{nil, {}, make([]byte, 0, 4)} {
			wantMay(t, s.name+": nothing behind", p, s.least == 0)
		}
	}
}

func TestMayAsAResponseAndAsNone(t *testing.T) {
	commandsOnly := []string{"Ui", "Sabme", "Disc"}
	responsesOnly := []string{"Ua", "Dm", "Frmr"}
	for _, s := range sorts() {
		for _, poll := range roles() {
			p := s.plain(false)
			p.Poll = poll
			wantMay(t, s.name+": a command", p, !slices.Contains(responsesOnly, s.name))
			p.Response = true
			wantMay(t, s.name+": a response", p, !slices.Contains(commandsOnly, s.name))
		}
	}
}

// dice are rolled the same way in each run.
type dice uint32

func (d *dice) roll(n int) int {
	*d = *d*1664525 + 1013904223
	return int(uint64(*d) * uint64(n) >> 32)
}

func (d *dice) oneOf(l []int) int {
	return l[d.roll(len(l))]
}

// anyPdu is one that may be, or that has some faults at once.
func (d *dice) anyPdu() api.Pdu {
	all := sorts()
	s := all[d.roll(len(all))]
	p := s.plain(d.roll(2) == 1)
	p.Poll = d.roll(2) == 1
	lengths := s.lengths()
	p.Info = pattern(lengths[d.roll(len(lengths))], d.roll(99))
	for range d.roll(4) {
		switch d.roll(7) {
		case 0:
			p.To = d.oneOf([]int{-1, 0, 1, 2, 3, 254, 255, 256})
		case 1:
			p.From = d.oneOf([]int{-2, 0, 1, 2, 254, 255, 256})
		case 2:
			p.Form = d.oneOf([]int{-1, 0, 1, 2, 3})
		case 3:
			p.Kind = d.oneOf([]int{-1, 0, 1, 2, 3, 4, 5, 6, 7, 8, 9, 10})
		case 4:
			p.Ns = d.oneOf([]int{-1, 0, 1, 127, 128})
		case 5:
			p.Nr = d.oneOf([]int{-1, 0, 1, 127, 128})
		case 6:
			p.Info = pattern(d.oneOf([]int{0, 3, 4, 5, 6, 1039, 1040, 1041}), d.roll(99))
		}
	}
	return p
}

func TestMayOfSeveralFaults(t *testing.T) {
	var d dice
	counts := map[bool]int{}
	for range 50000 {
		p := d.anyPdu()
		counts[may(p)]++
		wantMay(t, "by dice", p, may(p))
	}
	if counts[true] < 5000 || counts[false] < 5000 {
		t.Errorf("the dice tell too little: %v", counts)
	}
}

// P6.2: Code.

func TestCode(t *testing.T) {
	want := map[int]int{api.Ui: 3, api.Xid: 175, api.Test: 227, api.Sabme: 111, api.Disc: 67, api.Ua: 99, api.Dm: 15, api.Frmr: 135, api.Ac0: 103, api.Ac1: 231}
	for kind := -300; kind <= 600; kind++ {
		if got := pdu.Code(kind); got != want[kind] {
			t.Errorf("Code(%d): %d, want %d", kind, got, want[kind])
		}
	}
	for _, kind := range far() {
		if got := pdu.Code(kind); got != 0 {
			t.Errorf("Code(%d): %d", kind, got)
		}
	}
}

// P6.2: Encode.

func TestEncodeOfMany(t *testing.T) {
	for s, p := range each {
		wantEncode(t, s.name, p, line(s, p))
	}
}

// Some told without the helper that lays them out.
func TestBothWaysByHand(t *testing.T) {
	number := []byte{1, 2, 3, 4}
	reason := []byte{5, 4, 3, 2, 1}
	for _, c := range []struct {
		b []byte
		p api.Pdu
	}{
		{[]byte{4, 8, 0, 0}, api.Pdu{To: 4, From: 8}},
		{[]byte{254, 255, 254, 255, 7, 7}, api.Pdu{To: 254, From: 254, Response: true, Ns: 127, Nr: 127, Poll: true, Info: []byte{7, 7}}},
		{[]byte{0, 0, 128, 2}, api.Pdu{Ns: 64, Nr: 1}},
		{[]byte{4, 8, 2, 1}, api.Pdu{To: 4, From: 8, Ns: 1, Poll: true}},
		{[]byte{4, 8, 1, 0}, api.Pdu{To: 4, From: 8, Form: api.FormS, Kind: api.Rr}},
		{[]byte{4, 9, 1, 255}, api.Pdu{To: 4, From: 8, Response: true, Form: api.FormS, Kind: api.Rr, Nr: 127, Poll: true}},
		{[]byte{4, 8, 5, 7}, api.Pdu{To: 4, From: 8, Form: api.FormS, Kind: api.Rnr, Nr: 3, Poll: true}},
		{[]byte{4, 8, 9, 6}, api.Pdu{To: 4, From: 8, Form: api.FormS, Kind: api.Rej, Nr: 3}},
		{[]byte{255, 8, 3}, api.Pdu{To: 255, From: 8, Form: api.FormU, Kind: api.Ui}},
		{[]byte{4, 8, 19, 3}, api.Pdu{To: 4, From: 8, Form: api.FormU, Kind: api.Ui, Poll: true, Info: []byte{3}}},
		{[]byte{1, 8, 175, 129, 1, 0}, api.Pdu{To: 1, From: 8, Form: api.FormU, Kind: api.Xid, Info: []byte{129, 1, 0}}},
		{[]byte{4, 9, 191}, api.Pdu{To: 4, From: 8, Response: true, Form: api.FormU, Kind: api.Xid, Poll: true}},
		{[]byte{4, 8, 227, 0}, api.Pdu{To: 4, From: 8, Form: api.FormU, Kind: api.Test, Info: []byte{0}}},
		{[]byte{0, 1, 243}, api.Pdu{Response: true, Form: api.FormU, Kind: api.Test, Poll: true}},
		{[]byte{4, 8, 111, 1, 2, 3, 4}, api.Pdu{To: 4, From: 8, Form: api.FormU, Kind: api.Sabme, Info: number}},
		{[]byte{4, 8, 127, 1, 2, 3, 4}, api.Pdu{To: 4, From: 8, Form: api.FormU, Kind: api.Sabme, Poll: true, Info: number}},
		{[]byte{4, 8, 67, 1, 2, 3, 4}, api.Pdu{To: 4, From: 8, Form: api.FormU, Kind: api.Disc, Info: number}},
		{[]byte{4, 8, 83, 1, 2, 3, 4}, api.Pdu{To: 4, From: 8, Form: api.FormU, Kind: api.Disc, Poll: true, Info: number}},
		{[]byte{4, 9, 115, 1, 2, 3, 4}, api.Pdu{To: 4, From: 8, Response: true, Form: api.FormU, Kind: api.Ua, Poll: true, Info: number}},
		{[]byte{4, 9, 15, 1, 2, 3, 4}, api.Pdu{To: 4, From: 8, Response: true, Form: api.FormU, Kind: api.Dm, Info: number}},
		{[]byte{4, 9, 31, 1, 2, 3, 4}, api.Pdu{To: 4, From: 8, Response: true, Form: api.FormU, Kind: api.Dm, Poll: true, Info: number}},
		{[]byte{4, 9, 135, 5, 4, 3, 2, 1}, api.Pdu{To: 4, From: 8, Response: true, Form: api.FormU, Kind: api.Frmr, Info: reason}},
		{[]byte{4, 9, 151, 5, 4, 3, 2, 1}, api.Pdu{To: 4, From: 8, Response: true, Form: api.FormU, Kind: api.Frmr, Poll: true, Info: reason}},
		{[]byte{4, 8, 103, 8}, api.Pdu{To: 4, From: 8, Form: api.FormU, Kind: api.Ac0, Info: []byte{8}}},
		{[]byte{4, 9, 119}, api.Pdu{To: 4, From: 8, Response: true, Form: api.FormU, Kind: api.Ac0, Poll: true}},
		{[]byte{4, 8, 231}, api.Pdu{To: 4, From: 8, Form: api.FormU, Kind: api.Ac1}},
		{[]byte{4, 9, 247, 0, 0}, api.Pdu{To: 4, From: 8, Response: true, Form: api.FormU, Kind: api.Ac1, Poll: true, Info: []byte{0, 0}}},
	} {
		wantEncode(t, "by hand", c.p, c.b)
		wantDecode(t, "by hand", c.b, c.p)
	}
}

func TestEncodeOfEachSap(t *testing.T) {
	for s, p := range eachInRole {
		for _, pair := range saps() {
			p.To, p.From = pair[0], pair[1]
			if may(p) {
				wantEncode(t, s.name, p, line(s, p))
			}
		}
	}
}

func TestEncodeOfEachNumber(t *testing.T) {
	for s, p := range eachInRole {
		for ns := range 128 {
			for nr := range 128 {
				p.Ns, p.Nr = ns, nr
				if (s.ns || ns == 0) && (s.nr || nr == 0) {
					wantEncode(t, s.name, p, line(s, p))
				}
			}
		}
	}
}

func TestEncodeOfEachLength(t *testing.T) {
	for s, p := range eachInRole {
		for n := s.least; n <= s.most; n++ {
			p.Info = pattern(n, n)
			wantEncode(t, s.name, p, line(s, p))
		}
	}
}

// P6.2: Decode.

func TestDecodeOfMany(t *testing.T) {
	for s, p := range each {
		wantDecode(t, s.name, line(s, p), p)
	}
}

func TestDecodeOfTooFewBytes(t *testing.T) {
	wantNoDecode(t, "nil", nil, api.ErrShort)
	wantNoDecode(t, "none", []byte{}, api.ErrShort)
	for x := range 256 {
		wantNoDecode(t, "one", []byte{byte(x)}, api.ErrShort)
		for _, y := range []byte{0, 1, 3, 99, 254, 255} {
			wantNoDecode(t, "two", []byte{byte(x), y}, api.ErrShort)
			wantNoDecode(t, "two", []byte{y, byte(x)}, api.ErrShort)
		}
	}
}

// Of I and S, right or wrong, three bytes are too few: ErrShort is named ahead of ErrForm.
func TestDecodeOfThreeBytes(t *testing.T) {
	for x := range 256 {
		for _, ahead := range [][]byte{{4, 8}, {4, 9}, {0, 0}, {255, 255}, {5, 8}, {1, 9}} {
			b := append(slices.Clip(ahead), byte(x))
			switch {
			case x%2 == 0, x%4 == 1:
				wantNoDecode(t, "I or S", b, api.ErrShort)
			default:
				wantTold(t, b)
			}
		}
	}
	whole := []string{"Ui", "Xid", "Test", "Ac0", "Ac1"}
	for s, p := range eachInRole {
		b := line(s, p)[:3]
		switch {
		case s.form != api.FormU:
			wantNoDecode(t, s.name, b, api.ErrShort)
		case slices.Contains(whole, s.name):
			wantDecode(t, s.name, b, p)
		default:
			wantNoDecode(t, s.name, b, api.ErrForm)
		}
	}
}

// Of all 256 control bytes: the codes, with P/F and without, and no others are U.
func TestDecodeOfEachControlByte(t *testing.T) {
	for x := range 256 {
		for _, ahead := range [][]byte{{4, 8}, {4, 9}, {7, 8}, {7, 9}, {0, 0}, {255, 255}} {
			for behind := range 10 {
				wantTold(t, slices.Concat(ahead, []byte{byte(x)}, pattern(behind, x)))
				wantTold(t, slices.Concat(ahead, []byte{byte(x)}, make([]byte, behind)))
			}
		}
	}
}

func TestDecodeOfControlsThatThereAreNot(t *testing.T) {
	codes := map[int]bool{}
	for _, s := range sorts() {
		codes[s.code] = true
		codes[s.code+16] = s.form == api.FormU
	}
	for x := 1; x < 256; x += 2 {
		for behind := 1; behind < 10; behind++ {
			for _, from := range []byte{8, 9} {
				b := append([]byte{4, from, byte(x)}, make([]byte, behind)...)
				if !codes[x] {
					wantNoDecode(t, "no such control", b, api.ErrForm)
				}
			}
		}
	}
}

func TestDecodeOfEachPairOfControlBytes(t *testing.T) {
	for x := range 256 {
		for y := range 256 {
			for _, from := range []byte{8, 9} {
				wantTold(t, []byte{4, from, byte(x), byte(y)})
				wantTold(t, []byte{4, from, byte(x), byte(y), 1})
				wantTold(t, []byte{4, from, byte(x), byte(y), 1, 2, 3})
				wantTold(t, []byte{4, from, byte(x), byte(y), 1, 2, 3, 4})
				wantTold(t, []byte{5, from, byte(x), byte(y)})
			}
		}
	}
}

func TestDecodeOfAWrongS(t *testing.T) {
	for y := range 256 {
		for _, from := range []byte{8, 9} {
			wantNoDecode(t, "kind 3", []byte{4, from, 13, byte(y)}, api.ErrForm)
			for kind := range 3 {
				first := byte(1 + 4*kind)
				for bit := 4; bit < 8; bit++ {
					wantNoDecode(t, "another bit", []byte{4, from, first | 1<<bit, byte(y)}, api.ErrForm)
				}
				wantNoDecode(t, "one behind", []byte{4, from, first, byte(y), 0}, api.ErrForm)
				wantNoDecode(t, "many behind", append([]byte{4, from, first, byte(y)}, pattern(1040, y)...), api.ErrForm)
				wantNoDecode(t, "to a group", []byte{5, from, first, byte(y)}, api.ErrForm)
			}
		}
	}
}

func TestDecodeOfEachSap(t *testing.T) {
	for s, p := range eachInRole {
		control := line(s, p)[2:]
		for _, pair := range saps() {
			wantTold(t, append([]byte{byte(pair[0]), byte(pair[1])}, control...))
		}
	}
}

func TestDecodeInTheWrongRole(t *testing.T) {
	for s, p := range eachInRole {
		b := line(s, p)
		b[1] ^= 1
		p.Response = !p.Response
		if s.inRole(p.Response) {
			wantDecode(t, s.name, b, p)
		} else {
			wantNoDecode(t, s.name, b, api.ErrForm)
		}
	}
}

func TestDecodeOfEachLengthBehind(t *testing.T) {
	for s, p := range eachInRole {
		for n := range 1100 {
			p.Info = pattern(n, n)
			b := line(s, p)
			if n >= s.least && n <= s.most {
				wantDecode(t, s.name, b, p)
			} else {
				wantNoDecode(t, s.name, b, api.ErrForm)
			}
		}
		p.Info = pattern(1<<20, 1)
		wantNoDecode(t, s.name, line(s, p), api.ErrForm)
	}
}

func TestDecodeOfBytesByDice(t *testing.T) {
	var d dice
	for i := range 50000 {
		b := pattern(d.roll(12), i)
		wantTold(t, b)
	}
}

// P6.2: Same.

// others are p with one field other than it is: each field in turn, in some ways.
func others(p api.Pdu) []api.Pdu {
	var list []api.Pdu
	with := func(change func(q *api.Pdu)) {
		q := p
		q.Info = bytes.Clone(p.Info)
		change(&q)
		list = append(list, q)
	}
	for _, step := range []int{-1, 1, 2, 128, 256, 65536, 1 << 32} {
		with(func(q *api.Pdu) { q.To += step })
		with(func(q *api.Pdu) { q.From += step })
		with(func(q *api.Pdu) { q.Form += step })
		with(func(q *api.Pdu) { q.Kind += step })
		with(func(q *api.Pdu) { q.Ns += step })
		with(func(q *api.Pdu) { q.Nr += step })
	}
	with(func(q *api.Pdu) { q.Response = !q.Response })
	with(func(q *api.Pdu) { q.Poll = !q.Poll })
	with(func(q *api.Pdu) { q.Info = append(q.Info, 0) })
	with(func(q *api.Pdu) { q.Info = append([]byte{0}, q.Info...) })
	if len(p.Info) == 0 {
		return list
	}
	for _, at := range []int{0, len(p.Info) / 2, len(p.Info) - 1} {
		for bit := range 8 {
			with(func(q *api.Pdu) { q.Info[at] ^= 1 << bit })
		}
	}
	with(func(q *api.Pdu) { q.Info = q.Info[:len(q.Info)-1] })
	with(func(q *api.Pdu) { q.Info = nil })
	return list
}

func wantSame(t *testing.T, what string, a, b api.Pdu, want bool) {
	t.Helper()
	if pdu.Same(a, b) != want || pdu.Same(b, a) != want {
		t.Errorf("%s: Same(%+v, %+v): %v, %v", what, a, b, pdu.Same(a, b), pdu.Same(b, a))
	}
}

func TestSame(t *testing.T) {
	for s, p := range eachInRole {
		for _, length := range []int{0, 1, 2, 4, 5, 1040, 2000} {
			p.Ns, p.Nr, p.Info = 3, 5, pattern(length, s.code)
			q := p
			q.Info = bytes.Clone(p.Info)
			wantSame(t, s.name, p, p, true)
			wantSame(t, s.name+": a copy", p, q, true)
			for _, q := range others(p) {
				wantSame(t, s.name+": one field", p, q, false)
			}
		}
	}
}

// Two that may not be are held against one another like others.
func TestSameOfThoseThatMayNotBe(t *testing.T) {
	for _, p := range []api.Pdu{{To: -1}, {From: 1}, {Form: 9}, {Kind: -1}, {Ns: 128, Nr: -1}, {Form: api.FormU, Kind: api.Sabme}, {Info: make([]byte, 2000)}} {
		wantSame(t, "with itself", p, p, true)
		for _, q := range others(p) {
			wantSame(t, "one field", p, q, false)
		}
	}
	wantSame(t, "zero", api.Pdu{}, api.Pdu{}, true)
	wantSame(t, "two that are refused", api.Pdu{To: -1}, api.Pdu{To: -2}, false)
}

func TestSameOfNilAndAnEmptyList(t *testing.T) {
	empty := []api.Pdu{{To: 4}, {To: 4, Info: []byte{}}, {To: 4, Info: make([]byte, 0, 9)}, {To: 4, Info: []byte{1, 2}[:0]}}
	for _, p := range empty {
		for _, q := range empty {
			wantSame(t, "nothing behind", p, q, true)
		}
	}
	wantSame(t, "a nought is a byte", api.Pdu{Info: []byte{0}}, api.Pdu{}, false)
}

// P6.3: there and back.

func TestDecodeOfEncode(t *testing.T) {
	for s, p := range each {
		b, e := pdu.Encode(p)
		if e != api.OK {
			t.Fatalf("%s: Encode: %v", s.name, e)
		}
		wantDecode(t, s.name, b, p)
		if q, _ := pdu.Decode(b); !pdu.Same(p, q) {
			t.Errorf("%s: Same(%+v, %+v): false", s.name, p, q)
		}
	}
}

func TestDecodeOfEncodeByDice(t *testing.T) {
	var d dice
	for range 50000 {
		p := d.anyPdu()
		if b, e := pdu.Encode(p); e == api.OK {
			wantDecode(t, "by dice", b, p)
		}
	}
}

// wantBack says whether b was one that Decode takes.
func wantBack(t *testing.T, b []byte) bool {
	t.Helper()
	p, e := pdu.Decode(b)
	if e != api.OK {
		return false
	}
	wantEncode(t, "and back", p, b)
	return true
}

func TestEncodeOfDecode(t *testing.T) {
	taken := 0
	for x := range 256 {
		for y := range 256 {
			for _, ahead := range [][]byte{{4, 8}, {4, 9}, {255, 254}, {255, 255}} {
				for behind := range 5 {
					if wantBack(t, slices.Concat(ahead, []byte{byte(x), byte(y)}, pattern(behind, x))) {
						taken++
					}
				}
			}
		}
	}
	if taken < 100000 {
		t.Errorf("only %d of them were taken", taken)
	}
	for x := range 256 {
		for _, y := range []byte{0, 8, 9, 255} {
			wantBack(t, []byte{byte(x), y, 3})
			wantBack(t, []byte{y, byte(x), 175})
			wantBack(t, []byte{y, byte(x), 0, 0})
		}
	}
	wantBack(t, append([]byte{4, 8, 0, 0}, pattern(1040, 1)...))
	wantBack(t, append([]byte{4, 8, 3}, pattern(1040, 2)...))
}

func TestUnlikePdusHaveUnlikeBytes(t *testing.T) {
	seen := map[string]api.Pdu{}
	tell := func(p api.Pdu) {
		b, e := pdu.Encode(p)
		if q, there := seen[string(b)]; e == api.OK && there && !alike(p, q) {
			t.Errorf("%+v and %+v: %v", p, q, b)
		}
		if e == api.OK {
			seen[string(b)] = p
		}
	}
	count := 0
	for _, p := range each {
		tell(p)
		count++
	}
	if len(seen) != count {
		t.Errorf("%d PDUs have %d rows of bytes", count, len(seen))
	}
	for _, p := range eachInRole {
		for _, q := range others(p) {
			tell(q)
		}
	}
}

// R4, R5: lists and what they share; nothing is kept.

func TestEncodeChangesAndKeepsNothingThatWasHandedIn(t *testing.T) {
	for s, p := range each {
		whole := append(slices.Clip(p.Info), pattern(9, 9)...)
		before := bytes.Clone(whole)
		p.Info = whole[:len(p.Info)]
		want := line(s, p)
		b, _ := pdu.Encode(p)
		pdu.May(p)
		pdu.Same(p, p)
		wantBytes(t, "what was handed in, its spare room too", whole, before)
		other, _ := pdu.Encode(p)
		spoil(other)
		wantBytes(t, "what was handed in, when an answer is written over", whole, before)
		spoil(whole)
		wantBytes(t, "an answer, when all else is written over", b, want)
	}
}

func TestRefusedEncodeChangesNothing(t *testing.T) {
	whole := pattern(2000, 3)
	before := bytes.Clone(whole)
	for _, n := range []int{0, 3, 4, 1040, 1041} {
		wantMay(t, "no From", api.Pdu{From: 1, Info: whole[:n]}, false)
		wantMay(t, "no form", api.Pdu{Form: 3, Info: whole[:n]}, false)
	}
	wantBytes(t, "what was handed in", whole, before)
}

func TestDecodeChangesAndKeepsNothingThatWasHandedIn(t *testing.T) {
	for s, p := range each {
		b := line(s, p)
		whole := append(slices.Clip(b), 1, 2, 3)
		before := bytes.Clone(whole)
		got, _ := pdu.Decode(whole[:len(b)])
		wantBytes(t, "what was handed in, its spare room too", whole, before)
		other, _ := pdu.Decode(whole[:len(b)])
		spoil(other.Info)
		wantBytes(t, "what was handed in, when an answer is written over", whole, before)
		spoil(whole)
		if !alike(got, p) {
			t.Errorf("%s: when all else is written over: %+v, want %+v", s.name, got, p)
		}
	}
}

func TestRefusedDecodeChangesNothing(t *testing.T) {
	whole := []byte{5, 8, 0, 0, 1, 2, 3}
	before := bytes.Clone(whole)
	for n := range len(whole) {
		pdu.Decode(whole[:n])
	}
	wantBytes(t, "what was handed in", whole, before)
}

func TestNothingIsKeptFromCallToCall(t *testing.T) {
	for range 3 {
		for s, p := range eachInRole {
			wantEncode(t, s.name, p, line(s, p))
			wantMay(t, "no kind", api.Pdu{Form: api.FormU, Kind: 10}, false)
			wantDecode(t, s.name, line(s, p), p)
			wantNoDecode(t, "too few", []byte{4, 8}, api.ErrShort)
			wantNoDecode(t, "no such control", []byte{4, 8, 13, 0}, api.ErrForm)
			wantSame(t, s.name, p, p, true)
		}
	}
	if pdu.Code(api.Xid) != 175 || pdu.Code(10) != 0 || pdu.Code(api.Xid) != 175 {
		t.Errorf("Code tells otherwise than it did")
	}
}
