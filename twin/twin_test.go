package twin_test

import (
	"bytes"
	"fmt"
	"math"
	"slices"
	"testing"

	"antiphon/api"
	"antiphon/pdu"
	"antiphon/twin"
)

// Limits are written out: were those of api other ones, the tests would tell.
const (
	maxTries = 100
	maxTicks = 10000
	mostInfo = 1024 + 16
)

// far are numbers that are no tries and no ticks, nor a part of a PDU; in 8, 16 or 32 bits some of them would be.
var far = []int{math.MinInt, math.MinInt + 1, -1 << 32, -1<<32 + 1, -65536 + 1, -256 + 1, -maxTicks, -maxTries, -2, -1,
	65536 + 1, 65536 + 2, 1<<31 + 1, 1<<32 + 1, 1<<32 + 2, math.MaxInt - 1, math.MaxInt}

// check is how many tries of how many ticks.
type check struct {
	tries, wait int
}

// checks are of several tries and ticks, the least and the most among them.
var checks = []check{{1, 1}, {1, 2}, {1, 3}, {1, 50}, {1, maxTicks}, {2, 1}, {2, 2}, {2, 3}, {3, 1}, {3, 2}, {3, 7}, {4, 4}, {5, 3}, {7, 11},
	{2, maxTicks}, {3, maxTicks - 1}, {99, 1}, {99, 2}, {maxTries, 1}, {maxTries, 2}, {maxTries, 13}}

func (c check) ticks() int {
	return c.tries * c.wait
}

func (c check) String() string {
	return fmt.Sprintf("%d tries of %d ticks", c.tries, c.wait)
}

// made is an Idle one.
func (c check) made(t *testing.T) *twin.Twin {
	t.Helper()
	w, e := twin.New(c.tries, c.wait)
	if e != api.OK || w == nil {
		t.Fatalf("New(%d, %d): %v, %v", c.tries, c.wait, w, e)
	}
	return w
}

// asking is one that asks since so many ticks.
func (c check) asking(t *testing.T, ticks int) *twin.Twin {
	t.Helper()
	w := c.made(t)
	wantStart(t, c.String(), w)
	wantTicks(t, c.String(), w, c, 1, ticks)
	return w
}

// question is what is sent: each field of it.
func question() api.Pdu {
	return api.Pdu{To: 0, From: 0, Response: false, Form: api.FormU, Kind: api.Test, Ns: 0, Nr: 0, Poll: true}
}

// answer is what is heard of another one of the address, with these bytes behind it.
func answer(info ...byte) api.Pdu {
	return api.Pdu{To: 0, From: 0, Response: true, Form: api.FormU, Kind: api.Test, Ns: 0, Nr: 0, Poll: true, Info: info}
}

// text tells all fields of a PDU; nil and an empty list are one.
func text(p api.Pdu) string {
	return fmt.Sprintf("to %d from %d response %v form %d kind %d ns %d nr %d poll %v info %x", p.To, p.From, p.Response, p.Form, p.Kind, p.Ns, p.Nr, p.Poll, p.Info)
}

func wantState(t *testing.T, what string, w *twin.Twin, want int) {
	t.Helper()
	if got := w.State(); got != want {
		t.Errorf("%s: State %d, want %d", what, got, want)
	}
}

// wantSent holds what a call answered against the question.
func wantSent(t *testing.T, what string, p api.Pdu, ok bool) {
	t.Helper()
	if !ok || text(p) != text(question()) {
		t.Errorf("%s: %v %s, want true %s", what, ok, text(p), text(question()))
	}
}

// wantNone: nothing is sent, and what is answered beside the false is the zero value (R2).
func wantNone(t *testing.T, what string, p api.Pdu, ok bool) {
	t.Helper()
	if ok || text(p) != text(api.Pdu{}) {
		t.Errorf("%s: %v %s, want false and a zero PDU", what, ok, text(p))
	}
}

func wantStart(t *testing.T, what string, w *twin.Twin) {
	t.Helper()
	p, ok := w.Start()
	wantSent(t, what+": Start", p, ok)
	wantState(t, what+": behind Start", w, twin.Asking)
}

func wantNoStart(t *testing.T, what string, w *twin.Twin) {
	t.Helper()
	before := w.State()
	p, ok := w.Start()
	wantNone(t, what+": Start", p, ok)
	wantState(t, what+": behind a Start that is refused", w, before)
}

// wantTicks lets an Asking one have its ticks from first to last: the one at which a try's ticks are over sends again, but for the last, which ends it.
func wantTicks(t *testing.T, what string, w *twin.Twin, c check, first, last int) {
	t.Helper()
	for tick := first; tick <= last; tick++ {
		where := fmt.Sprintf("%s: tick %d", what, tick)
		p, ok := w.Tick()
		switch {
		case tick == c.ticks():
			wantNone(t, where, p, ok)
			wantState(t, where, w, twin.Alone)
			continue
		case tick%c.wait == 0:
			wantSent(t, where, p, ok)
		default:
			wantNone(t, where, p, ok)
		}
		wantState(t, where, w, twin.Asking)
	}
}

// wantStill: ticks bring nothing, and it stays as it is.
func wantStill(t *testing.T, what string, w *twin.Twin, ticks int) {
	t.Helper()
	before := w.State()
	for tick := range ticks {
		p, ok := w.Tick()
		wantNone(t, fmt.Sprintf("%s: idle tick %d", what, tick+1), p, ok)
	}
	wantState(t, what+": behind idle ticks", w, before)
}

// wantRun is a whole check that hears nothing.
func wantRun(t *testing.T, what string, w *twin.Twin, c check) {
	t.Helper()
	wantStart(t, what, w)
	wantTicks(t, what, w, c, 1, c.ticks())
}

func wantTwo(t *testing.T, what string, w *twin.Twin, p api.Pdu) {
	t.Helper()
	if !w.Hear(p) {
		t.Errorf("%s: Hear of %s: false", what, text(p))
	}
	wantState(t, what+": behind the answer", w, twin.Two)
}

func wantUnheard(t *testing.T, what string, w *twin.Twin, p api.Pdu) {
	t.Helper()
	before := w.State()
	if w.Hear(p) {
		t.Errorf("%s: Hear of %s: true", what, text(p))
	}
	wantState(t, what+": behind Hear", w, before)
}

// The chapter's example.

func TestExample(t *testing.T) {
	w, e := twin.New(1, 2)
	if e != api.OK {
		t.Fatalf("New(1, 2): %v", e)
	}
	p, ok := w.Start()
	wantSent(t, "Start", p, ok)
	p, ok = w.Tick()
	wantNone(t, "the first Tick", p, ok)
	p, ok = w.Tick()
	wantNone(t, "the second Tick", p, ok)
	wantState(t, "behind them", w, twin.Alone)
}

// P14.1: the states.

func TestStatesCount(t *testing.T) {
	for want, got := range []int{twin.Idle, twin.Asking, twin.Alone, twin.Two} {
		if got != want {
			t.Errorf("state %d is %d", want, got)
		}
	}
}

// P14.1: New.

func wantNew(t *testing.T, tries, wait int, taken bool) {
	t.Helper()
	w, e := twin.New(tries, wait)
	switch {
	case taken && (w == nil || e != api.OK):
		t.Errorf("New(%d, %d): %v, %v", tries, wait, w, e)
	case taken:
		wantState(t, fmt.Sprintf("New(%d, %d)", tries, wait), w, twin.Idle)
	case w != nil || e != api.ErrArg:
		t.Errorf("New(%d, %d): %v, %v, want nil, %v", tries, wait, w, e, api.ErrArg)
	}
}

func TestNewOfEachNumberOfTries(t *testing.T) {
	for tries := -300; tries <= 600; tries++ {
		for _, wait := range []int{1, 2, maxTries, maxTries + 1, maxTicks} {
			wantNew(t, tries, wait, tries >= 1 && tries <= maxTries)
		}
	}
	for _, tries := range far {
		wantNew(t, tries, 1, false)
		wantNew(t, tries, maxTicks, false)
	}
}

func TestNewOfEachNumberOfTicks(t *testing.T) {
	for wait := -300; wait <= maxTicks+300; wait++ {
		for _, tries := range []int{1, 2, maxTries} {
			wantNew(t, tries, wait, wait >= 1 && wait <= maxTicks)
		}
	}
	for _, wait := range far {
		wantNew(t, 1, wait, false)
		wantNew(t, maxTries, wait, false)
	}
}

func TestNewByHand(t *testing.T) {
	for _, c := range []struct {
		tries, wait int
		taken       bool
	}{
		{0, 1, false}, {1, 1, true}, {100, 1, true}, {101, 1, false}, {-1, 1, false},
		{1, 0, false}, {1, 10000, true}, {1, 10001, false}, {1, -1, false},
		{0, 0, false}, {-1, -1, false}, {101, 10001, false}, {0, 10001, false}, {101, 0, false}, {100, 10000, true},
	} {
		wantNew(t, c.tries, c.wait, c.taken)
	}
}

func TestNewIsIdle(t *testing.T) {
	for _, c := range checks {
		w := c.made(t)
		wantState(t, c.String(), w, twin.Idle)
		wantStill(t, c.String(), w, 30)
	}
}

// P14.1: what is sent.

func TestWhatIsSent(t *testing.T) {
	w := check{2, 1}.made(t)
	first, _ := w.Start()
	again, _ := w.Tick()
	for what, p := range map[string]api.Pdu{"Start": first, "Tick": again} {
		if p.To != 0 || p.From != 0 {
			t.Errorf("%s: to SAP %d from SAP %d, want 0, 0", what, p.To, p.From)
		}
		if p.Response || !p.Poll {
			t.Errorf("%s: response %v, P %v, want a command with P", what, p.Response, p.Poll)
		}
		if p.Form != api.FormU || p.Kind != api.Test {
			t.Errorf("%s: form %d, kind %d, want a Test", what, p.Form, p.Kind)
		}
		if p.Ns != 0 || p.Nr != 0 || len(p.Info) != 0 {
			t.Errorf("%s: numbers %d, %d, bytes %v", what, p.Ns, p.Nr, p.Info)
		}
		b, e := pdu.Encode(p)
		if e != api.OK || !bytes.Equal(b, []byte{0, 0, 0xF3}) {
			t.Errorf("%s: on the line %v, %v", what, b, e)
		}
	}
}

// P14.1: a check that hears nothing.

func TestNothingIsHeard(t *testing.T) {
	for _, c := range checks {
		w := c.made(t)
		wantRun(t, c.String(), w, c)
		wantStill(t, c.String(), w, min(3*c.ticks(), 500))
	}
}

// As many are sent as there are tries, and all of them are over when the last one's ticks are.
func TestHowManyAreSent(t *testing.T) {
	for _, c := range checks {
		w := c.made(t)
		var at []int // at which ticks it was sent; at 0 by Start
		if _, ok := w.Start(); ok {
			at = append(at, 0)
		}
		ticks := 0
		for w.State() == twin.Asking && ticks <= c.ticks() {
			ticks++
			if _, ok := w.Tick(); ok {
				at = append(at, ticks)
			}
		}
		if len(at) != c.tries || ticks != c.ticks() {
			t.Errorf("%v: %d are sent in %d ticks", c, len(at), ticks)
		}
		for i, tick := range at {
			if tick != i*c.wait {
				t.Errorf("%v: number %d is sent at tick %d, want %d", c, i, tick, i*c.wait)
			}
		}
	}
}

func TestTicksByHand(t *testing.T) {
	for _, c := range []struct {
		check
		sent []bool // tick by tick; behind the last one it is Alone
	}{
		{check{1, 1}, []bool{false}},
		{check{1, 2}, []bool{false, false}},
		{check{2, 1}, []bool{true, false}},
		{check{2, 2}, []bool{false, true, false, false}},
		{check{3, 1}, []bool{true, true, false}},
		{check{3, 2}, []bool{false, true, false, true, false, false}},
		{check{2, 3}, []bool{false, false, true, false, false, false}},
	} {
		w := c.made(t)
		wantStart(t, c.String(), w)
		for i, sent := range c.sent {
			wantState(t, c.String(), w, twin.Asking)
			what := fmt.Sprintf("%v: tick %d", c.check, i+1)
			p, ok := w.Tick()
			if sent {
				wantSent(t, what, p, ok)
			} else {
				wantNone(t, what, p, ok)
			}
		}
		wantState(t, c.String(), w, twin.Alone)
	}
}

// Ticks ahead of Start are none of Asking.
func TestTicksAheadOfStart(t *testing.T) {
	c := check{3, 4}
	for ticks := range 30 {
		w := c.made(t)
		wantStill(t, c.String(), w, ticks)
		wantState(t, c.String(), w, twin.Idle)
		wantRun(t, c.String(), w, c)
	}
}

// P14.1: a check that hears its answer.

// moments are ticks of a check: none, one, those about where it is sent again, the middle, the last ones.
func (c check) moments() []int {
	list := []int{0}
	for _, tick := range []int{1, c.wait - 1, c.wait, c.wait + 1, c.ticks() / 2, c.ticks() - c.wait, c.ticks() - 2, c.ticks() - 1} {
		if tick > 0 && tick < c.ticks() && !slices.Contains(list, tick) {
			list = append(list, tick)
		}
	}
	return list
}

func TestAnswerAtEachMoment(t *testing.T) {
	for _, c := range checks {
		for _, ticks := range c.moments() {
			what := fmt.Sprintf("%v, answered behind %d", c, ticks)
			w := c.asking(t, ticks)
			wantTwo(t, what, w, answer())
			wantStill(t, what, w, min(2*c.ticks(), 300))
			wantState(t, what, w, twin.Two)
		}
	}
}

// What stands behind an answer may be anything that may stand there: the chapter asks for F and for SAPs alone.
func TestAnswerWithBytesBehind(t *testing.T) {
	for _, n := range []int{0, 1, 2, 3, 4, 5, 255, 256, 1023, 1024, 1025, mostInfo - 1, mostInfo} {
		wantTwo(t, fmt.Sprintf("%d bytes", n), check{2, 3}.asking(t, 1), answer(make([]byte, n)...))
	}
	wantTwo(t, "bytes", check{2, 3}.asking(t, 4), answer(1, 2, 3))
	p := answer()
	p.Info = nil
	wantTwo(t, "nil", check{2, 3}.asking(t, 4), p)
	p.Info = []byte{}
	wantTwo(t, "an empty list", check{2, 3}.asking(t, 4), p)
}

// What another station's SAP 0 answers to what was sent, over the line, is the answer.
func TestAnswerOverTheLine(t *testing.T) {
	w := check{1, 1}.made(t)
	p, _ := w.Start()
	p.Response = true
	b, e := pdu.Encode(p)
	if e != api.OK {
		t.Fatalf("Encode: %v", e)
	}
	got, e := pdu.Decode(b)
	if e != api.OK {
		t.Fatalf("Decode: %v", e)
	}
	wantTwo(t, "over the line", w, got)
}

// P14.1: a second Start.

func TestStartWhileAsking(t *testing.T) {
	for _, c := range checks {
		for _, ticks := range c.moments() {
			w := c.asking(t, ticks)
			what := fmt.Sprintf("%v, started again behind %d", c, ticks)
			wantNoStart(t, what, w)
			wantNoStart(t, what, w)
			wantTicks(t, what, w, c, ticks+1, c.ticks())
		}
	}
}

func TestStartWhileAskingAtEachTick(t *testing.T) {
	c := check{3, 3}
	w := c.asking(t, 0)
	for tick := 1; tick <= c.ticks(); tick++ {
		wantNoStart(t, fmt.Sprintf("ahead of tick %d", tick), w)
		wantTicks(t, "started on and on", w, c, tick, tick)
	}
}

func TestStartBehindAlone(t *testing.T) {
	for _, c := range checks {
		for _, idle := range []int{0, 1, c.wait} {
			w := c.made(t)
			for range 3 {
				wantRun(t, c.String(), w, c)
				wantStill(t, c.String(), w, min(idle, 100))
			}
		}
	}
}

func TestStartBehindTwo(t *testing.T) {
	for _, c := range checks {
		for _, ticks := range c.moments() {
			what := fmt.Sprintf("%v, answered behind %d", c, ticks)
			w := c.asking(t, ticks)
			wantTwo(t, what, w, answer())
			wantStill(t, what, w, ticks%5)
			wantRun(t, what+", then not", w, c)
			wantStart(t, what+", then again", w)
			wantTwo(t, what+", then again", w, answer())
		}
	}
}

// P14.1: Hear of one that does not ask.

func TestAnswerWhileNotAsking(t *testing.T) {
	c := check{2, 3}
	idle, alone, two := c.made(t), c.asking(t, c.ticks()), c.asking(t, 2)
	wantTwo(t, "asking", two, answer())
	for what, w := range map[string]*twin.Twin{"Idle": idle, "Alone": alone, "Two": two} {
		for range 3 {
			wantUnheard(t, what, w, answer())
			wantUnheard(t, what, w, answer(1, 2))
			wantUnheard(t, what, w, question())
			wantStill(t, what, w, 2)
		}
		wantRun(t, what+", started", w, c)
	}
}

// P14.1: Hear of what is no answer, while it asks.

// turned is the answer with one thing other than it is.
func turned(turn func(p *api.Pdu)) api.Pdu {
	p := answer()
	turn(&p)
	return p
}

// noAnswers are PDUs that may be, and ones that may not, none of them the answer.
func noAnswers() map[string]api.Pdu {
	list := map[string]api.Pdu{
		"a command with P":       question(),
		"a command without P":    turned(func(p *api.Pdu) { p.Response, p.Poll = false, false }),
		"a response without F":   turned(func(p *api.Pdu) { p.Poll = false }),
		"without F, with a byte": turned(func(p *api.Pdu) { p.Poll, p.Info = false, []byte{1} }),
		"a zero PDU":             {},
		"too many bytes":         answer(make([]byte, mostInfo+1)...),
		"far too many bytes":     answer(make([]byte, 65536+3)...),
	}
	add := func(what string, n int, turn func(p *api.Pdu)) {
		list[fmt.Sprintf("%s %d", what, n)] = turned(turn)
	}
	for n := -256; n <= 512; n++ {
		if n != 0 {
			add("From", n, func(p *api.Pdu) { p.From = n })
			add("To", n, func(p *api.Pdu) { p.To = n })
			add("From and To", n, func(p *api.Pdu) { p.From, p.To = n, n })
		}
	}
	for _, n := range append([]int{1, 2, 64, 127, 128, 256}, far...) {
		add("From", n, func(p *api.Pdu) { p.From = n })
		add("To", n, func(p *api.Pdu) { p.To = n })
		add("Ns", n, func(p *api.Pdu) { p.Ns = n })
		add("Nr", n, func(p *api.Pdu) { p.Nr = n })
		add("Kind", api.Test+n, func(p *api.Pdu) { p.Kind = api.Test + n })
		add("Form", api.FormU+n, func(p *api.Pdu) { p.Form = api.FormU + n })
	}
	return list
}

// otherKinds are PDUs that may be, of each type but Test, from SAP 0 to SAP 0 as the answer is.
func otherKinds() []api.Pdu {
	var list []api.Pdu
	for _, response := range []bool{false, true} {
		for _, poll := range []bool{false, true} {
			for form := api.FormI; form <= api.FormU; form++ {
				for kind := 0; kind <= api.Ac1; kind++ {
					for _, n := range []int{0, 3, 4, 5} {
						p := api.Pdu{Response: response, Form: form, Kind: kind, Poll: poll, Info: make([]byte, n)}
						if pdu.May(p) && (form != api.FormU || kind != api.Test) {
							list = append(list, p)
						}
					}
				}
			}
		}
	}
	return list
}

// wantPassedBy: it is no answer at any moment, and the check goes on as if it had not come.
func wantPassedBy(t *testing.T, what string, p api.Pdu) {
	t.Helper()
	c := check{2, 2}
	w := c.asking(t, 0)
	for tick := 1; tick <= c.ticks(); tick++ {
		wantUnheard(t, what, w, p)
		wantTicks(t, what, w, c, tick, tick)
	}
	wantUnheard(t, what, w, p)
	wantRun(t, what, w, c)
	wantStart(t, what, w)
	wantUnheard(t, what, w, p)
	wantTwo(t, what, w, answer())
	wantUnheard(t, what, w, p)
}

func TestHearOfNoAnswer(t *testing.T) {
	for what, p := range noAnswers() {
		wantPassedBy(t, what, p)
	}
}

func TestHearOfEachOtherKind(t *testing.T) {
	seen := map[[2]int]int{}
	for _, p := range otherKinds() {
		seen[[2]int{p.Form, p.Kind}]++
		wantPassedBy(t, text(p), p)
	}
	if len(seen) != 13 { // I, three S, ten U but Test
		t.Errorf("%d kinds were heard", len(seen))
	}
}

func TestHearOfAnAnswerToOtherSaps(t *testing.T) {
	for _, p := range []api.Pdu{
		turned(func(p *api.Pdu) { p.From = 4 }),
		turned(func(p *api.Pdu) { p.To = 4 }),
		turned(func(p *api.Pdu) { p.To = 255 }),
		turned(func(p *api.Pdu) { p.To = 1 }),
		turned(func(p *api.Pdu) { p.From, p.To = 4, 8 }),
	} {
		if !pdu.May(p) {
			t.Errorf("%s: may not be", text(p))
		}
		wantPassedBy(t, text(p), p)
	}
}

// The whole, against a plain model.

// model counts from Start on, and asks what the chapter's words say of that tick.
type model struct {
	check
	state, ticks int
}

func (m *model) start() bool {
	if m.state == twin.Asking {
		return false
	}
	m.state, m.ticks = twin.Asking, 0
	return true
}

func (m *model) tick() bool {
	if m.state != twin.Asking {
		return false
	}
	m.ticks++
	if m.ticks == m.check.ticks() {
		m.state = twin.Alone
		return false
	}
	return m.ticks%m.wait == 0
}

func (m *model) hear(p api.Pdu) bool {
	yes := m.state == twin.Asking && p.To == 0 && p.From == 0 && p.Response && p.Form == api.FormU && p.Kind == api.Test && p.Ns == 0 && p.Nr == 0 && p.Poll && len(p.Info) <= mostInfo
	if yes {
		m.state = twin.Two
	}
	return yes
}

// dice are numbers that look like no rule, and are the same ones at each run.
type dice uint32

func (d *dice) roll(n int) int {
	*d = *d*1664525 + 1013904223
	return int(*d>>8) % n
}

// anyPdu is mostly the answer with a thing or two turned.
func (d *dice) anyPdu() api.Pdu {
	p := answer()
	for range d.roll(3) {
		switch d.roll(8) {
		case 0:
			p.To = d.roll(300) - 20
		case 1:
			p.From = d.roll(300) - 20
		case 2:
			p.Response = d.roll(2) == 0
		case 3:
			p.Form = d.roll(5) - 1
		case 4:
			p.Kind = d.roll(12) - 1
		case 5:
			p.Ns, p.Nr = d.roll(3), d.roll(3)
		case 6:
			p.Poll = d.roll(2) == 0
		case 7:
			p.Info = make([]byte, []int{1, 4, 5, mostInfo, mostInfo + 1}[d.roll(5)])
		}
	}
	return p
}

// step does one thing to both.
func step(t *testing.T, d *dice, w *twin.Twin, m *model) {
	t.Helper()
	switch n := d.roll(12); {
	case n == 0:
		wantAlike(t, m, "Start", m.start(), w.Start)
	case n == 1 && d.roll(m.check.ticks()) < 3: // seldom in a long check, so that some of them end Alone
		p := d.anyPdu()
		if got, want := w.Hear(p), m.hear(p); got != want {
			t.Errorf("%v, tick %d: Hear of %s: %v", m.check, m.ticks, text(p), got)
		}
	default:
		wantAlike(t, m, "Tick", m.tick(), w.Tick)
	}
	wantState(t, m.String(), w, m.state)
}

func wantAlike(t *testing.T, m *model, what string, sent bool, call func() (api.Pdu, bool)) {
	t.Helper()
	where := fmt.Sprintf("%v, tick %d: %s", m.check, m.ticks, what)
	p, ok := call()
	if sent {
		wantSent(t, where, p, ok)
	} else {
		wantNone(t, where, p, ok)
	}
}

func TestAgainstAModel(t *testing.T) {
	var d dice
	ends := map[int]int{}
	for _, c := range checks {
		w, m := c.made(t), &model{check: c}
		for range 3000 {
			step(t, &d, w, m)
			ends[m.state]++
		}
	}
	for state := twin.Idle; state <= twin.Two; state++ {
		if ends[state] < 20 {
			t.Errorf("state %d was seen %d times alone", state, ends[state])
		}
	}
}

// Two of them change nothing in one another (R5).
func TestTwinsApart(t *testing.T) {
	var d dice
	var all []*twin.Twin
	var models []*model
	for _, c := range checks {
		for range 2 {
			all = append(all, c.made(t))
			models = append(models, &model{check: c})
		}
	}
	for range 60000 {
		i := d.roll(len(all))
		step(t, &d, all[i], models[i])
	}
	for i, w := range all {
		wantState(t, models[i].String(), w, models[i].state)
	}
}

// R4: what is handed in is neither changed nor kept.
func TestWhatIsHeardStays(t *testing.T) {
	for _, n := range []int{0, 1, 4, mostInfo, mostInfo + 1} {
		memory := make([]byte, n+9)
		for i := range memory {
			memory[i] = byte(i*7 + 3)
		}
		before := bytes.Clone(memory)
		c := check{3, 2}
		w := c.asking(t, 1)
		for _, poll := range []bool{false, true} {
			p := answer()
			p.Poll, p.Info = poll, memory[:n]
			w.Hear(p)
			w.Tick()
			w.Start()
		}
		if !bytes.Equal(memory, before) {
			t.Errorf("%d bytes: what was handed in, or its spare room, has changed", n)
		}
		for i := range memory {
			memory[i] = 0xEE
		}
		for w.State() == twin.Asking {
			p, ok := w.Tick()
			if ok {
				wantSent(t, fmt.Sprintf("%d bytes", n), p, ok)
			}
		}
		wantRun(t, fmt.Sprintf("%d bytes", n), w, c)
	}
}

// R4: what is answered is new memory: what is done with it changes nothing.
func TestWhatIsSentIsNew(t *testing.T) {
	c := check{4, 2}
	w, other := c.made(t), c.made(t)
	spoil := func(p api.Pdu) {
		whole := append(p.Info[:cap(p.Info)], 1, 2, 3)
		for i := range whole {
			whole[i] = 0xEE
		}
	}
	for range 2 {
		p, _ := w.Start()
		kept, _ := other.Start()
		spoil(p)
		for tick := 1; tick <= c.ticks(); tick++ {
			p, ok := w.Tick()
			again, _ := other.Tick()
			if tick%c.wait == 0 && tick < c.ticks() {
				spoil(p)
				wantSent(t, "the other one's", again, ok)
			}
		}
		wantSent(t, "the one that was kept", kept, true)
	}
	wantRun(t, "behind it", w, c)
}

// R1: every call ends well, whatever numbers it is handed.
func TestAnyNumbersEndWell(t *testing.T) {
	some := append([]int{0, 1, 2, maxTries, maxTicks}, far...)
	w := check{2, 2}.asking(t, 1)
	var none *twin.Twin
	for _, a := range some {
		for _, b := range some {
			twin.New(a, b)
			for _, p := range []api.Pdu{
				{To: a, From: b, Response: true, Form: a, Kind: b, Ns: a, Nr: b, Poll: true},
				{To: 0, From: 0, Response: true, Form: a, Kind: b, Poll: true, Info: []byte{1}},
				{To: a, From: b, Response: true, Form: api.FormU, Kind: api.Test, Poll: true},
			} {
				if !slices.Equal([]int{p.To, p.From, p.Form, p.Kind, p.Ns, p.Nr}, []int{0, 0, api.FormU, api.Test, 0, 0}) {
					wantUnheard(t, "any numbers", w, p)
				}
				wantUnheard(t, "of nil", none, p)
			}
		}
	}
	wantTicks(t, "behind them", w, check{2, 2}, 2, 4)
}

// R7: a nil one answers zero values.
func TestNil(t *testing.T) {
	var w *twin.Twin
	for range 3 {
		wantState(t, "nil", w, twin.Idle)
		wantNoStart(t, "nil", w)
		wantStill(t, "nil", w, 3)
		wantUnheard(t, "nil", w, answer())
		wantUnheard(t, "nil", w, question())
	}
}

// R7: one that no call made is as one of 0 tries: it is Idle, and never asks.
func TestZero(t *testing.T) {
	var w twin.Twin
	for _, z := range []*twin.Twin{&w, new(twin.Twin), {}} {
		for range 3 {
			wantState(t, "zero", z, twin.Idle)
			wantNoStart(t, "zero", z)
			wantStill(t, "zero", z, 3)
			wantUnheard(t, "zero", z, answer())
			wantUnheard(t, "zero", z, question())
		}
	}
	wantRun(t, "one that was made", check{2, 2}.made(t), check{2, 2})
}
