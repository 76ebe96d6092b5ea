package tie_test

import (
	"fmt"
	"slices"
	"strings"
	"testing"

	"antiphon/api"
	"antiphon/grid"
	"antiphon/tie"
)

// model is the chapter once more, in plain numbers and lists: the first out of rows are out.
type model struct {
	c                    tie.Config
	near, there          int
	state                int
	vs, vr, va           int
	rows                 []string
	out                  int
	width, counted       int
	left                 map[int]int // of each timer that runs
	order                []int       // in which they were started
	retries, own, other  int
	otherIsBusy          bool
	epoch                int
	reason               []byte
	sent                 []api.Pdu
	said                 []int
	took                 []string
	used                 bool
	number               int // of an answer
	final, inDo, isHeard bool
	n                    int
	heard                api.Pdu
	met                  map[place]int // how often
}

// place is one of the table's.
type place struct {
	state, event int
}

func newModel(c tie.Config, near, there int) *model {
	return &model{c: c, near: near, there: there, width: c.Window, left: map[int]int{}}
}

// begin is a call.
func (m *model) begin() {
	m.sent, m.said, m.took, m.used = nil, nil, nil, false
	m.number, m.final, m.inDo, m.isHeard, m.n, m.heard = 0, false, false, false, 0, api.Pdu{}
}

func (m *model) handed() tie.Out {
	o := tie.Out{Send: m.sent, Say: m.said, Used: m.used}
	for _, s := range m.took {
		o.Took = append(o.Took, []byte(s))
	}
	return o
}

func (m *model) do(event, n int) tie.Out {
	m.begin()
	switch event {
	case api.UConnect, api.UAccept, api.UDisconnect, api.UReset, api.UResetOk, api.UBusy, api.UFree:
		m.inDo, m.n, m.final, m.number = true, n, true, m.other
		m.event(event)
	}
	return m.handed()
}

func (m *model) send(sdu string) (tie.Out, api.Errno) {
	m.begin()
	if m.state < api.Normal {
		return tie.Out{}, api.ErrState
	}
	if len(sdu) > maxSdu {
		return tie.Out{}, api.ErrLong
	}
	if len(m.rows) == maxQueue {
		return tie.Out{}, api.ErrFull
	}
	m.rows = append(m.rows, sdu)
	m.event(api.USend)
	return m.handed(), api.OK
}

func big(b []byte) int {
	n := 0
	for _, x := range b {
		n = n<<8 + int(x)
	}
	return n
}

// hear is asked of PDUs that may be, of type 2, that come from there to near.
func (m *model) hear(p api.Pdu) tie.Out {
	m.begin()
	m.heard, m.final = p, p.Poll
	if p.Form != api.FormU {
		m.event(m.numbered(p))
		return m.handed()
	}
	number := big(p.Info)
	switch p.Kind {
	case api.Sabme:
		m.number = number
		m.sabme(number)
	case api.Disc:
		m.number = number
		m.event(api.GotDisc)
	case api.Ua:
		if number == m.own {
			m.event(api.GotUa)
		}
	case api.Dm:
		if m.state != api.Setup && m.state != api.Reset && m.state != api.DConn || number == m.own {
			m.event(api.GotDm)
		}
	case api.Frmr:
		m.event(api.GotFrmr)
	}
	return m.handed()
}

func (m *model) sabme(number int) {
	if number == m.other {
		switch m.state {
		case api.Normal, api.Busy, api.Reject, api.Await, api.AwaitBusy, api.AwaitReject:
			m.act(api.SendUa)
			return
		case api.Adm, api.DConn, api.ResetWait, api.Error:
			m.act(api.SendDm)
			return
		}
	}
	m.other = number
	m.event(api.GotSabme)
}

// numbered is the event of an I or S.
func (m *model) numbered(p api.Pdu) int {
	asks := p.Poll && !p.Response
	if m.state < api.Normal {
		if asks {
			return api.GotRrP
		}
		return api.GotRr
	}
	right := false
	for k := m.va; ; k = (k + 1) % 128 {
		right = right || k == p.Nr
		if k == m.vs {
			break
		}
	}
	if !right {
		m.reason = m.why(p)
		return api.GotWrong
	}
	events := []int{api.GotRr, api.GotRnr, api.GotRej}
	event := events[p.Kind%3]
	if p.Form == api.FormI && p.Ns == m.vr {
		event = api.GotInfo
	} else if p.Form == api.FormI {
		event = api.GotGap
	}
	if asks {
		event++
	} else if p.Poll && p.Response && m.state >= api.Await {
		event += 2
	}
	return event
}

func (m *model) why(p api.Pdu) []byte {
	first := 2 * p.Ns
	if p.Form == api.FormS {
		first = 1 + 4*p.Kind
	}
	second := 2 * p.Nr
	if p.Poll {
		second++
	}
	vr := 2 * m.vr
	if p.Response {
		vr++
	}
	return []byte{byte(first), byte(second), byte(2 * m.vs), byte(vr), 8}
}

func (m *model) tick() tie.Out {
	m.begin()
	var over []int
	for _, timer := range m.order {
		m.left[timer]--
		if m.left[timer] == 0 {
			over = append(over, timer)
		}
	}
	for _, timer := range over {
		m.stop(timer)
	}
	for _, timer := range over {
		if !grid.Step(m.state, timer).Known {
			continue
		}
		if m.retries >= m.c.Tries {
			m.event(api.Spent)
		} else {
			m.event(timer)
		}
	}
	return m.handed()
}

func (m *model) stop(timer int) {
	delete(m.left, timer)
	m.order = slices.DeleteFunc(m.order, func(x int) bool { return x == timer })
}

func (m *model) start(timer, ticks int) {
	m.stop(timer)
	m.left[timer] = ticks
	m.order = append(m.order, timer)
}

func (m *model) event(event int) {
	if m.met != nil {
		m.met[place{m.state, event}]++
	}
	row := grid.Step(m.state, event)
	for _, a := range row.Do {
		m.act(a)
	}
	m.state = row.Next
}

func (m *model) give(p api.Pdu) {
	p.From, p.To = m.near, m.there
	m.sent = append(m.sent, p)
}

func (m *model) act(action int) {
	switch action {
	case api.SendSabme, api.SendDisc:
		if m.inDo {
			m.own, m.used = m.n, true
		}
		kind := api.Sabme
		if action == api.SendDisc {
			kind = api.Disc
		}
		m.give(api.Pdu{Form: api.FormU, Kind: kind, Poll: true, Info: number(m.own)})
	case api.SendUa:
		m.give(api.Pdu{Response: true, Form: api.FormU, Kind: api.Ua, Poll: m.final, Info: number(m.number)})
	case api.SendDm:
		m.give(api.Pdu{Response: true, Form: api.FormU, Kind: api.Dm, Poll: m.final, Info: number(m.number)})
	case api.SendFrmr:
		m.give(api.Pdu{Response: true, Form: api.FormU, Kind: api.Frmr, Poll: m.final, Info: m.reason})
	case api.SayConnect, api.SayConnected, api.SayDisconnect, api.SayReset, api.SayResetDone:
		m.said = append(m.said, action)
	case api.Clear:
		m.vs, m.vr, m.va, m.rows, m.out = 0, 0, 0, nil, 0
		m.width, m.counted, m.otherIsBusy = m.c.Window, 0, false
		m.epoch++
	case api.StopAll:
		m.left, m.order = map[int]int{}, nil
	case api.StartAck:
		m.start(api.TimeAck, m.c.Ack)
	case api.StartP:
		m.start(api.TimeP, m.c.Poll)
	case api.StartRej:
		m.start(api.TimeRej, m.c.Rej)
	case api.StartBusy:
		m.start(api.TimeBusy, m.c.Busy)
	case api.StopRej:
		m.stop(api.TimeRej)
	case api.Retry:
		m.retries++
	case api.RetryZero:
		m.retries = 0
		m.stop(api.TimeP)
	default:
		m.move(action)
	}
}

// move are the actions of data states.
func (m *model) move(action int) {
	switch action {
	case api.Ack:
		m.ack()
	case api.PeerFree:
		m.otherIsBusy = false
		m.stop(api.TimeBusy)
	case api.PeerBusy:
		m.otherIsBusy = true
	case api.GoBack:
		m.vs, m.out = m.va, 0
		m.stop(api.TimeAck)
	case api.Slow:
		m.width, m.counted = 1, 0
	case api.Take:
		m.took = append(m.took, string(m.heard.Info))
		m.vr = (m.vr + 1) % 128
	case api.Push:
		m.push()
	case api.SayRr0, api.SayRr1, api.SayRnr0, api.SayRnr1, api.SayRej0, api.SayRej1:
		i := slices.Index([]int{api.SayRr0, api.SayRr1, api.SayRnr0, api.SayRnr1, api.SayRej0, api.SayRej1}, action)
		m.give(api.Pdu{Response: true, Form: api.FormS, Kind: []int{api.Rr, api.Rnr, api.Rej}[i/2], Nr: m.vr, Poll: i%2 == 1})
	case api.PollRr, api.PollRnr:
		kind := api.Rr
		if action == api.PollRnr {
			kind = api.Rnr
		}
		m.give(api.Pdu{Form: api.FormS, Kind: kind, Nr: m.vr, Poll: true})
		m.stop(api.TimeAck)
	}
}

func (m *model) ack() {
	up := (m.heard.Nr - m.va + 128) % 128
	if up == 0 {
		return
	}
	m.va = m.heard.Nr
	m.rows, m.out = m.rows[up:], m.out-up
	for range up {
		if m.width == m.c.Window {
			break
		}
		m.counted++
		if m.counted == m.width {
			m.width, m.counted = m.width+1, 0
		}
	}
	m.retries = 0
	m.stop(api.TimeAck)
	if m.out > 0 {
		m.start(api.TimeAck, m.c.Ack)
	}
}

func (m *model) push() {
	for !m.otherIsBusy && m.out < len(m.rows) && m.out < m.width {
		m.give(api.Pdu{Form: api.FormI, Ns: m.vs, Nr: m.vr, Info: []byte(m.rows[m.out])})
		m.out++
		m.vs = (m.vs + 1) % 128
	}
	if _, runs := m.left[api.TimeAck]; m.out > 0 && !runs {
		m.start(api.TimeAck, m.c.Ack)
	}
}

func (m *model) looks() string {
	return fmt.Sprintf("%s v%d/%d/%d q%d/%d n%d/%d r%d w%d e%d t%d", stateName(m.state), m.vs, m.vr, m.va, len(m.rows), m.out, m.own, m.other, m.retries, m.width, m.epoch, len(m.left))
}

// dice are numbers that look like chance, and are the same each time.
type dice uint64

func (d *dice) below(n int) int {
	*d = *d*6364136223846793005 + 1442695040888963407
	return int(uint64(*d)>>33) % n
}

func (d *dice) one(list ...int) int {
	return list[d.below(len(list))]
}

// walk is a connection and its model, which are asked the same. All that goes in and comes out is turned behind each call.
type walk struct {
	t *testing.T
	dice
	seed  int
	x     *tie.Tie
	m     *model
	last  int // number of an attempt
	calls int
	quiet bool // does hardly anything come but time?
}

func newWalk(t *testing.T, seed int, c tie.Config) *walk {
	t.Helper()
	return &walk{t: t, dice: dice(seed), seed: seed, x: made(t, c, near, there), m: newModel(c, near, there)}
}

// step is one call of both: what was handed out, as a text.
func (w *walk) step() string {
	w.t.Helper()
	before := w.m.looks()
	call, got, want := w.call()
	text := outText(got)
	if text != outText(want) || looks(w.x) != w.m.looks() {
		w.t.Fatalf("seed %d, call %d, %s, in %s: %q, %s; want %q, %s", w.seed, w.calls, call, before, text, looks(w.x), outText(want), w.m.looks())
	}
	if !turnAll(got) {
		w.t.Fatalf("seed %d, call %d, %s: two lists that were handed out share memory", w.seed, w.calls, call)
	}
	if w.m.out > maxWindow || w.m.pushed() && w.m.out > w.x.Width() {
		w.t.Fatalf("seed %d, call %d, %s: %s", w.seed, w.calls, call, looks(w.x))
	}
	return call + ": " + text
}

// pushed says whether an I went.
func (m *model) pushed() bool {
	return slices.ContainsFunc(m.sent, func(p api.Pdu) bool { return p.Form == api.FormI })
}

// call asks both the same, whatever it is: what they hand out.
func (w *walk) call() (string, tie.Out, tie.Out) {
	w.t.Helper()
	w.calls++
	if w.below(25) == 0 {
		w.quiet = !w.quiet
	}
	k := w.below(60)
	if w.quiet && w.below(3) > 0 {
		k = 0
	}
	if w.m.state < api.Normal && w.below(4) == 0 {
		return w.onward()
	}
	switch {
	case k < 14:
		return "Tick", w.x.Tick(w.last + 1), w.m.tick()
	case k < 26:
		return w.send()
	case k < 50:
		return w.hear(w.numbered())
	case k < 51 || w.m.state < api.Normal && k < 57:
		return w.hear(w.unnumbered())
	}
	event := w.one(api.UBusy, api.UFree, api.UFree, api.UAccept, api.UConnect, api.UResetOk)
	if w.below(12) == 0 || w.m.state < api.Normal && w.below(2) == 0 {
		event = w.one(api.UReset, api.UDisconnect)
	}
	return w.user(event)
}

// onward is a step towards a data state.
func (w *walk) onward() (string, tie.Out, tie.Out) {
	w.t.Helper()
	switch w.m.state {
	case api.Adm:
		if w.below(2) == 0 {
			return w.hear(sabme(w.last + 1000))
		}
		return w.user(api.UConnect)
	case api.Conn:
		return w.user(api.UAccept)
	case api.ResetCheck:
		return w.user(api.UResetOk)
	case api.ResetWait, api.Error:
		return w.user(api.UReset)
	}
	return w.hear(ua(w.m.own))
}

func (w *walk) user(event int) (string, tie.Out, tie.Out) {
	w.last++
	return fmt.Sprintf("Do(%d, %d)", event, w.last), w.x.Do(event, w.last), w.m.do(event, w.last)
}

func (w *walk) hear(p api.Pdu) (string, tie.Out, tie.Out) {
	w.t.Helper()
	q := p
	info, same := rough(p.Info)
	q.Info = info
	got := w.x.Hear(q, w.last+1)
	call := "Hear of " + pduText(turned(p))
	if !same() {
		w.t.Fatalf("seed %d, call %d, %s: what was handed in was changed", w.seed, w.calls, call)
	}
	return call, got, w.m.hear(p)
}

func (w *walk) send() (string, tie.Out, tie.Out) {
	w.t.Helper()
	sdu := fmt.Sprint("s", w.calls)
	if w.below(40) == 0 {
		sdu = strings.Repeat("z", maxSdu+w.below(2))
	}
	b, same := rough([]byte(sdu))
	got, e := w.x.Send(b)
	if !same() {
		w.t.Fatalf("seed %d, call %d, Send: what was handed in was changed", w.seed, w.calls)
	}
	want, f := w.m.send(sdu)
	if e != f {
		w.t.Fatalf("seed %d, call %d, Send of %d bytes: %v, want %v", w.seed, w.calls, len(sdu), e, f)
	}
	return "Send", got, want
}

// either is a PDU of type 2.
func (w *walk) either() api.Pdu {
	if w.below(2) == 0 {
		return w.numbered()
	}
	return w.unnumbered()
}

// numbered is a PDU with numbers: mostly such as are due.
func (w *walk) numbered() api.Pdu {
	p := api.Pdu{To: near, From: there, Form: api.FormS, Kind: w.below(3)}
	p.Nr = (w.m.va + w.below(w.m.out+1)) % 128
	if w.below(100) == 0 {
		p.Nr = w.below(128)
	}
	if w.below(3) > 0 {
		p.Form, p.Kind, p.Ns = api.FormI, 0, w.m.vr
		p.Info = []byte(fmt.Sprint("i", w.calls))
		if w.below(4) == 0 {
			p.Ns = w.below(128)
		}
	}
	return marked(p, w.one(none, none, withP, withF, withF, respond))
}

// unnumbered is a U: of attempts that are and that are not, with P or F and without.
func (w *walk) unnumbered() api.Pdu {
	n := w.one(w.m.own, w.m.own, w.m.other, w.last+1000, 0)
	poll := w.below(2) == 0
	switch w.below(5) {
	case 0:
		return unit(api.Sabme, false, poll, number(n)...)
	case 1:
		return unit(api.Disc, false, poll, number(n)...)
	case 2:
		return unit(api.Dm, true, poll, number(n)...)
	case 3:
		return unit(api.Frmr, true, poll, 1, 2, 3, 4, 5)
	}
	return unit(api.Ua, true, poll, number(n)...)
}

func TestAgainstModel(t *testing.T) {
	met := map[place]int{}
	for seed := range 80 {
		c := tie.Config{Window: 1 + seed%9, Tries: 1 + seed%4, Ack: 1 + seed%5, Poll: 1 + seed%3, Rej: 1 + seed%4, Busy: 1 + seed%7}
		if seed%10 == 0 {
			c.Window = maxWindow
		}
		w := newWalk(t, seed, c)
		w.m.met = met
		for range 6000 {
			w.step()
		}
	}
	for state, row := range grid.Rows() {
		for event, r := range row {
			if r.Known && met[place{state, event}] == 0 {
				t.Errorf("%s, event %d: the walks never met it", stateName(state), event)
			}
		}
	}
}
