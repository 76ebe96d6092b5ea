package tie_test

import (
	"testing"

	"antiphon/api"
	"antiphon/tie"
)

// The chapter's examples.

func TestExamples(t *testing.T) {
	r := newRig(t, "the example", plainConfig())
	r.do(api.UConnect, 7, "Sabme P 00000007, used", "Setup v0/0/0 q0/0 n7/0 r0 w3 e0 t1")
	r.hear(ua(7), "say Connected", "Normal v0/0/0 q0/0 n7/0 r0 w3 e1 t0")
	r.hear(ua(6), "", "Normal v0/0/0 q0/0 n7/0 r0 w3 e1 t0")
}

// P19.1: New.

// wantNew holds New against whether it takes that.
func wantNew(t *testing.T, c tie.Config, near, there int, taken bool) {
	t.Helper()
	x, e := tie.New(c, near, there)
	switch {
	case taken && (e != api.OK || x == nil):
		t.Errorf("New(%v, %d, %d): %v, %v", c, near, there, x, e)
	case !taken && (e != api.ErrArg || x != nil):
		t.Errorf("New(%v, %d, %d): %v, %v, want nil, %v", c, near, there, x, e, api.ErrArg)
	}
}

// part is one number of what New is given.
type part struct {
	name string
	at   func(c *tie.Config) *int
	most int
}

func parts() []part {
	return []part{
		{"Window", func(c *tie.Config) *int { return &c.Window }, maxWindow},
		{"Tries", func(c *tie.Config) *int { return &c.Tries }, maxTries},
		{"Ack", func(c *tie.Config) *int { return &c.Ack }, maxTicks},
		{"Poll", func(c *tie.Config) *int { return &c.Poll }, maxTicks},
		{"Rej", func(c *tie.Config) *int { return &c.Rej }, maxTicks},
		{"Busy", func(c *tie.Config) *int { return &c.Busy }, maxTicks},
	}
}

// ends are all parts at their least, and all at their most.
func ends() []tie.Config {
	return []tie.Config{{1, 1, 1, 1, 1, 1}, {maxWindow, maxTries, maxTicks, maxTicks, maxTicks, maxTicks}}
}

func TestNewOfEachNumberOfConfig(t *testing.T) {
	for _, p := range parts() {
		for _, c := range ends() {
			for n := -300; n <= maxTicks+300; n++ {
				*p.at(&c) = n
				wantNew(t, c, near, there, n >= 1 && n <= p.most)
			}
			for _, n := range far() {
				*p.at(&c) = n
				wantNew(t, c, near, there, n >= 1 && n <= p.most)
			}
		}
	}
}

func TestNewAtTheEdgesOfConfig(t *testing.T) {
	for _, c := range []struct {
		c     tie.Config
		taken bool
	}{
		{tie.Config{0, 1, 1, 1, 1, 1}, false}, {tie.Config{1, 1, 1, 1, 1, 1}, true}, {tie.Config{64, 1, 1, 1, 1, 1}, true}, {tie.Config{65, 1, 1, 1, 1, 1}, false},
		{tie.Config{1, 0, 1, 1, 1, 1}, false}, {tie.Config{1, 100, 1, 1, 1, 1}, true}, {tie.Config{1, 101, 1, 1, 1, 1}, false},
		{tie.Config{1, 1, 0, 1, 1, 1}, false}, {tie.Config{1, 1, 10000, 1, 1, 1}, true}, {tie.Config{1, 1, 10001, 1, 1, 1}, false},
		{tie.Config{1, 1, 1, 0, 1, 1}, false}, {tie.Config{1, 1, 1, 10000, 1, 1}, true}, {tie.Config{1, 1, 1, 10001, 1, 1}, false},
		{tie.Config{1, 1, 1, 1, 0, 1}, false}, {tie.Config{1, 1, 1, 1, 10000, 1}, true}, {tie.Config{1, 1, 1, 1, 10001, 1}, false},
		{tie.Config{1, 1, 1, 1, 1, 0}, false}, {tie.Config{1, 1, 1, 1, 1, 10000}, true}, {tie.Config{1, 1, 1, 1, 1, 10001}, false},
		{tie.Config{}, false}, {tie.Config{-1, -1, -1, -1, -1, -1}, false}, {tie.Config{65, 101, 10001, 10001, 10001, 10001}, false},
	} {
		wantNew(t, c.c, near, there, c.taken)
	}
}

func TestNewOfEachSap(t *testing.T) {
	c := plainConfig()
	list := far()
	for n := -300; n <= 600; n++ {
		list = append(list, n)
	}
	for _, n := range list {
		taken := n >= 2 && n <= 254 && n%2 == 0
		wantNew(t, c, n, there, taken)
		wantNew(t, c, near, n, taken)
		wantNew(t, c, n, n, taken) // two stations may have one and the same SAP
	}
	for _, p := range []struct {
		near, there int
		taken       bool
	}{
		{0, 8, false}, {4, 0, false}, {2, 254, true}, {254, 2, true}, {1, 8, false}, {4, 3, false}, {255, 8, false}, {4, 255, false},
		{256, 8, false}, {4, 256, false}, {4, -2, false}, {-4, 8, false}, {0, 0, false}, {4, 4, true},
	} {
		wantNew(t, c, p.near, p.there, p.taken)
	}
}

func TestNewWithSeveralFaults(t *testing.T) {
	wantNew(t, tie.Config{}, 0, 0, false)
	wantNew(t, tie.Config{Window: 3, Tries: 2, Ack: 10, Poll: 20, Rej: 30}, 5, 8, false)
	wantNew(t, tie.Config{Tries: 2, Ack: 10, Poll: 20, Rej: 30, Busy: 40}, near, there, false)
}

func TestHowAConnectionBegins(t *testing.T) {
	for window := 1; window <= maxWindow; window++ {
		c := plainConfig()
		c.Window = window
		x := made(t, c, near, there)
		vs, vr, va := x.Vars()
		queued, out := x.Queue()
		own, other := x.Numbers()
		got := []int{x.State(), vs, vr, va, queued, out, own, other, x.Retries(), x.Width(), x.Epoch(), x.Timers()}
		for i, want := range []int{api.Adm, 0, 0, 0, 0, 0, 0, 0, 0, window, 0, 0} {
			if got[i] != want {
				t.Errorf("Window %d: part %d is %d, want %d", window, i, got[i], want)
			}
		}
	}
}

// A connection that begins has a queue of 64, and the other one is not busy: what is sent goes.
func TestHowAConnectionSendsFirst(t *testing.T) {
	c := plainConfig()
	c.Window = 1
	r := newRig(t, "begun", c)
	r.do(api.UConnect, 7, "-", "-")
	r.hear(ua(7), "-", "-")
	r.send("0", `I 0 0 "0"`, "Normal v1/0/0 q1/1 n7/0 r0 w1 e1 t1")
	for range maxQueue - 1 {
		r.send("x", "", "-")
	}
	r.want("", tie.Out{}, "", "Normal v1/0/0 q64/1 n7/0 r0 w1 e1 t1")
	r.refuses("x", api.ErrFull)
}

// Each SAP, here and there, is where PDUs go from and to.
func TestSapsOfWhatIsSent(t *testing.T) {
	for _, p := range [][2]int{{2, 254}, {254, 2}, {4, 4}, {128, 126}} {
		x := made(t, plainConfig(), p[0], p[1])
		o := x.Do(api.UConnect, 7)
		if len(o.Send) != 1 || o.Send[0].From != p[0] || o.Send[0].To != p[1] {
			t.Errorf("from %d to %d: %v", p[0], p[1], o.Send)
		}
		answer := ua(7)
		answer.From, answer.To = p[1], p[0]
		if got := outText(x.Hear(answer, 0)); got != "say Connected" {
			t.Errorf("from %d to %d: a Ua: %q", p[0], p[1], got)
		}
	}
}

// P19.1 and P19.3: the number of an attempt.

func TestNumbersOfAttempts(t *testing.T) {
	for _, n := range []struct {
		n    int
		info string
	}{
		{0, "00000000"}, {1, "00000001"}, {127, "0000007f"}, {128, "00000080"}, {255, "000000ff"}, {256, "00000100"}, {65536, "00010000"},
		{255*65536 + 65535, "00ffffff"}, {1<<31 - 1, "7fffffff"}, {1 << 31, "80000000"}, {1<<32 - 1, "ffffffff"},
		{-1, "00000000"}, {1 << 32, "00000000"}, {1<<32 + 7, "00000000"},
	} {
		x := made(t, plainConfig(), near, there)
		want := "Sabme P " + n.info + ", used"
		if got := outText(x.Do(api.UConnect, n.n)); got != want {
			t.Errorf("Do(UConnect, %d): %q, want %q", n.n, got, want)
		}
		if own, other := x.Numbers(); own != n.n || other != 0 {
			t.Errorf("Do(UConnect, %d): Numbers %d, %d", n.n, own, other)
		}
	}
}

// The number is kept of what is asked anew, whatever n is then; a Ua of it is the only one that counts.
func TestNumberOfWhatIsAskedAnew(t *testing.T) {
	r := newRig(t, "asked anew", plainConfig())
	r.do(api.UConnect, 1<<32-2, "Sabme P fffffffe, used", "Setup v0/0/0 q0/0 n4294967294/0 r0 w3 e0 t1")
	r.ticks(10, "Sabme P fffffffe", "Setup v0/0/0 q0/0 n4294967294/0 r1 w3 e0 t1")
	r.hear(ua(1<<32-1), "", "-")
	r.hear(ua(0), "", "-")
	r.hear(ua(99), "", "Setup v0/0/0 q0/0 n4294967294/0 r1 w3 e0 t1")
	r.hear(ua(1<<32-2), "say Connected", "Normal v0/0/0 q0/0 n4294967294/0 r1 w3 e1 t0")
}
