package vars_test

import (
	"fmt"
	"math"
	"testing"

	"antiphon/vars"
)

// Written out: were seq.Ring another one, the tests would tell.
const (
	ring    = 128
	mostOut = 127
)

// far are numbers that are none of the ring; in 7, 8, 16 or 32 bits many of them would be.
var far = []int{math.MinInt, math.MinInt + 1, math.MinInt + 64, math.MinInt + 127, -1 << 32, -1<<32 + 1, -1 << 31, -65536, -256, -255, -129, -128, -127, -126, -64, -2, -1,
	128, 129, 130, 191, 192, 254, 255, 256, 257, 383, 384, 65535, 65536, 65537, 1<<31 - 1, 1 << 31, 1<<32 - 1, 1 << 32, 1<<32 + 1, 1<<32 + 127, math.MaxInt - 127, math.MaxInt - 1, math.MaxInt}

// starts are several V(A): the ring's ends and its middle among them.
var starts = []int{0, 1, 2, 3, 31, 62, 63, 64, 65, 66, 90, 100, 125, 126, 127}

// model counts on and on: what goes round is what is told of it.
type model struct {
	sent, took, acked int
}

func (m model) text() string {
	return fmt.Sprintf("vs %d vr %d va %d out %d", m.sent%ring, m.took%ring, m.acked%ring, m.sent-m.acked)
}

// Sent, Took, Acked and Back are what the calls of those names are to answer.
func (m *model) Sent() int {
	if m.sent-m.acked == mostOut {
		return -1
	}
	m.sent++
	return (m.sent - 1) % ring
}

func (m *model) Took() int {
	m.took++
	return (m.took - 1) % ring
}

func (m *model) Acked(nr int) int {
	for n := m.acked; n <= m.sent; n++ {
		if n%ring == nr {
			count := n - m.acked
			m.acked = n
			return count
		}
	}
	return -1
}

func (m *model) Back() int {
	count := m.sent - m.acked
	m.sent = m.acked
	return count
}

func text(v *vars.Vars) string {
	return fmt.Sprintf("vs %d vr %d va %d out %d", v.Vs(), v.Vr(), v.Va(), v.Out())
}

// wantNumbers holds all four against what they should be, out being counted from the others.
func wantNumbers(t *testing.T, what string, v *vars.Vars, vs, vr, va int) {
	t.Helper()
	out := vs - va
	if out < 0 {
		out += ring
	}
	if v.Vs() != vs || v.Vr() != vr || v.Va() != va || v.Out() != out {
		t.Errorf("%s: %s, want vs %d vr %d va %d out %d", what, text(v), vs, vr, va, out)
	}
}

func wantModel(t *testing.T, what string, v *vars.Vars, m model) {
	t.Helper()
	if v.Vs() != m.sent%ring || v.Vr() != m.took%ring || v.Va() != m.acked%ring || v.Out() != m.sent-m.acked {
		t.Fatalf("%s: %s, want %s", what, text(v), m.text())
	}
}

func wantAnswer(t *testing.T, what string, got, want int) {
	t.Helper()
	if got != want {
		t.Errorf("%s: %d, want %d", what, got, want)
	}
}

func wantSent(t *testing.T, v *vars.Vars, want int) {
	t.Helper()
	before := text(v)
	if got := v.Sent(); got != want {
		t.Errorf("Sent of %s: %d, want %d", before, got, want)
	}
}

func wantAcked(t *testing.T, v *vars.Vars, nr, want int) {
	t.Helper()
	before := text(v)
	if got := v.Acked(nr); got != want {
		t.Errorf("Acked(%d) of %s: %d, want %d", nr, before, got, want)
	}
}

func wantBack(t *testing.T, v *vars.Vars, want int) {
	t.Helper()
	before := text(v)
	if got := v.Back(); got != want {
		t.Errorf("Back of %s: %d, want %d", before, got, want)
	}
}

// made is one whose V(A) is va, with so many out.
func made(t *testing.T, va, out int) *vars.Vars {
	t.Helper()
	v := new(vars.Vars)
	for n := range va {
		wantSent(t, v, n)
		wantAcked(t, v, n+1, 1)
	}
	send(t, v, out)
	wantNumbers(t, "made", v, (va+out)%ring, 0, va)
	return v
}

// send sends so many.
func send(t *testing.T, v *vars.Vars, count int) {
	t.Helper()
	for range count {
		wantSent(t, v, v.Vs())
	}
}

// refused holds that a number is refused, and that nothing is done.
func refused(t *testing.T, v *vars.Vars, nr int) {
	t.Helper()
	vs, vr, va := v.Vs(), v.Vr(), v.Va()
	wantAcked(t, v, nr, -1)
	wantNumbers(t, fmt.Sprintf("behind Acked(%d)", nr), v, vs, vr, va)
}

func TestChapterExample(t *testing.T) {
	var v vars.Vars
	wantAnswer(t, "Sent", v.Sent(), 0)
	wantAnswer(t, "Sent", v.Sent(), 1)
	wantAnswer(t, "Acked(1)", v.Acked(1), 1)
	wantAnswer(t, "Acked(0)", v.Acked(0), -1)
	wantAnswer(t, "Back", v.Back(), 1)
	wantAnswer(t, "Vs", v.Vs(), 1)
}

// P16.1: the zero value, and Clear.

func TestZeroValueHasAllZero(t *testing.T) {
	var v vars.Vars
	wantNumbers(t, "a zero value", &v, 0, 0, 0)
	wantNumbers(t, "a new one", new(vars.Vars), 0, 0, 0)
	wantAcked(t, &v, 0, 0)
	refused(t, &v, 1)
	refused(t, &v, 127)
	wantBack(t, &v, 0)
	wantSent(t, &v, 0)
	wantAnswer(t, "Took", v.Took(), 0)
	wantNumbers(t, "behind the first ones", &v, 1, 1, 0)
}

func TestClearBehindAnything(t *testing.T) {
	for _, va := range starts {
		for _, out := range []int{0, 1, 2, 64, 126, 127} {
			v := made(t, va, out)
			for range va + out {
				v.Took()
			}
			v.Clear()
			wantNumbers(t, "behind Clear", v, 0, 0, 0)
			wantSent(t, v, 0)
			wantAnswer(t, "Took behind Clear", v.Took(), 0)
			wantAcked(t, v, 1, 1)
			wantNumbers(t, "behind Clear and one more", v, 1, 1, 1)
		}
	}
}

func TestClearBehindWhatIsRefusedAndBack(t *testing.T) {
	v := made(t, 100, 127)
	wantSent(t, v, -1)
	refused(t, v, 128)
	v.Clear()
	wantNumbers(t, "behind Clear", v, 0, 0, 0)
	send(t, v, 127)
	wantSent(t, v, -1)
	wantBack(t, v, 127)
	v.Clear()
	v.Clear()
	wantNumbers(t, "behind Clear twice", v, 0, 0, 0)
	wantBack(t, v, 0)
}

// P16.1: Sent.

func TestSentRoundAndRound(t *testing.T) {
	for lag := 1; lag <= mostOut; lag++ {
		var v vars.Vars
		for n := range 3*ring + 5 {
			if n >= lag {
				wantAcked(t, &v, (n-lag+1)%ring, 1)
			}
			wantSent(t, &v, n%ring)
			wantNumbers(t, "behind Sent", &v, (n+1)%ring, 0, max(0, n+1-lag)%ring)
		}
	}
}

func TestSentAtTheBound(t *testing.T) {
	for va := range ring {
		v := made(t, va, 126)
		last := (va + 126) % ring
		wantSent(t, v, last)
		wantNumbers(t, "127 out", v, (last+1)%ring, 0, va)
		for range 3 {
			wantSent(t, v, -1)
			wantNumbers(t, "127 out, and one refused", v, (last+1)%ring, 0, va)
		}
		wantAcked(t, v, (va+1)%ring, 1)
		wantSent(t, v, (last+1)%ring)
		wantSent(t, v, -1)
		wantNumbers(t, "127 out again", v, (last+2)%ring, 0, (va+1)%ring)
	}
}

// P16.1: Took.

func TestTookRoundAndRound(t *testing.T) {
	var v vars.Vars
	for n := range 4*ring + 3 {
		wantAnswer(t, "Took", v.Took(), n%ring)
		wantNumbers(t, "behind Took", &v, 0, (n+1)%ring, 0)
	}
}

func TestTookAtAnyTime(t *testing.T) {
	for _, va := range starts {
		for _, out := range []int{0, 1, 63, 64, 126, 127} {
			v := made(t, va, out)
			for n := range 2*ring + 1 {
				wantAnswer(t, "Took", v.Took(), n%ring)
				wantNumbers(t, "behind Took", v, (va+out)%ring, (n+1)%ring, va)
			}
		}
	}
}

// P16.1: Acked.

func TestAckedByHand(t *testing.T) {
	v := made(t, 126, 5)
	wantNumbers(t, "the ring's end between", v, 3, 0, 126)
	refused(t, v, 4)
	refused(t, v, 125)
	wantAcked(t, v, 126, 0)
	wantAcked(t, v, 127, 1)
	refused(t, v, 126)
	wantAcked(t, v, 0, 1)
	refused(t, v, 127)
	wantAcked(t, v, 3, 3)
	refused(t, v, 2)
	refused(t, v, 4)
	wantAcked(t, v, 3, 0)
	wantNumbers(t, "all acknowledged", v, 3, 0, 3)
}

func TestAckedOfTheEnds(t *testing.T) {
	for va := range ring {
		for _, out := range []int{0, 1, 2, 63, 64, 65, 125, 126} {
			vs := (va + out) % ring
			v := made(t, va, out)
			refused(t, v, (vs+1)%ring)
			refused(t, v, (va+ring-1)%ring)
			wantAcked(t, v, va, 0)
			wantNumbers(t, "behind Acked of V(A)", v, vs, 0, va)
			wantAcked(t, v, vs, out)
			wantNumbers(t, "behind Acked of V(S)", v, vs, 0, vs)
		}
	}
}

func TestAckedWithAllOut(t *testing.T) {
	for va := range ring {
		vs := (va + 127) % ring
		v := made(t, va, 127)
		wantAcked(t, v, va, 0)
		wantNumbers(t, "behind Acked of V(A)", v, vs, 0, va)
		wantAcked(t, v, vs, 127)
		wantNumbers(t, "behind Acked of V(S)", v, vs, 0, vs)
		refused(t, v, va)
	}
}

func TestAckedOfEachNumber(t *testing.T) {
	for _, va := range starts {
		for _, out := range []int{0, 1, 2, 3, 5, 31, 62, 63, 64, 65, 66, 100, 125, 126, 127} {
			for nr := range ring {
				wantEachAcked(t, va, out, nr)
			}
		}
	}
}

// wantEachAcked walks up from va: nr is among the out, or it is refused.
func wantEachAcked(t *testing.T, va, out, nr int) {
	t.Helper()
	v := made(t, va, out)
	vs := (va + out) % ring
	for count := range out + 1 {
		if (va+count)%ring == nr {
			wantAcked(t, v, nr, count)
			wantNumbers(t, "behind Acked", v, vs, 0, nr)
			return
		}
	}
	refused(t, v, nr)
}

func TestAckedOfNoNumber(t *testing.T) {
	for _, va := range starts {
		for _, out := range []int{0, 1, 2, 64, 126, 127} {
			v := made(t, va, out)
			v.Took()
			for _, nr := range far {
				refused(t, v, nr)
			}
		}
	}
}

// P16.1: Back.

func TestBackOfEachCount(t *testing.T) {
	for _, va := range starts {
		for out := range mostOut + 1 {
			v := made(t, va, out)
			wantBack(t, v, out)
			wantNumbers(t, "behind Back", v, va, 0, va)
			wantBack(t, v, 0)
			send(t, v, out)
			wantNumbers(t, "sent again", v, (va+out)%ring, 0, va)
		}
	}
}

func TestBackBehindSomeAcked(t *testing.T) {
	v := made(t, 120, 20)
	v.Took()
	wantAcked(t, v, 2, 10)
	wantBack(t, v, 10)
	wantNumbers(t, "behind Back", v, 2, 1, 2)
	refused(t, v, 3)
	wantSent(t, v, 2)
	wantSent(t, v, 3)
	wantAcked(t, v, 3, 1)
	wantBack(t, v, 1)
	wantNumbers(t, "behind Back again", v, 3, 1, 3)
	send(t, v, 127)
	wantSent(t, v, -1)
	wantNumbers(t, "full behind Back", v, 2, 1, 3)
}

// All of them, against the model.

type dice uint32

func (d *dice) below(n int) int {
	*d = *d*1664525 + 1013904223
	return int(uint32(*d)>>8) % n
}

// step does one call on both, and holds the answers against one another.
func step(t *testing.T, d *dice, v *vars.Vars, m *model, sends int) {
	t.Helper()
	what, got, want := "Sent", 0, 0
	switch k := d.below(20); {
	case k < sends:
		got, want = v.Sent(), m.Sent()
	case k < 16:
		nr := d.below(ring+2) - 1
		if d.below(2) == 0 {
			nr = (v.Va() + d.below(v.Out()+3)) % ring
		}
		what = fmt.Sprintf("Acked(%d)", nr)
		got, want = v.Acked(nr), m.Acked(nr)
	case k < 19:
		what, got, want = "Took", v.Took(), m.Took()
	case d.below(4) > 0:
		what, got, want = "Back", v.Back(), m.Back()
	case d.below(8) == 0:
		what = "Clear"
		v.Clear()
		*m = model{}
	}
	if got != want {
		t.Fatalf("%s: %d, want %d (%s)", what, got, want, m.text())
	}
	wantModel(t, "behind "+what, v, *m)
}

func TestManyCalls(t *testing.T) {
	d := dice(16)
	for run := range 60 {
		var v vars.Vars
		var m model
		for range 2000 {
			step(t, &d, &v, &m, 8+run%8)
		}
	}
}

// R1, R5, R7.

func TestNoNumberPanics(t *testing.T) {
	v := new(vars.Vars)
	for _, nr := range far {
		v.Acked(nr)
		v.Sent()
		v.Took()
	}
}

func TestSameCallsSameAnswers(t *testing.T) {
	var a, b vars.Vars
	d, e := dice(7), dice(7)
	var m, n model
	for range 3000 {
		step(t, &d, &a, &m, 12)
	}
	for range 3000 {
		step(t, &e, &b, &n, 12)
	}
	if text(&a) != text(&b) {
		t.Errorf("the same calls: %s, %s", text(&a), text(&b))
	}
}

func TestTwoChangeNothingInOneAnother(t *testing.T) {
	var a, b vars.Vars
	var m, n model
	d := dice(99)
	for range 5000 {
		step(t, &d, &a, &m, 11)
		wantModel(t, "the other one", &b, n)
		step(t, &d, &b, &n, 13)
		wantModel(t, "the one", &a, m)
	}
}

func TestNilAnswersZeroValues(t *testing.T) {
	var v *vars.Vars
	for range 2 {
		wantNumbers(t, "nil", v, 0, 0, 0)
		wantAnswer(t, "nil: Sent", v.Sent(), 0)
		wantAnswer(t, "nil: Took", v.Took(), 0)
		wantAnswer(t, "nil: Back", v.Back(), 0)
		for nr := -1; nr <= ring; nr++ {
			wantAnswer(t, "nil: Acked", v.Acked(nr), 0)
		}
		for _, nr := range far {
			wantAnswer(t, "nil: Acked", v.Acked(nr), 0)
		}
		v.Clear()
	}
}
