package window_test

import (
	"fmt"
	"math"
	"testing"

	"antiphon/api"
	"antiphon/window"
)

// Written out: were api.MaxWindow another one, the tests would tell.
const maxWindow = 64

// low are numbers below 1: as a most they are refused, as so many more they are nothing.
var low = []int{math.MinInt, math.MinInt + 1, math.MinInt + 2, math.MinInt + 64, -1 << 32, -1<<32 + 1, -1<<32 + 64, -1 << 31, -65535, -65536, -257, -256, -255, -128, -127, -65, -64, -63, -2, -1, 0}

// high are numbers beyond each most; in 7, 8, 16 or 32 bits many of them would be small ones.
var high = []int{65, 66, 127, 128, 129, 192, 255, 256, 257, 320, 65535, 65536, 65537, 65600, 1<<31 - 1, 1 << 31, 1<<32 - 1, 1 << 32, 1<<32 + 1, 1<<32 + 64, math.MaxInt - 64, math.MaxInt - 1, math.MaxInt}

// made is a window of that most.
func made(t *testing.T, most int) *window.Window {
	t.Helper()
	w, e := window.New(most)
	if w == nil || e != api.OK {
		t.Fatalf("New(%d): %v, %v, want one and ok", most, w, e)
	}
	return w
}

// slow is one of that most behind Slow.
func slow(t *testing.T, most int) *window.Window {
	t.Helper()
	w := made(t, most)
	w.Slow()
	wantNow(t, fmt.Sprintf("behind New(%d) and Slow", most), w, 1)
	return w
}

func wantNow(t *testing.T, what string, w *window.Window, want int) {
	t.Helper()
	for range 2 {
		if got := w.Now(); got != want {
			t.Fatalf("%s: %d wide, want %d", what, got, want)
		}
	}
}

// acked tells n more, and holds how wide it is behind them.
func acked(t *testing.T, w *window.Window, n, want int) {
	t.Helper()
	before := w.Now()
	w.Acked(n)
	wantNow(t, fmt.Sprintf("%d wide, behind Acked(%d)", before, n), w, want)
}

// upTo is 1 + 2 + .. + (k - 1): as many more as make it k wide behind Slow.
func upTo(k int) int {
	sum := 0
	for wide := 1; wide < k; wide++ {
		sum += wide
	}
	return sum
}

func TestChapterExample(t *testing.T) {
	w := made(t, 4)
	w.Slow()
	w.Acked(1)
	wantNow(t, "behind one", w, 2)
	w.Acked(2)
	wantNow(t, "behind two more", w, 3)
	w.Acked(2)
	wantNow(t, "behind two more again", w, 3)
}

// P17.1: New.

func TestNewOfEachMost(t *testing.T) {
	for most := 1; most <= maxWindow; most++ {
		wantNow(t, "a new one", made(t, most), most)
	}
}

func TestNewOfNoMost(t *testing.T) {
	for _, list := range [][]int{low, high} {
		for _, most := range list {
			if w, e := window.New(most); w != nil || e != api.ErrArg {
				t.Errorf("New(%d): %v, %v, want nil and %v", most, w, e, api.ErrArg)
			}
		}
	}
}

// P17.1: Slow.

func TestSlowOfOneThatIsMostWide(t *testing.T) {
	for most := 1; most <= maxWindow; most++ {
		w := made(t, most)
		w.Slow()
		wantNow(t, "behind Slow", w, 1)
		acked(t, w, 1, min(2, most))
		acked(t, w, 1, min(2, most))
	}
}

func TestSlowOfOneThatIsOneWide(t *testing.T) {
	w := slow(t, 8)
	for range 3 {
		w.Slow()
		wantNow(t, "behind Slow again", w, 1)
	}
	acked(t, w, 1, 2)
	acked(t, w, 2, 3)
}

func TestSlowOfOneThatHasCounted(t *testing.T) {
	for k := 1; k < maxWindow; k++ {
		for some := range k {
			w := slow(t, maxWindow)
			acked(t, w, upTo(k)+some, k)
			w.Slow()
			wantNow(t, "behind Slow in the midst", w, 1)
			acked(t, w, 1, 2)
			acked(t, w, 1, 2)
			acked(t, w, 1, 3)
			acked(t, w, 2, 3)
			acked(t, w, 1, 4)
		}
	}
}

func TestSlowForgetsWhatWasCountedAheadOfIt(t *testing.T) {
	w := slow(t, 4)
	acked(t, w, 2, 2)
	w.Slow()
	acked(t, w, 1, 2)
	acked(t, w, 1, 2)
	w.Slow()
	acked(t, w, 3, 3)
	acked(t, w, 2, 3)
	acked(t, w, 1, 4)
}

// P17.1: Acked.

func TestAckedOneByOne(t *testing.T) {
	want := []int{2, 2, 3, 3, 3, 4, 4, 4, 4, 5, 5, 5, 5, 5, 6, 6, 6, 6, 6, 6, 6, 6}
	w := slow(t, 6)
	for _, wide := range want {
		acked(t, w, 1, wide)
	}
}

func TestAckedOneByOneOfEachMost(t *testing.T) {
	for most := 1; most <= maxWindow; most++ {
		w := slow(t, most)
		for wide := 1; wide < most; wide++ {
			for range wide - 1 {
				acked(t, w, 1, wide)
			}
			acked(t, w, 1, wide+1)
		}
		for range 3 * maxWindow {
			acked(t, w, 1, most)
		}
	}
}

func TestAckedSeveralAtOnce(t *testing.T) {
	w := slow(t, 10)
	acked(t, w, 2, 2)
	acked(t, w, 3, 3)
	acked(t, w, 4, 4)
	acked(t, w, 8, 6)
	acked(t, w, 10, 7)
	acked(t, w, 15, 9)
	acked(t, w, 2, 9)
	acked(t, w, 1, 10)
}

func TestAckedAllAtOnce(t *testing.T) {
	for most := 2; most <= maxWindow; most++ {
		acked(t, slow(t, most), upTo(most), most)
		acked(t, slow(t, most), upTo(most)-1, most-1)
		acked(t, slow(t, most), upTo(most)+1, most)
	}
	acked(t, slow(t, 1), 1, 1)
}

func TestAckedOfOneThatIsMostWide(t *testing.T) {
	for most := 1; most <= maxWindow; most++ {
		w := made(t, most)
		for _, n := range []int{1, most - 1, most, most + 1, upTo(most), maxWindow, 5000} {
			acked(t, w, n, most)
		}
		w.Slow()
		wantNow(t, "behind Slow: none was counted", w, 1)
		acked(t, w, upTo(most), most)
		acked(t, w, most-1, most)
		acked(t, w, 1, most)
		acked(t, w, 1, most)
		w.Slow()
		wantNow(t, "behind Slow again: none was counted", w, 1)
		acked(t, w, max(0, upTo(most)-1), max(1, most-1))
	}
}

func TestAckedOfOneWhoseMostIsOne(t *testing.T) {
	w := made(t, 1)
	for range 3 {
		for _, n := range []int{1, 1, 2, 3, 64, 1000, math.MaxInt, 0, -1} {
			acked(t, w, n, 1)
		}
		w.Slow()
		wantNow(t, "behind Slow", w, 1)
		acked(t, w, 1, 1)
		w.Fresh()
		wantNow(t, "behind Fresh", w, 1)
	}
}

func TestAckedOfNothing(t *testing.T) {
	for k := 1; k < maxWindow; k++ {
		w := slow(t, maxWindow)
		acked(t, w, upTo(k+1)-1, k)
		for _, n := range low {
			acked(t, w, n, k)
		}
		acked(t, w, 1, k+1)
		for _, n := range low {
			acked(t, w, n, k+1)
		}
		acked(t, w, k, min(k+1, maxWindow))
		for _, n := range low {
			acked(t, w, n, k+1)
		}
		acked(t, w, 1, min(k+2, maxWindow))
	}
}

func TestAckedOfNothingOfOneThatIsMostWide(t *testing.T) {
	w := made(t, 5)
	for _, n := range low {
		acked(t, w, n, 5)
	}
}

// R1: the greatest numbers end, and are counted till it is most wide.

func TestAckedOfTheGreatest(t *testing.T) {
	for most := 1; most <= maxWindow; most++ {
		w := slow(t, most)
		for range 3 {
			acked(t, w, math.MaxInt, most)
		}
		w.Slow()
		acked(t, w, 1, min(2, most))
		acked(t, w, math.MaxInt-1, most)
		w.Fresh()
		acked(t, w, math.MaxInt, most)
		w.Slow()
		acked(t, w, upTo(most), most)
	}
	for _, n := range high[13:] {
		w := slow(t, maxWindow)
		acked(t, w, n, maxWindow)
		acked(t, made(t, maxWindow), n, maxWindow)
	}
}

// P17.1: Fresh.

func TestFreshInTheMidst(t *testing.T) {
	for k := 1; k < maxWindow; k++ {
		for some := range k {
			w := slow(t, maxWindow)
			acked(t, w, upTo(k)+some, k)
			w.Fresh()
			wantNow(t, "behind Fresh", w, maxWindow)
			acked(t, w, 1, maxWindow)
			acked(t, w, 100, maxWindow)
			w.Slow()
			wantNow(t, "behind Fresh and Slow", w, 1)
			acked(t, w, 1, 2)
			acked(t, w, 1, 2)
			acked(t, w, 1, 3)
		}
	}
}

func TestFreshOfEachMost(t *testing.T) {
	for most := 1; most <= maxWindow; most++ {
		w := made(t, most)
		w.Fresh()
		wantNow(t, "behind Fresh of a new one", w, most)
		w.Slow()
		w.Fresh()
		wantNow(t, "behind Fresh of one that is 1 wide", w, most)
		w.Fresh()
		wantNow(t, "behind Fresh twice", w, most)
	}
}

// P17.2: what makes it k wide, in whatever parts.

func TestKWideInTwoParts(t *testing.T) {
	for k := 1; k <= maxWindow; k++ {
		sum := upTo(k)
		for first := 0; first <= sum; first += 1 + first/40 {
			w := slow(t, maxWindow)
			w.Acked(first)
			acked(t, w, sum-first, k)
			if k < maxWindow {
				wantNextAt(t, w, k, k)
			}
		}
	}
}

// wantNextAt holds that it stays k wide till so many more are counted, and is k + 1 wide then.
func wantNextAt(t *testing.T, w *window.Window, k, more int) {
	t.Helper()
	acked(t, w, more-1, k)
	acked(t, w, 1, k+1)
}

func TestKWideAtOneLessAndOneMore(t *testing.T) {
	for k := 2; k <= maxWindow; k++ {
		sum := upTo(k)
		w := slow(t, maxWindow)
		acked(t, w, sum-1, k-1)
		acked(t, w, 1, k)
		w = slow(t, maxWindow)
		acked(t, w, sum, k)
		w = slow(t, maxWindow)
		acked(t, w, sum+1, k)
		if k < maxWindow {
			wantNextAt(t, w, k, k-1)
		}
	}
}

func TestKWideInEqualParts(t *testing.T) {
	for _, most := range []int{1, 2, 3, 7, 32, 63, 64} {
		for part := 1; part <= 300; part++ {
			w := slow(t, most)
			for sum := 0; sum <= upTo(most)+part; sum += part {
				wantNow(t, fmt.Sprintf("%d more behind Slow", sum), w, wideBehind(most, sum))
				w.Acked(part)
			}
		}
	}
}

// wideBehind is the greatest k, most at most, with 1 + 2 + .. + (k - 1) no more than sum.
func wideBehind(most, sum int) int {
	k := 1
	for k < most && k*(k+1)/2 <= sum {
		k++
	}
	return k
}

func TestKWideInPartsByDice(t *testing.T) {
	d := dice(17)
	for range 400 {
		most := 1 + d.below(maxWindow)
		w := slow(t, most)
		part := 1 + d.below(90)
		for sum := 0; sum <= upTo(most)+100; {
			wantNow(t, fmt.Sprintf("most %d, %d more behind Slow", most, sum), w, wideBehind(most, sum))
			n := d.below(part + 1)
			w.Acked(n)
			sum += n
			if n == 0 {
				w.Acked(-1 - d.below(1000))
				w.Acked(1)
				sum++
			}
		}
	}
}

// All of them, against a model that keeps the sum behind the last Slow.

type dice uint32

func (d *dice) below(n int) int {
	*d = *d*1664525 + 1013904223
	return int(uint32(*d)>>8) % n
}

// model: sum is what was acknowledged behind the last Slow, -1 where none was behind the last Fresh.
type model struct {
	most, sum int
}

func (m model) wide() int {
	if m.sum < 0 {
		return m.most
	}
	return wideBehind(m.most, m.sum)
}

// step does one call on both, and holds how wide they are against one another.
func step(t *testing.T, d *dice, w *window.Window, m *model) {
	t.Helper()
	what := ""
	switch k := d.below(40); {
	case k == 0:
		what = "Slow"
		w.Slow()
		m.sum = 0
	case k == 1 && d.below(4) == 0:
		what = "Fresh"
		w.Fresh()
		m.sum = -1
	case k < 5:
		n := low[d.below(len(low))]
		what = fmt.Sprintf("Acked(%d)", n)
		w.Acked(n)
	default:
		n := 1 + d.below(1+d.below(m.most))
		what = fmt.Sprintf("Acked(%d)", n)
		w.Acked(n)
		if m.sum >= 0 {
			m.sum += n
		}
	}
	wantNow(t, fmt.Sprintf("%s, %d more behind Slow", what, m.sum), w, m.wide())
}

func TestManyCalls(t *testing.T) {
	d := dice(170)
	for most := 1; most <= maxWindow; most++ {
		w := made(t, most)
		m := model{most, -1}
		for range 3000 {
			step(t, &d, w, &m)
		}
	}
}

// R5, R7.

func TestSameCallsSameAnswers(t *testing.T) {
	for most := 1; most <= maxWindow; most += 7 {
		a, b := made(t, most), made(t, most)
		d, e := dice(5), dice(5)
		m, n := model{most, -1}, model{most, -1}
		for range 2000 {
			step(t, &d, a, &m)
		}
		for range 2000 {
			step(t, &e, b, &n)
		}
		wantNow(t, "the same calls", a, b.Now())
	}
}

func TestTwoChangeNothingInOneAnother(t *testing.T) {
	for _, mosts := range [][2]int{{1, 64}, {64, 64}, {5, 9}, {30, 30}} {
		a, b := made(t, mosts[0]), made(t, mosts[1])
		m, n := model{mosts[0], -1}, model{mosts[1], -1}
		d := dice(88)
		for range 3000 {
			step(t, &d, a, &m)
			wantNow(t, "the other one", b, n.wide())
			step(t, &d, b, &n)
			wantNow(t, "the one", a, m.wide())
		}
	}
}

func TestRefusedNewChangesNothing(t *testing.T) {
	w := slow(t, 6)
	acked(t, w, 2, 2)
	for _, most := range append(append([]int{}, low...), high...) {
		window.New(most)
	}
	acked(t, w, 1, 3)
	w.Fresh()
	wantNow(t, "behind Fresh", w, 6)
}

// wantNone calls all there is on one that has no room.
func wantNone(t *testing.T, what string, w *window.Window) {
	t.Helper()
	for range 2 {
		wantNow(t, what, w, 0)
		w.Slow()
		wantNow(t, what+" behind Slow", w, 0)
		for _, n := range []int{1, 2, 64, math.MaxInt, 0, -1, math.MinInt} {
			w.Acked(n)
			wantNow(t, what+" behind Acked", w, 0)
		}
		w.Fresh()
		wantNow(t, what+" behind Fresh", w, 0)
	}
}

func TestNilAnswersZeroValues(t *testing.T) {
	wantNone(t, "nil", nil)
}

func TestZeroValueHasNoRoom(t *testing.T) {
	wantNone(t, "a zero value", new(window.Window))
	var w window.Window
	wantNone(t, "a zero value", &w)
}
