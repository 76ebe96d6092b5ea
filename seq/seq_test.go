package seq_test

import (
	"math"
	"math/big"
	"testing"

	"antiphon/seq"
)

// ring is written out: were seq.Ring another one, the tests would tell.
const ring = 128

// edges are numbers about the ends and the middle of the ring, some rings ahead and behind.
func edges() []int {
	var list []int
	for round := -3; round <= 3; round++ {
		for _, n := range []int{-2, -1, 0, 1, 2, 31, 32, 33, 62, 63, 64, 65, 66, 95, 96, 97} {
			list = append(list, round*ring+n)
		}
	}
	return list
}

// far are numbers of which many a sum and many a difference no longer fits.
func far() []int {
	list := []int{-1 << 32, -1<<31 - 1, -1 << 31, -65537, -32769, -32768, 32767, 32768, 65535, 1<<31 - 1, 1 << 31, 1<<32 - 1, 1 << 32, 1<<32 + 1}
	for _, n := range []int{0, 1, 2, 62, 63, 64, 65, 66, 126, 127, 128, 129} {
		list = append(list, math.MinInt+n, math.MinInt/2-n, math.MaxInt/2+n, math.MaxInt-n)
	}
	return list
}

func edgesAndFar() []int { return append(edges(), far()...) }

// eachPairOfTheRing tells of all pairs of numbers from 0 to 127.
func eachPairOfTheRing(yield func(int, int) bool) {
	for a := range ring {
		for b := range ring {
			if !yield(a, b) {
				return
			}
		}
	}
}

// eachPair tells of all pairs of edges and of what is far.
func eachPair(yield func(int, int) bool) {
	for _, a := range edgesAndFar() {
		for _, b := range edgesAndFar() {
			if !yield(a, b) {
				return
			}
		}
	}
}

// fold is n modulo 128, by the language's own remainder.
func fold(n int) int { return (n%ring + ring) % ring }

// sum is of numbers that are never too great.
func sum(a, n int) int {
	whole := new(big.Int).Add(big.NewInt(int64(a)), big.NewInt(int64(n)))
	return int(whole.Mod(whole, big.NewInt(ring)).Int64())
}

// next is the number one step up from one of the ring.
func next(n int) int {
	if n == ring-1 {
		return 0
	}
	return n + 1
}

// steps walks up from the one to the other.
func steps(from, to int) int {
	count, end := 0, fold(to)
	for n := fold(from); n != end; n = next(n) {
		count++
	}
	return count
}

// less is what Less tells of two that lie so many steps up apart.
func less(up int) int {
	switch {
	case up == 0:
		return 0
	case up < 64:
		return -1
	}
	return 1
}

// isOneOf walks up from from to to.
func isOneOf(x, from, to int) bool {
	asked, end := fold(x), fold(to)
	for n := fold(from); ; n = next(n) {
		if n == asked {
			return true
		}
		if n == end {
			return false
		}
	}
}

func wantAdd(t *testing.T, a, n, want int) {
	t.Helper()
	if got := seq.Add(a, n); got != want {
		t.Errorf("Add(%d, %d): %d, want %d", a, n, got, want)
	}
}

func wantDist(t *testing.T, from, to, want int) {
	t.Helper()
	if got := seq.Dist(from, to); got != want {
		t.Errorf("Dist(%d, %d): %d, want %d", from, to, got, want)
	}
}

func wantLess(t *testing.T, a, b, want int) {
	t.Helper()
	if got := seq.Less(a, b); got != want {
		t.Errorf("Less(%d, %d): %d, want %d", a, b, got, want)
	}
}

func wantIn(t *testing.T, x, from, to int, want bool) {
	t.Helper()
	if seq.In(x, from, to) != want {
		t.Errorf("In(%d, %d, %d): %v", x, from, to, !want)
	}
}

func TestChapterExamples(t *testing.T) {
	if seq.Ring != 128 {
		t.Errorf("Ring: %d, want 128", seq.Ring)
	}
	wantAdd(t, 127, 2, 1)
	wantDist(t, 127, 1, 2)
	wantLess(t, 1, 127, 1)
	wantIn(t, 0, 126, 1, true)
}

// P9.1: Add.

func TestAddOfAllPairsOfTheRing(t *testing.T) {
	for a := range ring {
		want := a
		for n := range ring {
			wantAdd(t, a, n, want)
			want = next(want)
		}
	}
}

func TestAddByEveryStepUpAndDown(t *testing.T) {
	for a := range ring {
		up := a
		for n := range 3*ring + 2 {
			wantAdd(t, a, n, up)
			wantAdd(t, up, -n, a)
			up = next(up)
		}
	}
}

func TestAddByHand(t *testing.T) {
	wantAdd(t, 0, 0, 0)
	wantAdd(t, 127, 0, 127)
	wantAdd(t, 127, 1, 0)
	wantAdd(t, 0, -1, 127)
	wantAdd(t, 0, 127, 127)
	wantAdd(t, 0, 128, 0)
	wantAdd(t, 128, 0, 0)
	wantAdd(t, 5, 129, 6)
	wantAdd(t, 255, 1, 0)
	wantAdd(t, -1, 0, 127)
	wantAdd(t, -127, -2, 127)
	wantAdd(t, -128, 0, 0)
	wantAdd(t, -129, 0, 127)
	wantAdd(t, math.MaxInt, 0, 127)
	wantAdd(t, math.MaxInt, 1, 0)
	wantAdd(t, math.MaxInt, math.MaxInt, 126)
	wantAdd(t, math.MinInt, 0, 0)
	wantAdd(t, math.MinInt, -1, 127)
	wantAdd(t, math.MinInt, math.MinInt, 0)
	wantAdd(t, math.MinInt, math.MaxInt, 127)
}

func TestAddOfAnyNumbers(t *testing.T) {
	for a, n := range eachPair {
		wantAdd(t, a, n, sum(a, n))
	}
}

// P9.1: Dist.

func TestDistOfAllPairsOfTheRing(t *testing.T) {
	for from, to := range eachPairOfTheRing {
		wantDist(t, from, to, steps(from, to))
	}
}

func TestDistByHand(t *testing.T) {
	wantDist(t, 0, 0, 0)
	wantDist(t, 127, 127, 0)
	wantDist(t, 0, 1, 1)
	wantDist(t, 1, 0, 127)
	wantDist(t, 0, 127, 127)
	wantDist(t, 127, 0, 1)
	wantDist(t, 0, 64, 64)
	wantDist(t, 64, 0, 64)
	wantDist(t, 100, 20, 48)
	wantDist(t, 3, 131, 0)
	wantDist(t, 128, 127, 127)
	wantDist(t, -1, 0, 1)
	wantDist(t, 0, -1, 127)
	wantDist(t, -130, -1, 1)
	wantDist(t, math.MinInt, math.MaxInt, 127)
	wantDist(t, math.MaxInt, math.MinInt, 1)
	wantDist(t, math.MinInt, 0, 0)
	wantDist(t, 0, math.MinInt, 0)
	wantDist(t, -1, math.MaxInt, 0)
	wantDist(t, 1, math.MinInt, 127)
}

func TestDistOfAnyNumbers(t *testing.T) {
	for from, to := range eachPair {
		wantDist(t, from, to, steps(from, to))
	}
}

// P9.1: Less.

func TestLessOfAllPairsOfTheRing(t *testing.T) {
	for a, b := range eachPairOfTheRing {
		wantLess(t, a, b, less(steps(a, b)))
	}
}

// From each number, by each round: to the one itself, and on both sides of the half of the ring.
func TestLessAboutTheHalf(t *testing.T) {
	for _, a := range edges() {
		for round := -3; round <= 3; round++ {
			b := a + round*ring
			wantLess(t, a, b, 0)
			wantLess(t, a, b+1, -1)
			wantLess(t, a, b+62, -1)
			wantLess(t, a, b+63, -1)
			wantLess(t, a, b+64, 1)
			wantLess(t, a, b+65, 1)
			wantLess(t, a, b+126, 1)
			wantLess(t, a, b+127, 1)
			wantLess(t, a, b+128, 0)
		}
	}
}

func TestLessByHand(t *testing.T) {
	wantLess(t, 0, 0, 0)
	wantLess(t, 0, 128, 0)
	wantLess(t, -128, 128, 0)
	wantLess(t, 127, -1, 0)
	wantLess(t, 0, 1, -1)
	wantLess(t, 1, 0, 1)
	wantLess(t, 127, 0, -1)
	wantLess(t, 0, 127, 1)
	wantLess(t, 0, 63, -1)
	wantLess(t, 0, 64, 1)
	wantLess(t, 0, 65, 1)
	wantLess(t, 65, 0, -1)
	wantLess(t, 64, 0, 1)
	wantLess(t, 63, 0, 1)
	wantLess(t, 100, 35, -1)
	wantLess(t, 100, 36, 1)
	wantLess(t, 100, 37, 1)
	wantLess(t, math.MinInt, math.MaxInt, 1)
	wantLess(t, math.MaxInt, math.MinInt, -1)
	wantLess(t, math.MinInt, math.MinInt, 0)
	wantLess(t, math.MaxInt, math.MaxInt, 0)
	wantLess(t, math.MaxInt, -1, 0)
	wantLess(t, math.MinInt, 63, -1)
	wantLess(t, math.MinInt, 64, 1)
}

func TestLessOfAnyNumbers(t *testing.T) {
	for a, b := range eachPair {
		wantLess(t, a, b, less(steps(a, b)))
	}
}

// P9.1: In.

func TestInOfTheWholeRing(t *testing.T) {
	for from := range ring {
		for to := range ring {
			in, x := true, from
			for range ring {
				wantIn(t, x, from, to, in)
				in = in && x != to
				x = next(x)
			}
		}
	}
}

func TestInAtTheEnds(t *testing.T) {
	for _, from := range edges() {
		for _, to := range edges() {
			wantIn(t, from, from, to, true)
			wantIn(t, to, from, to, true)
			all := fold(from) == fold(to+1) // from to to once round
			wantIn(t, from-1, from, to, all)
			wantIn(t, to+1, from, to, all)
		}
	}
}

// Where from is to, it alone is in.
func TestInOfOneNumber(t *testing.T) {
	for _, from := range edges() {
		for round := -2; round <= 2; round++ {
			to := from + round*ring
			for up := range ring {
				wantIn(t, from+up, from, to, up == 0)
			}
		}
	}
}

func TestInByHand(t *testing.T) {
	wantIn(t, 5, 5, 5, true)
	wantIn(t, 4, 5, 5, false)
	wantIn(t, 6, 5, 5, false)
	wantIn(t, 5, 5, 7, true)
	wantIn(t, 6, 5, 7, true)
	wantIn(t, 7, 5, 7, true)
	wantIn(t, 8, 5, 7, false)
	wantIn(t, 4, 5, 7, false)
	wantIn(t, 126, 126, 1, true)
	wantIn(t, 127, 126, 1, true)
	wantIn(t, 1, 126, 1, true)
	wantIn(t, 2, 126, 1, false)
	wantIn(t, 125, 126, 1, false)
	wantIn(t, 64, 126, 1, false)
	wantIn(t, 64, 1, 126, true)
	wantIn(t, 0, 1, 0, true)
	wantIn(t, 100, 50, 49, true)
	wantIn(t, -2, 126, 1, true)
	wantIn(t, -128, -2, 129, true)
	wantIn(t, 130, -2, 129, false)
	wantIn(t, 0, math.MinInt, math.MaxInt, true)
	wantIn(t, 0, math.MaxInt, math.MinInt, true)
	wantIn(t, 1, math.MaxInt, math.MinInt, false)
	wantIn(t, math.MinInt, -1, 1, true)
	wantIn(t, math.MaxInt, -1, 1, true)
	wantIn(t, math.MaxInt, 0, 126, false)
}

func TestInOfAnyNumbers(t *testing.T) {
	for _, x := range edgesAndFar() {
		for _, from := range far() {
			for _, to := range far() {
				wantIn(t, x, from, to, isOneOf(x, from, to))
			}
		}
	}
	for _, x := range far() {
		for _, from := range edgesAndFar() {
			for _, to := range edges() {
				wantIn(t, x, from, to, isOneOf(x, from, to))
			}
		}
	}
}

// P9.2.

func wantUpByDist(t *testing.T, from, to int) {
	t.Helper()
	if got := seq.Add(from, seq.Dist(from, to)); got != fold(to) {
		t.Errorf("from %d up by Dist to %d: %d, want %d", from, to, got, fold(to))
	}
}

func wantThereAndBack(t *testing.T, from, to int) {
	t.Helper()
	want := ring
	if fold(from) == fold(to) {
		want = 0
	}
	if got := seq.Dist(from, to) + seq.Dist(to, from); got != want {
		t.Errorf("from %d to %d and back: %d steps, want %d", from, to, got, want)
	}
}

func TestUpByDistIsTheOtherOne(t *testing.T) {
	for from, to := range eachPairOfTheRing {
		wantUpByDist(t, from, to)
	}
	for from, to := range eachPair {
		wantUpByDist(t, from, to)
	}
}

func TestDistThereAndBack(t *testing.T) {
	for from, to := range eachPairOfTheRing {
		wantThereAndBack(t, from, to)
	}
	for from, to := range eachPair {
		wantThereAndBack(t, from, to)
	}
}

// Dist tells by how much a number was put up.
func TestDistOfWhatWasAdded(t *testing.T) {
	for a, n := range eachPair {
		wantDist(t, a, seq.Add(a, n), fold(n))
	}
}

// R1, R5: no number makes a call panic, and what it answers hangs on its numbers alone.

type answers struct {
	add, dist, less int
	in              bool
}

// ask recovers, so that a panic is told with its numbers.
func ask(t *testing.T, x, from, to int) (got answers) {
	t.Helper()
	defer func() {
		if told := recover(); told != nil {
			t.Errorf("of %d, %d, %d: panic: %v", x, from, to, told)
		}
	}()
	return answers{seq.Add(from, to), seq.Dist(from, to), seq.Less(from, to), seq.In(x, from, to)}
}

func TestAnyNumbersEndWell(t *testing.T) {
	for _, x := range far() {
		for from, to := range eachPair {
			got := ask(t, x, from, to)
			if got.add < 0 || got.add >= ring || got.dist < 0 || got.dist >= ring || got.less < -1 || got.less > 1 {
				t.Errorf("of %d, %d, %d: %+v", x, from, to, got)
			}
		}
	}
}

func TestTheSameNumbersHaveTheSameAnswers(t *testing.T) {
	type numbers struct{ x, from, to int }
	first := map[numbers]answers{}
	for range 3 {
		for _, x := range []int{math.MinInt, -1, 0, 64, 127, math.MaxInt} {
			for from, to := range eachPair {
				n := numbers{x, from, to}
				got := ask(t, x, from, to)
				if was, ok := first[n]; ok && got != was {
					t.Errorf("of %+v: %+v, and %+v ahead", n, got, was)
				}
				first[n] = got
			}
		}
	}
}
