package clock_test

import (
	"fmt"
	"maps"
	"math"
	"runtime"
	"slices"
	"strings"
	"testing"
	"weak"

	"antiphon/api"
	"antiphon/clock"
)

// maxTicks is written out: were api.MaxTicks another one, the tests would tell.
const maxTicks = 10000

type pair struct {
	name string
	n    int
}

// run is a timer that runs: its key, and what is left.
type run[K comparable] struct {
	key  K
	left int
}

// badTicks are too few, or too many.
var badTicks = []int{math.MinInt, math.MinInt + 1, -1 << 32, -maxTicks, -2, -1, 0, maxTicks + 1, maxTicks + 2, 1 << 16, 1 << 32, math.MaxInt - 1, math.MaxInt}

func wantBool(t *testing.T, what string, got, want bool) {
	t.Helper()
	if got != want {
		t.Errorf("%s: %v, want %v", what, got, want)
	}
}

func wantCount(t *testing.T, what string, got, want int) {
	t.Helper()
	if got != want {
		t.Errorf("%s: %d, want %d", what, got, want)
	}
}

func wantKeys[K comparable](t *testing.T, what string, got []K, want ...K) {
	t.Helper()
	if !slices.Equal(got, want) {
		t.Errorf("%s: told %v, want %v", what, got, want)
	}
}

// walked is what a walk tells.
func walked[K comparable](c *clock.Clock[K]) (list []run[K]) {
	for k, left := range c.Each() {
		list = append(list, run[K]{k, left})
	}
	return list
}

// wantRuns asks Len, Each and Left: they must tell the same.
func wantRuns[K comparable](t *testing.T, what string, c *clock.Clock[K], want ...run[K]) {
	t.Helper()
	wantCount(t, what+": Len", c.Len(), len(want))
	if got := walked(c); !slices.Equal(got, want) {
		t.Errorf("%s: Each: %v, want %v", what, got, want)
	}
	for _, r := range want {
		wantCount(t, fmt.Sprintf("%s: Left(%v)", what, r.key), c.Left(r.key), r.left)
	}
}

// start starts timers that must all be taken.
func start[K comparable](t *testing.T, c *clock.Clock[K], timers ...run[K]) {
	t.Helper()
	for _, r := range timers {
		wantBool(t, fmt.Sprintf("Start(%v, %d)", r.key, r.left), c.Start(r.key, r.left), true)
	}
}

// made is a clock of so much room beside its timers.
func made[K comparable](t *testing.T, room int, timers ...run[K]) *clock.Clock[K] {
	t.Helper()
	c := clock.New[K](len(timers) + room)
	start(t, c, timers...)
	return c
}

// pass lets ticks go by at which none may be told.
func pass[K comparable](t *testing.T, c *clock.Clock[K], ticks int) {
	t.Helper()
	for range ticks {
		wantKeys(t, "a tick at which none ends", c.Tick())
	}
}

// The chapter's example.

func TestExample(t *testing.T) {
	c := clock.New[string](2)
	wantBool(t, "Start(a, 2)", c.Start("a", 2), true)
	wantBool(t, "Start(b, 1)", c.Start("b", 1), true)
	wantBool(t, "Start(c, 1)", c.Start("c", 1), false)
	wantKeys(t, "the first Tick", c.Tick(), "b")
	wantKeys(t, "the second Tick", c.Tick(), "a")
	wantKeys(t, "the third Tick", c.Tick())
}

// P10.1: New.

func TestNewStandsAtTimeZero(t *testing.T) {
	for _, most := range []int{math.MinInt, -1, 0, 1, 2, 64, math.MaxInt} {
		c := clock.New[string](most)
		what := fmt.Sprintf("New(%d)", most)
		wantCount(t, what+": Now", c.Now(), 0)
		wantRuns(t, what, c)
		wantCount(t, what+": Left", c.Left("a"), 0)
		wantBool(t, what+": Stop", c.Stop("a"), false)
	}
}

func TestNewOfNoRoom(t *testing.T) {
	for _, most := range []int{math.MinInt, -maxTicks, -2, -1, 0} {
		c := clock.New[string](most)
		for _, ticks := range append(badTicks, 1, 2, maxTicks) {
			wantBool(t, fmt.Sprintf("New(%d), Start(a, %d)", most, ticks), c.Start("a", ticks), false)
		}
		wantRuns(t, fmt.Sprintf("New(%d)", most), c)
		pass(t, c, 3)
		wantCount(t, "Now", c.Now(), 3)
	}
}

func TestNewOfRoomForOne(t *testing.T) {
	c := clock.New[string](1)
	start(t, c, run[string]{"a", 2})
	wantBool(t, "Start of another one", c.Start("b", 2), false)
	wantRuns(t, "with one", c, run[string]{"a", 2})
	start(t, c, run[string]{"a", 3})
	wantRuns(t, "the one, started anew", c, run[string]{"a", 3})
	wantBool(t, "Stop", c.Stop("a"), true)
	start(t, c, run[string]{"b", 1})
	wantKeys(t, "Tick", c.Tick(), "b")
	start(t, c, run[string]{"c", 1})
	wantBool(t, "Start of a third one", c.Start("a", 1), false)
	wantRuns(t, "at last", c, run[string]{"c", 1})
}

func TestNewOfAnyRoom(t *testing.T) {
	for most := range 100 {
		c := clock.New[int](most)
		for k := range most {
			wantBool(t, fmt.Sprintf("New(%d): Start of number %d", most, k), c.Start(k, 5), true)
		}
		wantBool(t, fmt.Sprintf("New(%d): one more", most), c.Start(most, 5), false)
		wantCount(t, "Len", c.Len(), most)
	}
	endless := clock.New[int](math.MaxInt)
	for k := range 1000 {
		wantBool(t, "Start of one more", endless.Start(k, 5), true)
	}
	wantCount(t, "Len", endless.Len(), 1000)
}

// P10.1: Start.

func TestStartOfTicks(t *testing.T) {
	if api.MaxTicks != maxTicks {
		t.Errorf("MaxTicks: %d, want %d", api.MaxTicks, maxTicks)
	}
	for _, ticks := range []int{1, 2, 3, 10, 255, 4096, maxTicks - 1, maxTicks} {
		c := made(t, 0, run[string]{"a", ticks})
		wantRuns(t, fmt.Sprintf("of %d ticks", ticks), c, run[string]{"a", ticks})
		pass(t, c, ticks-1)
		wantRuns(t, "ahead of its last tick", c, run[string]{"a", 1})
		wantKeys(t, "its last tick", c.Tick(), "a")
		wantRuns(t, "behind its last tick", c)
	}
}

func TestStartOfBadTicks(t *testing.T) {
	for _, ticks := range badTicks {
		c := made(t, 1, run[string]{"a", 3}, run[string]{"b", 2})
		what := fmt.Sprintf("of %d ticks", ticks)
		wantBool(t, "a new one "+what, c.Start("c", ticks), false)
		wantBool(t, "one that runs "+what, c.Start("a", ticks), false)
		wantRuns(t, what, c, run[string]{"a", 3}, run[string]{"b", 2})
		wantCount(t, "Left of the one that was refused", c.Left("c"), 0)
		wantKeys(t, what+": the first tick", c.Tick())
		wantKeys(t, what+": the second tick", c.Tick(), "b")
		wantKeys(t, what+": the third tick", c.Tick(), "a")
	}
}

func TestStartWhereThereAreMost(t *testing.T) {
	a, b := run[string]{"a", 3}, run[string]{"b", 3}
	c := made(t, 0, a, b)
	wantBool(t, "one more", c.Start("c", 1), false)
	wantBool(t, "one more, of the empty key", c.Start("", 1), false)
	wantRuns(t, "one more being refused", c, a, b)
	start(t, c, a)
	wantRuns(t, "one that runs, anew", c, b, a)
	wantBool(t, "one more, still", c.Start("c", 1), false)
	wantBool(t, "Stop", c.Stop("b"), true)
	start(t, c, run[string]{"c", 1})
	wantBool(t, "the stopped one's room is taken", c.Start("b", 1), false)
	wantRuns(t, "at last", c, a, run[string]{"c", 1})
}

// Anew with more ticks, with fewer, with as many: it stands behind the others by that.
func TestStartAnew(t *testing.T) {
	for _, ticks := range []int{1, 2, 3, 4, 5, 9, maxTicks} {
		for passed := range 4 {
			c := made(t, 0, run[string]{"a", 4}, run[string]{"b", 4}, run[string]{"c", 4})
			pass(t, c, passed)
			start(t, c, run[string]{"b", ticks})
			what := fmt.Sprintf("b anew with %d ticks behind %d", ticks, passed)
			left := 4 - passed
			wantRuns(t, what, c, run[string]{"a", left}, run[string]{"c", left}, run[string]{"b", ticks})
			for n := 1; n <= max(left, ticks); n++ {
				var want []string
				if n == left {
					want = append(want, "a", "c")
				}
				if n == ticks {
					want = append(want, "b")
				}
				wantKeys(t, fmt.Sprintf("%s, tick %d", what, n), c.Tick(), want...)
			}
			wantRuns(t, what+", at last", c)
		}
	}
}

func TestStartAnewOfTheLastOneAndTheOnlyOne(t *testing.T) {
	c := made(t, 0, run[string]{"a", 2}, run[string]{"b", 2})
	start(t, c, run[string]{"b", 2}, run[string]{"b", 2})
	wantRuns(t, "the last one", c, run[string]{"a", 2}, run[string]{"b", 2})
	start(t, c, run[string]{"a", 2})
	wantRuns(t, "the first one", c, run[string]{"b", 2}, run[string]{"a", 2})
	wantKeys(t, "the first tick", c.Tick())
	wantKeys(t, "the second tick", c.Tick(), "b", "a")
}

// At the very tick behind which it would have been told, time after time.
func TestStartAnewAtItsLastMoment(t *testing.T) {
	c := made(t, 0, run[string]{"a", 3})
	for range 5 {
		pass(t, c, 2)
		wantRuns(t, "the last moment", c, run[string]{"a", 1})
		start(t, c, run[string]{"a", 3})
	}
	start(t, c, run[string]{"a", 1})
	wantKeys(t, "Tick", c.Tick(), "a")
	wantRuns(t, "at last", c)
}

func TestStartBehindBeingTold(t *testing.T) {
	c := clock.New[string](1)
	for n := range 4 {
		start(t, c, run[string]{"a", n + 1})
		pass(t, c, n)
		wantKeys(t, "Tick", c.Tick(), "a")
		pass(t, c, 2)
	}
}

// P10.1: Stop.

func TestStop(t *testing.T) {
	timers := []run[string]{{"a", 2}, {"b", 1}, {"c", 2}, {"d", 2}}
	for at, gone := range timers {
		c := made(t, 0, timers...)
		wantBool(t, "Stop("+gone.key+")", c.Stop(gone.key), true)
		left := slices.Delete(slices.Clone(timers), at, at+1)
		wantRuns(t, "without "+gone.key, c, left...)
		wantCount(t, "Left of the one that was stopped", c.Left(gone.key), 0)
		wantBool(t, "Stop("+gone.key+") once more", c.Stop(gone.key), false)
		wantRuns(t, "without "+gone.key+", still", c, left...)
		start(t, c, gone)
		wantRuns(t, gone.key+" behind the others", c, append(left, gone)...)
	}
}

func TestStopOfOneThatDoesNotRun(t *testing.T) {
	c := made(t, 1, run[string]{"a", 1}, run[string]{"b", 2})
	wantBool(t, "one that never ran", c.Stop("c"), false)
	wantBool(t, "the empty key", c.Stop(""), false)
	wantRuns(t, "nothing is done", c, run[string]{"a", 1}, run[string]{"b", 2})
	wantKeys(t, "Tick", c.Tick(), "a")
	wantBool(t, "one that was told", c.Stop("a"), false)
	wantCount(t, "Left of one that was told", c.Left("a"), 0)
	wantRuns(t, "behind it", c, run[string]{"b", 1})
}

func TestStoppedOnesAreNotTold(t *testing.T) {
	c := made(t, 0, run[string]{"a", 2}, run[string]{"b", 2}, run[string]{"c", 2})
	wantBool(t, "Stop at once", c.Stop("a"), true)
	pass(t, c, 1)
	wantBool(t, "Stop at its last moment", c.Stop("b"), true)
	wantKeys(t, "Tick", c.Tick(), "c")
	pass(t, c, 5)
}

// Stopped and started, it is not told at the tick that was said at first.
func TestStopAndStart(t *testing.T) {
	c := made(t, 0, run[string]{"a", 2})
	wantBool(t, "Stop", c.Stop("a"), true)
	start(t, c, run[string]{"a", 4})
	pass(t, c, 3)
	wantKeys(t, "Tick", c.Tick(), "a")
	pass(t, c, 3)
}

// P10.1: Left.

func TestLeftGoesDown(t *testing.T) {
	c := made(t, 1, run[string]{"a", 3}, run[string]{"b", 5})
	for n := range 7 {
		wantCount(t, fmt.Sprintf("Left(a) behind %d ticks", n), c.Left("a"), max(0, 3-n))
		wantCount(t, fmt.Sprintf("Left(b) behind %d ticks", n), c.Left("b"), max(0, 5-n))
		wantCount(t, "Left of one that never ran", c.Left("c"), 0)
		c.Tick()
	}
	wantCount(t, "asking starts nothing: Len", c.Len(), 0)
}

// P10.2: Tick.

func TestTickAtWhichNoneOneSomeAndAllEnd(t *testing.T) {
	c := made(t, 0, run[int]{1, 4}, run[int]{2, 2}, run[int]{3, 3}, run[int]{4, 4}, run[int]{5, 3}, run[int]{6, 4})
	wantKeys(t, "none", c.Tick())
	wantKeys(t, "one", c.Tick(), 2)
	wantKeys(t, "several", c.Tick(), 3, 5)
	wantRuns(t, "those that are left", c, run[int]{1, 1}, run[int]{4, 1}, run[int]{6, 1})
	wantKeys(t, "all", c.Tick(), 1, 4, 6)
	wantRuns(t, "none is left", c)
	wantKeys(t, "none again", c.Tick())
}

// The order is that of the starts, not that of keys, nor of how long each ran.
func TestTickTellsInTheOrderOfStarts(t *testing.T) {
	c := clock.New[string](6)
	start(t, c, run[string]{"d", 4})
	pass(t, c, 1)
	start(t, c, run[string]{"a", 3}, run[string]{"c", 3})
	pass(t, c, 1)
	start(t, c, run[string]{"e", 2}, run[string]{"a", 2})
	pass(t, c, 1)
	start(t, c, run[string]{"b", 1}, run[string]{"d", 1})
	wantRuns(t, "ahead of it", c, run[string]{"c", 1}, run[string]{"e", 1}, run[string]{"a", 1}, run[string]{"b", 1}, run[string]{"d", 1})
	wantKeys(t, "Tick", c.Tick(), "c", "e", "a", "b", "d")
}

// Of many, and however they are begun: an order that hung on a map would not hold.
func TestTickOfMany(t *testing.T) {
	for most := range 65 {
		c := clock.New[int](most)
		var want []int
		for n := range most {
			k := (n * 37) % 65
			start(t, c, run[int]{k, 1})
			want = append(want, k)
		}
		wantKeys(t, fmt.Sprintf("of %d", most), c.Tick(), want...)
		wantRuns(t, "none is left", c)
	}
}

func TestTickMakesRoom(t *testing.T) {
	c := made(t, 0, run[string]{"a", 1}, run[string]{"b", 2}, run[string]{"c", 1})
	c.Tick()
	start(t, c, run[string]{"d", 1}, run[string]{"e", 1})
	wantBool(t, "one more", c.Start("f", 1), false)
	wantKeys(t, "Tick", c.Tick(), "b", "d", "e")
}

// P10.2: Now.

func TestNow(t *testing.T) {
	empty := clock.New[string](1)
	c := made(t, 0, run[string]{"a", 3}, run[string]{"b", maxTicks})
	for n := range 3*maxTicks + 1 {
		if empty.Now() != n || c.Now() != n {
			t.Fatalf("Now behind %d ticks: %d and %d", n, empty.Now(), c.Now())
		}
		empty.Tick()
		c.Tick()
	}
	start(t, c, run[string]{"a", 2})
	c.Stop("a")
	c.Start("a", 0)
	c.Left("a")
	walked(c)
	wantCount(t, "Now: no other call counts", c.Now(), 3*maxTicks+1)
	start(t, c, run[string]{"a", maxTicks})
	pass(t, c, maxTicks-1)
	wantKeys(t, "late, too, a timer ends as it was said", c.Tick(), "a")
}

// P10.2: Each.

func TestEach(t *testing.T) {
	for n := range 6 {
		timers := []run[pair]{{pair{"b", 2}, 9}, {pair{"a", 1}, 7}, {pair{"b", 1}, 8}, {pair{}, 9}, {pair{"a", 2}, maxTicks}}[:n]
		c := made(t, 0, timers...)
		wantRuns(t, fmt.Sprintf("%d", n), c, timers...)
		pass(t, c, 4)
		for i := range timers {
			timers[i].left -= 4
		}
		wantRuns(t, fmt.Sprintf("%d, four ticks later", n), c, timers...)
	}
}

func TestEachBrokenOff(t *testing.T) {
	timers := []run[string]{{"a", 4}, {"b", 3}, {"c", 2}, {"d", 1}}
	c := made(t, 0, timers...)
	for stop := range timers {
		var told []run[string]
		for k, left := range c.Each() {
			told = append(told, run[string]{k, left})
			if len(told) == stop+1 {
				break
			}
		}
		if !slices.Equal(told, timers[:stop+1]) {
			t.Errorf("broken off behind %d: %v", stop+1, told)
		}
		wantRuns(t, "broken off", c, timers...)
	}
	calls := 0
	c.Each()(func(string, int) bool {
		calls++
		return calls < 2
	})
	wantCount(t, "asked by hand: calls", calls, 2)
}

// TestEachWhileClockChanges: what runs as the walk begins is told, with what is left as it begins, whatever is done meanwhile.
func TestEachWhileClockChanges(t *testing.T) {
	timers := []run[string]{{"a", 5}, {"b", 4}, {"c", 2}}
	for _, c := range []struct {
		what   string
		change func(c *clock.Clock[string], k string)
		left   []run[string]
	}{
		{"Start of another one", func(c *clock.Clock[string], k string) { c.Start("d", 9) }, []run[string]{{"a", 5}, {"b", 4}, {"c", 2}, {"d", 9}}},
		{"Start of another one each time", func(c *clock.Clock[string], k string) { c.Start(k+k, 9) }, []run[string]{{"a", 5}, {"b", 4}, {"c", 2}, {"aa", 9}, {"bb", 9}}},
		{"Start anew", func(c *clock.Clock[string], k string) { c.Start(k, 9) }, []run[string]{{"a", 9}, {"b", 9}, {"c", 9}}},
		{"Start anew of one ahead of it", func(c *clock.Clock[string], k string) { c.Start("c", 8) }, []run[string]{{"a", 5}, {"b", 4}, {"c", 8}}},
		{"Stop", func(c *clock.Clock[string], k string) { c.Stop(k) }, nil},
		{"Stop of one ahead of it", func(c *clock.Clock[string], k string) { c.Stop("b") }, []run[string]{{"a", 5}, {"c", 2}}},
		{"Stop of all", func(c *clock.Clock[string], k string) { c.Stop("a"); c.Stop("b"); c.Stop("c") }, nil},
		{"Stop, and Start of others", func(c *clock.Clock[string], k string) { c.Stop(k); c.Start("x", 7); c.Start("y", 7) }, []run[string]{{"x", 7}, {"y", 7}}},
		{"Tick", func(c *clock.Clock[string], k string) { c.Tick() }, []run[string]{{"a", 2}, {"b", 1}}},
		{"Tick till none runs", func(c *clock.Clock[string], k string) { c.Tick(); c.Tick() }, nil},
	} {
		of := made(t, 2, timers...)
		var told []run[string]
		for k, left := range of.Each() {
			told = append(told, run[string]{k, left})
			c.change(of, k)
		}
		if !slices.Equal(told, timers) {
			t.Errorf("%s in the midst of a walk: %v, want %v", c.what, told, timers)
		}
		wantRuns(t, c.what, of, c.left...)
	}
}

func TestWalkWithinWalk(t *testing.T) {
	c := made(t, 0, run[string]{"a", 2}, run[string]{"b", 1})
	var told []string
	for k, left := range c.Each() {
		for l, leftOfIt := range c.Each() {
			told = append(told, fmt.Sprintf("%s%d %s%d", k, left, l, leftOfIt))
		}
		c.Tick()
	}
	if want := []string{"a2 a2", "a2 b1", "b1 a1"}; !slices.Equal(told, want) {
		t.Errorf("a walk within one that ticks: %q, want %q", told, want)
	}
}

// TestEachBeginsAsItIsRangedOver: not as Each is called.
func TestEachBeginsAsItIsRangedOver(t *testing.T) {
	c := clock.New[string](2)
	each := c.Each()
	wantWalk := func(want ...run[string]) {
		t.Helper()
		var told []run[string]
		for k, left := range each {
			told = append(told, run[string]{k, left})
		}
		if !slices.Equal(told, want) {
			t.Errorf("ranged over: %v, want %v", told, want)
		}
	}
	wantWalk()
	start(t, c, run[string]{"a", 2}, run[string]{"b", 3})
	wantWalk(run[string]{"a", 2}, run[string]{"b", 3})
	c.Tick()
	wantWalk(run[string]{"a", 1}, run[string]{"b", 2})
	start(t, c, run[string]{"a", 5})
	wantWalk(run[string]{"b", 2}, run[string]{"a", 5})
	c.Stop("b")
	wantWalk(run[string]{"a", 5})
}

func TestEachByNobody(t *testing.T) {
	made(t, 0, run[string]{"a", 2}).Each()(nil)
	clock.New[string](1).Each()(nil)
}

// TestEachWithBodyThatPanics: the panic is the caller's own, and leaves the clock as it is.
func TestEachWithBodyThatPanics(t *testing.T) {
	c := made(t, 0, run[string]{"a", 2}, run[string]{"b", 1})
	func() {
		defer func() { wantBool(t, "the caller hears of its own panic", recover() == "mine", true) }()
		for range c.Each() {
			panic("mine")
		}
	}()
	wantRuns(t, "behind it", c, run[string]{"a", 2}, run[string]{"b", 1})
}

// P10.1 and P10.2, all of them: against a plain list, however calls follow one another.

// entry is a timer of the model: which start it was, and the tick at which it is told.
type entry struct{ number, at int }

// model is what the chapter says: an order by numbers that are sorted as it is asked.
type model struct {
	most, now, starts int
	timers            map[int]entry
}

func (m *model) start(k, ticks int) bool {
	_, runs := m.timers[k]
	if ticks < 1 || ticks > maxTicks || !runs && len(m.timers) >= m.most {
		return false
	}
	m.starts++
	m.timers[k] = entry{m.starts, m.now + ticks}
	return true
}

func (m *model) stop(k int) bool {
	_, runs := m.timers[k]
	delete(m.timers, k)
	return runs
}

func (m *model) inOrder() []int {
	return slices.SortedFunc(maps.Keys(m.timers), func(a, b int) int { return m.timers[a].number - m.timers[b].number })
}

func (m *model) tick() (told []int) {
	m.now++
	for _, k := range m.inOrder() {
		if m.timers[k].at == m.now {
			told = append(told, k)
			delete(m.timers, k)
		}
	}
	return told
}

func (m *model) runs() (list []run[int]) {
	for _, k := range m.inOrder() {
		list = append(list, run[int]{k, m.timers[k].at - m.now})
	}
	return list
}

// numbers tells one number after the other, the same ones each time.
func numbers() func(n int) int {
	seed := uint32(7)
	return func(n int) int {
		seed = seed*1664525 + 1013904223
		return int(seed>>8) % n
	}
}

func TestAgainstModel(t *testing.T) {
	next := numbers()
	for _, most := range []int{0, 1, 2, 3, 7, 20} {
		c, m := clock.New[int](most), &model{most: most, timers: map[int]entry{}}
		for step := range 3000 {
			k, ticks := next(most+most/2+2), next(9)-1
			switch next(6) {
			case 0, 1, 2:
				wantBool(t, fmt.Sprintf("Start(%d, %d)", k, ticks), c.Start(k, ticks), m.start(k, ticks))
			case 3:
				wantBool(t, fmt.Sprintf("Stop(%d)", k), c.Stop(k), m.stop(k))
			default:
				wantKeys(t, "Tick", c.Tick(), m.tick()...)
			}
			wantRuns(t, fmt.Sprintf("New(%d), step %d", most, step), c, m.runs()...)
			wantCount(t, "Now", c.Now(), m.now)
			if t.Failed() {
				return
			}
		}
	}
}

// P10.3.

// disturb does something to the others, the keys from 1 on; of it the timer of key 0 must not hear.
func disturb(c *clock.Clock[int], next func(n int) int) {
	for range next(6) {
		k := next(5) + 1
		switch next(4) {
		case 0:
			c.Stop(k)
		case 1:
			for l := range c.Each() {
				if l != 0 {
					c.Start(l, next(4)+1)
				}
			}
		default:
			c.Start(k, next(8)-1)
		}
	}
}

// ticksThatTell are those of so many ticks at which key 0 is told: one each time.
func ticksThatTell(c *clock.Clock[int], ticks int, between func()) (at []int) {
	for n := 1; n <= ticks; n++ {
		between()
		for _, k := range c.Tick() {
			if k == 0 {
				at = append(at, n)
			}
		}
	}
	return at
}

func TestOneThatIsNotTouchedIsToldOnceAtItsTick(t *testing.T) {
	next := numbers()
	for _, most := range []int{1, 2, 3, 6} {
		for _, ticks := range []int{1, 2, 3, 4, 5, 8, 13, 40, 200} {
			for ahead := range 4 {
				c := clock.New[int](most)
				disturb(c, next)
				for range ahead {
					c.Tick()
				}
				if c.Len() == most {
					c.Stop(walked(c)[0].key)
				}
				start(t, c, run[int]{0, ticks})
				at := ticksThatTell(c, 2*ticks+10, func() { disturb(c, next) })
				if !slices.Equal(at, []int{ticks}) {
					t.Errorf("New(%d), of %d ticks: told at %v", most, ticks, at)
				}
			}
		}
	}
}

func TestOneOfMostTicksIsToldOnce(t *testing.T) {
	next := numbers()
	c := made(t, 5, run[int]{0, maxTicks})
	at := ticksThatTell(c, 2*maxTicks+2, func() { disturb(c, next) })
	if !slices.Equal(at, []int{maxTicks}) {
		t.Errorf("told at %v", at)
	}
}

// A call that is refused touches it as little as one that asks.
func TestRefusalsDoNotTouchATimer(t *testing.T) {
	c := made(t, 0, run[int]{0, 20})
	at := ticksThatTell(c, 60, func() {
		for _, ticks := range badTicks {
			c.Start(0, ticks)
		}
		if c.Left(0) > 0 {
			c.Start(1, 1) // there is no room for it
		}
		c.Stop(2)
		walked(c)
	})
	if !slices.Equal(at, []int{20}) {
		t.Errorf("told at %v", at)
	}
}

// One that is started anew is told once as well: at the tick that was said last.
func TestOneStartedAnewIsToldOnce(t *testing.T) {
	for anew := 1; anew < 6; anew++ {
		c := made(t, 1, run[int]{0, 6})
		n := 0
		at := ticksThatTell(c, 40, func() {
			if n == anew {
				start(t, c, run[int]{0, 9})
			}
			n++
		})
		if !slices.Equal(at, []int{anew + 9}) {
			t.Errorf("started anew behind %d ticks: told at %v", anew, at)
		}
	}
}

// Keys of each kind.

// wantDistinct: each of the keys has a timer of its own, and an equal key is its.
func wantDistinct[K comparable](t *testing.T, keys ...K) {
	t.Helper()
	c := clock.New[K](len(keys))
	var want []run[K]
	for i, k := range keys {
		start(t, c, run[K]{k, i + 3})
		want = append(want, run[K]{k, i + 3})
	}
	wantRuns(t, fmt.Sprintf("%T", keys), c, want...)
	start(t, c, run[K]{keys[0], 1})
	wantRuns(t, "the first one anew", c, append(want[1:], run[K]{keys[0], 1})...)
	wantKeys(t, "Tick", c.Tick(), keys[0])
	for _, k := range keys[1:] {
		wantBool(t, fmt.Sprintf("Stop(%v)", k), c.Stop(k), true)
	}
	wantRuns(t, "at last", c)
}

func TestKeysOfEachKind(t *testing.T) {
	wantDistinct(t, 3, 1, 2, 0, -1, math.MaxInt, math.MinInt)
	wantDistinct(t, "b", "", "a", "aa", "A", "a\x00", "\xff")
	wantDistinct(t, pair{"a", 1}, pair{"a", 2}, pair{"b", 1}, pair{})
	wantDistinct(t, [2]int{1, 2}, [2]int{2, 1}, [2]int{})
	wantDistinct(t, true, false)
	wantDistinct(t, byte(255), 0, 1)
	wantDistinct(t, api.Addr{1}, api.Addr{0, 1}, api.Addr{})
	wantDistinct(t, new(int), new(int), nil)
	wantDistinct(t, make(chan int), make(chan int), nil)
	wantDistinct(t, 1.5, -1.5, 0, math.Inf(1), math.Inf(-1))
	wantDistinct[any](t, 1, "1", 1.0, int64(1), uint(1), pair{"1", 1}, nil, new(int), [1]int{1}, true)
	wantDistinct[error](t, api.ErrArg, api.ErrFull, nil)
}

func TestKeyThatIsTheOnlyOneOfItsKind(t *testing.T) {
	c := clock.New[struct{}](2)
	start(t, c, run[struct{}]{struct{}{}, 4}, run[struct{}]{struct{}{}, 2})
	wantRuns(t, "started anew", c, run[struct{}]{struct{}{}, 2})
	pass(t, c, 1)
	wantKeys(t, "Tick", c.Tick(), struct{}{})
}

// Alike and yet another one: it is told as it was started last.
func TestKeyIsToldAsItWasStartedLast(t *testing.T) {
	minus := math.Copysign(0, -1)
	c := clock.New[float64](1)
	wantBool(t, "Start(0)", c.Start(0, 5), true)
	wantBool(t, "Start(-0)", c.Start(minus, 1), true)
	told := c.Tick()
	wantKeys(t, "Tick", told, 0)
	wantBool(t, "it is below 0", len(told) == 1 && math.Signbit(told[0]), true)
}

// A key that is not like itself has a timer that nobody can ask for: it is told all the same, and takes its room.
func TestKeyThatIsNotLikeItself(t *testing.T) {
	none := math.NaN()
	c := clock.New[float64](3)
	wantBool(t, "Start", c.Start(none, 2), true)
	wantBool(t, "Start of another one", c.Start(1, 2), true)
	wantBool(t, "Start once more", c.Start(none, 1), true)
	wantBool(t, "Start in a full clock", c.Start(none, 1), false)
	wantBool(t, "Stop", c.Stop(none), false)
	wantCount(t, "Left", c.Left(none), 0)
	wantCount(t, "Len", c.Len(), 3)
	wantCount(t, "the first Tick", len(c.Tick()), 1)
	told := c.Tick()
	wantBool(t, "the second Tick", len(told) == 2 && told[0] != told[0] && told[1] == 1, true)
	wantCount(t, "the third Tick", len(c.Tick()), 0)
}

// holder is a key of a kind that can be compared, with something in it that can't.
type holder struct {
	n    int
	what any
}

// strange are keys that the language panics of as they are held against their like.
func strange() []any {
	return []any{[]int{1}, []int(nil), map[string]int{}, func() {}, holder{1, []int{2}}, [1]any{[]int{3}}, holder{2, holder{3, map[int]int{}}}}
}

// R1: what holds a key that can't be compared does not panic: it is taken, and is like no key.
func TestKeysThatCannotBeCompared(t *testing.T) {
	for i, k := range strange() {
		c := clock.New[any](5)
		what := fmt.Sprintf("key %d, %T", i, k)
		wantBool(t, what+": Stop ahead of Start", c.Stop(k), false)
		start(t, c, run[any]{"a", 2})
		wantBool(t, what+": Start", c.Start(k, 2), true)
		start(t, c, run[any]{"b", 2})
		wantBool(t, what+": Start once more", c.Start(k, 1), true)
		wantBool(t, what+": Stop", c.Stop(k), false)
		wantCount(t, what+": Left", c.Left(k), 0)
		wantCount(t, what+": Left of one behind it", c.Left("b"), 2)
		wantBool(t, what+": Stop of one behind it", c.Stop("b"), true)
		start(t, c, run[any]{"b", 2}, run[any]{5, 2})
		wantBool(t, what+": Start in a full clock", c.Start(k, 1), false)
		wantCount(t, what+": Len", c.Len(), 5)
		wantTypes(t, what, c.Tick(), k)
		wantTypes(t, what, c.Tick(), "a", k, "b", 5)
		wantCount(t, what+": Len at last", c.Len(), 0)
		for _, ticks := range badTicks {
			wantBool(t, what+": of bad ticks", c.Start(k, ticks), false)
		}
	}
}

// wantTypes holds keys that can't be compared against one another by their types.
func wantTypes(t *testing.T, what string, got []any, want ...any) {
	t.Helper()
	types := func(keys []any) (list []string) {
		for _, k := range keys {
			list = append(list, fmt.Sprintf("%T", k))
		}
		return list
	}
	if !slices.Equal(types(got), types(want)) {
		t.Errorf("%s: told %v, want %v", what, types(got), types(want))
	}
}

func TestStrangeKeysBesideOneAnother(t *testing.T) {
	c := clock.New[any](100)
	for _, k := range strange() {
		wantBool(t, "Start", c.Start(k, 1), true)
		start(t, c, run[any]{holder{1, 2}, 1})
	}
	wantCount(t, "Len", c.Len(), len(strange())+1)
	wantCount(t, "Left of one like it in part", c.Left(holder{1, 2}), 1)
	wantTypes(t, "Tick", c.Tick(), append(strange(), holder{1, 2})...)
}

// R4: what is told is new memory.

func TestToldKeysAreNewMemory(t *testing.T) {
	c := made(t, 0, run[int]{1, 1}, run[int]{2, 1}, run[int]{3, 1}, run[int]{4, 2}, run[int]{5, 2}, run[int]{6, 3})
	first := c.Tick()
	kept := slices.Clone(first)
	second := c.Tick()
	start(t, c, run[int]{7, 1}, run[int]{8, 2})
	wantKeys(t, "the first ones, behind the second Tick", first, kept...)
	for _, list := range [][]int{first, second} {
		list = list[:cap(list)] // the spare room, too
		for i := range list {
			list[i] = 99
		}
	}
	wantRuns(t, "behind that", c, run[int]{6, 1}, run[int]{7, 1}, run[int]{8, 2})
	wantKeys(t, "the third Tick", c.Tick(), 6, 7)
}

func TestToldListsShareNothing(t *testing.T) {
	c := made(t, 0, run[int]{1, 1}, run[int]{2, 1}, run[int]{3, 1}, run[int]{4, 2}, run[int]{5, 2}, run[int]{6, 2})
	first, second := c.Tick(), c.Tick()
	first = append(first, 7, 8, 9, 10)
	wantKeys(t, "the second ones", second, 4, 5, 6)
	second = append(second[:1], 20, 21, 22, 23)
	wantKeys(t, "the first ones", first, 1, 2, 3, 7, 8, 9, 10)
}

func TestKeysAreTold(t *testing.T) {
	c := made(t, 0, run[[2]int]{[2]int{1, 2}, 2})
	for k := range c.Each() {
		k[0] = 9
	}
	wantRuns(t, "arrays, written into", c, run[[2]int]{[2]int{1, 2}, 2})
}

// What is gone is kept nowhere.

type block [64]int

// gone tells whether nobody holds any key of what ran, once the clock has lost it.
func gone(lose func(c *clock.Clock[*block])) bool {
	c := clock.New[*block](8)
	c.Start(nil, maxTicks)
	var held []weak.Pointer[block]
	for range 4 {
		b := new(block)
		held = append(held, weak.Make(b))
		c.Start(b, 2)
	}
	lose(c)
	runtime.GC()
	none := !slices.ContainsFunc(held, func(p weak.Pointer[block]) bool { return p.Value() != nil })
	runtime.KeepAlive(c)
	return none
}

func TestNothingIsKeptOfWhatIsGone(t *testing.T) {
	wantBool(t, "told", gone(func(c *clock.Clock[*block]) {
		c.Tick()
		c.Tick()
	}), true)
	wantBool(t, "stopped", gone(func(c *clock.Clock[*block]) {
		for b := range c.Each() {
			c.Stop(b)
		}
	}), true)
	wantBool(t, "started anew, and stopped", gone(func(c *clock.Clock[*block]) {
		for b := range c.Each() {
			c.Start(b, 3)
			c.Stop(b)
		}
	}), true)
}

// R5: two clocks do not hear of one another, and the same calls have the same answers.

func TestTwoClocks(t *testing.T) {
	a := made(t, 0, run[string]{"x", 2}, run[string]{"y", 3})
	b := made(t, 1, run[string]{"x", 1}, run[string]{"z", 2})
	wantKeys(t, "a tick of the one", b.Tick(), "x")
	wantRuns(t, "the other one", a, run[string]{"x", 2}, run[string]{"y", 3})
	wantCount(t, "Now of the other one", a.Now(), 0)
	wantBool(t, "Stop", a.Stop("x"), true)
	start(t, b, run[string]{"x", 5})
	wantBool(t, "Stop of one that runs in the other one alone", a.Stop("z"), false)
	wantRuns(t, "the one", b, run[string]{"z", 1}, run[string]{"x", 5})
	wantRuns(t, "the other one", a, run[string]{"y", 3})
	wantKeys(t, "a tick of the other one", a.Tick())
	wantCount(t, "Now of the one", b.Now(), 1)
	wantRuns(t, "the one, at last", b, run[string]{"z", 1}, run[string]{"x", 5})
}

// story is all that a clock tells while the same things are done.
func story() string {
	next := numbers()
	c := clock.New[string](30)
	var told strings.Builder
	for range 500 {
		for range next(10) {
			fmt.Fprint(&told, c.Start(fmt.Sprint(next(60)), next(12)), c.Stop(fmt.Sprint(next(60))))
		}
		fmt.Fprint(&told, c.Tick(), walked(c))
	}
	return told.String()
}

func TestSameCallsHaveTheSameAnswers(t *testing.T) {
	first := story()
	for range 5 {
		wantBool(t, "the same story", story() == first, true)
	}
}

// R1: no number makes a call panic.

func TestAnyNumbersEndWell(t *testing.T) {
	for _, most := range badTicks {
		for _, ticks := range append(badTicks, 1, maxTicks) {
			c := clock.New[int](most)
			fine := most > 0 && ticks > 0 && ticks <= maxTicks
			wantBool(t, fmt.Sprintf("New(%d), Start(%d, %d)", most, most, ticks), c.Start(most, ticks), fine)
			wantBool(t, "Stop", c.Stop(most), fine)
		}
	}
}

// R7: nil objects and zero values.

func checkNoRoom(t *testing.T, what string, c *clock.Clock[pair], ticks int) {
	k := pair{"a", 1}
	for n := range 3 {
		for _, ticks := range append(badTicks, 1, 2, maxTicks) {
			wantBool(t, what+": Start", c.Start(k, ticks), false)
		}
		wantBool(t, what+": Stop", c.Stop(k), false)
		wantCount(t, what+": Left", c.Left(k), 0)
		wantCount(t, what+": Now", c.Now(), n*ticks)
		wantKeys(t, what+": Tick", c.Tick())
		wantRuns(t, what, c)
		c.Each()(nil)
	}
}

func TestNoRoom(t *testing.T) {
	checkNoRoom(t, "nil", nil, 0)
	checkNoRoom(t, "a zero value", new(clock.Clock[pair]), 1)
	checkNoRoom(t, "New(0)", clock.New[pair](0), 1)
	checkNoRoom(t, "New(-1)", clock.New[pair](-1), 1)
	checkNoRoom(t, "New(MinInt)", clock.New[pair](math.MinInt), 1)
}

func TestStrangeKeysOfNoRoom(t *testing.T) {
	var none *clock.Clock[any]
	for _, c := range []*clock.Clock[any]{none, new(clock.Clock[any]), clock.New[any](0)} {
		for _, k := range strange() {
			wantBool(t, "Start", c.Start(k, 1), false)
			wantBool(t, "Stop", c.Stop(k), false)
			wantCount(t, "Left", c.Left(k), 0)
		}
	}
}
