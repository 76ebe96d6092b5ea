package queue_test

import (
	"fmt"
	"math"
	"reflect"
	"runtime"
	"slices"
	"testing"
	"weak"

	"antiphon/queue"
)

type pair struct {
	name string
	n    int
}

// nowhere are numbers that stand for no place in a short row: below it, and above it.
var nowhere = []int{math.MinInt, math.MinInt + 1, -1 << 32, -2, -1, 1 << 16, 1 << 32, math.MaxInt - 1, math.MaxInt}

// full is a queue of so much room that the items fill it.
func full[T any](items ...T) *queue.Queue[T] {
	return roomy(0, items...)
}

// roomy has so much room beside its items.
func roomy[T any](room int, items ...T) *queue.Queue[T] {
	q := queue.New[T](len(items) + room)
	for _, x := range items {
		q.Put(x)
	}
	return q
}

// wantItems asks Len, Peek, and Each: they must tell the same.
func wantItems[T any](t *testing.T, what string, q *queue.Queue[T], want ...T) {
	t.Helper()
	if n := q.Len(); n != len(want) {
		t.Errorf("%s: Len: %d, want %d", what, n, len(want))
		return
	}
	for i, w := range want {
		if x, ok := q.Peek(i); !ok || !reflect.DeepEqual(x, w) {
			t.Errorf("%s: Peek(%d): %v, %v, want %v, true", what, i, x, ok, w)
		}
	}
	at := 0
	for i, x := range q.Each() {
		if i != at || i >= len(want) || !reflect.DeepEqual(x, want[i]) {
			t.Errorf("%s: Each: %d, %v as its number %d, want %v in all", what, i, x, at, want)
			return
		}
		at++
	}
	if at != len(want) {
		t.Errorf("%s: Each: %d items, want %d", what, at, len(want))
	}
}

// wantNone: beside false stands the zero value (R2).
func wantNone[T any](t *testing.T, what string, x T, ok bool) {
	t.Helper()
	if ok || !reflect.ValueOf(&x).Elem().IsZero() {
		t.Errorf("%s: %v, %v, want the zero value, false", what, x, ok)
	}
}

func wantTake[T any](t *testing.T, what string, q *queue.Queue[T], want T) {
	t.Helper()
	if x, ok := q.Take(); !ok || !reflect.DeepEqual(x, want) {
		t.Errorf("%s: Take: %v, %v, want %v, true", what, x, ok, want)
	}
}

func wantBool(t *testing.T, what string, got, want bool) {
	t.Helper()
	if got != want {
		t.Errorf("%s: %v, want %v", what, got, want)
	}
}

func wantCount(t *testing.T, what string, got, want int) {
	t.Helper()
	if got != want {
		t.Errorf("%s: %d, want %d", what, got, want)
	}
}

// The chapter's example.

func TestExample(t *testing.T) {
	q := queue.New[string](2)
	wantBool(t, "Put(a)", q.Put("a"), true)
	wantBool(t, "Put(b)", q.Put("b"), true)
	wantBool(t, "Put(c)", q.Put("c"), false)
	wantBool(t, "Insert(0, d)", q.Insert(0, "d"), false)
	wantTake(t, "behind that", q, "a")
	wantItems(t, "at last", q, "b")
}

// P4.1: New, Most, Put.

func TestMost(t *testing.T) {
	for most, want := range map[int]int{math.MinInt: 0, -1 << 32: 0, -2: 0, -1: 0, 0: 0, 1: 1, 2: 2, 3: 3, 64: 64, 1000: 1000} {
		q := queue.New[int](most)
		what := fmt.Sprintf("New(%d)", most)
		wantCount(t, what+": Most", q.Most(), want)
		wantItems(t, what, q)
		for i := range want {
			wantBool(t, what+": Put", q.Put(i), true)
			wantCount(t, what+": Len", q.Len(), i+1)
		}
		wantBool(t, what+": Put into the full one", q.Put(7), false)
		wantBool(t, what+": Insert into the full one", q.Insert(0, 7), false)
		wantCount(t, what+": Len of the full one", q.Len(), want)
		wantCount(t, what+": Most of the full one", q.Most(), want)
	}
}

func TestGreatMost(t *testing.T) {
	for _, most := range []int{1 << 20, math.MaxInt32, 1 << 40, math.MaxInt - 1, math.MaxInt} {
		q := queue.New[[1 << 10]byte](most)
		wantCount(t, "Most", q.Most(), most)
		wantBool(t, "Put", q.Put([1 << 10]byte{3}), true)
		wantItems(t, "one of much room", q, [1 << 10]byte{3})
	}
}

func TestFullOneStaysAsItIs(t *testing.T) {
	for n := range 6 {
		want := []int{10, 11, 12, 13, 14}[:n]
		q := full(want...)
		for i := -2; i < n+3; i++ {
			wantBool(t, "Put", q.Put(99), false)
			wantBool(t, "Insert", q.Insert(i, 99), false)
		}
		wantItems(t, "the full one", q, want...)
		if n == 0 {
			continue
		}
		wantTake(t, "the full one", q, 10)
		wantBool(t, "Put where one was taken", q.Put(20), true)
		wantBool(t, "a second Put", q.Put(21), false)
		wantItems(t, "full again", q, append(slices.Clone(want[1:]), 20)...)
	}
}

// P4.1: Put and Take, of items of several kinds.

func checkOrder[T any](t *testing.T, kind string, all ...T) {
	q := queue.New[T](len(all))
	for i, x := range all {
		wantBool(t, kind+": Put", q.Put(x), true)
		wantItems(t, kind, q, all[:i+1]...)
	}
	for i, x := range all {
		wantTake(t, kind, q, x)
		wantItems(t, kind, q, all[i+1:]...)
	}
	x, ok := q.Take()
	wantNone(t, kind+": Take of the empty one", x, ok)
	x, ok = q.Peek(0)
	wantNone(t, kind+": Peek of the empty one", x, ok)
	wantCount(t, kind+": Most", q.Most(), len(all))
}

func TestItemsOfSeveralKinds(t *testing.T) {
	n, m := 1, 2
	checkOrder(t, "numbers", 3, 0, -1, 3, math.MaxInt, math.MinInt)
	checkOrder(t, "bytes", byte(255), 0, 1)
	checkOrder(t, "texts", "a", "", "b", "a", "\xff")
	checkOrder(t, "bools", true, false, true)
	checkOrder(t, "rows of bytes", []byte{1, 2}, nil, []byte{}, []byte{0}, []byte{1, 2})
	checkOrder(t, "structs", pair{"a", 1}, pair{}, pair{"a", 2}, pair{"a", 1})
	checkOrder(t, "arrays", [3]int{1, 2, 3}, [3]int{}, [3]int{3, 2, 1})
	checkOrder(t, "pointers", &n, nil, &m, &n)
	checkOrder(t, "errors", error(nil), fmt.Errorf("one"), nil)
	checkOrder(t, "what takes no room", struct{}{}, struct{}{}, struct{}{})
	checkOrder(t, "rows of rows", [][]int{{1}, {2, 3}}, nil, [][]int{{4}})
	checkOrder[any](t, "what may be anything", 1, "a", nil, []byte{1}, pair{})
	checkOrder[int](t, "none")
}

func TestQueuesOfQueues(t *testing.T) {
	q := full(full(1, 2), nil, full(3))
	first, _ := q.Take()
	wantItems(t, "the first one", first, 1, 2)
	second, ok := q.Take()
	wantBool(t, "a nil item is one too", ok && second == nil, true)
}

func TestManyPutsAndTakes(t *testing.T) {
	q := queue.New[int](1 << 20)
	put, taken := 0, 0
	for round := range 400 {
		for range 3 + round%97*7 {
			wantBool(t, "Put", q.Put(put), true)
			put++
		}
		for range min(q.Len(), 5+round%89*7) {
			wantTake(t, "the row", q, taken)
			taken++
		}
		wantCount(t, "Len", q.Len(), put-taken)
	}
	for taken < put {
		wantTake(t, "the row's end", q, taken)
		taken++
	}
	_, ok := q.Take()
	wantBool(t, "Take behind the last one", ok, false)
}

func TestLongRow(t *testing.T) {
	const n = 300000
	q := queue.New[int](n)
	for i := range n {
		q.Put(i)
	}
	wantBool(t, "one too many", q.Put(n), false)
	for i := range n {
		if x, ok := q.Take(); !ok || x != i {
			t.Fatalf("Take: %d, %v, want %d", x, ok, i)
		}
	}
	wantItems(t, "emptied", q)
}

func TestSmallRowGoesRound(t *testing.T) {
	for most := 1; most < 5; most++ {
		q := queue.New[int](most)
		for i := range most - 1 {
			q.Put(i)
		}
		for i := range 1000 {
			wantBool(t, "Put", q.Put(most-1+i), true)
			wantBool(t, "Put into the full one", q.Put(-1), false)
			wantTake(t, "going round", q, i)
		}
		wantCount(t, "Len", q.Len(), most-1)
	}
}

func TestRowsDoNotHearOfOneAnother(t *testing.T) {
	a, b, c := queue.New[int](3), queue.New[int](3), full[int]()
	a.Put(1)
	b.Put(10)
	a.Put(2)
	b.Insert(0, 9)
	b.Put(11)
	wantItems(t, "the one", a, 1, 2)
	wantItems(t, "the other one", b, 9, 10, 11)
	a.Cut(2)
	wantCount(t, "Filter", queue.Filter(a, func(int) bool { return false }), 0)
	wantItems(t, "the other one, the one being cut", b, 9, 10, 11)
	wantTake(t, "the other one", b, 9)
	wantItems(t, "the one, the other one being taken from", a)
	wantBool(t, "Put into one of no room", c.Put(1), false)
	wantBool(t, "Put into the one", a.Put(3), true)
	wantItems(t, "at last", b, 10, 11)
}

// P4.1: Peek.

func TestPeek(t *testing.T) {
	for n := range 5 {
		want := []string{"a", "b", "c", "d"}[:n]
		q := roomy(2, want...)
		for i, w := range want {
			if x, ok := q.Peek(i); !ok || x != w {
				t.Errorf("Peek(%d) of %d: %q, %v, want %q, true", i, n, x, ok, w)
			}
		}
		for _, i := range append(nowhere, n, n+1, n+2) {
			x, ok := q.Peek(i)
			wantNone(t, fmt.Sprintf("Peek(%d) of %d", i, n), x, ok)
		}
		wantItems(t, "they stay", q, want...)
	}
}

func TestPeekBehindTakes(t *testing.T) {
	q := full(1, 2, 3, 4)
	q.Take()
	q.Take()
	x, ok := q.Peek(-1)
	wantNone(t, "Peek of one that is gone", x, ok)
	x, ok = q.Peek(2)
	wantNone(t, "Peek behind the last one", x, ok)
	q.Put(5)
	wantItems(t, "those that are left", q, 3, 4, 5)
}

// P4.1: Insert.

func TestInsert(t *testing.T) {
	for n := range 5 {
		was := []int{10, 11, 12, 13}[:n]
		for i := range n + 1 {
			for room := 1; room < 3; room++ {
				q := roomy(room, was...)
				wantBool(t, fmt.Sprintf("Insert(%d) of %d", i, n), q.Insert(i, 99), true)
				wantItems(t, fmt.Sprintf("Insert(%d) of %d", i, n), q, slices.Insert(slices.Clone(was), i, 99)...)
				wantBool(t, "Insert of a second one", q.Insert(i, 98), room == 2)
				if room == 2 {
					wantItems(t, "two inserted", q, slices.Insert(slices.Clone(was), i, 98, 99)...)
				}
			}
		}
		for _, i := range append(nowhere, n+1, n+2) {
			q := roomy(2, was...)
			wantBool(t, fmt.Sprintf("Insert(%d) of %d", i, n), q.Insert(i, 99), false)
			wantItems(t, "nothing is done", q, was...)
		}
	}
}

func TestInsertBehindTakes(t *testing.T) {
	q := full(1, 2, 3, 4)
	q.Take()
	q.Take()
	wantBool(t, "Insert ahead", q.Insert(0, 20), true)
	wantBool(t, "Insert at Len", q.Insert(3, 50), true)
	wantBool(t, "Insert into the full one", q.Insert(1, 60), false)
	wantItems(t, "the row", q, 20, 3, 4, 50)
}

// P4.1: Cut.

func TestCut(t *testing.T) {
	for n := range 6 {
		was := []int{10, 11, 12, 13, 14}[:n]
		for _, cut := range append(nowhere, 0, 1, 2, 3, 4, 5, 6, 7) {
			q := roomy(1, was...)
			gone := max(0, min(cut, n))
			what := fmt.Sprintf("Cut(%d) of %d", cut, n)
			wantCount(t, what, q.Cut(cut), gone)
			wantItems(t, what, q, was[gone:]...)
			wantCount(t, what+": Most", q.Most(), n+1)
			for i := range gone + 1 {
				wantBool(t, what+": room for more", q.Put(20+i), true)
			}
			wantBool(t, what+": no room for more", q.Put(30), false)
			wantItems(t, what+", filled again", q, append(slices.Clone(was[gone:]), []int{20, 21, 22, 23, 24, 25}[:gone+1]...)...)
		}
	}
}

// P4.1: Filter.

// TestFilter goes through every choice of those that stay.
func TestFilter(t *testing.T) {
	for n := range 6 {
		was := []int{0, 1, 2, 3, 4}[:n]
		for set := range 1 << n {
			stays := func(x int) bool { return set>>x&1 == 1 }
			gone := slices.DeleteFunc(slices.Clone(was), stays)
			left := slices.DeleteFunc(slices.Clone(was), func(x int) bool { return !stays(x) })
			q := roomy(1, was...)
			what := fmt.Sprintf("Filter of %d, %b", n, set)
			wantCount(t, what, queue.Filter(q, stays), len(gone))
			wantItems(t, what, q, left...)
			wantCount(t, what+": Most", q.Most(), n+1)
			wantCount(t, what+", once more", queue.Filter(q, stays), 0)
			for range len(gone) + 1 {
				wantBool(t, what+": room for more", q.Put(9), true)
			}
			wantBool(t, what+": no room for more", q.Put(9), false)
			wantItems(t, what+", filled again", q, append(left, slices.Repeat([]int{9}, len(gone)+1)...)...)
		}
	}
}

func TestFilterOfAlikes(t *testing.T) {
	q := full(pair{"a", 1}, pair{"b", 1}, pair{"a", 1}, pair{"a", 2})
	wantCount(t, "Filter", queue.Filter(q, func(p pair) bool { return p.name != "a" || p.n == 2 }), 2)
	wantItems(t, "those that stay", q, pair{"b", 1}, pair{"a", 2})
}

func TestFilterAsksOnceInOrder(t *testing.T) {
	q := roomy(3, 5, 6, 7, 8)
	q.Take()
	var asked []int
	queue.Filter(q, func(x int) bool {
		asked = append(asked, x)
		return x == 7
	})
	if !slices.Equal(asked, []int{6, 7, 8}) {
		t.Errorf("keep was asked of %v", asked)
	}
}

// TestFilterByTurns tells alikes apart by their places alone: of what takes no room, too.
func TestFilterByTurns(t *testing.T) {
	q := full(make([]struct{}, 5)...)
	odd := false
	keep := func(struct{}) bool {
		odd = !odd
		return odd
	}
	wantCount(t, "Filter", queue.Filter(q, keep), 2)
	wantCount(t, "Len", q.Len(), 3)
}

// Wrong arguments of Filter (R1, R3).

func TestFilterOfNothing(t *testing.T) {
	wantCount(t, "of a nil queue", queue.Filter(nil, func(int) bool { return false }), 0)
	wantCount(t, "of a nil queue, by no keep", queue.Filter[int](nil, nil), 0)
	q := full(1, 2)
	wantCount(t, "by no keep", queue.Filter(q, nil), 0)
	wantItems(t, "by no keep", q, 1, 2)
}

func TestFilterByOneThatPanics(t *testing.T) {
	for at := range 4 {
		q := roomy(1, 0, 1, 2, 3)
		keep := func(x int) bool {
			if x == at {
				panic("a stranger's")
			}
			return false
		}
		wantCount(t, "Filter", queue.Filter(q, keep), 0)
		wantItems(t, "nothing is done", q, 0, 1, 2, 3)
		wantCount(t, "Filter by another keep", queue.Filter(q, func(x int) bool { return x != at }), 1)
		wantCount(t, "Len", q.Len(), 3)
	}
}

// TestFilterThatChangesItsQueue: those that were there as it began are asked of; what keep puts has not been said no of.
func TestFilterThatChangesItsQueue(t *testing.T) {
	for _, c := range []struct {
		what   string
		change func(q *queue.Queue[int])
		gone   int
		left   []int
	}{
		{"Put", func(q *queue.Queue[int]) { q.Put(9) }, 3, []int{9, 9}},
		{"Insert", func(q *queue.Queue[int]) { q.Insert(0, 9) }, 3, []int{9, 9}},
		{"Take", func(q *queue.Queue[int]) { q.Take() }, 0, nil},
		{"Cut", func(q *queue.Queue[int]) { q.Cut(2) }, 0, nil},
		{"Take and Put", func(q *queue.Queue[int]) { q.Take(); q.Put(9) }, 0, []int{9, 9, 9}},
		{"Filter", func(q *queue.Queue[int]) { queue.Filter(q, func(x int) bool { return x == 2 }) }, 1, nil},
	} {
		q := roomy(2, 1, 2, 3)
		asked := []int{}
		n := queue.Filter(q, func(x int) bool {
			asked = append(asked, x)
			c.change(q)
			return false
		})
		wantCount(t, c.what+" by keep", n, c.gone)
		wantItems(t, c.what+" by keep", q, c.left...)
		if !slices.Equal(asked, []int{1, 2, 3}) {
			t.Errorf("%s by keep: it was asked of %v", c.what, asked)
		}
	}
}

// P4.1, all of it: against a plain list, however calls follow one another.

// model is what the chapter says, by a list.
type model struct {
	list []int
	most int
}

func (m *model) insert(i, x int) bool {
	if len(m.list) >= m.most || i < 0 || i > len(m.list) {
		return false
	}
	m.list = slices.Insert(m.list, i, x)
	return true
}

func (m *model) cut(n int) int {
	n = max(0, min(n, len(m.list)))
	m.list = m.list[n:]
	return n
}

func (m *model) filter(keep func(x int) bool) int {
	before := len(m.list)
	m.list = slices.DeleteFunc(slices.Clone(m.list), func(x int) bool { return !keep(x) })
	return before - len(m.list)
}

// step does one thing to both.
func (m *model) step(t *testing.T, q *queue.Queue[int], do, arg, x int) {
	t.Helper()
	at := arg%(m.most+4) - 2
	switch do {
	case 0, 1, 2:
		wantBool(t, "Put", q.Put(x), m.insert(len(m.list), x))
	case 3, 4:
		wantBool(t, "Insert", q.Insert(at, x), m.insert(at, x))
	case 5:
		want, some := 0, len(m.list) > 0
		if some {
			want = m.list[0]
			m.cut(1)
		}
		if got, ok := q.Take(); ok != some || got != want {
			t.Errorf("Take: %d, %v, want %d, %v", got, ok, want, some)
		}
	case 6:
		n := at / 2
		wantCount(t, "Cut", q.Cut(n), m.cut(n))
	case 7:
		keep := func(y int) bool { return y%4 != arg%4 }
		wantCount(t, "Filter", queue.Filter(q, keep), m.filter(keep))
	}
}

func TestAgainstList(t *testing.T) {
	seed := uint32(7)
	next := func(n int) int {
		seed = seed*1664525 + 1013904223
		return int(seed>>8) % n
	}
	for _, most := range []int{0, 1, 2, 3, 7, 20} {
		q, m := queue.New[int](most), &model{most: most}
		for x := range 3000 {
			m.step(t, q, next(8), next(1000), x)
			wantItems(t, fmt.Sprintf("New(%d), step %d", most, x), q, m.list...)
			wantCount(t, "Most", q.Most(), most)
			if t.Failed() {
				return
			}
		}
	}
}

// P4.2.

// walked is what a walk tells, its places among it.
func walked[T any](q *queue.Queue[T]) (at []int, list []T) {
	for i, x := range q.Each() {
		at, list = append(at, i), append(list, x)
	}
	return at, list
}

func TestEach(t *testing.T) {
	for n := range 6 {
		want := []string{"a", "b", "b", "", "e"}[:n]
		q := roomy(1, append([]string{"x", "y"}, want...)...)
		q.Cut(2)
		at, list := walked(q)
		if !slices.Equal(at, []int{0, 1, 2, 3, 4}[:n]) || !slices.Equal(list, want) {
			t.Errorf("Each of %d: %v %v", n, at, list)
		}
		wantItems(t, "they stay", q, want...)
	}
}

func TestEachBrokenOff(t *testing.T) {
	q := roomy(1, 10, 11, 12, 13)
	for stop := range 4 {
		var told []int
		for i, x := range q.Each() {
			told = append(told, x)
			if i == stop {
				break
			}
		}
		if !slices.Equal(told, []int{10, 11, 12, 13}[:stop+1]) {
			t.Errorf("broken off at %d: %v", stop, told)
		}
		wantItems(t, "broken off", q, 10, 11, 12, 13)
	}
	calls := 0
	q.Each()(func(int, int) bool {
		calls++
		return calls < 2
	})
	wantCount(t, "asked by hand: calls", calls, 2)
}

// TestEachWhileQueueChanges: those that were there as the walk began are told, whatever is done meanwhile.
func TestEachWhileQueueChanges(t *testing.T) {
	for _, c := range []struct {
		what   string
		change func(q *queue.Queue[int])
		left   []int
	}{
		{"Put", func(q *queue.Queue[int]) { q.Put(9) }, []int{10, 11, 12, 13, 9, 9}},
		{"Take", func(q *queue.Queue[int]) { q.Take() }, nil},
		{"Take and Put", func(q *queue.Queue[int]) { q.Take(); q.Put(9) }, []int{9, 9, 9, 9}},
		{"Take and Insert", func(q *queue.Queue[int]) { q.Take(); q.Insert(0, 9) }, []int{9, 11, 12, 13}},
		{"Insert ahead", func(q *queue.Queue[int]) { q.Insert(0, 9) }, []int{9, 9, 10, 11, 12, 13}},
		{"Insert in the midst", func(q *queue.Queue[int]) { q.Insert(2, 9) }, []int{10, 11, 9, 9, 12, 13}},
		{"Cut", func(q *queue.Queue[int]) { q.Cut(3) }, nil},
		{"Cut of all", func(q *queue.Queue[int]) { q.Cut(4) }, nil},
		{"Filter", func(q *queue.Queue[int]) { queue.Filter(q, func(x int) bool { return x%2 == 1 }) }, []int{11, 13}},
		{"Filter of all", func(q *queue.Queue[int]) { queue.Filter(q, func(int) bool { return false }) }, nil},
		{"all anew", func(q *queue.Queue[int]) {
			q.Cut(4)
			for i := range 6 {
				q.Put(20 + i)
			}
		}, []int{22, 23, 20, 21, 22, 23}},
	} {
		q := roomy(2, 10, 11, 12, 13)
		var at, told []int
		for i, x := range q.Each() {
			at, told = append(at, i), append(told, x)
			c.change(q)
		}
		if !slices.Equal(at, []int{0, 1, 2, 3}) || !slices.Equal(told, []int{10, 11, 12, 13}) {
			t.Errorf("%s in the midst of a walk: %v %v", c.what, at, told)
		}
		wantItems(t, c.what, q, c.left...)
	}
}

func TestWalkWithinWalk(t *testing.T) {
	q := roomy(1, 1, 2, 3)
	var told []int
	for i, x := range q.Each() {
		for j, y := range q.Each() {
			told = append(told, 1000*i+100*x+10*j+y)
			if i == 1 && j == 1 {
				break
			}
		}
	}
	if want := []int{101, 112, 123, 1201, 1212, 2301, 2312, 2323}; !slices.Equal(told, want) {
		t.Errorf("a walk within a walk: %v, want %v", told, want)
	}
	told = nil
	for _, x := range q.Each() {
		q.Take()
		for _, y := range q.Each() {
			told = append(told, 10*x+y)
		}
	}
	if want := []int{12, 13, 23}; !slices.Equal(told, want) {
		t.Errorf("a walk within one that takes: %v, want %v", told, want)
	}
}

// TestEachBeginsAsItIsRangedOver: not as Each is called.
func TestEachBeginsAsItIsRangedOver(t *testing.T) {
	q := queue.New[int](4)
	each := q.Each()
	var told []int
	walk := func() {
		for i, x := range each {
			told = append(told, 10*i+x)
		}
		told = append(told, -1)
	}
	walk()
	q.Put(1)
	q.Put(2)
	walk()
	walk()
	q.Take()
	q.Put(3)
	walk()
	if want := []int{-1, 1, 12, -1, 1, 12, -1, 2, 13, -1}; !slices.Equal(told, want) {
		t.Errorf("ranged over, time after time: %v, want %v", told, want)
	}
}

func TestEachByNobody(t *testing.T) {
	full(1, 2).Each()(nil)
	queue.New[int](1).Each()(nil)
}

// TestEachWithBodyThatPanics: the panic is the caller's own, and leaves the queue as it is.
func TestEachWithBodyThatPanics(t *testing.T) {
	q := full(1, 2, 3)
	func() {
		defer func() { wantBool(t, "the caller hears of its own panic", recover() == "mine", true) }()
		for range q.Each() {
			panic("mine")
		}
	}()
	wantItems(t, "behind it", q, 1, 2, 3)
}

// R4: what is told has no hold on the queue.

func TestItemsAreTold(t *testing.T) {
	q := full([2]int{1, 2}, [2]int{3, 4})
	for _, x := range q.Each() {
		x[0] = 9
	}
	x, _ := q.Peek(0)
	x[1] = 9
	queue.Filter(q, func(x [2]int) bool {
		x[0] = 9
		return true
	})
	wantItems(t, "arrays, written into", q, [2]int{1, 2}, [2]int{3, 4})
}

// What is gone is kept nowhere.

type block [64]int

// gone tells whether nobody holds any of what was put, once the queue has lost it.
func gone(lose func(q *queue.Queue[*block])) bool {
	q := queue.New[*block](4)
	var held []weak.Pointer[block]
	for range 4 {
		b := new(block)
		held = append(held, weak.Make(b))
		q.Put(b)
	}
	lose(q)
	runtime.GC()
	none := !slices.ContainsFunc(held, func(p weak.Pointer[block]) bool { return p.Value() != nil })
	runtime.KeepAlive(q)
	return none
}

func TestNothingIsKeptOfWhatIsGone(t *testing.T) {
	wantBool(t, "taken", gone(func(q *queue.Queue[*block]) {
		for range 4 {
			q.Take()
		}
		q.Put(nil)
	}), true)
	wantBool(t, "cut", gone(func(q *queue.Queue[*block]) {
		q.Put(nil)
		q.Cut(4)
	}), true)
	wantBool(t, "filtered", gone(func(q *queue.Queue[*block]) {
		queue.Filter(q, func(*block) bool { return false })
	}), true)
}

// R7: nil objects and zero values.

func checkNoRoom(t *testing.T, what string, q *queue.Queue[pair]) {
	wantBool(t, what+": Put", q.Put(pair{"a", 1}), false)
	x, ok := q.Take()
	wantNone(t, what+": Take", x, ok)
	for _, i := range append(nowhere, 0, 1) {
		x, ok = q.Peek(i)
		wantNone(t, what+": Peek", x, ok)
		wantBool(t, what+": Insert", q.Insert(i, pair{"a", 1}), false)
		wantCount(t, what+": Cut", q.Cut(i), 0)
	}
	wantCount(t, what+": Len", q.Len(), 0)
	wantCount(t, what+": Most", q.Most(), 0)
	wantItems(t, what, q)
	q.Each()(nil)
	wantCount(t, what+": Filter", queue.Filter(q, func(pair) bool { return false }), 0)
	wantCount(t, what+": Len at last", q.Len(), 0)
}

func TestNoRoom(t *testing.T) {
	checkNoRoom(t, "nil", nil)
	checkNoRoom(t, "a zero value", new(queue.Queue[pair]))
	checkNoRoom(t, "New(0)", queue.New[pair](0))
	checkNoRoom(t, "New(-1)", queue.New[pair](-1))
	checkNoRoom(t, "New(MinInt)", queue.New[pair](math.MinInt))
}
