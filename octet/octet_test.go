package octet_test

import (
	"bytes"
	"math"
	"slices"
	"testing"

	"antiphon/octet"
)

// held is the greatest number that so many bytes hold.
func held(width int) int { return 1<<(8*width) - 1 }

// wantBytes takes nil and an empty list as one (R4).
func wantBytes(t *testing.T, what string, got, want []byte) {
	t.Helper()
	if !bytes.Equal(got, want) {
		t.Errorf("%s: %v, want %v", what, got, want)
	}
}

func wantNum(t *testing.T, what string, got, want int) {
	t.Helper()
	if got != want {
		t.Errorf("%s: %d, want %d", what, got, want)
	}
}

// wantReader holds a reader's own answers against what they should be.
func wantReader(t *testing.T, what string, r *octet.Reader, fail bool, left int) {
	t.Helper()
	if r.Fail() != fail || r.Left() != left {
		t.Errorf("%s: Fail %v, Left %d, want %v, %d", what, r.Fail(), r.Left(), fail, left)
	}
}

// spoil writes over a list and its spare room.
func spoil(b []byte) {
	b = b[:cap(b)]
	for i := range b {
		b[i] = 0xEE
	}
}

func TestChapterExample(t *testing.T) {
	wantBytes(t, "Put(258, 2)", octet.Put(258, 2), []byte{1, 2})
	wantNum(t, "Get(1 2)", octet.Get([]byte{1, 2}), 258)
	r := octet.New([]byte{1, 2, 3})
	wantNum(t, "Num(2)", r.Num(2), 258)
	wantBytes(t, "Raw(2)", r.Raw(2), nil)
	wantReader(t, "behind them", r, true, 1)
}

// P1.1: Put.

func TestPut(t *testing.T) {
	for _, c := range []struct {
		n, width int
		want     []byte
	}{
		{0, 1, []byte{0}},
		{0, 7, []byte{0, 0, 0, 0, 0, 0, 0}},
		{1, 1, []byte{1}},
		{1, 3, []byte{0, 0, 1}},
		{0x0102030405, 5, []byte{1, 2, 3, 4, 5}},
		{0x0102030405, 6, []byte{0, 1, 2, 3, 4, 5}},
		{0x80FF, 2, []byte{0x80, 0xFF}},
		{0x01020304050607, 7, []byte{1, 2, 3, 4, 5, 6, 7}},
	} {
		wantBytes(t, "Put", octet.Put(c.n, c.width), c.want)
	}
}

func TestPutAtTheEdgeOfEachWidth(t *testing.T) {
	for width := 1; width <= 7; width++ {
		wantBytes(t, "the greatest", octet.Put(held(width), width), bytes.Repeat([]byte{255}, width))
		wantBytes(t, "one less", octet.Put(held(width)-1, width), append(bytes.Repeat([]byte{255}, width-1), 254))
		wantBytes(t, "one past it", octet.Put(held(width)+1, width), nil)
		wantBytes(t, "the greatest int", octet.Put(math.MaxInt, width), nil)
		wantBytes(t, "-1", octet.Put(-1, width), nil)
		wantBytes(t, "the least int", octet.Put(math.MinInt, width), nil)
	}
}

func TestPutOfAWrongWidth(t *testing.T) {
	for _, width := range []int{math.MinInt, -8, -1, 0, 8, 9, 64, math.MaxInt} {
		for _, n := range []int{0, 1, 255, math.MaxInt, -1} {
			wantBytes(t, "Put", octet.Put(n, width), nil)
		}
	}
}

func TestPutAnswersNewMemory(t *testing.T) {
	first, second := octet.Put(258, 2), octet.Put(258, 2)
	spoil(first)
	wantBytes(t, "second", second, []byte{1, 2})
	wantBytes(t, "third", octet.Put(258, 2), []byte{1, 2})
}

// P1.1: Get.

func TestGet(t *testing.T) {
	for _, c := range []struct {
		b    []byte
		want int
	}{
		{nil, 0},
		{[]byte{}, 0},
		{[]byte{0}, 0},
		{[]byte{255}, 255},
		{[]byte{1, 2, 3}, 0x010203},
		{[]byte{0, 0, 9}, 9},
		{[]byte{1, 2, 3, 4, 5, 6, 7}, 0x01020304050607},
		{bytes.Repeat([]byte{255}, 7), held(7)},
		{bytes.Repeat([]byte{255}, 8), 0},
		{[]byte{0, 0, 0, 0, 0, 0, 0, 1}, 0},
		{make([]byte, 1000), 0},
	} {
		wantNum(t, "Get", octet.Get(c.b), c.want)
	}
}

func TestGetOfPut(t *testing.T) {
	for width := 1; width <= 7; width++ {
		for n := 1; n <= held(width) && n > 0; n = 3*n + 1 {
			wantNum(t, "Get of Put", octet.Get(octet.Put(n, width)), n)
		}
	}
}

func TestGetChangesNothing(t *testing.T) {
	whole := []byte{1, 2, 3, 4}
	octet.Get(whole[:2])
	wantBytes(t, "what was handed in", whole, []byte{1, 2, 3, 4})
}

// P1.2: the reader.

func TestReaderTakesFromTheFront(t *testing.T) {
	r := octet.New([]byte{1, 2, 3, 4, 5, 6, 7, 8, 9, 10})
	wantReader(t, "New", r, false, 10)
	wantNum(t, "Num(1)", r.Num(1), 1)
	wantReader(t, "Num(1)", r, false, 9)
	wantBytes(t, "Raw(2)", r.Raw(2), []byte{2, 3})
	wantReader(t, "Raw(2)", r, false, 7)
	wantBytes(t, "Raw(0)", r.Raw(0), nil)
	wantReader(t, "Raw(0)", r, false, 7)
	wantNum(t, "Num(3)", r.Num(3), 0x040506)
	wantReader(t, "Num(3)", r, false, 4)
	wantBytes(t, "Rest", r.Rest(), []byte{7, 8, 9, 10})
	wantReader(t, "Rest", r, false, 0)
	wantBytes(t, "Rest of none", r.Rest(), nil)
	wantBytes(t, "Raw(0) of none", r.Raw(0), nil)
	wantReader(t, "nothing is left", r, false, 0)
}

func TestReaderOfNoByte(t *testing.T) {
	for _, empty := range []func() *octet.Reader{
		func() *octet.Reader { return octet.New(nil) },
		func() *octet.Reader { return octet.New([]byte{}) },
		func() *octet.Reader { return &octet.Reader{} },
	} {
		r := empty()
		wantBytes(t, "Raw(0)", r.Raw(0), nil)
		wantBytes(t, "Rest", r.Rest(), nil)
		wantReader(t, "none is asked for", r, false, 0)
		wantNum(t, "Num(1)", r.Num(1), 0)
		wantReader(t, "Num(1)", r, true, 0)
		r = empty()
		wantBytes(t, "Raw(1)", r.Raw(1), nil)
		wantReader(t, "Raw(1)", r, true, 0)
	}
}

func TestNumWithJustEnoughBytes(t *testing.T) {
	bs := []byte{255, 254, 253, 252, 251, 250, 249}
	for width := 1; width <= 7; width++ {
		r := octet.New(bs[:width])
		wantNum(t, "just enough", r.Num(width), octet.Get(bs[:width]))
		wantReader(t, "just enough", r, false, 0)
		r = octet.New(bs[:width-1])
		wantNum(t, "one too few", r.Num(width), 0)
		wantReader(t, "one too few", r, true, width-1)
	}
}

func TestRawWithJustEnoughBytes(t *testing.T) {
	bs := []byte{1, 2, 3, 4, 5, 6, 7, 8, 9}
	for n := 1; n <= len(bs); n++ {
		r := octet.New(bs[:n])
		wantBytes(t, "just enough", r.Raw(n), bs[:n])
		wantReader(t, "just enough", r, false, 0)
		r = octet.New(bs[:n-1])
		wantBytes(t, "one too few", r.Raw(n), nil)
		wantReader(t, "one too few", r, true, n-1)
	}
}

// faults are all the ways to make a reader of 9 bytes fail.
var faults = map[string]func(r *octet.Reader){
	"Num(0)":        func(r *octet.Reader) { r.Num(0) },
	"Num(8)":        func(r *octet.Reader) { r.Num(8) },
	"Num(-1)":       func(r *octet.Reader) { r.Num(-1) },
	"Num(least)":    func(r *octet.Reader) { r.Num(math.MinInt) },
	"Num(greatest)": func(r *octet.Reader) { r.Num(math.MaxInt) },
	"Raw(-1)":       func(r *octet.Reader) { r.Raw(-1) },
	"Raw(10)":       func(r *octet.Reader) { r.Raw(10) },
	"Raw(least)":    func(r *octet.Reader) { r.Raw(math.MinInt) },
	"Raw(greatest)": func(r *octet.Reader) { r.Raw(math.MaxInt) },
}

func TestReaderFailsForGood(t *testing.T) {
	for name, fault := range faults {
		r := octet.New([]byte{1, 2, 3, 4, 5, 6, 7, 8, 9})
		fault(r)
		wantReader(t, name, r, true, 9)
		wantNum(t, name+": Num(1)", r.Num(1), 0)
		wantBytes(t, name+": Raw(0)", r.Raw(0), nil)
		wantBytes(t, name+": Raw(1)", r.Raw(1), nil)
		wantBytes(t, name+": Rest", r.Rest(), nil)
		wantReader(t, name+": for good", r, true, 9)
	}
}

func TestReaderFailsInTheMidst(t *testing.T) {
	r := octet.New([]byte{1, 2, 3})
	wantBytes(t, "Raw(1)", r.Raw(1), []byte{1})
	wantNum(t, "Num(3)", r.Num(3), 0)
	wantReader(t, "Num(3)", r, true, 2)
	wantBytes(t, "Rest", r.Rest(), nil)
	wantReader(t, "Rest", r, true, 2)
}

func TestFaultsAnswerNone(t *testing.T) {
	for _, width := range []int{math.MinInt, -1, 0, 8, math.MaxInt} {
		wantNum(t, "Num", octet.New(make([]byte, 20)).Num(width), 0)
		wantNum(t, "Num", octet.New(bytes.Repeat([]byte{7}, 20)).Num(width), 0)
	}
	for _, n := range []int{math.MinInt, -1, 21, math.MaxInt} {
		wantBytes(t, "Raw", octet.New(bytes.Repeat([]byte{7}, 20)).Raw(n), nil)
	}
}

func TestNilReader(t *testing.T) {
	var r *octet.Reader
	for _, n := range []int{math.MinInt, -1, 0, 1, 7, 8, math.MaxInt} {
		wantNum(t, "Num", r.Num(n), 0)
		wantBytes(t, "Raw", r.Raw(n), nil)
	}
	wantBytes(t, "Rest", r.Rest(), nil)
	wantReader(t, "a nil reader", r, false, 0)
}

func TestReaderKeepsNothingThatWasHandedIn(t *testing.T) {
	whole := []byte{1, 2, 3, 4}
	r := octet.New(whole[:3])
	spoil(whole)
	wantBytes(t, "Rest", r.Rest(), []byte{1, 2, 3})
}

func TestReaderChangesNothingThatWasHandedIn(t *testing.T) {
	whole := []byte{1, 2, 3, 4}
	r := octet.New(whole[:3])
	spoil(r.Raw(1))
	spoil(r.Rest())
	wantBytes(t, "what was handed in", whole, []byte{1, 2, 3, 4})
}

func TestReaderAnswersNewMemory(t *testing.T) {
	r := octet.New([]byte{1, 2, 3, 4, 5, 6})
	first := r.Raw(2)
	spoil(first)
	second := r.Raw(2)
	wantBytes(t, "second", second, []byte{3, 4})
	spoil(second)
	third := r.Rest()
	wantBytes(t, "third", third, []byte{5, 6})
	wantBytes(t, "first", first, []byte{0xEE, 0xEE})
}

func TestReadersAreApart(t *testing.T) {
	b := []byte{1, 2, 3}
	one, two := octet.New(b), octet.New(b)
	one.Num(8)
	wantReader(t, "the one", one, true, 3)
	wantReader(t, "the other", two, false, 3)
	wantBytes(t, "the other", two.Rest(), b)
}

// P1.3: All.

func oneByte(r *octet.Reader) int { return r.Num(1) }

func TestAll(t *testing.T) {
	r := octet.New([]byte{1, 2, 3, 4, 5})
	if got := octet.All(2, func(r *octet.Reader) int { return r.Num(2) }, r); !slices.Equal(got, []int{0x0102, 0x0304}) {
		t.Errorf("All: %v", got)
	}
	wantReader(t, "behind it", r, false, 1)
	if got := octet.All(1, oneByte, r); !slices.Equal(got, []int{5}) {
		t.Errorf("All(1): %v", got)
	}
	wantReader(t, "behind both", r, false, 0)
}

func TestAllOfStructs(t *testing.T) {
	type pair struct {
		n int
		b string
	}
	read := func(r *octet.Reader) pair { return pair{r.Num(1), string(r.Raw(2))} }
	got := octet.All(2, read, octet.New([]byte{7, 'a', 'b', 8, 'c', 'd', 9}))
	if !slices.Equal(got, []pair{{7, "ab"}, {8, "cd"}}) {
		t.Errorf("All: %v", got)
	}
}

func TestAllOfListsSharesNoMemory(t *testing.T) {
	read := func(r *octet.Reader) []byte { return r.Raw(2) }
	got := octet.All(3, read, octet.New([]byte{1, 2, 3, 4, 5, 6}))
	if len(got) != 3 {
		t.Fatalf("All: %v", got)
	}
	spoil(got[0])
	wantBytes(t, "the second", got[1], []byte{3, 4})
	spoil(got[1])
	wantBytes(t, "the third", got[2], []byte{5, 6})
}

func TestAllOfAClosureThatReadsNothing(t *testing.T) {
	n := 0
	got := octet.All(4, func(*octet.Reader) int { n++; return n }, octet.New(nil))
	if !slices.Equal(got, []int{1, 2, 3, 4}) {
		t.Errorf("All: %v", got)
	}
}

func TestAllOfATimesThatIsOutOfBounds(t *testing.T) {
	for _, n := range []int{math.MinInt, -1, 0, 1048577, math.MaxInt} {
		asked := 0
		r := octet.New([]byte{1, 2, 3})
		got := octet.All(n, func(*octet.Reader) int { asked++; return 1 }, r)
		if len(got) != 0 || asked != 0 {
			t.Errorf("All(%d): %d items, read was asked %d times", n, len(got), asked)
		}
		wantReader(t, "refused", r, false, 3)
	}
}

func TestAllAtItsMost(t *testing.T) {
	const most = 1048576
	b := make([]byte, most+1)
	for i := range b {
		b[i] = byte(i * 7 / 3)
	}
	r := octet.New(b)
	got := octet.All(most, oneByte, r)
	wantNum(t, "items", len(got), most)
	for i, x := range got {
		if x != int(b[i]) {
			t.Fatalf("item %d: %d, want %d", i, x, b[i])
		}
	}
	wantReader(t, "behind it", r, false, 1)
	if got := octet.All(most+1, oneByte, octet.New(b)); len(got) != 0 {
		t.Errorf("one past it: %d items", len(got))
	}
	if got := octet.All(most, oneByte, octet.New(b[:most-1])); len(got) != 0 {
		t.Errorf("a byte too few: %d items", len(got))
	}
}

func TestAllWithAReaderThatFails(t *testing.T) {
	r := octet.New([]byte{1, 2, 3, 4, 5})
	if got := octet.All(3, func(r *octet.Reader) int { return r.Num(2) }, r); len(got) != 0 {
		t.Errorf("in the midst: %v", got)
	}
	wantReader(t, "in the midst", r, true, 1)
	if got := octet.All(1, oneByte, r); len(got) != 0 {
		t.Errorf("ahead of it: %v", got)
	}
	if got := octet.All(2, oneByte, octet.New(nil)); len(got) != 0 {
		t.Errorf("at once: %v", got)
	}
	if got := octet.All(1, oneByte, &octet.Reader{}); len(got) != 0 {
		t.Errorf("a zero reader: %v", got)
	}
}

func TestAllFailsAtTheLastItem(t *testing.T) {
	n := 0
	read := func(r *octet.Reader) int {
		if n++; n == 3 {
			r.Num(0)
		}
		return n
	}
	r := octet.New([]byte{1, 2})
	if got := octet.All(3, read, r); len(got) != 0 {
		t.Errorf("All: %v", got)
	}
	wantReader(t, "behind it", r, true, 2)
}

// A great item and a great n: the reader fails long before there is need of so much memory.
func TestAllMakesNoRoomAhead(t *testing.T) {
	read := func(r *octet.Reader) [1 << 20]byte { return [1 << 20]byte{byte(r.Num(1))} }
	if got := octet.All(1048576, read, octet.New([]byte{1, 2})); len(got) != 0 {
		t.Errorf("All: %d items", len(got))
	}
}

func TestAllWithANilReader(t *testing.T) {
	if got := octet.All(2, oneByte, nil); !slices.Equal(got, []int{0, 0}) {
		t.Errorf("All: %v", got)
	}
}

func TestAllWithANilClosure(t *testing.T) {
	r := octet.New([]byte{1, 2})
	if got := octet.All[int](2, nil, r); len(got) != 0 {
		t.Errorf("All: %v", got)
	}
	wantReader(t, "behind it", r, false, 2)
	if got := octet.All[int](2, nil, nil); len(got) != 0 {
		t.Errorf("All, both nil: %v", got)
	}
}

func TestAllCatchesAPanic(t *testing.T) {
	n := 0
	read := func(r *octet.Reader) int {
		if n++; n == 2 {
			panic("read")
		}
		return n
	}
	if got := octet.All(3, read, octet.New([]byte{1, 2, 3})); len(got) != 0 {
		t.Errorf("All: %v", got)
	}
}

func TestAllAnswersNewMemory(t *testing.T) {
	b := []byte{1, 2, 3}
	first, second := octet.All(3, oneByte, octet.New(b)), octet.All(3, oneByte, octet.New(b))
	first = first[:cap(first)]
	for i := range first {
		first[i] = -1
	}
	if !slices.Equal(second, []int{1, 2, 3}) {
		t.Errorf("second: %v", second)
	}
}
