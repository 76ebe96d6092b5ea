package back_test

import (
	"bytes"
	"fmt"
	"math"
	"strconv"
	"testing"

	"antiphon/back"
)

// low are numbers below 1: as a most no room (0 too), as so many that are acknowledged none.
var low = []int{math.MinInt, math.MinInt + 1, -1 << 32, -1<<32 + 3, -1 << 31, -65536, -65535, -256, -255, -128, -3, -2, -1, 0}

// high are more than are ever out here; in 8, 16 or 32 bits some would be small ones.
var high = []int{256, 257, 258, 65536, 65537, 65538, 1<<31 - 1, 1 << 31, 1<<32 - 1, 1 << 32, 1<<32 + 1, 1<<32 + 2, math.MaxInt - 1, math.MaxInt}

// wantRow holds how many there are, are out, and wait.
func wantRow(t *testing.T, what string, b *back.Back, out, waits int) {
	t.Helper()
	for range 2 {
		if b.Len() != out+waits || b.Out() != out || b.Waits() != waits {
			t.Fatalf("%s: %d, %d out, %d wait; want %d, %d, %d", what, b.Len(), b.Out(), b.Waits(), out+waits, out, waits)
		}
	}
}

func wantPut(t *testing.T, b *back.Back, sdu string, want bool) {
	t.Helper()
	if got := b.Put([]byte(sdu)); got != want {
		t.Fatalf("Put(%q): %v, want %v", sdu, got, want)
	}
}

func wantNext(t *testing.T, b *back.Back, want string) {
	t.Helper()
	if got, ok := b.Next(); string(got) != want || !ok {
		t.Fatalf("Next: %q, %v, want %q", got, ok, want)
	}
}

func wantNoNext(t *testing.T, b *back.Back) {
	t.Helper()
	out, waits := b.Out(), b.Waits()
	for range 2 {
		if got, ok := b.Next(); len(got) != 0 || ok {
			t.Fatalf("Next: %q, %v, want none", got, ok)
		}
		wantRow(t, "behind Next of none", b, out, waits)
	}
}

func wantAcked(t *testing.T, b *back.Back, n, want int) {
	t.Helper()
	if got := b.Acked(n); got != want {
		t.Fatalf("Acked(%d): %d, want %d", n, got, want)
	}
}

func wantAgain(t *testing.T, b *back.Back, want int) {
	t.Helper()
	if got := b.Again(); got != want {
		t.Fatalf("Again: %d, want %d", got, want)
	}
}

func wantClear(t *testing.T, b *back.Back, want int) {
	t.Helper()
	if got := b.Clear(); got != want {
		t.Fatalf("Clear: %d, want %d", got, want)
	}
}

// row is one of that most with each byte of sdus put as an SDU, so many of them out.
func row(t *testing.T, most int, sdus string, out int) *back.Back {
	t.Helper()
	b := back.New(most)
	if b == nil {
		t.Fatalf("New(%d): nil", most)
	}
	for i := range len(sdus) {
		wantPut(t, b, sdus[i:i+1], true)
	}
	for i := range out {
		wantNext(t, b, sdus[i:i+1])
	}
	wantRow(t, "a row", b, out, len(sdus)-out)
	return b
}

// wantLeft sends all there is from the first on, and holds each against each byte of sdus.
func wantLeft(t *testing.T, b *back.Back, sdus string) {
	t.Helper()
	b.Again()
	wantRow(t, "what is left", b, 0, len(sdus))
	for i := range len(sdus) {
		wantNext(t, b, sdus[i:i+1])
	}
	wantNoNext(t, b)
	wantAcked(t, b, math.MaxInt, len(sdus))
	wantRow(t, "when all are gone", b, 0, 0)
}

func TestChapterExample(t *testing.T) {
	b := back.New(3)
	wantPut(t, b, "a", true)
	wantPut(t, b, "b", true)
	wantNext(t, b, "a")
	wantNext(t, b, "b")
	wantAgain(t, b, 2)
	wantNext(t, b, "a")
	wantAcked(t, b, 1, 1)
	wantNext(t, b, "b")
}

// P18.1: New.

func TestNewIsEmpty(t *testing.T) {
	for _, list := range [][]int{low, high, {1, 2, 3, 64}} {
		for _, most := range list {
			b := row(t, most, "", 0)
			wantNoNext(t, b)
			wantAcked(t, b, 1, 0)
			wantAgain(t, b, 0)
			wantClear(t, b, 0)
			wantRow(t, "a new one", b, 0, 0)
		}
	}
}

// wantNoRoom calls all there is on one that has no room.
func wantNoRoom(t *testing.T, what string, b *back.Back) {
	t.Helper()
	for range 2 {
		for _, sdu := range [][]byte{[]byte("a"), {}, nil, make([]byte, 2000)} {
			if b.Put(sdu) {
				t.Fatalf("%s: Put of %d bytes was taken", what, len(sdu))
			}
		}
		wantNoNext(t, b)
		for _, n := range []int{math.MinInt, -1, 0, 1, 2, math.MaxInt} {
			wantAcked(t, b, n, 0)
		}
		wantAgain(t, b, 0)
		wantClear(t, b, 0)
		wantRow(t, what, b, 0, 0)
	}
}

func TestNewOfNoRoom(t *testing.T) {
	for _, most := range low {
		b := back.New(most)
		if b == nil {
			t.Fatalf("New(%d): nil", most)
		}
		wantNoRoom(t, fmt.Sprintf("New(%d)", most), b)
	}
}

func TestNewOfEachMost(t *testing.T) {
	for most := 1; most <= 130; most++ {
		b := back.New(most)
		for i := range most {
			wantPut(t, b, strconv.Itoa(i), true)
			wantRow(t, "behind Put", b, 0, i+1)
		}
		wantPut(t, b, "more", false)
		wantRow(t, "a full one", b, 0, most)
		for i := range most {
			wantNext(t, b, strconv.Itoa(i))
			wantRow(t, "behind Next", b, i+1, most-i-1)
		}
		wantNoNext(t, b)
	}
}

func TestNewOfTheGreatestMosts(t *testing.T) {
	for _, most := range high[:6] {
		b := back.New(most)
		for i := range most {
			wantPut(t, b, string(rune('a'+i%26)), true)
		}
		wantPut(t, b, "z", false)
		wantRow(t, "a full one", b, 0, most)
		wantClear(t, b, most)
	}
	for _, most := range high[6:] {
		b := back.New(most)
		for range 70000 {
			wantPut(t, b, "a", true)
		}
		wantRow(t, "one that is not full", b, 0, 70000)
	}
}

// P18.1: Put.

func TestPutIntoAFullOne(t *testing.T) {
	for out := range 4 {
		b := row(t, 3, "abc", out)
		for range 3 {
			wantPut(t, b, "d", false)
			wantPut(t, b, "", false)
			wantRow(t, "behind Put into a full one", b, out, 3-out)
		}
		wantLeft(t, b, "abc")
	}
}

func TestPutIntoAFullOneOfWhichAPartIsAcknowledged(t *testing.T) {
	for gone := 1; gone <= 4; gone++ {
		b := row(t, 4, "abcd", 4)
		wantAcked(t, b, gone, gone)
		for i := range gone {
			wantPut(t, b, "efgh"[i:i+1], true)
			wantRow(t, "behind Put", b, 4-gone, i+1)
		}
		wantPut(t, b, "x", false)
		wantRow(t, "full anew", b, 4-gone, gone)
		for i := range gone {
			wantNext(t, b, "efgh"[i:i+1])
		}
		wantNoNext(t, b)
		wantLeft(t, b, "abcdefgh"[gone:4+gone])
	}
}

func TestPutStandsBehindTheLastOne(t *testing.T) {
	b := row(t, 10, "ab", 1)
	wantPut(t, b, "c", true)
	wantRow(t, "behind Put", b, 1, 2)
	wantNext(t, b, "b")
	wantPut(t, b, "d", true)
	wantAgain(t, b, 2)
	wantPut(t, b, "e", true)
	wantLeft(t, b, "abcde")
}

func TestPutBehindNextGivesNoRoom(t *testing.T) {
	b := row(t, 2, "ab", 2)
	wantPut(t, b, "c", false)
	wantAgain(t, b, 2)
	wantPut(t, b, "c", false)
	wantNext(t, b, "a")
	wantPut(t, b, "c", false)
	wantAcked(t, b, 1, 1)
	wantPut(t, b, "c", true)
	wantPut(t, b, "d", false)
	wantLeft(t, b, "bc")
}

func TestPutOfNothing(t *testing.T) {
	b := back.New(5)
	for _, sdu := range [][]byte{nil, {}, []byte("a"), make([]byte, 0, 8), nil} {
		if !b.Put(sdu) {
			t.Fatalf("Put(%q) was refused", sdu)
		}
	}
	wantPut(t, b, "b", false)
	for range 2 {
		for i, want := range []string{"", "", "a", "", ""} {
			wantNext(t, b, want)
			wantRow(t, "behind Next", b, i+1, 4-i)
		}
		wantNoNext(t, b)
		wantAgain(t, b, 5)
	}
	wantNext(t, b, "")
	wantNext(t, b, "")
	wantAcked(t, b, 2, 2)
	wantPut(t, b, "", true)
	wantRow(t, "behind all", b, 0, 4)
}

func TestPutOfMany(t *testing.T) {
	b := back.New(4)
	var want [][]byte
	for _, n := range []int{1024, 1025, 65537, 1 << 20} { // no length is refused here
		sdu := make([]byte, n)
		for i := range sdu {
			sdu[i] = byte(i*i + n)
		}
		want = append(want, bytes.Clone(sdu))
		if !b.Put(sdu) {
			t.Fatalf("Put of %d bytes was refused", n)
		}
	}
	for range 2 {
		for _, sdu := range want {
			wantNext(t, b, string(sdu))
		}
		wantAgain(t, b, 4)
	}
}

// P18.1: Next.

func TestNextWhereNoneWaits(t *testing.T) {
	wantNoNext(t, row(t, 3, "", 0))
	for n := 1; n <= 3; n++ {
		wantNoNext(t, row(t, 3, "abc"[:n], n))
	}
	b := row(t, 3, "ab", 2)
	wantNoNext(t, b)
	wantPut(t, b, "c", true)
	wantNext(t, b, "c")
	wantNoNext(t, b)
	wantAcked(t, b, 3, 3)
	wantNoNext(t, b)
	wantPut(t, b, "d", true)
	wantNext(t, b, "d")
}

func TestNextWhileAPartIsAcknowledged(t *testing.T) {
	b := row(t, 8, "abcdefgh", 3)
	wantAcked(t, b, 2, 2)
	wantRow(t, "behind Acked", b, 1, 5)
	wantNext(t, b, "d")
	wantNext(t, b, "e")
	wantAcked(t, b, 3, 3)
	wantRow(t, "when none is out", b, 0, 3)
	wantNext(t, b, "f")
	wantAcked(t, b, 1, 1)
	wantNext(t, b, "g")
	wantNext(t, b, "h")
	wantNoNext(t, b)
	wantRow(t, "when all are out", b, 2, 0)
}

// P18.1: Acked.

func TestAckedOfEach(t *testing.T) {
	sdus := "abcdef"
	for put := range len(sdus) + 1 {
		for out := range put + 1 {
			for n := -2; n <= len(sdus)+2; n++ {
				b := row(t, 6, sdus[:put], out)
				gone := max(0, min(n, out))
				wantAcked(t, b, n, gone)
				wantRow(t, "behind Acked", b, out-gone, put-out)
				if put > out {
					wantNext(t, b, sdus[out:out+1])
				}
				wantLeft(t, b, sdus[gone:put])
			}
		}
	}
}

func TestAckedOfNoneAndOfAll(t *testing.T) {
	for out := range 4 {
		for _, n := range low {
			b := row(t, 5, "abcd", out)
			wantAcked(t, b, n, 0)
			wantRow(t, "behind Acked of none", b, out, 4-out)
			wantLeft(t, b, "abcd")
		}
		for _, n := range high {
			b := row(t, 5, "abcd", out)
			wantAcked(t, b, n, out)
			wantRow(t, "behind Acked of all", b, 0, 4-out)
			wantAcked(t, b, n, 0)
			wantLeft(t, b, "abcd"[out:])
		}
	}
}

func TestAckedSomeAtATime(t *testing.T) {
	b := row(t, 6, "abcdef", 5)
	for i := range 5 {
		wantAcked(t, b, 1, 1)
		wantRow(t, "behind one more", b, 4-i, 1)
	}
	wantAcked(t, b, 1, 0)
	wantRow(t, "where none is out", b, 0, 1)
	wantLeft(t, b, "f")
}

func TestAckedBehindAgain(t *testing.T) {
	b := row(t, 4, "abcd", 4)
	wantAcked(t, b, 1, 1)
	wantAgain(t, b, 3)
	wantAcked(t, b, 3, 0)
	wantRow(t, "where none is out any more", b, 0, 3)
	wantNext(t, b, "b")
	wantAcked(t, b, 3, 1)
	wantRow(t, "behind the one that was out", b, 0, 2)
	wantLeft(t, b, "cd")
}

// P18.1: Again.

func TestAgainOfEach(t *testing.T) {
	sdus := "abcde"
	for put := range len(sdus) + 1 {
		for out := range put + 1 {
			b := row(t, 5, sdus[:put], out)
			wantAgain(t, b, out)
			wantRow(t, "behind Again", b, 0, put)
			wantAgain(t, b, 0)
			wantRow(t, "behind Again twice", b, 0, put)
			for i := range put {
				wantNext(t, b, sdus[i:i+1])
				wantRow(t, "behind Next", b, i+1, put-i-1)
			}
			wantNoNext(t, b)
		}
	}
}

func TestAgainBehindAcked(t *testing.T) {
	for gone := range 4 {
		b := row(t, 5, "abcde", 4)
		wantAcked(t, b, gone, gone)
		wantAgain(t, b, 4-gone)
		wantAgain(t, b, 0)
		wantRow(t, "behind Again", b, 0, 5-gone)
		wantLeft(t, b, "abcde"[gone:])
	}
}

func TestAgainAndAgain(t *testing.T) {
	b := row(t, 3, "abc", 0)
	for out := range 4 {
		for range 3 {
			for i := range out {
				wantNext(t, b, "abc"[i:i+1])
			}
			wantAgain(t, b, out)
		}
	}
	wantLeft(t, b, "abc")
}

// P18.1: Clear.

func TestClearOfEach(t *testing.T) {
	sdus := "abcd"
	for put := range len(sdus) + 1 {
		for out := range put + 1 {
			b := row(t, 4, sdus[:put], out)
			wantClear(t, b, put)
			wantRow(t, "behind Clear", b, 0, 0)
			wantClear(t, b, 0)
			wantNoNext(t, b)
			wantAgain(t, b, 0)
			wantAcked(t, b, 4, 0)
			for i := range 4 {
				wantPut(t, b, "wxyz"[i:i+1], true)
			}
			wantPut(t, b, "v", false)
			wantRow(t, "full anew", b, 0, 4)
			wantLeft(t, b, "wxyz")
		}
	}
}

// R4: what is handed in and what is handed out are their owners'.

// spoil turns all there is of a list, its spare room too.
func spoil(list []byte) {
	list = list[:cap(list)]
	for i := range list {
		list[i] ^= 0x5a
	}
}

func TestPutKeepsNoneOfItsOwners(t *testing.T) {
	memory := []byte("..hello world..")
	sdu := memory[2:7]
	b := back.New(3)
	if !b.Put(sdu) || string(memory) != "..hello world.." {
		t.Fatalf("Put: its owner's memory is %q", memory)
	}
	b.Put(sdu[:0])
	b.Put(memory)
	spoil(memory)
	for range 2 {
		wantNext(t, b, "hello")
		wantNext(t, b, "")
		wantNext(t, b, "..hello world..")
		spoil(memory)
		wantAgain(t, b, 3)
	}
	kept := string(memory)
	b.Next()
	b.Acked(1)
	b.Next()
	b.Clear()
	if string(memory) != kept {
		t.Fatalf("what its owner has became %q", memory)
	}
}

func TestRefusedPutLeavesItsOwners(t *testing.T) {
	memory := []byte("..hello..")
	for _, b := range []*back.Back{nil, new(back.Back), back.New(0), row(t, 1, "a", 0)} {
		if b.Put(memory[2:5]) || string(memory) != "..hello.." {
			t.Fatalf("a Put that should be refused: its owner's memory is %q", memory)
		}
	}
}

func TestNextHandsOutNewMemory(t *testing.T) {
	sdus := []string{"one", "", "three", "four and more of it"}
	b := back.New(4)
	for _, sdu := range sdus {
		wantPut(t, b, sdu, true)
	}
	var all [][]byte
	for range 4 {
		for _, want := range sdus {
			got, ok := b.Next()
			if string(got) != want || !ok {
				t.Fatalf("Next: %q, %v, want %q", got, ok, want)
			}
			all = append(all, got)
			kept := bytes.Clone(got)
			for _, other := range all[:len(all)-1] {
				spoil(other)
			}
			if !bytes.Equal(got, kept) {
				t.Fatalf("%q turned to %q with another answer", kept, got)
			}
			spoil(got)
		}
		wantAgain(t, b, 4)
	}
}

func TestNextTurnedByItsOwnerIsSentAgainAsItWas(t *testing.T) {
	b := row(t, 2, "", 0)
	wantPut(t, b, "abcdefg", true)
	wantPut(t, b, "hij", true)
	for range 5 {
		first, _ := b.Next()
		spoil(first)
		_ = append(first[:2], "xyz!"...)
		second, ok := b.Next()
		if string(second) != "hij" || !ok {
			t.Fatalf("Next: %q, %v, want hij", second, ok)
		}
		spoil(second)
		_ = append(second, 1, 2, 3, 4, 5, 6, 7, 8)
		wantAgain(t, b, 2)
	}
	wantNext(t, b, "abcdefg")
	wantAcked(t, b, 1, 1)
	wantNext(t, b, "hij")
}

// P18.1, P18.2: all of them, against plain lists.

type dice uint32

func (d *dice) below(n int) int {
	*d = *d*1664525 + 1013904223
	return int(uint32(*d)>>8) % n
}

// model: all that was ever put, how many of it are gone, and up to which they are out.
type model struct {
	most, gone, sent int
	all              []string
}

// step does one call on both, and holds the answers against one another.
func step(t *testing.T, d *dice, b *back.Back, m *model) {
	t.Helper()
	switch k := d.below(30); {
	case k < 12:
		m.put(t, d, b)
	case k < 21:
		m.next(t, b)
	case k < 27:
		n := d.below(m.sent-m.gone+4) - 1
		gone := max(0, min(n, m.sent-m.gone))
		wantAcked(t, b, n, gone)
		m.gone += gone
	case k < 29:
		wantAgain(t, b, m.sent-m.gone)
		m.sent = m.gone
	case d.below(4) == 0:
		wantClear(t, b, len(m.all)-m.gone)
		m.gone, m.sent = len(m.all), len(m.all)
	}
	wantRow(t, "behind a step", b, m.sent-m.gone, len(m.all)-m.sent)
}

func (m *model) put(t *testing.T, d *dice, b *back.Back) {
	t.Helper()
	sdu := []byte(strconv.Itoa(len(m.all)) + "......")[:1+d.below(6)]
	kept, room := string(sdu), len(m.all)-m.gone < m.most
	wantPut(t, b, kept, room)
	if room {
		m.all = append(m.all, kept)
	}
}

func (m *model) next(t *testing.T, b *back.Back) {
	t.Helper()
	if m.sent == len(m.all) {
		wantNoNext(t, b)
		return
	}
	sdu, ok := b.Next()
	if string(sdu) != m.all[m.sent] || !ok {
		t.Fatalf("Next: %q, %v, want %q", sdu, ok, m.all[m.sent])
	}
	spoil(sdu)
	m.sent++
}

func TestManyCalls(t *testing.T) {
	d := dice(18)
	for _, most := range []int{-5, 0, 1, 2, 3, 4, 5, 7, 8, 16, 63, 64, 65, 1000} {
		b := back.New(most)
		m := model{most: most}
		for range 5000 {
			step(t, &d, b, &m)
		}
		for m.sent < len(m.all) {
			m.next(t, b)
		}
		wantRow(t, "when all are out", b, m.sent-m.gone, 0)
	}
}

// P18.2: one reads what is acknowledged, as who hears it would: each once, as it was put, in order.
func TestAckedWasPutInOrder(t *testing.T) {
	d := dice(182)
	for _, most := range []int{1, 2, 5, 64} {
		b := back.New(most)
		put, gone := 0, 0
		var out []string
		for gone < 2000 {
			switch d.below(5) {
			case 0, 1:
				if b.Put([]byte(strconv.Itoa(put))) {
					put++
				}
			case 2:
				for sdu, ok := b.Next(); ok; sdu, ok = b.Next() {
					out = append(out, string(sdu))
				}
			case 3:
				for _, sdu := range out[:b.Acked(d.below(len(out)+2))] {
					if sdu != strconv.Itoa(gone) {
						t.Fatalf("acknowledged was %q, want %d", sdu, gone)
					}
					gone++
					out = out[1:]
				}
			case 4:
				if d.below(3) == 0 {
					wantAgain(t, b, len(out))
					out = nil
				}
			}
			wantRow(t, "on its way", b, len(out), put-gone-len(out))
		}
	}
}

// P18.2: behind Again the first is the first that was not acknowledged, byte for byte.
func TestNextBehindAgainIsWhatWasFirst(t *testing.T) {
	sdus := []string{"first\x00\xff", "", "second", "third, and a longer one", "4"}
	for out := 1; out <= len(sdus); out++ {
		for gone := range out {
			b := back.New(len(sdus))
			for _, sdu := range sdus {
				wantPut(t, b, sdu, true)
			}
			for _, sdu := range sdus[:out] {
				wantNext(t, b, sdu)
			}
			wantAcked(t, b, gone, gone)
			wantAgain(t, b, out-gone)
			for _, sdu := range sdus[gone:] {
				wantNext(t, b, sdu)
			}
			wantNoNext(t, b)
		}
	}
}

// R5, R7.

func TestSameCallsSameAnswers(t *testing.T) {
	for _, most := range []int{1, 3, 64} {
		a, b := back.New(most), back.New(most)
		d, e := dice(5), dice(5)
		m, n := model{most: most}, model{most: most}
		for range 3000 {
			step(t, &d, a, &m)
		}
		for range 3000 {
			step(t, &e, b, &n)
		}
		wantRow(t, "the same calls", a, b.Out(), b.Waits())
	}
}

func TestTwoChangeNothingInOneAnother(t *testing.T) {
	for _, mosts := range [][2]int{{1, 64}, {64, 64}, {5, 9}, {3, 3}} {
		a, b := back.New(mosts[0]), back.New(mosts[1])
		m, n := model{most: mosts[0]}, model{most: mosts[1]}
		d := dice(88)
		for range 3000 {
			step(t, &d, a, &m)
			wantRow(t, "the other one", b, n.sent-n.gone, len(n.all)-n.sent)
			step(t, &d, b, &n)
			wantRow(t, "the one", a, m.sent-m.gone, len(m.all)-m.sent)
		}
	}
}

func TestTheSameSduInTwo(t *testing.T) {
	sdu := []byte("both")
	a, b := back.New(1), back.New(1)
	a.Put(sdu)
	b.Put(sdu)
	got, _ := a.Next()
	spoil(got)
	spoil(sdu)
	wantNext(t, b, "both")
	wantAgain(t, a, 1)
	wantNext(t, a, "both")
}

func TestNilAnswersZeroValues(t *testing.T) {
	wantNoRoom(t, "nil", nil)
}

func TestZeroValueHasNoRoom(t *testing.T) {
	wantNoRoom(t, "a zero value", new(back.Back))
	var b back.Back
	wantNoRoom(t, "a zero value", &b)
}
