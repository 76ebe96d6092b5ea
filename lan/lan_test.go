package lan_test

import (
	"bytes"
	"fmt"
	"math"
	"math/big"
	"runtime"
	"slices"
	"testing"
	"weak"

	"antiphon/api"
	"antiphon/lan"
	"antiphon/mac"
)

// nowhere are numbers that no lan has a station of.
var nowhere = []int{math.MinInt, math.MinInt + 1, -1 << 32, -256, -2, -1, 16, 17, 255, 256, 1 << 32, math.MaxInt - 1, math.MaxInt}

var (
	group    = api.Addr{0x01, 0x80, 0xC2, 0, 0, 0x0E}
	stranger = api.Addr{0x10, 0x21, 0x32, 0x43, 0x54, 0x65}
)

// pattern is a row of so many bytes that look like no rule; each seed has another one.
func pattern(n int, seed int) []byte {
	b := make([]byte, n)
	s := uint32(seed)*2654435761 + 12345
	for i := range b {
		s = s*1664525 + 1013904223
		b[i] = byte(s >> 24)
	}
	return b
}

// lengths are those of frames that may make a difference: Send takes them all.
func lengths() []int {
	return []int{0, 1, 2, 3, 5, 6, 7, 14, 31, 32, 33, 63, 64, 65, 512, 1000, 1517, 1518, 1519, 70000}
}

// framed has so many bytes behind its To.
func framed(to api.Addr, behind, seed int) []byte {
	return slices.Concat(to[:], pattern(behind, seed))
}

func made(t *testing.T, stations, row, life int) *lan.Lan {
	t.Helper()
	l, e := lan.New(stations, row, life)
	if e != api.OK || l == nil {
		t.Fatalf("New(%d, %d, %d): %v, %v", stations, row, life, l, e)
	}
	return l
}

func wantBool(t *testing.T, what string, got, want bool) {
	t.Helper()
	if got != want {
		t.Errorf("%s: %v, want %v", what, got, want)
	}
}

func wantCount(t *testing.T, what string, got, want int) {
	t.Helper()
	if got != want {
		t.Errorf("%s: %d, want %d", what, got, want)
	}
}

// wantRow takes nil and an empty list as one (R4).
func wantRow(t *testing.T, what string, l *lan.Lan, from, to int, want ...lan.Flying) {
	t.Helper()
	got := l.Row(from, to)
	if len(got) != len(want) {
		t.Errorf("%s: Row(%d, %d): %d frames, want %d", what, from, to, len(got), len(want))
		return
	}
	for i, f := range got {
		if f.Age != want[i].Age || !bytes.Equal(f.B, want[i].B) {
			t.Errorf("%s: Row(%d, %d): its number %d: %v, want %v", what, from, to, i, f, want[i])
		}
	}
}

// young are frames of age 0.
func young(all ...[]byte) []lan.Flying {
	return aged(0, all...)
}

func aged(age int, all ...[]byte) []lan.Flying {
	var list []lan.Flying
	for _, b := range all {
		list = append(list, lan.Flying{B: b, Age: age})
	}
	return list
}

func wantPass(t *testing.T, what string, l *lan.Lan, from, to int, want []byte) {
	t.Helper()
	if b, ok := l.Pass(from, to); !ok || !bytes.Equal(b, want) {
		t.Errorf("%s: Pass(%d, %d): %v, %v, want %v, true", what, from, to, b, ok, want)
	}
}

// wantNone asks all that is asked of a row's first frame: there is none (R2).
func wantNone(t *testing.T, what string, l *lan.Lan, from, to int) {
	t.Helper()
	lost := l.Lost()
	what += fmt.Sprintf(": of (%d, %d)", from, to)
	if b, ok := l.Pass(from, to); ok || len(b) != 0 {
		t.Errorf("%s: Pass: %v, %v, want none, false", what, b, ok)
	}
	wantBool(t, what+": Drop", l.Drop(from, to), false)
	wantBool(t, what+": Twice", l.Twice(from, to), false)
	for _, bit := range []int{0, 1, 7, 8, -1, math.MinInt, math.MaxInt} {
		wantBool(t, what+": Spoil", l.Spoil(from, to, bit), false)
	}
	wantCount(t, what+": frames of Row", len(l.Row(from, to)), 0)
	wantCount(t, what+": Lost", l.Lost(), lost)
}

// pairs are all of two different stations, in order.
func pairs(stations int) [][2]int {
	var list [][2]int
	for from := range stations {
		for to := range stations {
			if from != to {
				list = append(list, [2]int{from, to})
			}
		}
	}
	return list
}

// sendAll sends one behind the other; they must be taken.
func sendAll(t *testing.T, l *lan.Lan, from, to int, all ...[]byte) {
	t.Helper()
	for i, b := range all {
		if !l.Send(from, to, b) {
			t.Errorf("Send(%d, %d) of the frame number %d: false", from, to, i)
		}
	}
}

// The chapter's example.

func TestExample(t *testing.T) {
	a, b := []byte("a"), []byte("b")
	l := made(t, 3, 2, 9)
	wantBool(t, "Send(0, 1, a)", l.Send(0, 1, a), true)
	wantBool(t, "Twice(0, 1)", l.Twice(0, 1), true)
	wantBool(t, "Send(0, 1, b)", l.Send(0, 1, b), false)
	wantPass(t, "first", l, 0, 1, a)
	wantPass(t, "second", l, 0, 1, a)
	wantNone(t, "third", l, 0, 1)
	wantCount(t, "Lost", l.Lost(), 1)
}

// P5.1: New.

func TestNewRefuses(t *testing.T) {
	edges := func(most int) []int {
		return []int{math.MinInt, -1 << 32, -most, -2, -1, 0, 1, 2, most - 1, most, most + 1, most + 2, 1 << 32, 1<<32 + 1, math.MaxInt}
	}
	for _, stations := range edges(16) {
		for _, row := range edges(64) {
			for _, life := range edges(10000) {
				ok := stations >= 1 && stations <= 16 && row >= 1 && row <= 64 && life >= 1 && life <= 10000
				l, e := lan.New(stations, row, life)
				if ok && (e != api.OK || l == nil) || !ok && (e != api.ErrArg || l != nil) {
					t.Errorf("New(%d, %d, %d): %v, %v", stations, row, life, l != nil, e)
				}
			}
		}
	}
}

func TestNewHasNothing(t *testing.T) {
	for _, stations := range []int{1, 2, 3, 16} {
		l := made(t, stations, 3, 2)
		for from := range stations {
			for to := range stations {
				wantNone(t, "a new one", l, from, to)
			}
			wantCount(t, "Cut", l.Cut(from), 0)
		}
		wantCount(t, "Age", l.Age(), 0)
		wantCount(t, "Lost", l.Lost(), 0)
	}
}

func TestRowsHoldSoMany(t *testing.T) {
	for _, row := range []int{1, 2, 3, 63, 64} {
		l := made(t, 3, row, 5)
		for i := range row {
			sendAll(t, l, 2, 1, pattern(9, i))
			wantCount(t, "frames of the row", len(l.Row(2, 1)), i+1)
		}
		wantBool(t, fmt.Sprintf("Send into a row of %d that is full", row), l.Send(2, 1, pattern(9, 99)), false)
		wantCount(t, "frames of the full row", len(l.Row(2, 1)), row)
		wantCount(t, "Lost", l.Lost(), 1)
	}
}

func TestEachTwoOfSoManyStations(t *testing.T) {
	for stations := 1; stations <= 16; stations++ {
		l := made(t, stations, 2, 5)
		for i, p := range pairs(stations) {
			sendAll(t, l, p[0], p[1], pattern(10, i))
		}
		for i, p := range pairs(stations) {
			wantRow(t, fmt.Sprintf("of %d stations", stations), l, p[0], p[1], young(pattern(10, i))...)
		}
		for n := range stations {
			wantBool(t, "to the first one that there is not", l.Send(n, stations, []byte{1}), false)
			wantBool(t, "from the first one that there is not", l.Send(stations, n, []byte{1}), false)
		}
	}
}

// P5.1: Send.

func TestSendOfManyLengths(t *testing.T) {
	for _, stations := range []int{2, 3, 5} {
		for _, p := range pairs(stations) {
			l := made(t, stations, len(lengths()), 5)
			var want [][]byte
			for i, n := range lengths() {
				b := pattern(n, i)
				sendAll(t, l, p[0], p[1], b)
				want = append(want, b)
			}
			wantRow(t, "of many lengths", l, p[0], p[1], young(want...)...)
			for _, b := range want {
				wantPass(t, "of many lengths", l, p[0], p[1], b)
			}
			wantNone(t, "all passed", l, p[0], p[1])
		}
	}
}

func TestSendBecomesTheLastOne(t *testing.T) {
	l := made(t, 2, 4, 5)
	a, b, c, d := []byte("a"), []byte("b"), []byte("c"), []byte("d")
	sendAll(t, l, 1, 0, a, b)
	l.Age()
	sendAll(t, l, 1, 0, c)
	wantRow(t, "three sent", l, 1, 0, append(aged(1, a, b), young(c)...)...)
	wantPass(t, "the first one", l, 1, 0, a)
	l.Age()
	sendAll(t, l, 1, 0, d, a)
	wantRow(t, "two more", l, 1, 0, slices.Concat(aged(2, b), aged(1, c), young(d, a))...)
}

func TestSendFromOrToNone(t *testing.T) {
	for _, stations := range []int{1, 2, 3, 15, 16} {
		l := made(t, stations, 3, 5)
		for n := range stations {
			wantBool(t, fmt.Sprintf("Send(%d, %d)", n, n), l.Send(n, n, pattern(60, 1)), false)
			wantNone(t, "to itself", l, n, n)
			for _, none := range append(slices.Clone(nowhere), stations, stations+1) {
				wantBool(t, fmt.Sprintf("Send(%d, %d) of %d", n, none, stations), l.Send(n, none, pattern(60, 1)), false)
				wantBool(t, fmt.Sprintf("Send(%d, %d) of %d", none, n, stations), l.Send(none, n, pattern(60, 1)), false)
				wantBool(t, "from one to itself that there is not", l.Send(none, none, pattern(60, 1)), false)
				wantNone(t, "none", l, n, none)
				wantNone(t, "none", l, none, n)
				wantNone(t, "none", l, none, none)
			}
		}
		for _, p := range pairs(stations) {
			wantRow(t, "nothing is done", l, p[0], p[1])
		}
		wantCount(t, "Lost", l.Lost(), 0)
	}
}

func TestSendIntoAFullRow(t *testing.T) {
	l := made(t, 3, 2, 5)
	a, b, c := []byte("a"), []byte("b"), []byte("c")
	sendAll(t, l, 0, 1, a, b)
	for i := range 5 {
		wantBool(t, "Send into the full one", l.Send(0, 1, c), false)
		wantCount(t, "Lost", l.Lost(), i+1)
		wantRow(t, "the full one", l, 0, 1, young(a, b)...)
	}
	for _, p := range pairs(3) {
		if p != [2]int{0, 1} {
			wantBool(t, "Send into another one", l.Send(p[0], p[1], c), true)
		}
	}
	wantPass(t, "the first one", l, 0, 1, a)
	sendAll(t, l, 0, 1, c)
	wantBool(t, "Send into the one that is full again", l.Send(0, 1, a), false)
	wantRow(t, "full again", l, 0, 1, young(b, c)...)
	wantCount(t, "Lost", l.Lost(), 6)
}

func TestRowsDoNotWaitForOneAnother(t *testing.T) {
	l := made(t, 3, 3, 5)
	for i, p := range pairs(3) {
		sendAll(t, l, p[0], p[1], pattern(7, i), pattern(8, i))
	}
	wantPass(t, "of the last row", l, 2, 1, pattern(7, 5))
	wantBool(t, "Drop", l.Drop(1, 0), true)
	wantBool(t, "Twice", l.Twice(0, 2), true)
	wantBool(t, "Spoil", l.Spoil(1, 2, 0), true)
	turned := pattern(7, 3)
	turned[0] ^= 1
	wantRow(t, "untouched", l, 0, 1, young(pattern(7, 0), pattern(8, 0))...)
	wantRow(t, "doubled", l, 0, 2, young(pattern(7, 1), pattern(7, 1), pattern(8, 1))...)
	wantRow(t, "dropped", l, 1, 0, young(pattern(8, 2))...)
	wantRow(t, "spoilt", l, 1, 2, young(turned, pattern(8, 3))...)
	wantRow(t, "untouched", l, 2, 0, young(pattern(7, 4), pattern(8, 4))...)
	wantRow(t, "passed", l, 2, 1, young(pattern(8, 5))...)
	wantCount(t, "Lost", l.Lost(), 1)
}

// P5.1: Put.

// wantPut holds what Put did against the stations whose rows it must have gone into.
func wantPut(t *testing.T, what string, stations, from int, b []byte, into ...int) {
	t.Helper()
	l := made(t, stations, 2, 5)
	wantCount(t, what+": Put", l.Put(from, b), len(into))
	for _, p := range pairs(stations) {
		var want []lan.Flying
		if p[0] == from && slices.Contains(into, p[1]) {
			want = young(b)
		}
		wantRow(t, what, l, p[0], p[1], want...)
	}
	wantCount(t, what+": Lost", l.Lost(), 0)
}

// others are all but one.
func others(stations, one int) []int {
	var list []int
	for n := range stations {
		if n != one {
			list = append(list, n)
		}
	}
	return list
}

func TestPutToAStation(t *testing.T) {
	for _, stations := range []int{1, 2, 3, 7, 16} {
		for from := range stations {
			for to := range stations {
				what := fmt.Sprintf("from %d to %d of %d", from, to, stations)
				for _, behind := range []int{0, 1, 58, 1512} {
					b := framed(mac.Station(to), behind, 3)
					if from == to {
						wantPut(t, what, stations, from, b)
					} else {
						wantPut(t, what, stations, from, b, to)
					}
				}
			}
		}
	}
}

func TestPutToAllOthers(t *testing.T) {
	for _, stations := range []int{1, 2, 3, 16} {
		for from := range stations {
			for _, to := range []api.Addr{mac.All(), group, stranger, {}, {3, 0, 0, 0, 0, 1}, {2, 0, 0, 0, 1, 0}, {2, 0, 0, 1, 0, 0}, {0, 0, 0, 0, 0, 1}, {2, 1, 0, 0, 0, 0}, {2, 0, 1, 0, 0, 1}} {
				wantPut(t, fmt.Sprintf("from %d to %v of %d", from, to, stations), stations, from, framed(to, 58, 4), others(stations, from)...)
			}
			for to := stations; to < 256; to++ {
				wantPut(t, fmt.Sprintf("from %d to %d of %d, that there is not", from, to, stations), stations, from, framed(mac.Station(to), 58, 5), others(stations, from)...)
			}
		}
	}
}

func TestPutOfFewBytes(t *testing.T) {
	for n := range 6 {
		for _, to := range []api.Addr{mac.Station(1), mac.Station(0), mac.All(), {}} {
			wantPut(t, fmt.Sprintf("of %d bytes", n), 3, 0, to[:n])
		}
	}
	one := mac.Station(1)
	wantPut(t, "of 5 bytes, a To's sixth in the spare room", 3, 0, one[:5])
	wantPut(t, "of none", 3, 0, nil)
	everyone := mac.All()
	wantPut(t, "of just a To", 3, 0, one[:], 1)
	wantPut(t, "of just All", 3, 0, everyone[:], 1, 2)
}

func TestPutFromNone(t *testing.T) {
	for _, stations := range []int{1, 2, 3, 16} {
		for _, from := range append(slices.Clone(nowhere), stations, stations+1) {
			for _, to := range []api.Addr{mac.Station(0), mac.Station(1), mac.Station(15), mac.Station(from), mac.Station(255), mac.All(), group, {}} {
				wantPut(t, fmt.Sprintf("from %d to %v of %d", from, to, stations), stations, from, framed(to, 58, 6))
			}
		}
	}
}

func TestPutIntoFullRows(t *testing.T) {
	l := made(t, 4, 1, 5)
	a := framed(mac.All(), 50, 1)
	sendAll(t, l, 1, 2, []byte("x"))
	wantCount(t, "to all, one row being full", l.Put(1, a), 2)
	wantCount(t, "Lost", l.Lost(), 1)
	wantRow(t, "the first one", l, 1, 0, young(a)...)
	wantRow(t, "the full one", l, 1, 2, young([]byte("x"))...)
	wantRow(t, "the last one", l, 1, 3, young(a)...)
	wantCount(t, "to all, all being full", l.Put(1, a), 0)
	wantCount(t, "Lost", l.Lost(), 4)
	wantCount(t, "to one, being full", l.Put(1, framed(mac.Station(3), 50, 1)), 0)
	wantCount(t, "Lost", l.Lost(), 5)
	wantCount(t, "to itself, all being full", l.Put(1, framed(mac.Station(1), 50, 1)), 0)
	wantCount(t, "of 5 bytes, all being full", l.Put(1, a[:5]), 0)
	wantCount(t, "Lost", l.Lost(), 5)
	wantCount(t, "from another one", l.Put(2, a), 3)
}

func TestPutKeepsTheOrder(t *testing.T) {
	l := made(t, 3, 4, 5)
	a, b, c := framed(mac.Station(1), 9, 1), framed(mac.All(), 9, 2), framed(mac.Station(2), 9, 3)
	for _, x := range [][]byte{a, b, c} {
		l.Put(0, x)
	}
	sendAll(t, l, 0, 1, c)
	wantRow(t, "to 1", l, 0, 1, young(a, b, c)...)
	wantRow(t, "to 2", l, 0, 2, young(b, c)...)
}

// P5.2, of an empty row and of no row.

func TestOfNoFrame(t *testing.T) {
	for _, stations := range []int{1, 2, 3, 16} {
		l := made(t, stations, 2, 5)
		for _, p := range pairs(stations) {
			wantNone(t, "empty", l, p[0], p[1])
			sendAll(t, l, p[0], p[1], []byte("a"))
		}
		for _, from := range append(slices.Clone(nowhere), 0, stations-1, stations) {
			for _, to := range append(slices.Clone(nowhere), 0, stations-1, stations) {
				if from == to || !slices.Contains(pairs(stations), [2]int{from, to}) {
					wantNone(t, "no row", l, from, to)
				}
			}
		}
		for _, p := range pairs(stations) {
			wantRow(t, "the others stay", l, p[0], p[1], young([]byte("a"))...)
			wantPass(t, "the only one", l, p[0], p[1], []byte("a"))
			wantNone(t, "emptied", l, p[0], p[1])
		}
		wantCount(t, "Lost", l.Lost(), 0)
	}
}

// P5.2: Pass, Drop, Twice.

func TestPass(t *testing.T) {
	l := made(t, 2, 4, 5)
	a, b := pattern(64, 1), pattern(3, 2)
	sendAll(t, l, 0, 1, a, nil, b)
	wantPass(t, "first", l, 0, 1, a)
	wantRow(t, "one passed", l, 0, 1, young(nil, b)...)
	wantPass(t, "second: of no byte", l, 0, 1, nil)
	wantPass(t, "third", l, 0, 1, b)
	wantNone(t, "all passed", l, 0, 1)
	wantCount(t, "Lost", l.Lost(), 0)
}

func TestDrop(t *testing.T) {
	l := made(t, 2, 4, 5)
	a, b, c := []byte("a"), []byte("b"), []byte("c")
	sendAll(t, l, 0, 1, a, b, c)
	for i, want := range [][]lan.Flying{young(b, c), young(c), nil} {
		wantBool(t, "Drop", l.Drop(0, 1), true)
		wantRow(t, "dropped", l, 0, 1, want...)
		wantCount(t, "Lost", l.Lost(), i+1)
	}
	wantNone(t, "all dropped", l, 0, 1)
	sendAll(t, l, 0, 1, nil)
	wantBool(t, "Drop of one without a byte", l.Drop(0, 1), true)
	wantCount(t, "Lost", l.Lost(), 4)
}

func TestTwice(t *testing.T) {
	l := made(t, 2, 4, 5)
	a, b := []byte("a"), []byte("b")
	sendAll(t, l, 0, 1, a)
	l.Age()
	sendAll(t, l, 0, 1, b)
	wantBool(t, "Twice", l.Twice(0, 1), true)
	wantRow(t, "doubled", l, 0, 1, append(aged(1, a, a), young(b)...)...)
	wantBool(t, "Twice again", l.Twice(0, 1), true)
	wantRow(t, "three alike", l, 0, 1, append(aged(1, a, a, a), young(b)...)...)
	wantBool(t, "Twice of a full row", l.Twice(0, 1), false)
	wantRow(t, "the full one", l, 0, 1, append(aged(1, a, a, a), young(b)...)...)
	wantCount(t, "Lost", l.Lost(), 0)
	for range 3 {
		wantPass(t, "alike", l, 0, 1, a)
	}
	wantBool(t, "Twice of the next one", l.Twice(0, 1), true)
	wantRow(t, "at last", l, 0, 1, young(b, b)...)
}

func TestTwiceOfSmallRows(t *testing.T) {
	for row := 1; row < 5; row++ {
		l := made(t, 2, row, 5)
		sendAll(t, l, 1, 0, nil)
		for n := 1; n < row; n++ {
			wantBool(t, "Twice of one without a byte", l.Twice(1, 0), true)
		}
		wantBool(t, "Twice of a full row", l.Twice(1, 0), false)
		wantRow(t, "the full one", l, 1, 0, young(make([][]byte, row)...)...)
		wantCount(t, "Lost", l.Lost(), 0)
	}
}

// P5.2: Spoil.

// turned is b, one bit turned.
func turned(b []byte, bit int) []byte {
	c := slices.Clone(b)
	n := new(big.Int).Mod(big.NewInt(int64(bit)), big.NewInt(int64(8*len(b)))).Int64()
	c[n/8] ^= 1 << (n % 8)
	return c
}

func TestSpoil(t *testing.T) {
	for _, n := range []int{1, 2, 3, 5, 6, 64, 1518} {
		bits := 8 * n
		far := []int{0, 1, 6, 7, 8, 9, 15, 16, bits - 2, bits - 1, bits, bits + 1, bits + 7, 2*bits - 1, 2 * bits, 1000003, 1<<32 + 5, math.MaxInt - 1, math.MaxInt, -1, -2, -7, -8, -9, 1 - bits, -bits, -1 - bits, -2 * bits, -1000003, math.MinInt + 1, math.MinInt}
		for _, bit := range far {
			l := made(t, 2, 2, 5)
			a, b := pattern(n, 1), pattern(n, 2)
			sendAll(t, l, 0, 1, a, b)
			what := fmt.Sprintf("Spoil(%d) of %d bytes", bit, n)
			wantBool(t, what, l.Spoil(0, 1, bit), true)
			wantRow(t, what, l, 0, 1, young(turned(a, bit), b)...)
			wantBool(t, what+", once more", l.Spoil(0, 1, bit), true)
			wantRow(t, what+", once more", l, 0, 1, young(a, b)...)
			wantCount(t, "Lost", l.Lost(), 0)
		}
	}
}

// TestSpoilByHand names the bits' places.
func TestSpoilByHand(t *testing.T) {
	for _, c := range []struct {
		bit  int
		want []byte
	}{
		{0, []byte{1, 0, 0}}, {1, []byte{2, 0, 0}}, {7, []byte{0x80, 0, 0}}, {8, []byte{0, 1, 0}}, {22, []byte{0, 0, 0x40}}, {23, []byte{0, 0, 0x80}},
		{24, []byte{1, 0, 0}}, {25, []byte{2, 0, 0}}, {47, []byte{0, 0, 0x80}}, {240, []byte{1, 0, 0}}, {-1, []byte{0, 0, 0x80}}, {-23, []byte{2, 0, 0}}, {-24, []byte{1, 0, 0}}, {-25, []byte{0, 0, 0x80}},
	} {
		l := made(t, 2, 1, 5)
		sendAll(t, l, 1, 0, make([]byte, 3))
		wantBool(t, "Spoil", l.Spoil(1, 0, c.bit), true)
		wantPass(t, fmt.Sprintf("Spoil(%d)", c.bit), l, 1, 0, c.want)
	}
}

func TestSpoilOfNoByte(t *testing.T) {
	l := made(t, 2, 3, 5)
	for _, none := range [][]byte{nil, {}, make([]byte, 0, 9)} {
		sendAll(t, l, 0, 1, none, []byte{5})
		for _, bit := range []int{0, 1, 8, -1, -8, math.MaxInt, math.MinInt} {
			wantBool(t, fmt.Sprintf("Spoil(%d)", bit), l.Spoil(0, 1, bit), false)
		}
		wantRow(t, "nothing is done", l, 0, 1, young(nil, []byte{5})...)
		l.Pass(0, 1)
		l.Pass(0, 1)
	}
	wantCount(t, "Lost", l.Lost(), 0)
}

func TestSpoilAndCopies(t *testing.T) {
	a := pattern(64, 1)
	l := made(t, 2, 4, 5)
	sendAll(t, l, 0, 1, a)
	l.Twice(0, 1)
	wantBool(t, "Spoil", l.Spoil(0, 1, 13), true)
	wantRow(t, "a copy made ahead", l, 0, 1, young(turned(a, 13), a)...)
	l.Twice(0, 1)
	wantRow(t, "a copy made behind", l, 0, 1, young(turned(a, 13), turned(a, 13), a)...)
	wantBool(t, "Spoil", l.Spoil(0, 1, 13), true)
	wantRow(t, "spoilt back", l, 0, 1, young(a, turned(a, 13), a)...)
}

func TestSpoilOfOneRowAlone(t *testing.T) {
	l := made(t, 3, 2, 5)
	a := framed(mac.All(), 58, 1)
	l.Put(0, a)
	l.Put(1, a)
	wantBool(t, "Spoil", l.Spoil(0, 1, 3), true)
	wantRow(t, "spoilt", l, 0, 1, young(turned(a, 3))...)
	wantRow(t, "the other one's", l, 0, 2, young(a)...)
	wantRow(t, "another sender's", l, 1, 0, young(a)...)
}

// P5.2: Cut.

func TestCut(t *testing.T) {
	for _, stations := range []int{2, 3, 16} {
		for station := range stations {
			l := made(t, stations, 4, 5)
			gone, lost := 0, 0
			for i, p := range pairs(stations) {
				n := 1 + i%3
				for k := range n {
					sendAll(t, l, p[0], p[1], pattern(5, 10*i+k))
				}
				if p[0] == station || p[1] == station {
					gone += n
				}
			}
			l.Spoil(0, 1, 1)
			l.Drop(0, 1) // of one frame the first
			lost++
			if station < 2 {
				gone--
			}
			what := fmt.Sprintf("Cut(%d) of %d", station, stations)
			wantCount(t, what, l.Cut(station), gone)
			wantCount(t, what+": Lost", l.Lost(), gone+lost)
			for i, p := range pairs(stations) {
				var want []lan.Flying
				for k := range 1 + i%3 {
					if p[0] != station && p[1] != station && p != [2]int{0, 1} {
						want = append(want, lan.Flying{B: pattern(5, 10*i+k)})
					}
				}
				wantRow(t, what, l, p[0], p[1], want...)
			}
			wantCount(t, what+", once more", l.Cut(station), 0)
			wantCount(t, what+", once more: Lost", l.Lost(), gone+lost)
			sendAll(t, l, station, (station+1)%stations, []byte("x"), []byte("y"), []byte("z"), nil)
		}
	}
}

func TestCutOfNone(t *testing.T) {
	for _, stations := range []int{1, 2, 3, 16} {
		l := made(t, stations, 2, 5)
		for _, p := range pairs(stations) {
			sendAll(t, l, p[0], p[1], []byte("a"))
		}
		for _, none := range append(slices.Clone(nowhere), stations, stations+1) {
			wantCount(t, fmt.Sprintf("Cut(%d) of %d", none, stations), l.Cut(none), 0)
		}
		for _, p := range pairs(stations) {
			wantRow(t, "nothing is done", l, p[0], p[1], young([]byte("a"))...)
		}
		wantCount(t, "Lost", l.Lost(), 0)
	}
}

// P5.3.

func TestAge(t *testing.T) {
	for _, life := range []int{1, 2, 3, 64, 9999, 10000} {
		l := made(t, 2, 3, life)
		sendAll(t, l, 0, 1, []byte("a"), nil)
		for age := 1; age <= life; age++ {
			wantCount(t, "Age", l.Age(), 0)
			if age < 4 || age > life-2 {
				wantRow(t, fmt.Sprintf("of life %d", life), l, 0, 1, aged(age, []byte("a"), nil)...)
			}
		}
		wantCount(t, "Lost at life", l.Lost(), 0)
		wantCount(t, "Age behind life", l.Age(), 2)
		wantNone(t, "behind life", l, 0, 1)
		wantCount(t, "Lost behind life", l.Lost(), 2)
		wantCount(t, "one more Age", l.Age(), 0)
		wantCount(t, "Lost behind that", l.Lost(), 2)
	}
}

func TestAgeOfSeveralRows(t *testing.T) {
	l := made(t, 3, 4, 2)
	a, b, c := []byte("a"), []byte("b"), []byte("c")
	sendAll(t, l, 0, 1, a)
	sendAll(t, l, 2, 1, a, b)
	wantCount(t, "first Age", l.Age(), 0)
	sendAll(t, l, 0, 1, b)
	sendAll(t, l, 1, 2, c)
	wantCount(t, "second Age", l.Age(), 0)
	sendAll(t, l, 2, 1, c)
	wantRow(t, "of three ages", l, 0, 1, append(aged(2, a), aged(1, b)...)...)
	wantRow(t, "of three ages", l, 2, 1, append(aged(2, a, b), young(c)...)...)
	wantCount(t, "third Age", l.Age(), 3)
	wantRow(t, "one gone", l, 0, 1, aged(2, b)...)
	wantRow(t, "two gone", l, 2, 1, aged(1, c)...)
	wantRow(t, "none gone", l, 1, 2, aged(2, c)...)
	wantCount(t, "fourth Age", l.Age(), 2)
	wantCount(t, "fifth Age", l.Age(), 1)
	wantCount(t, "sixth Age", l.Age(), 0)
	wantCount(t, "Lost", l.Lost(), 6)
	for _, p := range pairs(3) {
		wantNone(t, "all gone", l, p[0], p[1])
	}
}

func TestCopyIsAsOldAsItsFirst(t *testing.T) {
	for at := range 4 {
		l := made(t, 2, 4, 3)
		sendAll(t, l, 0, 1, []byte("a"))
		for range at {
			l.Age()
		}
		wantBool(t, "Twice", l.Twice(0, 1), true)
		l.Pass(0, 1)
		for age := at; age < 3; age++ {
			wantRow(t, "the copy", l, 0, 1, aged(age, []byte("a"))...)
			wantCount(t, "Age", l.Age(), 0)
		}
		wantRow(t, "the copy at life", l, 0, 1, aged(3, []byte("a"))...)
		wantCount(t, "Age behind the copy's life", l.Age(), 1)
	}
}

func TestSpoiltOneIsAsOldAsItWas(t *testing.T) {
	l := made(t, 2, 4, 2)
	sendAll(t, l, 0, 1, []byte{0})
	l.Age()
	l.Spoil(0, 1, 0)
	wantRow(t, "spoilt", l, 0, 1, aged(1, []byte{1})...)
	wantCount(t, "at life", l.Age(), 0)
	wantCount(t, "behind life", l.Age(), 1)
}

func TestRoomWhereTooOldOnesWere(t *testing.T) {
	l := made(t, 2, 1, 1)
	for i := range 9 {
		sendAll(t, l, 0, 1, []byte{byte(i)})
		wantCount(t, "Age", l.Age(), 0)
		wantBool(t, "Send into the full one", l.Send(0, 1, nil), false)
		wantCount(t, "Age", l.Age(), 1)
		wantCount(t, "Lost", l.Lost(), 2*i+2)
	}
}

func TestLost(t *testing.T) {
	l := made(t, 3, 2, 1)
	all := framed(mac.All(), 50, 1)
	wantCount(t, "a new one's", l.Lost(), 0)
	l.Put(0, all)
	l.Put(0, all)
	wantCount(t, "nothing is lost", l.Lost(), 0)
	l.Put(0, all)
	wantCount(t, "refused by two full rows", l.Lost(), 2)
	l.Send(0, 1, all)
	wantCount(t, "refused by a full row", l.Lost(), 3)
	l.Drop(0, 2)
	wantCount(t, "dropped", l.Lost(), 4)
	l.Age()
	l.Send(1, 2, all)
	wantCount(t, "not too old yet", l.Lost(), 4)
	l.Age()
	wantCount(t, "too old", l.Lost(), 7)
	l.Cut(1)
	wantCount(t, "cut", l.Lost(), 8)
	l.Send(1, 2, all)
	l.Twice(1, 2)
	l.Twice(1, 2)
	l.Pass(1, 2)
	l.Spoil(1, 2, 3)
	l.Row(1, 2)
	wantCount(t, "by no other way", l.Lost(), 8)
}

// P5.1 to P5.3, all of it: against plain lists, however calls follow one another.

// model is what the chapter says, by lists.
type model struct {
	stations, row, life, lost int
	rows                      map[[2]int][]lan.Flying
}

func (m *model) send(from, to int, b []byte) bool {
	p := [2]int{from, to}
	if !slices.Contains(pairs(m.stations), p) {
		return false
	}
	if len(m.rows[p]) == m.row {
		m.lost++
		return false
	}
	m.rows[p] = append(m.rows[p], lan.Flying{B: b})
	return true
}

func (m *model) put(from int, b []byte) int {
	if len(b) < 6 {
		return 0
	}
	n := 0
	known := bytes.HasPrefix(b, []byte{2, 0, 0, 0, 0}) && int(b[5]) < m.stations
	for to := range m.stations {
		if (!known || int(b[5]) == to) && to != from && m.send(from, to, b) {
			n++
		}
	}
	return n
}

func (m *model) take(p [2]int) ([]byte, bool) {
	if len(m.rows[p]) == 0 {
		return nil, false
	}
	b := m.rows[p][0].B
	m.rows[p] = m.rows[p][1:]
	return b, true
}

func (m *model) drop(p [2]int) bool {
	_, ok := m.take(p)
	if ok {
		m.lost++
	}
	return ok
}

func (m *model) twice(p [2]int) bool {
	q := m.rows[p]
	if len(q) == 0 || len(q) == m.row {
		return false
	}
	m.rows[p] = slices.Concat(q[:1], q)
	return true
}

func (m *model) spoil(p [2]int, bit int) bool {
	q := slices.Clone(m.rows[p])
	if len(q) == 0 || len(q[0].B) == 0 {
		return false
	}
	q[0].B = turned(q[0].B, bit)
	m.rows[p] = q
	return true
}

func (m *model) age() int {
	gone := 0
	for _, p := range pairs(m.stations) {
		var left []lan.Flying
		for _, f := range m.rows[p] {
			if f.Age++; f.Age <= m.life {
				left = append(left, f)
			} else {
				gone++
			}
		}
		m.rows[p] = left
	}
	m.lost += gone
	return gone
}

func (m *model) cut(station int) int {
	gone := 0
	for _, p := range pairs(m.stations) {
		if p[0] == station || p[1] == station {
			gone += len(m.rows[p])
			m.rows[p] = nil
		}
	}
	m.lost += gone
	return gone
}

// dice are as even as the tests need, and fall alike each time.
type dice uint32

func (d *dice) roll(n int) int {
	*d = *d*1664525 + 1013904223
	return int(*d>>8) % n
}

// step does one thing to both.
func (m *model) step(t *testing.T, l *lan.Lan, d *dice, seed int) {
	t.Helper()
	from, to := d.roll(m.stations+2)-1, d.roll(m.stations+2)-1
	p := [2]int{from, to}
	switch d.roll(12) {
	case 0, 1, 2:
		b := pattern(d.roll(9), seed)
		wantBool(t, "Send", l.Send(from, to, b), m.send(from, to, b))
	case 3, 4:
		address := []api.Addr{mac.Station(to), mac.Station(to), mac.Station(200), mac.All(), group}[d.roll(5)]
		b := framed(address, d.roll(9), seed)[:5+d.roll(2)]
		wantCount(t, "Put", l.Put(from, b), m.put(from, b))
	case 5, 6:
		want, some := m.take(p)
		if b, ok := l.Pass(from, to); ok != some || !bytes.Equal(b, want) {
			t.Errorf("Pass: %v, %v, want %v, %v", b, ok, want, some)
		}
	case 7:
		wantBool(t, "Drop", l.Drop(from, to), m.drop(p))
	case 8:
		wantBool(t, "Twice", l.Twice(from, to), m.twice(p))
	case 9:
		bit := d.roll(200) - 100
		wantBool(t, "Spoil", l.Spoil(from, to, bit), m.spoil(p, bit))
	case 10:
		wantCount(t, "Age", l.Age(), m.age())
	case 11:
		if d.roll(4) == 0 {
			wantCount(t, "Cut", l.Cut(from), m.cut(from))
		}
	}
}

func TestAgainstLists(t *testing.T) {
	d := dice(5)
	for _, size := range [][3]int{{1, 1, 1}, {2, 1, 1}, {2, 2, 3}, {2, 64, 50}, {3, 1, 4}, {3, 3, 2}, {4, 5, 9}} {
		l := made(t, size[0], size[1], size[2])
		m := &model{stations: size[0], row: size[1], life: size[2], rows: map[[2]int][]lan.Flying{}}
		for i := range 4000 {
			m.step(t, l, &d, i)
			for _, p := range pairs(m.stations) {
				wantRow(t, fmt.Sprintf("New%v, step %d", size, i), l, p[0], p[1], m.rows[p]...)
			}
			wantCount(t, "Lost", l.Lost(), m.lost)
			if t.Failed() {
				return
			}
		}
	}
}

// P5.4.

// TestWhatIsPassedIsWhatWasSent: frames have numbers in bytes that are not spoilt; those of one row must come rising, alikes one right behind the other, and none that was refused.
func TestWhatIsPassedIsWhatWasSent(t *testing.T) {
	d := dice(9)
	for _, size := range [][3]int{{2, 1, 3}, {2, 4, 5}, {3, 2, 40}, {3, 9, 10000}, {5, 64, 9}} {
		l := made(t, size[0], size[1], size[2])
		sent, passed := map[[2]int][]int{}, map[[2]int][]int{}
		for i := range 20000 {
			all := pairs(size[0])
			p := all[d.roll(len(all))]
			switch d.roll(10) {
			case 0, 1, 2, 3:
				b := append([]byte{byte(i >> 16), byte(i >> 8), byte(i)}, pattern(9, i)...)
				if l.Send(p[0], p[1], b) {
					sent[p] = append(sent[p], i)
				}
			case 4, 5, 6:
				if b, ok := l.Pass(p[0], p[1]); ok {
					passed[p] = append(passed[p], int(b[0])<<16|int(b[1])<<8|int(b[2]))
				}
			case 7:
				l.Twice(p[0], p[1])
			case 8:
				l.Spoil(p[0], p[1], 24+d.roll(72))
			case 9:
				if d.roll(2) == 0 {
					l.Drop(p[0], p[1])
				} else {
					l.Age()
				}
			}
		}
		for _, p := range pairs(size[0]) {
			if len(passed[p]) == 0 || !slices.IsSorted(passed[p]) {
				t.Errorf("New%v: from %d to %d: %d passed, or not in their order", size, p[0], p[1], len(passed[p]))
			}
			for _, n := range passed[p] {
				if _, ok := slices.BinarySearch(sent[p], n); !ok {
					t.Errorf("New%v: from %d to %d: number %d was passed, not sent", size, p[0], p[1], n)
				}
			}
		}
	}
}

// TestPassedByLotsAsItWasSent: where nothing happens to frames, each is passed as it was, once.
func TestPassedByLotsAsItWasSent(t *testing.T) {
	l := made(t, 3, 8, 2)
	next := map[[2]int]int{}
	sent := map[[2]int]int{}
	d := dice(3)
	for range 9000 {
		p := pairs(3)[d.roll(6)]
		if d.roll(2) == 0 {
			if l.Send(p[0], p[1], pattern(40, sent[p])) {
				sent[p]++
			}
		} else if next[p] < sent[p] {
			wantPass(t, "as it was sent", l, p[0], p[1], pattern(40, next[p]))
			next[p]++
		} else {
			wantNone(t, "no more than was sent", l, p[0], p[1])
		}
	}
	for _, p := range pairs(3) {
		if next[p] < 500 {
			t.Errorf("from %d to %d: %d alone were passed", p[0], p[1], next[p])
		}
	}
}

// R4.

// spoilList turns all of a list, its spare room too.
func spoilList(b []byte) {
	for i := range b[:cap(b)] {
		b[:cap(b)][i] ^= 0xFF
	}
}

func TestWhatIsSentStaysTheCallers(t *testing.T) {
	for _, n := range []int{1, 6, 64, 1518} {
		room := make([]byte, n+20)
		copy(room, framed(mac.All(), n, 1))
		was := slices.Clone(room)
		b := room[:n]
		l := made(t, 3, 6, 1)
		for range 2 {
			l.Send(0, 1, b)
			l.Send(0, 2, b[:0])
			l.Put(1, b)
			l.Twice(0, 1)
			l.Spoil(0, 1, 9)
			l.Spoil(1, 0, 9)
		}
		l.Age()
		if !bytes.Equal(room, was) {
			t.Errorf("%d bytes: they, or their spare room, were written into", n)
		}
		want := l.Row(0, 1)
		puts := l.Row(1, 2)
		spoilList(b)
		wantRow(t, "what was sent being written into", l, 0, 1, want...)
		wantRow(t, "what was put being written into", l, 1, 2, puts...)
		wantRow(t, "what was sent of no byte", l, 0, 2, aged(1, nil, nil)...)
	}
}

func TestWhatIsToldIsTheCallers(t *testing.T) {
	a, b := pattern(64, 1), pattern(33, 2)
	l := made(t, 2, 4, 9)
	sendAll(t, l, 0, 1, a)
	l.Twice(0, 1)
	sendAll(t, l, 0, 1, b)
	want := young(a, a, b)
	for range 2 {
		list := l.Row(0, 1)
		for _, f := range list {
			spoilList(f.B)
			wantRow(t, "a frame of what Row told being written into", l, 0, 1, want...)
		}
		clear(list[:cap(list)])
		wantRow(t, "what Row told being written into", l, 0, 1, want...)
	}
	first, _ := l.Pass(0, 1)
	spoilList(first)
	wantRow(t, "what Pass told being written into", l, 0, 1, young(a, b)...)
	spoilt := l.Row(0, 1)
	l.Spoil(0, 1, 5)
	if !bytes.Equal(spoilt[0].B, a) {
		t.Error("what Row told ahead of Spoil was written into")
	}
	held, _ := l.Pass(0, 1)
	l.Send(0, 1, b)
	l.Spoil(0, 1, 5)
	if !bytes.Equal(held, turned(a, 5)) {
		t.Error("what Pass told was written into")
	}
}

func TestFramesOfOneRowShareNothing(t *testing.T) {
	l := made(t, 2, 5, 9)
	for i := range 3 {
		sendAll(t, l, 0, 1, pattern(5, i))
	}
	l.Twice(0, 1)
	list := l.Row(0, 1)
	for i := range list {
		want := l.Row(0, 1)
		spoilList(list[i].B)
		for j := range list {
			if j > i && !bytes.Equal(list[j].B, want[j].B) {
				t.Errorf("frame %d was written into by frame %d", j, i)
			}
		}
	}
}

// TestNothingIsKept: neither what was sent, by any slice of it, nor what was passed is held on to.
func TestNothingIsKept(t *testing.T) {
	l := made(t, 2, 5, 9)
	var held []weak.Pointer[[64]byte]
	for _, n := range []int{0, 1, 32, 64} {
		room := new([64]byte)
		room[5] = 3
		held = append(held, weak.Make(room))
		l.Send(0, 1, room[:n])
		l.Put(1, room[:n])
	}
	l.Twice(0, 1)
	runtime.GC()
	for i, p := range held {
		if p.Value() != nil {
			t.Errorf("what was sent as number %d is kept", i)
		}
	}
	runtime.KeepAlive(l)
}

// R5.

func TestLansDoNotHearOfOneAnother(t *testing.T) {
	one, other := made(t, 2, 2, 1), made(t, 2, 2, 1)
	a := []byte("a")
	sendAll(t, one, 0, 1, a)
	wantNone(t, "the other one", other, 0, 1)
	sendAll(t, other, 0, 1, a, a)
	one.Age()
	one.Spoil(0, 1, 0)
	wantRow(t, "the other one", other, 0, 1, young(a, a)...)
	other.Cut(0)
	wantCount(t, "the other one's Lost", other.Lost(), 2)
	wantCount(t, "the one's Lost", one.Lost(), 0)
	wantRow(t, "the one", one, 0, 1, aged(1, []byte("`"))...)
}

// R7, and R1 at all arguments.

func TestNilAndZero(t *testing.T) {
	for what, l := range map[string]*lan.Lan{"nil": nil, "a zero one": {}} {
		for _, from := range append(slices.Clone(nowhere), 0, 1) {
			for _, to := range append(slices.Clone(nowhere), 0, 1) {
				wantBool(t, what+": Send", l.Send(from, to, []byte{1}), false)
				wantNone(t, what, l, from, to)
			}
			for _, to := range []api.Addr{mac.Station(0), mac.Station(1), mac.All(), {}} {
				wantCount(t, what+": Put", l.Put(from, framed(to, 50, 1)), 0)
			}
			wantCount(t, what+": Put of nothing", l.Put(from, nil), 0)
			wantCount(t, what+": Cut", l.Cut(from), 0)
			wantCount(t, what+": Age", l.Age(), 0)
		}
		wantCount(t, what+": Lost", l.Lost(), 0)
	}
}
