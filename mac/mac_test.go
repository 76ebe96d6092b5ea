package mac_test

import (
	"bytes"
	"hash/crc32"
	"math"
	"slices"
	"testing"

	"antiphon/api"
	"antiphon/crc"
	"antiphon/mac"
)

const ahead = 14 // bytes of a frame ahead of its data

var (
	somebody = api.Addr{0x10, 0x21, 0x32, 0x43, 0x54, 0x65}
	another  = api.Addr{0xA0, 0xB1, 0xC2, 0xD3, 0xE4, 0xF5}
	group    = api.Addr{0x01, 0x80, 0xC2, 0, 0, 0x0E}
	everyone = api.Addr{255, 255, 255, 255, 255, 255}
)

// pattern is a row of so many bytes that look like no rule, none of them 0; each seed has another one.
func pattern(n int, seed uint32) []byte {
	b := make([]byte, n)
	for i := range b {
		seed = seed*1664525 + 1013904223
		b[i] = byte(seed>>24) | 1
	}
	return b
}

// lengths are those of data that the chapter tells apart.
func lengths() []int {
	return []int{0, 1, 2, 44, 45, 46, 47, 48, 255, 256, 257, 258, 1000, 1023, 1024, 1498, 1499, 1500}
}

// seal has the sum behind b, by another maker's table.
func seal(b ...byte) []byte {
	s := crc32.ChecksumIEEE(b)
	return append(slices.Clip(b), byte(s), byte(s>>8), byte(s>>16), byte(s>>24))
}

// row is what stands ahead of the sum, whether a frame may be such or not.
func row(to, from api.Addr, length int, behind []byte) []byte {
	return slices.Concat(to[:], from[:], []byte{byte(length >> 8), byte(length)}, behind)
}

// padded is data and the noughts behind it.
func padded(data []byte) []byte {
	return append(slices.Clip(data), make([]byte, max(0, 46-len(data)))...)
}

// wantBytes takes nil and an empty list as one (R4).
func wantBytes(t *testing.T, what string, got, want []byte) {
	t.Helper()
	if !bytes.Equal(got, want) {
		t.Errorf("%s: %v, want %v", what, got, want)
	}
}

func wantEncode(t *testing.T, what string, f api.Frame, want []byte) {
	t.Helper()
	got, e := mac.Encode(crc.Make(), f)
	if e != api.OK || !bytes.Equal(got, want) {
		t.Errorf("%s: Encode: %v, %v, want %v, ok", what, got, e, want)
	}
}

func wantNoEncode(t *testing.T, what string, f api.Frame, want api.Errno) {
	t.Helper()
	for _, table := range []crc.Table{crc.Make(), {}} {
		if got, e := mac.Encode(table, f); e != want || len(got) != 0 {
			t.Errorf("%s: Encode: %v, %v, want none, %v", what, got, e, want)
		}
	}
}

func alike(f, g api.Frame) bool {
	return f.To == g.To && f.From == g.From && bytes.Equal(f.Data, g.Data)
}

func wantDecode(t *testing.T, what string, b []byte, want api.Frame) {
	t.Helper()
	got, e := mac.Decode(crc.Make(), b)
	if e != api.OK || !alike(got, want) {
		t.Errorf("%s: Decode: %v, %v, want %v, ok", what, got, e, want)
	}
}

func wantNoDecode(t *testing.T, what string, b []byte, want api.Errno) {
	t.Helper()
	got, e := mac.Decode(crc.Make(), b)
	if e != want || got.To != (api.Addr{}) || got.From != (api.Addr{}) || len(got.Data) != 0 {
		t.Errorf("%s: Decode of %d bytes: %v, %v, want zero, %v", what, len(b), got, e, want)
	}
}

func mustEncode(t *testing.T, f api.Frame) []byte {
	t.Helper()
	b, e := mac.Encode(crc.Make(), f)
	if e != api.OK {
		t.Fatalf("Encode of %d bytes: %v", len(f.Data), e)
	}
	return b
}

// spoil writes over a list and its spare room.
func spoil(b []byte) {
	b = b[:cap(b)]
	for i := range b {
		b[i] = 0xEE
	}
}

func TestChapterExamples(t *testing.T) {
	b, e := mac.Encode(crc.Make(), api.Frame{})
	if len(b) != 64 || e != api.OK {
		t.Errorf("Encode of no data: %d bytes, %v", len(b), e)
	}
	if mac.Group(mac.Station(3)) || mac.Number(mac.Station(3)) != 3 {
		t.Errorf("Station(3): %v, %d", mac.Group(mac.Station(3)), mac.Number(mac.Station(3)))
	}
}

// P3.1: Encode.

func TestEncodeOfEachLength(t *testing.T) {
	for _, n := range lengths() {
		data := pattern(n, uint32(n))
		f := api.Frame{To: another, From: somebody, Data: data}
		wantEncode(t, "data", f, seal(row(another, somebody, n, padded(data))...))
	}
}

func TestEncodeOfNoDataByteByByte(t *testing.T) {
	want := append([]byte{0xA0, 0xB1, 0xC2, 0xD3, 0xE4, 0xF5, 0x10, 0x21, 0x32, 0x43, 0x54, 0x65, 0, 0}, make([]byte, 46)...)
	for _, data := range [][]byte{nil, {}} {
		f := api.Frame{To: another, From: somebody, Data: data}
		wantEncode(t, "no data", f, seal(want...))
	}
}

// Where each thing stands, told without the helpers that lay it out.
func TestWhereEachByteStands(t *testing.T) {
	for _, n := range lengths() {
		data := pattern(n, uint32(n)+1)
		b := mustEncode(t, api.Frame{To: another, From: somebody, Data: data})
		behind := max(n, 46)
		if len(b) != 14+behind+4 {
			t.Fatalf("%d bytes of data: %d bytes", n, len(b))
		}
		wantBytes(t, "To", b[:6], another[:])
		wantBytes(t, "From", b[6:12], somebody[:])
		wantBytes(t, "length", b[12:14], []byte{byte(n / 256), byte(n % 256)})
		wantBytes(t, "data", b[14:14+n], data)
		wantBytes(t, "noughts", b[14+n:14+behind], make([]byte, behind-n))
		s := crc32.ChecksumIEEE(b[:14+behind])
		wantBytes(t, "sum", b[14+behind:], []byte{byte(s), byte(s >> 8), byte(s >> 16), byte(s >> 24)})
	}
}

func TestEncodeToAnybody(t *testing.T) {
	for _, to := range []api.Addr{{}, everyone, group, somebody, mac.Station(0), mac.Station(255)} {
		wantEncode(t, "to", api.Frame{To: to, From: somebody, Data: []byte{7}}, seal(row(to, somebody, 1, padded([]byte{7}))...))
	}
}

func TestEncodeFromAnyThatIsNoGroup(t *testing.T) {
	for _, from := range []api.Addr{{}, {0, 255, 255, 255, 255, 255}, {0, 1, 1, 1, 1, 1}, {254}, {0, 0, 0, 0, 0, 1}, mac.Station(1)} {
		wantEncode(t, "from", api.Frame{To: group, From: from}, seal(row(group, from, 0, padded(nil))...))
	}
}

func TestEncodeFromAGroup(t *testing.T) {
	for _, from := range []api.Addr{group, everyone, {1}, {3}, {255}, {0x81, 2, 3, 4, 5, 6}} {
		for _, n := range []int{0, 1, 46, 1500} {
			wantNoEncode(t, "from a group", api.Frame{To: somebody, From: from, Data: pattern(n, 1)}, api.ErrArg)
		}
	}
}

func TestEncodeOfTooLongData(t *testing.T) {
	for _, n := range []int{1501, 1502, 2000, 65535, 65536, 65537, 1 << 20} {
		wantNoEncode(t, "too long", api.Frame{To: group, From: somebody, Data: pattern(n, 2)}, api.ErrLong)
		wantNoEncode(t, "too long noughts", api.Frame{To: group, From: somebody, Data: make([]byte, n)}, api.ErrLong)
	}
}

// Of both errors it is the first named one.
func TestEncodeOfTooLongDataFromAGroup(t *testing.T) {
	for _, n := range []int{1501, 65536} {
		wantNoEncode(t, "both at once", api.Frame{To: somebody, From: group, Data: pattern(n, 3)}, api.ErrArg)
	}
}

// A zero table has sums of its own (chapter 2): the frame is sealed by the table that is handed in.
func TestFramesByAZeroTable(t *testing.T) {
	var zero crc.Table
	f := api.Frame{To: another, From: somebody, Data: []byte("abc")}
	body := row(another, somebody, 3, padded([]byte("abc")))
	sealed := append(bytes.Clone(body), 255, 255, 255, 255)
	b, e := mac.Encode(zero, f)
	if e != api.OK {
		t.Errorf("Encode: %v", e)
	}
	wantBytes(t, "by a zero table", b, sealed)
	if got, e := mac.Decode(zero, sealed); e != api.OK || !alike(got, f) {
		t.Errorf("Decode: %v, %v", got, e)
	}
	if got, e := mac.Decode(zero, seal(body...)); e != api.ErrSum || !alike(got, api.Frame{}) {
		t.Errorf("Decode of another table's: %v, %v", got, e)
	}
	wantNoDecode(t, "a zero table's", sealed, api.ErrSum)
}

func TestEncodeChangesAndKeepsNothingThatWasHandedIn(t *testing.T) {
	for _, n := range []int{0, 1, 45, 46, 47, 1500} {
		whole := pattern(n+100, 4)
		before := bytes.Clone(whole)
		f := api.Frame{To: another, From: somebody, Data: whole[:n]}
		want := seal(row(another, somebody, n, padded(before[:n:n]))...)
		b := mustEncode(t, f)
		wantBytes(t, "what was handed in, its spare room too", whole, before)
		spoil(b)
		wantBytes(t, "what was handed in, when the answer is written over", whole, before)
		b = mustEncode(t, f)
		other := mustEncode(t, f)
		spoil(whole)
		spoil(other)
		wantBytes(t, "the answer, when all else is written over", b, want)
	}
}

func TestRefusedEncodeChangesNothing(t *testing.T) {
	whole := pattern(3000, 5)
	before := bytes.Clone(whole)
	wantNoEncode(t, "from a group", api.Frame{From: group, Data: whole[:10]}, api.ErrArg)
	wantNoEncode(t, "too long", api.Frame{From: somebody, Data: whole[:1501]}, api.ErrLong)
	wantBytes(t, "what was handed in", whole, before)
}

// P3.1: Decode.

func TestDecodeOfEachLength(t *testing.T) {
	for _, n := range lengths() {
		data := pattern(n, uint32(n)+2)
		wantDecode(t, "data", seal(row(another, somebody, n, padded(data))...), api.Frame{To: another, From: somebody, Data: data})
		wantDecode(t, "noughts", seal(row(another, somebody, n, padded(make([]byte, n)))...), api.Frame{To: another, From: somebody, Data: make([]byte, n)})
	}
}

func TestDecodeToAnybodyFromAnyThatIsNoGroup(t *testing.T) {
	for _, to := range []api.Addr{{}, everyone, group, somebody, mac.Station(0)} {
		for _, from := range []api.Addr{{}, {0, 255, 255, 255, 255, 255}, {0, 1, 1, 1, 1, 1}, {254}, mac.Station(1), to} {
			if from[0]%2 == 0 {
				wantDecode(t, "to and from", seal(row(to, from, 1, padded([]byte{9}))...), api.Frame{To: to, From: from, Data: []byte{9}})
			}
		}
	}
}

func TestDecodeOfTooFewBytes(t *testing.T) {
	wantNoDecode(t, "nil", nil, api.ErrShort)
	for n := range 64 {
		wantNoDecode(t, "noughts", make([]byte, n), api.ErrShort)
		wantNoDecode(t, "others", pattern(n, 6), api.ErrShort)
		if n >= 4 {
			wantNoDecode(t, "a right sum", seal(make([]byte, n-4)...), api.ErrShort)
		}
	}
	for n := ahead; n < ahead+46; n++ { // the length is as many as there are
		wantNoDecode(t, "no noughts", seal(row(another, somebody, n-ahead, pattern(n-ahead, 7))...), api.ErrShort)
	}
	wantNoDecode(t, "from a group", seal(row(another, group, 45, pattern(45, 8))...), api.ErrShort)
}

func TestDecodeOfJustEnoughBytes(t *testing.T) {
	for n := range 47 {
		data := pattern(n, 9)
		wantDecode(t, "64 bytes", seal(row(another, somebody, n, padded(data))...), api.Frame{To: another, From: somebody, Data: data})
	}
	wantNoDecode(t, "64 noughts", make([]byte, 64), api.ErrSum)
	wantDecode(t, "60 noughts, sealed", seal(make([]byte, 60)...), api.Frame{})
	wantNoDecode(t, "60 ones, sealed", seal(bytes.Repeat([]byte{255}, 60)...), api.ErrForm)
	wantNoDecode(t, "64 others", pattern(64, 10), api.ErrSum)
}

func TestDecodeOfAWrongSum(t *testing.T) {
	body := row(another, somebody, 3, padded([]byte("abc")))
	right := seal(body...)
	for i := 60; i < 64; i++ {
		for x := 1; x < 256; x++ {
			wrong := bytes.Clone(right)
			wrong[i] ^= byte(x)
			wantNoDecode(t, "one byte of the sum", wrong, api.ErrSum)
		}
	}
	s := crc32.ChecksumIEEE(body)
	wantNoDecode(t, "the highest first", append(bytes.Clone(body), byte(s>>24), byte(s>>16), byte(s>>8), byte(s)), api.ErrSum)
	wantNoDecode(t, "sealed twice", seal(right...), api.ErrForm)
}

// A right sum, and just as many bytes or not: longer or shorter ones than the length asks.
func TestDecodeOfALengthThatSaysMoreOrLess(t *testing.T) {
	for _, there := range []int{46, 47, 48, 100, 255, 256, 300, 1499, 1500} {
		behind := pattern(there, 11)
		for _, said := range []int{0, 1, 45, 46, 47, 48, 99, 100, 101, 254, 255, 256, 257, 299, 300, 301, 1498, 1499, 1500} {
			if said != there {
				wantNoDecode(t, "a length that is wrong", seal(row(another, somebody, said, behind)...), api.ErrForm)
			}
		}
		wantDecode(t, "the right one", seal(row(another, somebody, there, behind)...), api.Frame{To: another, From: somebody, Data: behind})
	}
}

// Below MinData there are MinData bytes, no more, be they noughts or not.
func TestDecodeOfNoughtsTooMany(t *testing.T) {
	for n := range 47 {
		for _, more := range []int{1, 2, 50, 1454, 1455} {
			behind := append(padded(pattern(n, 12)), make([]byte, more)...)
			wantNoDecode(t, "noughts too many", seal(row(another, somebody, n, behind)...), api.ErrForm)
		}
	}
	for _, n := range []int{47, 100, 1499, 1500} {
		wantNoDecode(t, "a nought too many", seal(row(another, somebody, n, append(pattern(n, 13), 0))...), api.ErrForm)
	}
}

func TestDecodeOfALengthAboveMaxData(t *testing.T) {
	for _, n := range []int{1501, 1502, 2048, 0x8000, 65534, 65535} {
		for _, there := range []int{46, 1500, 1501, n - 1, n, n + 1} {
			wantNoDecode(t, "above MaxData", seal(row(another, somebody, n, pattern(there, 14))...), api.ErrForm)
			wantNoDecode(t, "above MaxData, noughts", seal(row(another, somebody, n, make([]byte, there))...), api.ErrForm)
		}
	}
	wantNoDecode(t, "more bytes than a length can say", seal(row(another, somebody, 0, make([]byte, 65536))...), api.ErrForm)
	wantNoDecode(t, "likewise, and 46 modulo what it can say", seal(row(another, somebody, 46, make([]byte, 65536+46))...), api.ErrForm)
}

// Each byte behind the data is looked at.
func TestDecodeOfOthersThanNoughtsBehindTheData(t *testing.T) {
	for n := range 46 {
		for at := n; at < 46; at++ {
			for _, x := range []byte{1, 2, 0x80, 255} {
				behind := padded(pattern(n, 15))
				behind[at] = x
				wantNoDecode(t, "no nought", seal(row(another, somebody, n, behind)...), api.ErrForm)
			}
		}
	}
	behind := append(pattern(3, 16), make([]byte, 42)...)
	wantNoDecode(t, "the last one only", seal(row(another, somebody, 3, append(behind, 1))...), api.ErrForm)
}

func TestDecodeFromAGroup(t *testing.T) {
	for _, from := range []api.Addr{group, everyone, {1}, {3}, {255}, {0x81, 2, 3, 4, 5, 6}} {
		for _, n := range []int{0, 1, 46, 47, 1500} {
			wantNoDecode(t, "from a group", seal(row(somebody, from, n, padded(pattern(n, 17)))...), api.ErrForm)
		}
	}
}

// Of several faults it is the first named one that is told.
func TestDecodeOfSeveralFaults(t *testing.T) {
	wantNoDecode(t, "short, a wrong sum, from a group", row(somebody, group, 9, pattern(49, 18)), api.ErrShort)
	wantNoDecode(t, "short, from a group", seal(row(somebody, group, 9, pattern(45, 18))...), api.ErrShort)
	wantNoDecode(t, "short, above MaxData", seal(row(somebody, another, 1501, pattern(45, 18))...), api.ErrShort)
	wrong := func(b []byte) []byte {
		b[len(b)-1] ^= 1
		return b
	}
	wantNoDecode(t, "a wrong sum, from a group", wrong(seal(row(somebody, group, 46, pattern(46, 19))...)), api.ErrSum)
	wantNoDecode(t, "a wrong sum, above MaxData", wrong(seal(row(somebody, another, 1501, pattern(1501, 19))...)), api.ErrSum)
	wantNoDecode(t, "a wrong sum, a wrong length", wrong(seal(row(somebody, another, 50, pattern(46, 19))...)), api.ErrSum)
	wantNoDecode(t, "a wrong sum, no noughts", wrong(seal(row(somebody, another, 4, pattern(46, 19))...)), api.ErrSum)
	wantNoDecode(t, "all of the form", seal(row(somebody, group, 1501, pattern(46, 19))...), api.ErrForm)
}

func TestDecodeChangesAndKeepsNothingThatWasHandedIn(t *testing.T) {
	for _, n := range []int{0, 1, 45, 46, 47, 1500} {
		data := pattern(n, 20)
		whole := append(seal(row(another, somebody, n, padded(data))...), 1, 2, 3)
		b := whole[:len(whole)-3]
		before := bytes.Clone(whole)
		f, e := mac.Decode(crc.Make(), b)
		wantBytes(t, "what was handed in, its spare room too", whole, before)
		spoil(f.Data)
		wantBytes(t, "what was handed in, when the answer is written over", whole, before)
		f, e = mac.Decode(crc.Make(), b)
		other, _ := mac.Decode(crc.Make(), b)
		spoil(whole)
		spoil(other.Data)
		if e != api.OK || !alike(f, api.Frame{To: another, From: somebody, Data: data}) {
			t.Errorf("the answer, when all else is written over: %v, %v", f, e)
		}
	}
}

func TestRefusedDecodeChangesNothing(t *testing.T) {
	for _, b := range [][]byte{pattern(63, 21), pattern(64, 22), seal(row(somebody, group, 5, pattern(46, 23))...), seal(row(somebody, another, 5, pattern(46, 24))...)} {
		whole := append(bytes.Clone(b), 9, 9, 9)
		before := bytes.Clone(whole)
		mac.Decode(crc.Make(), whole[:len(b)])
		wantBytes(t, "what was handed in", whole, before)
	}
}

// R5: what was asked ahead is not to be told from an answer.
func TestNothingIsKept(t *testing.T) {
	f := api.Frame{To: another, From: somebody, Data: []byte{1, 2}}
	sealed := seal(row(another, somebody, 2, padded([]byte{1, 2}))...)
	for range 3 {
		wantEncode(t, "Encode", f, sealed)
		wantNoEncode(t, "from a group", api.Frame{From: group}, api.ErrArg)
		wantDecode(t, "Decode", sealed, f)
		wantNoDecode(t, "short", nil, api.ErrShort)
		wantNoDecode(t, "a wrong sum", make([]byte, 64), api.ErrSum)
	}
}

// P3.2: addresses.

func wantGroup(t *testing.T, a api.Addr, want bool) {
	t.Helper()
	if mac.Group(a) != want {
		t.Errorf("Group(%v): %v", a, !want)
	}
}

func TestGroupByItsFirstByte(t *testing.T) {
	for x := range 256 {
		for _, rest := range []byte{0, 1, 2, 254, 255} {
			wantGroup(t, api.Addr{byte(x), rest, rest, rest, rest, rest}, x%2 == 1)
		}
	}
	wantGroup(t, api.Addr{}, false)
	wantGroup(t, mac.All(), true)
	wantGroup(t, somebody, false)
	wantGroup(t, group, true)
}

func TestAll(t *testing.T) {
	if mac.All() != everyone {
		t.Errorf("All: %v", mac.All())
	}
}

func TestStationAndNumber(t *testing.T) {
	for n := range 256 {
		a := mac.Station(n)
		if a != (api.Addr{2, 0, 0, 0, 0, byte(n)}) {
			t.Errorf("Station(%d): %v", n, a)
		}
		if mac.Number(a) != n {
			t.Errorf("Number(%v): %d", a, mac.Number(a))
		}
		wantGroup(t, a, false)
	}
}

func TestStationOfOtherNumbers(t *testing.T) {
	for _, n := range []int{-1, -2, -255, -256, -257, 256, 257, 511, 512, 513, 65536, 1 << 32, 1<<32 + 1, math.MinInt, math.MinInt + 1, math.MaxInt} {
		if a := mac.Station(n); a != (api.Addr{}) {
			t.Errorf("Station(%d): %v", n, a)
		}
	}
}

func TestNumberOfNoStation(t *testing.T) {
	for _, a := range []api.Addr{{}, everyone, somebody, another, group, {0, 0, 0, 0, 0, 1}, {2, 2, 2, 2, 2, 2}, {1}, {0, 0, 0, 0, 0, 255}} {
		if n := mac.Number(a); n != -1 {
			t.Errorf("Number(%v): %d", a, n)
		}
	}
}

func TestNumberOfWhatIsNearlyAStation(t *testing.T) {
	for _, n := range []int{0, 1, 2, 3, 128, 254, 255} {
		for i := range 5 {
			for x := 1; x < 256; x++ {
				a := mac.Station(n)
				a[i] ^= byte(x)
				if got := mac.Number(a); got != -1 {
					t.Errorf("Number(%v): %d", a, got)
				}
			}
		}
	}
}

func wantTakes(t *testing.T, what string, me api.Addr, groups []api.Addr, to api.Addr, want bool) {
	t.Helper()
	if mac.Takes(me, groups, to) != want {
		t.Errorf("%s: Takes(%v, %v, %v): %v", what, me, groups, to, !want)
	}
}

// manyGroups are lists of groups, to none of which the tests below send.
func manyGroups() [][]api.Addr {
	return [][]api.Addr{nil, {}, {{1}}, {{1}, {3}, {5}}, {{1}, {1}}}
}

func TestTakesWhatIsToItOrToAll(t *testing.T) {
	for _, me := range []api.Addr{mac.Station(0), mac.Station(255), somebody, {}, group} {
		for _, groups := range manyGroups() {
			wantTakes(t, "me", me, groups, me, true)
			wantTakes(t, "all", me, groups, mac.All(), true)
		}
		wantTakes(t, "me, and among the groups", me, []api.Addr{me}, me, true)
		wantTakes(t, "all, and among the groups", me, []api.Addr{mac.All()}, mac.All(), true)
	}
	wantTakes(t, "me am all", mac.All(), nil, mac.All(), true)
}

func TestTakesNothingElse(t *testing.T) {
	for _, groups := range manyGroups() {
		for _, to := range []api.Addr{another, group, mac.Station(1), {}, {7}, {255}, {255, 255, 255, 255, 255, 254}, {254, 255, 255, 255, 255, 255}} {
			wantTakes(t, "another one", mac.Station(0), groups, to, false)
		}
	}
	for bit := range 48 { // addresses that are nearly me, or nearly all
		for _, a := range []api.Addr{somebody, everyone} {
			a[bit/8] ^= 1 << (bit % 8)
			wantTakes(t, "nearly", somebody, nil, a, false)
		}
	}
}

func TestTakesWhatIsToAGroupAmongGroups(t *testing.T) {
	groups := []api.Addr{{1}, group, {3, 1}, group, {1, 1}}
	for _, to := range groups {
		wantTakes(t, "among them", somebody, groups, to, true)
		for bit := range 48 {
			near := to
			near[bit/8] ^= 1 << (bit % 8)
			wantTakes(t, "nearly", somebody, groups, near, slices.Contains(groups, near) && near[0]%2 == 1)
		}
	}
	for i := range groups {
		wantTakes(t, "alone", somebody, groups[i:i+1], groups[i], true)
	}
	wantTakes(t, "to a group that is not among them", somebody, groups, api.Addr{5}, false)
	wantTakes(t, "no groups", somebody, nil, group, false)
	wantTakes(t, "no groups", somebody, []api.Addr{}, group, false)
}

func TestTakesNoneThatIsNoGroupAmongGroups(t *testing.T) {
	for _, to := range []api.Addr{another, {}, mac.Station(1), {2}, {254, 1, 1, 1, 1, 1}} {
		wantTakes(t, "no group", somebody, []api.Addr{to}, to, false)
		wantTakes(t, "no group, behind one", somebody, []api.Addr{group, to}, to, false)
		wantTakes(t, "the group beside it", somebody, []api.Addr{to, group}, group, true)
		wantTakes(t, "all", somebody, []api.Addr{to}, mac.All(), true)
	}
}

func TestTakesChangesNothingThatWasHandedIn(t *testing.T) {
	whole := []api.Addr{{5}, group, another, {3}, {1}}
	before := slices.Clone(whole)
	for _, to := range []api.Addr{{5}, {3}, {1}, another, mac.All()} {
		mac.Takes(somebody, whole[:3], to)
	}
	if !slices.Equal(whole, before) {
		t.Errorf("%v, want %v", whole, before)
	}
	wantTakes(t, "in the spare room", somebody, whole[:3], api.Addr{3}, false)
}

// P3.3: there and back.

func TestDecodeOfEncode(t *testing.T) {
	table := crc.Make()
	for n := range 1501 {
		f := api.Frame{To: group, From: mac.Station(n % 256), Data: pattern(n, uint32(n))}
		wantDecode(t, "there and back", mustEncode(t, f), f)
		f = api.Frame{To: mac.Station(n % 256), From: another, Data: make([]byte, n)}
		wantDecode(t, "noughts", mustEncode(t, f), f)
		again, e := mac.Decode(table, mustEncode(t, f))
		if e != api.OK {
			t.Fatalf("Decode: %v", e)
		}
		wantEncode(t, "and there again", again, mustEncode(t, f))
	}
}

func TestOneBitTurnedAnywhere(t *testing.T) {
	for _, n := range []int{0, 1, 45, 46, 47, 300, 1500} {
		for _, data := range [][]byte{pattern(n, 25), make([]byte, n)} {
			b := mustEncode(t, api.Frame{To: another, From: somebody, Data: data})
			for bit := range 8 * len(b) {
				b[bit/8] ^= 1 << (bit % 8)
				wantNoDecode(t, "one bit turned", b, api.ErrSum)
				b[bit/8] ^= 1 << (bit % 8)
			}
		}
	}
}

func TestAFrameThatIsCutOrHasBytesBehind(t *testing.T) {
	for _, n := range []int{0, 45, 46, 47, 300, 1500} {
		b := mustEncode(t, api.Frame{To: another, From: somebody, Data: pattern(n, 26)})
		for cut := range len(b) {
			want := api.ErrSum
			if cut < 64 {
				want = api.ErrShort
			}
			wantNoDecode(t, "cut behind", b[:cut], want)
		}
		for _, behind := range [][]byte{{0}, {1}, {255}, {0, 0, 0, 0}, pattern(4, 27), b} {
			wantNoDecode(t, "bytes behind", slices.Concat(b, behind), api.ErrSum)
		}
		wantNoDecode(t, "sealed again", seal(b...), api.ErrForm)
	}
}
