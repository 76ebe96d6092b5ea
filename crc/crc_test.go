package crc_test

import (
	"bytes"
	"hash/crc32"
	"math"
	"slices"
	"testing"

	"antiphon/crc"
)

// pattern is a row of so many bytes that look like no rule; each seed has another one.
func pattern(n int, seed uint32) []byte {
	b := make([]byte, n)
	for i := range b {
		seed = seed*1664525 + 1013904223
		b[i] = byte(seed >> 24)
	}
	return b
}

// rows are rows of bytes of many lengths and kinds, no byte among them.
func rows() [][]byte {
	all := [][]byte{nil, {}, []byte("123456789"), []byte("a"), {0}, {255}}
	for n := 1; n <= 70; n++ {
		all = append(all, pattern(n, uint32(n)), make([]byte, n), bytes.Repeat([]byte{255}, n))
	}
	return append(all, pattern(255, 1), pattern(256, 2), pattern(257, 3), pattern(1518, 4), pattern(100000, 5))
}

// wholeSum is another maker's: what the chapter's sum should be.
func wholeSum(b []byte) uint32 { return crc32.ChecksumIEEE(b) }

// zeroSum is the sum by rows of noughts: nothing comes in, the ones are shifted out.
func zeroSum(n int) uint32 {
	return ^(uint32(math.MaxUint32) >> min(8*n, 32))
}

// tail has a sum's four bytes, the lowest first.
func tail(s uint32) []byte {
	return []byte{byte(s), byte(s >> 8), byte(s >> 16), byte(s >> 24)}
}

func wantSum(t *testing.T, what string, got, want uint32) {
	t.Helper()
	if got != want {
		t.Errorf("%s: %08X, want %08X", what, got, want)
	}
}

// wantBytes takes nil and an empty list as one (R4).
func wantBytes(t *testing.T, what string, got, want []byte) {
	t.Helper()
	if !bytes.Equal(got, want) {
		t.Errorf("%s: %v, want %v", what, got, want)
	}
}

func wantOpen(t *testing.T, what string, table crc.Table, sealed, want []byte) {
	t.Helper()
	got, ok := table.Open(sealed)
	if !ok || !bytes.Equal(got, want) {
		t.Errorf("%s: Open: %v, %v, want %v, true", what, got, ok, want)
	}
}

func wantShut(t *testing.T, what string, table crc.Table, sealed []byte) {
	t.Helper()
	if got, ok := table.Open(sealed); ok || len(got) != 0 {
		t.Errorf("%s: Open of %v: %v, %v, want none, false", what, sealed, got, ok)
	}
}

// spoil writes over a list and its spare room.
func spoil(b []byte) {
	b = b[:cap(b)]
	for i := range b {
		b[i] = 0xEE
	}
}

func TestChapterExample(t *testing.T) {
	b := []byte("123456789")
	wantSum(t, "Sum", crc.Make().Sum(b), 0xCBF43926)
	wantSum(t, "Slow", crc.Slow(b), 0xCBF43926)
}

// P2.1: Make, Sum, Slow, More.

func TestSumAndSlow(t *testing.T) {
	table := crc.Make()
	for _, b := range rows() {
		want := wholeSum(b)
		wantSum(t, "Sum", table.Sum(b), want)
		wantSum(t, "Slow", crc.Slow(b), want)
	}
}

func TestSumOfNoByte(t *testing.T) {
	for _, b := range [][]byte{nil, {}} {
		wantSum(t, "Sum", crc.Make().Sum(b), 0)
		wantSum(t, "Slow", crc.Slow(b), 0)
	}
}

func TestSumOfKnownRows(t *testing.T) {
	for _, c := range []struct {
		b    string
		want uint32
	}{
		{"\x00", 0xD202EF8D},
		{"\xFF", 0xFF000000},
		{"a", 0xE8B7BE43},
		{"\x00\x00\x00\x00", 0x2144DF1C},
		{"\xFF\xFF\xFF\xFF", 0xFFFFFFFF},
		{"The quick brown fox jumps over the lazy dog", 0x414FA339},
	} {
		wantSum(t, "Sum", crc.Make().Sum([]byte(c.b)), c.want)
		wantSum(t, "Slow", crc.Slow([]byte(c.b)), c.want)
	}
}

// Each row of the table is asked for.
func TestSumOfOneByteOfEachValue(t *testing.T) {
	table := crc.Make()
	seen := map[uint32]int{}
	for x := range 256 {
		b := []byte{byte(x)}
		wantSum(t, "Sum", table.Sum(b), wholeSum(b))
		wantSum(t, "Slow", crc.Slow(b), wholeSum(b))
		seen[table.Sum(b)]++
	}
	if len(seen) != 256 {
		t.Errorf("%d sums of 256 bytes", len(seen))
	}
}

func TestMoreOfARowCutAnywhere(t *testing.T) {
	table := crc.Make()
	for _, b := range [][]byte{nil, {7}, []byte("123456789"), pattern(64, 9), pattern(300, 10)} {
		for cut := range len(b) + 1 {
			wantSum(t, "More", table.More(table.Sum(b[:cut]), b[cut:]), wholeSum(b))
		}
	}
}

func TestMoreOfManyParts(t *testing.T) {
	table := crc.Make()
	b := pattern(40, 11)
	for one := range len(b) + 1 {
		for two := one; two <= len(b); two++ {
			s := table.Sum(nil)
			for _, part := range [][]byte{nil, b[:one], {}, b[one:two], nil, b[two:], {}} {
				s = table.More(s, part)
			}
			wantSum(t, "three parts and four of no byte", s, wholeSum(b))
		}
	}
	s := uint32(0)
	for i := range b {
		s = table.More(s, b[i:i+1])
		wantSum(t, "byte by byte", s, wholeSum(b[:i+1]))
	}
}

// Any number is the sum of some row.
func TestMoreOfAnySum(t *testing.T) {
	table := crc.Make()
	b := []byte("123456789")
	for _, s := range []uint32{0, 1, 0xFF, 0x80000000, 0xEDB88320, 0xCBF43926, math.MaxUint32 - 1, math.MaxUint32} {
		wantSum(t, "no byte", table.More(s, nil), s)
		wantSum(t, "no byte", table.More(s, []byte{}), s)
		wantSum(t, "bytes", table.More(s, b), crc32.Update(s, crc32.IEEETable, b))
	}
}

func TestZeroTableSums(t *testing.T) {
	var zero crc.Table
	for n, want := range []uint32{0, 0xFF000000, 0xFFFF0000, 0xFFFFFF00, 0xFFFFFFFF, 0xFFFFFFFF} {
		wantSum(t, "noughts", zero.Sum(make([]byte, n)), want)
		wantSum(t, "ones", zero.Sum(bytes.Repeat([]byte{255}, n)), want)
	}
	for _, b := range rows() {
		wantSum(t, "Sum", zero.Sum(b), zeroSum(len(b)))
	}
	for x := range 256 {
		wantSum(t, "one byte", zero.Sum([]byte{byte(x)}), 0xFF000000)
	}
}

func TestZeroTableSumsMore(t *testing.T) {
	var zero crc.Table
	for _, s := range []uint32{0, 1, 0x12345678, 0xCBF43926, 0x80000000, math.MaxUint32} {
		for n := range 7 {
			wantSum(t, "More", zero.More(s, pattern(n, s)), ^(^s >> (8 * n)))
		}
	}
	b := pattern(6, 12)
	for cut := range len(b) + 1 {
		wantSum(t, "cut", zero.More(zero.Sum(b[:cut]), b[cut:]), zeroSum(len(b)))
	}
}

func TestTableIsAValue(t *testing.T) {
	b := []byte("123456789")
	table := crc.Make()
	handedDown := table
	table = crc.Table{}
	wantSum(t, "the copy", handedDown.Sum(b), 0xCBF43926)
	wantSum(t, "the zero one", table.Sum(b), 0xFFFFFFFF)
	wantSum(t, "another one", crc.Make().Sum(b), 0xCBF43926)
	if crc.Make() != handedDown || crc.Make() == table {
		t.Error("Make does not make the same table each time, or a zero one")
	}
}

// R5: what was asked ahead is not to be told from an answer.
func TestNothingIsKept(t *testing.T) {
	table, zero := crc.Make(), crc.Table{}
	for range 3 {
		wantSum(t, "Sum", table.Sum([]byte("123456789")), 0xCBF43926)
		wantSum(t, "Slow", crc.Slow([]byte("123456789")), 0xCBF43926)
		wantSum(t, "by noughts", zero.Sum([]byte{1, 2}), 0xFFFF0000)
		wantShut(t, "a wrong sum", table, []byte{1, 2, 3, 4, 5})
		wantOpen(t, "no byte", table, []byte{0, 0, 0, 0}, nil)
	}
}

func TestSumsChangeNothing(t *testing.T) {
	whole := pattern(20, 13)
	before := bytes.Clone(whole)
	table := crc.Make()
	table.Sum(whole[:10])
	table.More(5, whole[:10])
	crc.Slow(whole[:10])
	wantBytes(t, "what was handed in", whole, before)
}

// P2.2: Seal and Open.

func TestSealHasTheLowestByteFirst(t *testing.T) {
	table := crc.Make()
	wantBytes(t, "digits", table.Seal([]byte("123456789")), []byte("123456789\x26\x39\xF4\xCB"))
	wantBytes(t, "one byte", table.Seal([]byte{0}), []byte{0, 0x8D, 0xEF, 0x02, 0xD2})
	wantBytes(t, "ones", table.Seal([]byte{255}), []byte{255, 0, 0, 0, 0xFF})
	wantBytes(t, "nil", table.Seal(nil), []byte{0, 0, 0, 0})
	wantBytes(t, "no byte", table.Seal([]byte{}), []byte{0, 0, 0, 0})
}

func TestOpenOfSeal(t *testing.T) {
	for _, table := range []crc.Table{crc.Make(), {}} {
		for _, b := range rows() {
			sealed := table.Seal(b)
			wantBytes(t, "Seal", sealed, slices.Concat(b, tail(table.Sum(b))))
			wantOpen(t, "of Seal", table, sealed, b)
		}
	}
}

func TestOpenOfTooFewBytes(t *testing.T) {
	for _, table := range []crc.Table{crc.Make(), {}} {
		for n := range 4 {
			wantShut(t, "noughts", table, make([]byte, n))
			wantShut(t, "ones", table, bytes.Repeat([]byte{255}, n))
			wantShut(t, "others", table, pattern(n, 14))
		}
		wantShut(t, "nil", table, nil)
	}
}

func TestOpenOfJustASum(t *testing.T) {
	for _, table := range []crc.Table{crc.Make(), {}} {
		wantOpen(t, "of no byte", table, []byte{0, 0, 0, 0}, nil)
		for bit := range 32 {
			wantShut(t, "one bit", table, tail(1<<bit))
		}
		wantShut(t, "ones", table, []byte{255, 255, 255, 255})
	}
}

func TestOpenOfOneByteAndASum(t *testing.T) {
	table := crc.Make()
	for x := range 256 {
		b := []byte{byte(x)}
		sealed := slices.Concat(b, tail(wholeSum(b)))
		wantOpen(t, "one byte", table, sealed, b)
		for bit := range 8 * len(sealed) {
			wantShut(t, "one bit turned", table, turned(sealed, bit, 1))
		}
	}
	wantShut(t, "noughts", table, make([]byte, 5))
}

func TestOpenOfAWrongSum(t *testing.T) {
	table := crc.Make()
	b := pattern(60, 15)
	sealed := table.Seal(b)
	for bit := range 8 * len(sealed) {
		wantShut(t, "one bit turned", table, turned(sealed, bit, 1))
	}
	for n := range len(sealed) {
		wantShut(t, "cut behind", table, sealed[:n])
		wantShut(t, "cut ahead", table, sealed[n+1:])
	}
	wantShut(t, "a byte more", table, append(bytes.Clone(sealed), 0))
	s := wholeSum(b)
	wantShut(t, "the highest first", table, append(bytes.Clone(b), byte(s>>24), byte(s>>16), byte(s>>8), byte(s)))
	wantShut(t, "bits not turned", table, slices.Concat(b, tail(^s)))
	wantShut(t, "a sum of its own sum", table, slices.Concat(b, tail(wholeSum(sealed))))
	wantShut(t, "sealed by noughts", table, crc.Table{}.Seal(b))
}

func TestZeroTableSealsAndOpens(t *testing.T) {
	var zero crc.Table
	for n, sum := range [][]byte{{0, 0, 0, 0}, {0, 0, 0, 255}, {0, 0, 255, 255}, {0, 255, 255, 255}, {255, 255, 255, 255}, {255, 255, 255, 255}} {
		b := pattern(n, 16)
		sealed := slices.Concat(b, sum)
		wantBytes(t, "Seal", zero.Seal(b), sealed)
		wantOpen(t, "a zero table", zero, sealed, b)
		for bit := 8 * n; bit < 8*len(sealed); bit++ {
			wantShut(t, "a bit of the sum turned", zero, turned(sealed, bit, 1))
		}
	}
	wantOpen(t, "other bytes, the same sum", zero, []byte{9, 8, 7, 6, 255, 255, 255, 255}, []byte{9, 8, 7, 6})
	wantShut(t, "sealed by a table that was made", zero, crc.Make().Seal([]byte("123456789")))
}

func TestSealChangesAndKeepsNothingThatWasHandedIn(t *testing.T) {
	whole := pattern(20, 17)
	before := bytes.Clone(whole)
	sealed := crc.Make().Seal(whole[:10])
	wantBytes(t, "what was handed in, its spare room too", whole, before)
	spoil(sealed)
	wantBytes(t, "what was handed in, when the answer is written over", whole, before)
	sealed = crc.Make().Seal(whole[:10])
	spoil(whole)
	wantOpen(t, "the answer, when what was handed in is written over", crc.Make(), sealed, before[:10])
}

func TestOpenChangesAndKeepsNothingThatWasHandedIn(t *testing.T) {
	table := crc.Make()
	b := pattern(10, 18)
	whole := append(table.Seal(b), 1, 2, 3)
	before := bytes.Clone(whole)
	opened, _ := table.Open(whole[:14])
	wantBytes(t, "what was handed in, its spare room too", whole, before)
	spoil(opened)
	wantBytes(t, "what was handed in, when the answer is written over", whole, before)
	opened, _ = table.Open(whole[:14])
	spoil(whole)
	wantBytes(t, "the answer, when what was handed in is written over", opened, b)
}

// An answer of no byte has spare room too: it must not be what was handed in.
func TestOpenOfNoByteSharesNoMemory(t *testing.T) {
	whole := []byte{0, 0, 0, 0}
	opened, ok := crc.Make().Open(whole)
	spoil(opened)
	if !ok || !bytes.Equal(whole, []byte{0, 0, 0, 0}) {
		t.Errorf("%v, and %v", ok, whole)
	}
}

func TestOpenOfAWrongSumChangesNothing(t *testing.T) {
	whole := pattern(20, 19)
	before := bytes.Clone(whole)
	wantShut(t, "a wrong sum", crc.Make(), whole[:12])
	wantBytes(t, "what was handed in", whole, before)
}

func TestAnswersShareNoMemory(t *testing.T) {
	table := crc.Make()
	b := []byte("123456789")
	one, two := table.Seal(b), table.Seal(b)
	spoil(one)
	wantOpen(t, "the second Seal", table, two, b)
	first, _ := table.Open(two)
	second, _ := table.Open(two)
	spoil(first)
	wantBytes(t, "the second Open", second, b)
}

// P2.3: sums that are unlike.

// turned is b with bits turned from place at on: those that the mask has. Bits follow one another from the lowest of the first byte on: told from the highest on, some pieces of 31 bits have one sum.
func turned(b []byte, at int, mask uint32) []byte {
	b = bytes.Clone(b)
	for i := range 32 {
		if mask>>i&1 == 1 {
			b[(at+i)/8] ^= 1 << ((at + i) % 8)
		}
	}
	return b
}

func wantUnlike(t *testing.T, table crc.Table, b []byte, at int, mask uint32) {
	t.Helper()
	other := turned(b, at, mask)
	if table.Sum(b) == table.Sum(other) {
		t.Errorf("Sum of %d bytes is alike with bits %b turned at %d", len(b), mask, at)
	}
	if crc.Slow(b) == crc.Slow(other) {
		t.Errorf("Slow of %d bytes is alike with bits %b turned at %d", len(b), mask, at)
	}
}

func TestSumsOfRowsUnlikeInOneBit(t *testing.T) {
	table := crc.Make()
	for _, b := range [][]byte{{0}, {255}, []byte("123456789"), make([]byte, 64), bytes.Repeat([]byte{255}, 64), pattern(300, 20)} {
		seen := map[uint32]int{table.Sum(b): -1}
		for bit := range 8 * len(b) {
			wantUnlike(t, table, b, bit, 1)
			s := table.Sum(turned(b, bit, 1))
			if other, ok := seen[s]; ok {
				t.Errorf("%d bytes: bits %d and %d turned have one sum", len(b), bit, other)
			}
			seen[s] = bit
		}
	}
}

// places are the beginning, the midst and the end of a row of so many bits, for a piece of so many bits.
func places(bits, width int) []int {
	most := bits - width
	all := []int{0, most}
	for i := 1; i < 9; i++ {
		all = append(all, i, most/2+i, most-i)
	}
	return slices.DeleteFunc(all, func(at int) bool { return at < 0 || at > most })
}

// masks are bits of a piece of just so many bits: the outermost ones are turned, those between in many ways.
func masks(width int) []uint32 {
	ends := uint32(1) | 1<<(width-1)
	between := uint32(1)<<(width-1) - 1
	all := []uint32{ends, ends | between}
	for i := range width {
		all = append(all, ends|1<<i, (ends|between)&^(1<<i)|ends)
	}
	x := uint32(width)
	for range 40 {
		x = x*1664525 + 1013904223
		all = append(all, ends|(x^x>>16)&between)
	}
	return all
}

func TestSumsOfRowsUnlikeInUpTo32BitsInARow(t *testing.T) {
	table := crc.Make()
	for _, b := range [][]byte{{1, 2, 3, 4}, []byte("123456789"), make([]byte, 40), bytes.Repeat([]byte{255}, 40), pattern(64, 21)} {
		for width := 2; width <= 32; width++ {
			for _, at := range places(8*len(b), width) {
				for _, mask := range masks(width) {
					wantUnlike(t, table, b, at, mask)
				}
			}
		}
	}
}

// Each way to be unlike in a short piece, wherever it begins within a byte.
func TestSumsOfRowsUnlikeInAShortPiece(t *testing.T) {
	table := crc.Make()
	b := pattern(6, 22)
	for at := range 8 {
		seen := map[uint32]uint32{}
		for mask := range uint32(1 << 12) {
			s := table.Sum(turned(b, at+17, mask))
			if other, ok := seen[s]; ok {
				t.Fatalf("at %d: bits %b and %b turned have one sum", at+17, mask, other)
			}
			seen[s] = mask
		}
	}
}

// A sealed row that is unlike in so few bits does not open.
func TestOpenOfUpTo32BitsTurned(t *testing.T) {
	table := crc.Make()
	sealed := table.Seal(pattern(60, 23))
	for width := 1; width <= 32; width++ {
		for _, at := range places(8*len(sealed), width) {
			for _, mask := range masks(width) {
				wantShut(t, "a piece turned", table, turned(sealed, at, mask))
			}
		}
	}
}
