package seq

import (
	"math/big"
	"testing"
)

// wantKind asks about a kind's least and greatest numbers, and what is a step past them: it wraps round.
func wantKind[N whole](t *testing.T, name string, least, most N) {
	t.Helper()
	for i := range 100 {
		n := N(i)
		for _, x := range []N{n, -n, most - n, most + n, least + n, least - n} {
			number := new(big.Int)
			if x < 0 {
				number.SetInt64(int64(x))
			} else {
				number.SetUint64(uint64(x))
			}
			want := number.Mod(number, big.NewInt(128)).Uint64()
			if got := fold(x); uint64(got) != want {
				t.Errorf("%s: fold(%d): %d, want %d", name, x, got, want)
			}
		}
	}
}

// count is a kind of a program's own.
type count int

func TestFoldOfEachKind(t *testing.T) {
	wantKind[int](t, "int", -1<<63, 1<<63-1)
	wantKind[int8](t, "int8", -1<<7, 1<<7-1)
	wantKind[int16](t, "int16", -1<<15, 1<<15-1)
	wantKind[int32](t, "int32", -1<<31, 1<<31-1)
	wantKind[int64](t, "int64", -1<<63, 1<<63-1)
	wantKind[uint](t, "uint", 0, 1<<64-1)
	wantKind[uint8](t, "uint8", 0, 1<<8-1)
	wantKind[uint16](t, "uint16", 0, 1<<16-1)
	wantKind[uint32](t, "uint32", 0, 1<<32-1)
	wantKind[uint64](t, "uint64", 0, 1<<64-1)
	wantKind[count](t, "count", -1<<63, 1<<63-1)
}
