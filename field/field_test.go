package field_test

import (
	"bytes"
	"math"
	"slices"
	"testing"

	"antiphon/api"
	"antiphon/field"
)

// pattern is a row of so many bytes that look like no rule; each seed has another one.
func pattern(n int, seed uint32) []byte {
	b := make([]byte, n)
	for i := range b {
		seed = seed*1664525 + 1013904223
		b[i] = byte(seed >> 24)
	}
	return b
}

// far are numbers that no field holds, some of which are small ones once bits are cut off.
func far() []int {
	return []int{math.MinInt, math.MinInt + 1, math.MinInt + 4, -1 << 32, -1<<32 + 1, -65536, -65535, -256, -255, -129, -128, -127, -2, -1, 65536, 65537, 65664, 1 << 24, 1 << 31, 1<<32 - 1, 1 << 32, 1<<32 + 1, 1 << 40, math.MaxInt - 1, math.MaxInt}
}

// around are numbers from below 0 to above a byte, and those that are far.
func around() []int {
	var list []int
	for n := -300; n <= 600; n++ {
		list = append(list, n)
	}
	return append(list, far()...)
}

func isIn(n, most int) bool { return n >= 0 && n <= most }

// one is a flag's bit.
func one(is bool) int {
	if is {
		return 1
	}
	return 0
}

// spoil writes over a list and its spare room.
func spoil(b []byte) {
	b = b[:cap(b)]
	for i := range b {
		b[i] ^= 0xEE
	}
}

// wantBytes takes nil and an empty list as one (R4).
func wantBytes(t *testing.T, what string, got, want []byte) {
	t.Helper()
	if !bytes.Equal(got, want) {
		t.Errorf("%s: %v, want %v", what, got, want)
	}
}

func wantNumber(t *testing.T, n int, want []byte) {
	t.Helper()
	if got := field.Number(n); !bytes.Equal(got, want) {
		t.Errorf("Number(%d): %v, want %v", n, got, want)
	}
}

func wantReadNumber(t *testing.T, b []byte, want int, wantOk bool) {
	t.Helper()
	if got, ok := field.ReadNumber(b); got != want || ok != wantOk {
		t.Errorf("ReadNumber(%v): %d, %v, want %d, %v", b, got, ok, want, wantOk)
	}
}

func wantPutReason(t *testing.T, r field.Reason, want []byte, wantError api.Errno) {
	t.Helper()
	if got, e := field.PutReason(r); e != wantError || !bytes.Equal(got, want) {
		t.Errorf("PutReason(%+v): %v, %v, want %v, %v", r, got, e, want, wantError)
	}
}

func wantGetReason(t *testing.T, b []byte, want field.Reason, wantError api.Errno) {
	t.Helper()
	if got, e := field.GetReason(b); e != wantError || got != want {
		t.Errorf("GetReason(%v): %+v, %v, want %+v, %v", b, got, e, want, wantError)
	}
}

func wantPutClass(t *testing.T, c field.Class, want []byte, wantError api.Errno) {
	t.Helper()
	if got, e := field.PutClass(c); e != wantError || !bytes.Equal(got, want) {
		t.Errorf("PutClass(%+v): %v, %v, want %v, %v", c, got, e, want, wantError)
	}
}

func wantGetClass(t *testing.T, b []byte, want field.Class, wantError api.Errno) {
	t.Helper()
	if got, e := field.GetClass(b); e != wantError || got != want {
		t.Errorf("GetClass(%v): %+v, %v, want %+v, %v", b, got, e, want, wantError)
	}
}

func wantPutStatus(t *testing.T, s int, b, want []byte, wantError api.Errno) {
	t.Helper()
	if got, e := field.PutStatus(s, b); e != wantError || !bytes.Equal(got, want) {
		t.Errorf("PutStatus(%d, %v): %v, %v, want %v, %v", s, b, got, e, want, wantError)
	}
}

func wantGetStatus(t *testing.T, b []byte, want int, wantBehind []byte, wantError api.Errno) {
	t.Helper()
	if got, behind, e := field.GetStatus(b); e != wantError || got != want || !bytes.Equal(behind, wantBehind) {
		t.Errorf("GetStatus(%v): %d, %v, %v, want %d, %v, %v", b, got, behind, e, want, wantBehind, wantError)
	}
}

func TestChapterExample(t *testing.T) {
	wantPutClass(t, field.Class{Format: 129, Types: 7, Window: 16}, []byte{129, 7, 32}, api.OK)
	wantGetClass(t, []byte{129, 7, 32}, field.Class{Format: 129, Types: 7, Window: 16}, api.OK)
}

// P7.1: Number, ReadNumber.

func TestNumber(t *testing.T) {
	wantNumber(t, 0, []byte{0, 0, 0, 0})
	wantNumber(t, 1, []byte{0, 0, 0, 1})
	wantNumber(t, 255, []byte{0, 0, 0, 255})
	wantNumber(t, 256, []byte{0, 0, 1, 0})
	wantNumber(t, 65535, []byte{0, 0, 255, 255})
	wantNumber(t, 0x01020304, []byte{1, 2, 3, 4})
	wantNumber(t, 1<<31-1, []byte{127, 255, 255, 255})
	wantNumber(t, 1<<31, []byte{128, 0, 0, 0})
	wantNumber(t, 0xFFFEFDFC, []byte{255, 254, 253, 252})
	wantNumber(t, 1<<32-1, []byte{255, 255, 255, 255})
}

func TestNumberOutOfBounds(t *testing.T) {
	for _, n := range []int{math.MinInt, math.MinInt + 1, -1 << 32, 1 - 1<<32, -1 << 31, -256, -2, -1, 1 << 32, 1<<32 + 1, 1<<33 - 1, 1 << 40, math.MaxInt - 1, math.MaxInt} {
		wantNumber(t, n, []byte{0, 0, 0, 0})
	}
}

func TestReadNumber(t *testing.T) {
	wantReadNumber(t, []byte{0, 0, 0, 0}, 0, true)
	wantReadNumber(t, []byte{0, 0, 0, 1}, 1, true)
	wantReadNumber(t, []byte{1, 2, 3, 4}, 0x01020304, true)
	wantReadNumber(t, []byte{128, 0, 0, 0}, 1<<31, true)
	wantReadNumber(t, []byte{255, 255, 255, 255}, 1<<32-1, true)
}

func TestReadNumberOfAnotherLength(t *testing.T) {
	wantReadNumber(t, nil, 0, false)
	for _, n := range []int{0, 1, 2, 3, 5, 6, 7, 8, 9, 16, 1024} {
		wantReadNumber(t, bytes.Repeat([]byte{7}, n), 0, false)
		wantReadNumber(t, make([]byte, n), 0, false)
	}
	wantReadNumber(t, make([]byte, 3, 4), 0, false)
}

func TestNumbersThereAndBack(t *testing.T) {
	for bit := range 32 {
		for _, n := range []int{1 << bit, 1<<bit - 1, 1<<32 - 1<<bit, 1<<32 - 1 - 1<<bit} {
			wantReadNumber(t, field.Number(n), n, true)
		}
	}
	for seed := range 10000 {
		b := pattern(4, uint32(seed))
		n, _ := field.ReadNumber(b)
		wantNumber(t, n, b)
	}
	for _, n := range []int{-1, 1 << 32} {
		wantReadNumber(t, field.Number(n), 0, true)
	}
}

// P7.2: PutReason, GetReason.

// flags sets a reason's six bits: Response is the lowest one of what is handed in.
func flags(r field.Reason, bits int) field.Reason {
	at := func(bit int) bool { return bits>>bit&1 == 1 }
	r.Response, r.W, r.X, r.Y, r.Z, r.V = at(0), at(1), at(2), at(3), at(4), at(5)
	return r
}

// reasonLine is r's bytes, laid out by the chapter's words.
func reasonLine(r field.Reason) []byte {
	return []byte{
		byte(r.Control / 256), byte(r.Control % 256),
		byte(2 * r.Vs),
		byte(2*r.Vr + one(r.Response)),
		byte(1*one(r.W) + 2*one(r.X) + 4*one(r.Y) + 8*one(r.Z) + 16*one(r.V)),
	}
}

// reasons are many that are taken, each of them once.
func reasons(yield func(field.Reason) bool) {
	for _, control := range []int{0, 1, 127, 128, 255, 256, 0x0203, 32767, 32768, 65279, 65534, 65535} {
		for _, vs := range []int{0, 1, 2, 63, 64, 126, 127} {
			for _, vr := range []int{0, 1, 31, 64, 85, 126, 127} {
				for bits := range 64 {
					if !yield(flags(field.Reason{Control: control, Vs: vs, Vr: vr}, bits)) {
						return
					}
				}
			}
		}
	}
}

func TestReasonByHand(t *testing.T) {
	r := field.Reason{Control: 0x0203, Vs: 5, Vr: 6, Response: true, W: true, Z: true}
	wantPutReason(t, r, []byte{2, 3, 10, 13, 9}, api.OK)
	wantGetReason(t, []byte{2, 3, 10, 13, 9}, r, api.OK)
	wantPutReason(t, field.Reason{}, []byte{0, 0, 0, 0, 0}, api.OK)
	wantGetReason(t, []byte{0, 0, 0, 0, 0}, field.Reason{}, api.OK)
	all := field.Reason{Control: 65535, Vs: 127, Vr: 127, Response: true, W: true, X: true, Y: true, Z: true, V: true}
	wantPutReason(t, all, []byte{255, 255, 254, 255, 31}, api.OK)
	wantGetReason(t, []byte{255, 255, 254, 255, 31}, all, api.OK)
}

func TestEachBitOfAReasonAlone(t *testing.T) {
	for _, c := range []struct {
		r    field.Reason
		want []byte
	}{
		{field.Reason{Response: true}, []byte{0, 0, 0, 1, 0}},
		{field.Reason{W: true}, []byte{0, 0, 0, 0, 1}},
		{field.Reason{X: true}, []byte{0, 0, 0, 0, 2}},
		{field.Reason{Y: true}, []byte{0, 0, 0, 0, 4}},
		{field.Reason{Z: true}, []byte{0, 0, 0, 0, 8}},
		{field.Reason{V: true}, []byte{0, 0, 0, 0, 16}},
	} {
		wantPutReason(t, c.r, c.want, api.OK)
		wantGetReason(t, c.want, c.r, api.OK)
	}
}

func TestReasonsThereAndBack(t *testing.T) {
	for r := range reasons {
		want := reasonLine(r)
		wantPutReason(t, r, want, api.OK)
		wantGetReason(t, want, r, api.OK)
	}
}

func TestReasonsOfEachNumber(t *testing.T) {
	for control := range 65536 {
		r := field.Reason{Control: control}
		wantPutReason(t, r, reasonLine(r), api.OK)
		wantGetReason(t, reasonLine(r), r, api.OK)
	}
	for n := range 128 {
		for _, r := range []field.Reason{{Vs: n}, {Vr: n}, {Vs: n, Vr: 127 - n, Response: true, X: true}} {
			wantPutReason(t, r, reasonLine(r), api.OK)
			wantGetReason(t, reasonLine(r), r, api.OK)
		}
	}
}

// wantReasonAsFits holds PutReason against the chapter's bounds.
func wantReasonAsFits(t *testing.T, r field.Reason) {
	t.Helper()
	if isIn(r.Control, 65535) && isIn(r.Vs, 127) && isIn(r.Vr, 127) {
		wantPutReason(t, r, reasonLine(r), api.OK)
		return
	}
	wantPutReason(t, r, nil, api.ErrArg)
}

func TestPutReasonAtItsBounds(t *testing.T) {
	for _, bits := range []int{0, 63} {
		for _, n := range append(around(), 65534, 65535, 65536, 65537) {
			for _, r := range []field.Reason{{Control: n}, {Vs: n}, {Vr: n}, {Control: n, Vs: 127, Vr: 127}, {Control: 65535, Vs: n}, {Vs: 127, Vr: n}} {
				wantReasonAsFits(t, flags(r, bits))
			}
		}
	}
}

func TestPutReasonRefusesByHand(t *testing.T) {
	for _, r := range []field.Reason{
		{Control: -1}, {Control: 65536}, {Vs: -1}, {Vs: 128}, {Vr: -1}, {Vr: 128},
		{Control: -1, Vs: 128, Vr: -1, V: true}, {Control: 65536, Vs: -1}, {Vs: 128, Vr: 128},
	} {
		wantPutReason(t, r, nil, api.ErrArg)
	}
	for _, r := range []field.Reason{{Control: 65535}, {Vs: 127}, {Vr: 127}, {}} {
		wantPutReason(t, r, reasonLine(r), api.OK)
	}
}

func TestGetReasonOfEachLength(t *testing.T) {
	wantGetReason(t, nil, field.Reason{}, api.ErrShort)
	for n := range 9 {
		for _, x := range []byte{0, 2, 255} { // of 255 other bits are set, too: the length is told first (R6)
			b := bytes.Repeat([]byte{x}, n)
			switch {
			case n < 5:
				wantGetReason(t, b, field.Reason{}, api.ErrShort)
			case n > 5:
				wantGetReason(t, b, field.Reason{}, api.ErrLong)
			case x == 255:
				wantGetReason(t, b, field.Reason{}, api.ErrForm)
			case x == 2:
				wantGetReason(t, b, field.Reason{Control: 514, Vs: 1, Vr: 1, X: true}, api.OK)
			default:
				wantGetReason(t, b, field.Reason{}, api.OK)
			}
		}
	}
	wantGetReason(t, bytes.Repeat([]byte{1}, 100000), field.Reason{}, api.ErrLong)
	wantGetReason(t, make([]byte, 4, 5), field.Reason{}, api.ErrShort)
}

func TestGetReasonOfEachThirdByte(t *testing.T) {
	for x := range 256 {
		for _, around := range []byte{0, 0x15} {
			b := []byte{around, around, byte(x), around, around}
			if x%2 == 1 {
				wantGetReason(t, b, field.Reason{}, api.ErrForm)
				continue
			}
			want := field.Reason{Vs: x / 2}
			if around == 0x15 {
				want = field.Reason{Control: 0x1515, Vs: x / 2, Vr: 10, Response: true, W: true, Y: true, V: true}
			}
			wantGetReason(t, b, want, api.OK)
		}
	}
}

func TestGetReasonOfEachFourthByte(t *testing.T) {
	for bit := range 8 {
		want := field.Reason{Vr: 1 << bit >> 1, Response: bit == 0}
		wantGetReason(t, []byte{0, 0, 0, 1 << bit, 0}, want, api.OK)
	}
	for x := range 256 {
		want := field.Reason{Control: 1, Vs: 127, Vr: x / 2, Response: x%2 == 1, Z: true}
		wantGetReason(t, []byte{0, 1, 254, byte(x), 8}, want, api.OK)
	}
}

func TestGetReasonOfEachLastByte(t *testing.T) {
	for x := range 256 {
		b := []byte{9, 8, 6, 5, byte(x)}
		if x > 31 {
			wantGetReason(t, b, field.Reason{}, api.ErrForm)
			continue
		}
		at := func(bit int) bool { return x&bit != 0 }
		want := field.Reason{Control: 0x0908, Vs: 3, Vr: 2, Response: true, W: at(1), X: at(2), Y: at(4), Z: at(8), V: at(16)}
		wantGetReason(t, b, want, api.OK)
	}
	for _, x := range []byte{32, 64, 128, 224, 255} {
		wantGetReason(t, []byte{0, 0, 0, 0, x}, field.Reason{}, api.ErrForm)
		wantGetReason(t, []byte{0, 0, 1, 0, x}, field.Reason{}, api.ErrForm)
	}
}

// What is taken is told again byte for byte; all else is refused.
func TestReasonsOfAnyBytes(t *testing.T) {
	taken := 0
	for third := range 256 {
		for last := range 256 {
			b := []byte{byte(last), byte(third), byte(third), byte(third ^ last), byte(last)}
			r, e := field.GetReason(b)
			if third%2 == 1 || last > 31 {
				wantGetReason(t, b, field.Reason{}, api.ErrForm)
				continue
			}
			if e != api.OK {
				t.Errorf("GetReason(%v): %v", b, e)
			}
			wantPutReason(t, r, b, api.OK)
			taken++
		}
	}
	if taken != 128*32 {
		t.Errorf("%d of them were taken", taken)
	}
}

// P7.3: PutClass, GetClass.

func classLine(c field.Class) []byte {
	return []byte{byte(c.Format), byte(c.Types), byte(2 * c.Window)}
}

func TestClassByHand(t *testing.T) {
	for _, c := range []struct {
		c    field.Class
		want []byte
	}{
		{field.Class{}, []byte{0, 0, 0}},
		{field.Class{Format: 129}, []byte{129, 0, 0}},
		{field.Class{Types: 1}, []byte{0, 1, 0}},
		{field.Class{Types: 2}, []byte{0, 2, 0}},
		{field.Class{Types: 4}, []byte{0, 4, 0}},
		{field.Class{Window: 1}, []byte{0, 0, 2}},
		{field.Class{Format: 255, Types: 31, Window: 127}, []byte{255, 31, 254}},
	} {
		wantPutClass(t, c.c, c.want, api.OK)
		wantGetClass(t, c.want, c.c, api.OK)
	}
}

func TestClassesThereAndBack(t *testing.T) {
	for format := range 256 {
		for types := range 32 {
			for _, window := range []int{0, 1, 2, 16, 63, 64, 100, 126, 127} {
				c := field.Class{Format: format, Types: types, Window: window}
				wantPutClass(t, c, classLine(c), api.OK)
				wantGetClass(t, classLine(c), c, api.OK)
			}
		}
	}
}

func TestPutClassAtItsBounds(t *testing.T) {
	for _, n := range around() {
		for _, c := range []field.Class{{Format: n}, {Types: n}, {Window: n}, {Format: n, Types: 31, Window: 127}, {Format: 129, Types: n}, {Format: 129, Types: 7, Window: n}} {
			if isIn(c.Format, 255) && isIn(c.Types, 31) && isIn(c.Window, 127) {
				wantPutClass(t, c, classLine(c), api.OK)
			} else {
				wantPutClass(t, c, nil, api.ErrArg)
			}
		}
	}
}

func TestPutClassRefusesByHand(t *testing.T) {
	for _, c := range []field.Class{
		{Format: -1}, {Format: 256}, {Types: -1}, {Types: 32}, {Window: -1}, {Window: 128},
		{Format: 256, Types: -1, Window: 128}, {Types: 32, Window: 128}, {Format: 129, Types: 7, Window: 128},
	} {
		wantPutClass(t, c, nil, api.ErrArg)
	}
	for _, c := range []field.Class{{Format: 255}, {Types: 31}, {Window: 127}, {Format: 129, Types: 7, Window: 16}, {}} {
		wantPutClass(t, c, classLine(c), api.OK)
	}
}

func TestGetClassOfEachLength(t *testing.T) {
	wantGetClass(t, nil, field.Class{}, api.ErrShort)
	for n := range 7 {
		for _, x := range []byte{0, 2, 255} { // of 255 other bits are set, too: the length is told first (R6)
			b := bytes.Repeat([]byte{x}, n)
			switch {
			case n < 3:
				wantGetClass(t, b, field.Class{}, api.ErrShort)
			case n > 3:
				wantGetClass(t, b, field.Class{}, api.ErrLong)
			case x == 255:
				wantGetClass(t, b, field.Class{}, api.ErrForm)
			case x == 2:
				wantGetClass(t, b, field.Class{Format: 2, Types: 2, Window: 1}, api.OK)
			default:
				wantGetClass(t, b, field.Class{}, api.OK)
			}
		}
	}
	wantGetClass(t, bytes.Repeat([]byte{1}, 100000), field.Class{}, api.ErrLong)
	wantGetClass(t, make([]byte, 2, 3), field.Class{}, api.ErrShort)
}

func TestGetClassOfEachSecondAndThirdByte(t *testing.T) {
	for types := range 256 {
		for third := range 256 {
			b := []byte{byte(types ^ third), byte(types), byte(third)}
			if types > 31 || third%2 == 1 {
				wantGetClass(t, b, field.Class{}, api.ErrForm)
				continue
			}
			c := field.Class{Format: types ^ third, Types: types, Window: third / 2}
			wantGetClass(t, b, c, api.OK)
			wantPutClass(t, c, b, api.OK)
		}
	}
}

func TestGetClassByHand(t *testing.T) {
	for _, b := range [][]byte{{129, 32, 0}, {129, 64, 0}, {129, 128, 0}, {129, 255, 0}, {129, 7, 1}, {129, 7, 33}, {129, 7, 255}, {0, 33, 1}} {
		wantGetClass(t, b, field.Class{}, api.ErrForm)
	}
	for format := range 256 {
		wantGetClass(t, []byte{byte(format), 31, 254}, field.Class{Format: format, Types: 31, Window: 127}, api.OK)
	}
}

// P7.4: PutStatus, GetStatus.

func behinds() [][]byte {
	return [][]byte{nil, {}, {0}, {255}, {1, 2, 3}, make([]byte, 7), pattern(255, 1), pattern(256, 2), pattern(api.MaxSdu, 3), pattern(api.MaxSdu+16, 4), pattern(100000, 5)}
}

func TestStatusByHand(t *testing.T) {
	wantPutStatus(t, 0, nil, []byte{0}, api.OK)
	wantPutStatus(t, 255, nil, []byte{255}, api.OK)
	wantPutStatus(t, 3, []byte{7, 8}, []byte{3, 7, 8}, api.OK)
	wantGetStatus(t, []byte{0}, 0, nil, api.OK)
	wantGetStatus(t, []byte{255}, 255, nil, api.OK)
	wantGetStatus(t, []byte{3, 7, 8}, 3, []byte{7, 8}, api.OK)
	wantGetStatus(t, []byte{0, 0}, 0, []byte{0}, api.OK)
}

func TestStatusesThereAndBack(t *testing.T) {
	for s := range 256 {
		for _, b := range behinds() {
			whole := append([]byte{byte(s)}, b...)
			wantPutStatus(t, s, b, whole, api.OK)
			wantGetStatus(t, whole, s, b, api.OK)
		}
	}
}

func TestPutStatusOutOfBounds(t *testing.T) {
	for _, b := range behinds() {
		for _, s := range append(far(), 256, 257, 511, 512) {
			wantPutStatus(t, s, b, nil, api.ErrArg)
		}
	}
}

func TestGetStatusOfNoByte(t *testing.T) {
	for _, b := range [][]byte{nil, {}, make([]byte, 0, 9)} {
		wantGetStatus(t, b, 0, nil, api.ErrShort)
	}
}

// R4: what is handed in and what is told is the caller's own.

// wantOwn asks for an answer, and holds that it shares nothing: not with what was handed in, nor with another answer.
func wantOwn(t *testing.T, what string, handed []byte, ask func(b []byte) []byte) {
	t.Helper()
	whole := append(slices.Clip(bytes.Clone(handed)), pattern(9, 9)...)
	before := bytes.Clone(whole)
	in := whole[:len(handed)]
	first := ask(in)
	want := bytes.Clone(first)
	wantBytes(t, what+": what was handed in, its spare room too", whole, before)
	second := ask(in)
	spoil(second)
	wantBytes(t, what+": what was handed in, when an answer is written over", whole, before)
	wantBytes(t, what+": an answer, when another one is written over", first, want)
	spoil(whole)
	wantBytes(t, what+": an answer, when what was handed in is written over", first, want)
	wantBytes(t, what+": the same answer again", ask(handed), want)
}

func TestListsAreTheCallersOwn(t *testing.T) {
	r := field.Reason{Control: 7, Vs: 3, Response: true, X: true}
	for _, b := range [][]byte{nil, {5}, {1, 2, 3}, {1, 2, 4}, {1, 2, 3, 4}, {1, 2, 4, 5, 6}, {1, 2, 3, 5, 6}, pattern(1040, 3)} {
		wantOwn(t, "Number", b, func([]byte) []byte { return field.Number(0x01020304) })
		wantOwn(t, "Number that is refused", b, func([]byte) []byte { return field.Number(-1) })
		wantOwn(t, "ReadNumber", b, func(b []byte) []byte { n, ok := field.ReadNumber(b); return append(field.Number(n), byte(one(ok))) })
		wantOwn(t, "PutReason", b, func([]byte) []byte { got, _ := field.PutReason(r); return got })
		wantOwn(t, "GetReason", b, func(b []byte) []byte { got, e := field.GetReason(b); return append(reasonLine(got), byte(e)) })
		wantOwn(t, "PutClass", b, func([]byte) []byte { got, _ := field.PutClass(field.Class{Window: 9}); return got })
		wantOwn(t, "GetClass", b, func(b []byte) []byte { got, e := field.GetClass(b); return append(classLine(got), byte(e)) })
		wantOwn(t, "PutStatus", b, func(b []byte) []byte { got, _ := field.PutStatus(9, b); return got })
		wantOwn(t, "PutStatus that is refused", b, func(b []byte) []byte { got, _ := field.PutStatus(256, b); return got })
		wantOwn(t, "GetStatus", b, func(b []byte) []byte { _, behind, _ := field.GetStatus(b); return behind })
	}
}

// R5: nothing is kept from call to call.

func TestNothingIsKeptFromCallToCall(t *testing.T) {
	r := field.Reason{Control: 0x0203, Vs: 5, Vr: 6, Response: true, W: true, Z: true}
	c := field.Class{Format: 129, Types: 7, Window: 16}
	for range 3 {
		wantNumber(t, 5, []byte{0, 0, 0, 5})
		wantNumber(t, -1, []byte{0, 0, 0, 0})
		wantReadNumber(t, []byte{0, 0, 0, 5}, 5, true)
		wantReadNumber(t, []byte{0, 0, 5}, 0, false)
		wantPutReason(t, r, []byte{2, 3, 10, 13, 9}, api.OK)
		wantPutReason(t, field.Reason{Vs: 128}, nil, api.ErrArg)
		wantGetReason(t, []byte{255, 255, 254, 255, 255}, field.Reason{}, api.ErrForm)
		wantGetReason(t, []byte{2, 3, 10, 13, 9}, r, api.OK)
		wantPutClass(t, field.Class{Types: 32}, nil, api.ErrArg)
		wantPutClass(t, c, []byte{129, 7, 32}, api.OK)
		wantGetClass(t, []byte{129, 7, 33}, field.Class{}, api.ErrForm)
		wantGetClass(t, []byte{129, 7, 32}, c, api.OK)
		wantPutStatus(t, -1, []byte{1}, nil, api.ErrArg)
		wantPutStatus(t, 4, []byte{1}, []byte{4, 1}, api.OK)
		wantGetStatus(t, nil, 0, nil, api.ErrShort)
		wantGetStatus(t, []byte{4, 1}, 4, []byte{1}, api.OK)
	}
}
