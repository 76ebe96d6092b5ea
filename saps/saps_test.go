package saps_test

import (
	"fmt"
	"math"
	"slices"
	"strings"
	"testing"

	"antiphon/api"
	"antiphon/saps"
)

// maxSaps is written out: were api.MaxSaps another one, the tests would tell.
const maxSaps = 16

// seat is one SAP's place in one group.
type seat struct {
	sap, group int
}

// far are numbers that lie beyond all SAPs and groups; in 8 or 16 bits some of them would be a SAP or a group.
var far = []int{math.MinInt, math.MinInt + 1, math.MinInt32, -1<<32 + 4, -65536 + 4, -256 + 4, -256 + 5, -255, -254, -253, -5, -4, -3, -2, -1,
	256, 257, 258, 259, 260, 261, 510, 511, 512 + 4, 512 + 5, 65536 + 4, 65536 + 5, 1<<32 + 4, 1<<32 + 5, math.MaxInt32, math.MaxInt - 1, math.MaxInt}

// badClasses are none.
var badClasses = []int{math.MinInt, -1<<32 + 1, -255, -4, -2, -1, 0, 5, 6, 7, 8, 255, 256, 257, 1<<32 + 1, math.MaxInt}

func wantErr(t *testing.T, what string, got, want api.Errno) {
	t.Helper()
	if got != want {
		t.Errorf("%s: %v, want %v", what, got, want)
	}
}

func wantBool(t *testing.T, what string, got, want bool) {
	t.Helper()
	if got != want {
		t.Errorf("%s: %v, want %v", what, got, want)
	}
}

func wantCount(t *testing.T, what string, got, want int) {
	t.Helper()
	if got != want {
		t.Errorf("%s: %d, want %d", what, got, want)
	}
}

func wantList(t *testing.T, what string, got []int, want ...int) {
	t.Helper()
	if !slices.Equal(got, want) {
		t.Errorf("%s: %v, want %v", what, got, want)
	}
}

// open opens SAPs that must all be taken, each of class 1.
func open(t *testing.T, s *saps.Saps, list ...int) {
	t.Helper()
	for _, sap := range list {
		wantErr(t, fmt.Sprintf("Open(%d, 1)", sap), s.Open(sap, 1), api.OK)
	}
}

// join takes SAPs into groups, and all must be taken.
func join(t *testing.T, s *saps.Saps, seats ...seat) {
	t.Helper()
	for _, one := range seats {
		wantErr(t, fmt.Sprintf("Join(%d, %d)", one.sap, one.group), s.Join(one.sap, one.group), api.OK)
	}
}

// made has so many active SAPs, of class 1 and in no group.
func made(t *testing.T, list ...int) *saps.Saps {
	t.Helper()
	s := saps.New()
	open(t, s, list...)
	return s
}

// evens are so many SAPs: 2, 4 and so on.
func evens(n int) (list []int) {
	for i := range n {
		list = append(list, 2*i+2)
	}
	return list
}

// state is all that can be asked of a Saps.
func state(s *saps.Saps) string {
	var told strings.Builder
	fmt.Fprint(&told, s.List())
	for n := -3; n < 300; n++ {
		fmt.Fprint(&told, " ", n, s.Class(n), s.Hears(n))
	}
	for _, n := range far {
		fmt.Fprint(&told, " ", n, s.Class(n), s.Hears(n))
	}
	return told.String()
}

// wantRefused: the call answers this error, and changes nothing.
func wantRefused(t *testing.T, what string, s *saps.Saps, call func() api.Errno, want api.Errno) {
	t.Helper()
	was := state(s)
	wantErr(t, what, call(), want)
	if now := state(s); now != was {
		t.Errorf("%s changed something:\n%s\nwas:\n%s", what, now, was)
	}
}

// The chapter's example.

func TestExample(t *testing.T) {
	s := saps.New()
	wantErr(t, "Open(4, 2)", s.Open(4, 2), api.OK)
	wantErr(t, "Open(8, 1)", s.Open(8, 1), api.OK)
	wantErr(t, "Join(8, 5)", s.Join(8, 5), api.OK)
	wantList(t, "Hears(5)", s.Hears(5), 8)
	wantList(t, "Hears(255)", s.Hears(255), 4, 8)
	wantList(t, "Hears(6)", s.Hears(6))
}

// P11.1: New.

func TestNewHasNone(t *testing.T) {
	s := saps.New()
	wantList(t, "List", s.List())
	for n := -3; n < 300; n++ {
		wantList(t, fmt.Sprintf("Hears(%d)", n), s.Hears(n))
		wantCount(t, fmt.Sprintf("Class(%d)", n), s.Class(n), 0)
		wantRefused(t, fmt.Sprintf("Close(%d)", n), s, func() api.Errno { return s.Close(n) }, api.ErrNone)
	}
}

// P11.1: Open.

func TestOpenOfEachNumber(t *testing.T) {
	for n := -300; n < 600; n++ {
		s := saps.New()
		what := fmt.Sprintf("Open(%d, 3)", n)
		if n >= 2 && n <= 254 && n%2 == 0 {
			wantErr(t, what, s.Open(n, 3), api.OK)
			wantList(t, what+": List", s.List(), n)
			wantCount(t, what+": Class", s.Class(n), 3)
		} else {
			wantRefused(t, what, s, func() api.Errno { return s.Open(n, 3) }, api.ErrArg)
		}
	}
}

func TestOpenAtTheEdges(t *testing.T) {
	s := saps.New()
	for _, n := range []int{0, 1, 3, 5, 253, 255, 256, 257, 258, -1, -2, -4} {
		wantRefused(t, fmt.Sprintf("Open(%d, 1)", n), s, func() api.Errno { return s.Open(n, 1) }, api.ErrArg)
	}
	for _, n := range far {
		wantRefused(t, fmt.Sprintf("Open(%d, 1)", n), s, func() api.Errno { return s.Open(n, 1) }, api.ErrArg)
	}
	open(t, s, 254, 2)
	wantList(t, "List", s.List(), 2, 254)
}

func TestOpenOfEachClass(t *testing.T) {
	s := saps.New()
	for class := 1; class <= 4; class++ {
		wantErr(t, fmt.Sprintf("Open of class %d", class), s.Open(10*class, class), api.OK)
	}
	for class := 1; class <= 4; class++ {
		wantCount(t, fmt.Sprintf("Class(%d)", 10*class), s.Class(10*class), class)
	}
	for _, class := range badClasses {
		wantRefused(t, fmt.Sprintf("Open(6, %d)", class), s, func() api.Errno { return s.Open(6, class) }, api.ErrArg)
		wantRefused(t, fmt.Sprintf("Open(20, %d)", class), s, func() api.Errno { return s.Open(20, class) }, api.ErrArg)
		wantRefused(t, fmt.Sprintf("Open(0, %d)", class), s, func() api.Errno { return s.Open(0, class) }, api.ErrArg)
	}
}

// The class that it has stays, whichever is asked for.
func TestOpenOfOneThatIsActive(t *testing.T) {
	s := saps.New()
	wantErr(t, "Open(4, 2)", s.Open(4, 2), api.OK)
	join(t, s, seat{4, 7})
	for class := 1; class <= 4; class++ {
		wantRefused(t, fmt.Sprintf("Open(4, %d)", class), s, func() api.Errno { return s.Open(4, class) }, api.ErrThere)
	}
	wantCount(t, "Class(4)", s.Class(4), 2)
	wantList(t, "Hears(7)", s.Hears(7), 4)
}

func TestOpenOfOneMoreThanMost(t *testing.T) {
	if api.MaxSaps != maxSaps {
		t.Errorf("MaxSaps: %d, want %d", api.MaxSaps, maxSaps)
	}
	s := made(t, evens(maxSaps)...)
	wantList(t, "List", s.List(), evens(maxSaps)...)
	for _, sap := range []int{34, 128, 254} {
		for class := 1; class <= 4; class++ {
			wantRefused(t, fmt.Sprintf("Open(%d, %d)", sap, class), s, func() api.Errno { return s.Open(sap, class) }, api.ErrFull)
		}
	}
	wantErr(t, "Close(8)", s.Close(8), api.OK)
	open(t, s, 254)
	wantRefused(t, "one more again", s, func() api.Errno { return s.Open(8, 1) }, api.ErrFull)
	wantErr(t, "Close(254)", s.Close(254), api.OK)
	open(t, s, 8)
	wantList(t, "List", s.List(), evens(maxSaps)...)
	wantRefused(t, "one more at last", s, func() api.Errno { return s.Open(254, 1) }, api.ErrFull)
}

// One that is refused takes no room.
func TestRefusedOnesTakeNoRoom(t *testing.T) {
	s := made(t, 2)
	for range 3 * maxSaps {
		s.Open(3, 1)
		s.Open(4, 0)
		s.Open(2, 1)
	}
	open(t, s, evens(maxSaps)[1:]...)
	wantErr(t, "one more", s.Open(200, 1), api.ErrFull)
}

// Closed and opened again and again, room is left each time.
func TestRoomIsGivenBack(t *testing.T) {
	s := saps.New()
	for n := range 500 {
		sap := 2 * (n%127 + 1)
		wantErr(t, fmt.Sprintf("Open(%d)", sap), s.Open(sap, n%4+1), api.OK)
		wantCount(t, fmt.Sprintf("Class(%d)", sap), s.Class(sap), n%4+1)
		join(t, s, seat{sap, 1}, seat{sap, 253})
		if n >= maxSaps-1 {
			old := 2 * ((n-maxSaps+1)%127 + 1)
			wantErr(t, fmt.Sprintf("Close(%d)", old), s.Close(old), api.OK)
		}
	}
	wantCount(t, "active", len(s.List()), maxSaps-1)
}

// Of several errors it is the first that is told.
func TestOpenWhereSeveralErrorsFit(t *testing.T) {
	s := made(t, evens(maxSaps)...)
	for _, c := range []struct {
		sap, class int
		want       api.Errno
	}{
		{4, 0, api.ErrArg},   // no class, active, full
		{4, 5, api.ErrArg},   // likewise
		{5, 1, api.ErrArg},   // no SAP, full
		{5, 0, api.ErrArg},   // no SAP, no class, full
		{40, 5, api.ErrArg},  // no class, full
		{4, 1, api.ErrThere}, // active, full
		{40, 1, api.ErrFull},
	} {
		wantRefused(t, fmt.Sprintf("Open(%d, %d)", c.sap, c.class), s, func() api.Errno { return s.Open(c.sap, c.class) }, c.want)
	}
}

// P11.1: Close.

func TestClose(t *testing.T) {
	list := []int{2, 100, 254}
	for at, sap := range list {
		s := made(t, list...)
		wantErr(t, fmt.Sprintf("Close(%d)", sap), s.Close(sap), api.OK)
		wantList(t, "List", s.List(), slices.Delete(slices.Clone(list), at, at+1)...)
		wantCount(t, fmt.Sprintf("Class(%d)", sap), s.Class(sap), 0)
		wantList(t, fmt.Sprintf("Hears(%d)", sap), s.Hears(sap))
		wantRefused(t, fmt.Sprintf("Close(%d) once more", sap), s, func() api.Errno { return s.Close(sap) }, api.ErrNone)
	}
}

func TestCloseOfOneThatIsNotActive(t *testing.T) {
	s := made(t, 4, 8)
	join(t, s, seat{4, 5}, seat{8, 7})
	for _, n := range append(far, 0, 1, 2, 5, 6, 7, 9, 253, 254, 255) {
		wantRefused(t, fmt.Sprintf("Close(%d)", n), s, func() api.Errno { return s.Close(n) }, api.ErrNone)
	}
}

// Who is closed is in no group any more, and the others stay where they are.
func TestCloseLeavesEachGroup(t *testing.T) {
	s := made(t, 4, 8, 6)
	for group := 1; group <= 253; group += 2 {
		join(t, s, seat{8, group}, seat{4, group})
	}
	join(t, s, seat{6, 9})
	wantErr(t, "Close(8)", s.Close(8), api.OK)
	for group := 1; group <= 253; group += 2 {
		want := []int{4}
		if group == 9 {
			want = []int{4, 6}
		}
		wantList(t, fmt.Sprintf("Hears(%d)", group), s.Hears(group), want...)
		wantErr(t, fmt.Sprintf("Join(8, %d)", group), s.Join(8, group), api.ErrNone)
		wantErr(t, fmt.Sprintf("Leave(8, %d)", group), s.Leave(8, group), api.ErrNone)
	}
	wantList(t, "Hears(255)", s.Hears(255), 4, 6)
}

func TestOpenAgainIsInNoGroup(t *testing.T) {
	s := saps.New()
	wantErr(t, "Open(8, 2)", s.Open(8, 2), api.OK)
	join(t, s, seat{8, 1}, seat{8, 5}, seat{8, 253})
	wantErr(t, "Close(8)", s.Close(8), api.OK)
	wantErr(t, "Open(8, 4)", s.Open(8, 4), api.OK)
	wantCount(t, "Class(8)", s.Class(8), 4)
	for group := 1; group <= 253; group += 2 {
		wantList(t, fmt.Sprintf("Hears(%d)", group), s.Hears(group))
		wantRefused(t, fmt.Sprintf("Leave(8, %d)", group), s, func() api.Errno { return s.Leave(8, group) }, api.ErrNone)
	}
	join(t, s, seat{8, 5})
	wantList(t, "Hears(5)", s.Hears(5), 8)
}

// P11.1: Join and Leave.

func TestJoinAndLeaveOfEachNumber(t *testing.T) {
	for n := -300; n < 600; n++ {
		s := made(t, 4)
		joins, leaves := fmt.Sprintf("Join(4, %d)", n), fmt.Sprintf("Leave(4, %d)", n)
		if n >= 1 && n <= 253 && n%2 == 1 {
			wantErr(t, joins, s.Join(4, n), api.OK)
			wantList(t, fmt.Sprintf("Hears(%d)", n), s.Hears(n), 4)
			wantErr(t, leaves, s.Leave(4, n), api.OK)
			wantList(t, fmt.Sprintf("Hears(%d) behind it", n), s.Hears(n))
		} else {
			wantRefused(t, joins, s, func() api.Errno { return s.Join(4, n) }, api.ErrArg)
			wantRefused(t, leaves, s, func() api.Errno { return s.Leave(4, n) }, api.ErrArg)
		}
	}
}

func TestJoinAndLeaveAtTheEdges(t *testing.T) {
	s := made(t, 4)
	join(t, s, seat{4, 7})
	for _, n := range append(far, 0, 2, 4, 252, 254, 255, 256, -1, -7) {
		for _, sap := range []int{4, 6, 0, 5, -1} { // ErrArg ahead of ErrNone
			wantRefused(t, fmt.Sprintf("Join(%d, %d)", sap, n), s, func() api.Errno { return s.Join(sap, n) }, api.ErrArg)
			wantRefused(t, fmt.Sprintf("Leave(%d, %d)", sap, n), s, func() api.Errno { return s.Leave(sap, n) }, api.ErrArg)
		}
	}
	join(t, s, seat{4, 1}, seat{4, 253})
	wantErr(t, "Leave(4, 253)", s.Leave(4, 253), api.OK)
	wantErr(t, "Leave(4, 1)", s.Leave(4, 1), api.OK)
}

func TestJoinAndLeaveOfOneThatIsNotActive(t *testing.T) {
	s := made(t, 4)
	join(t, s, seat{4, 7})
	for _, n := range append(far, 0, 1, 2, 3, 5, 6, 7, 254, 255) {
		for _, group := range []int{1, 7, 253} {
			wantRefused(t, fmt.Sprintf("Join(%d, %d)", n, group), s, func() api.Errno { return s.Join(n, group) }, api.ErrNone)
			wantRefused(t, fmt.Sprintf("Leave(%d, %d)", n, group), s, func() api.Errno { return s.Leave(n, group) }, api.ErrNone)
		}
	}
}

func TestJoinOfOneThatIsIn(t *testing.T) {
	s := made(t, 4, 8)
	join(t, s, seat{4, 7})
	wantRefused(t, "Join(4, 7) once more", s, func() api.Errno { return s.Join(4, 7) }, api.ErrThere)
	join(t, s, seat{8, 7}, seat{4, 9})
	wantRefused(t, "Join(8, 7) once more", s, func() api.Errno { return s.Join(8, 7) }, api.ErrThere)
	wantErr(t, "Leave(4, 7)", s.Leave(4, 7), api.OK)
	wantRefused(t, "Join(8, 7), still", s, func() api.Errno { return s.Join(8, 7) }, api.ErrThere)
	join(t, s, seat{4, 7})
	wantList(t, "Hears(7)", s.Hears(7), 4, 8)
	wantList(t, "Hears(9)", s.Hears(9), 4)
}

func TestLeaveOfOneThatIsNotIn(t *testing.T) {
	s := made(t, 4, 8)
	join(t, s, seat{4, 7}, seat{8, 9})
	for _, one := range []seat{{4, 9}, {8, 7}, {4, 5}, {8, 253}} {
		wantRefused(t, fmt.Sprintf("Leave(%d, %d)", one.sap, one.group), s, func() api.Errno { return s.Leave(one.sap, one.group) }, api.ErrNone)
	}
	wantErr(t, "Leave(4, 7)", s.Leave(4, 7), api.OK)
	wantRefused(t, "Leave(4, 7) once more", s, func() api.Errno { return s.Leave(4, 7) }, api.ErrNone)
	wantList(t, "Hears(9)", s.Hears(9), 8)
}

// One may be in each of the groups, and all in one.
func TestJoinHasNoBound(t *testing.T) {
	s := made(t, evens(maxSaps)...)
	for _, sap := range evens(maxSaps) {
		for group := 253; group >= 1; group -= 2 {
			join(t, s, seat{sap, group})
		}
	}
	for group := 1; group <= 253; group += 2 {
		wantList(t, fmt.Sprintf("Hears(%d)", group), s.Hears(group), evens(maxSaps)...)
	}
}

// P11.1: Class.

func TestClass(t *testing.T) {
	s := saps.New()
	wantErr(t, "Open(4, 2)", s.Open(4, 2), api.OK)
	wantErr(t, "Open(6, 4)", s.Open(6, 4), api.OK)
	join(t, s, seat{4, 5}, seat{6, 7})
	wantCount(t, "Class(4)", s.Class(4), 2)
	wantCount(t, "Class(6)", s.Class(6), 4)
	for _, n := range append(far, 0, 1, 2, 3, 5, 7, 8, 253, 254, 255) {
		wantCount(t, fmt.Sprintf("Class(%d)", n), s.Class(n), 0)
	}
	wantErr(t, "Close(4)", s.Close(4), api.OK)
	wantCount(t, "Class(4), closed", s.Class(4), 0)
	wantCount(t, "Class(6), still", s.Class(6), 4)
}

// P11.2: Hears.

func TestHearsOfOneSap(t *testing.T) {
	s := made(t, 2, 100, 254)
	join(t, s, seat{2, 3}, seat{2, 101}, seat{100, 3})
	for n := 2; n <= 254; n += 2 {
		var want []int
		if n == 2 || n == 100 || n == 254 {
			want = []int{n}
		}
		wantList(t, fmt.Sprintf("Hears(%d)", n), s.Hears(n), want...)
	}
}

func TestHearsOfAGroup(t *testing.T) {
	s := made(t, 200, 4, 100, 8, 254, 2)
	join(t, s, seat{200, 5}, seat{8, 5}, seat{100, 5}, seat{2, 5}, seat{100, 253}, seat{4, 1}, seat{254, 1}, seat{8, 1})
	for n := 1; n <= 253; n += 2 {
		var want []int
		switch n {
		case 1:
			want = []int{4, 8, 254}
		case 5:
			want = []int{2, 8, 100, 200}
		case 253:
			want = []int{100}
		}
		wantList(t, fmt.Sprintf("Hears(%d)", n), s.Hears(n), want...)
	}
	for _, sap := range []int{100, 2, 200} {
		wantErr(t, fmt.Sprintf("Leave(%d, 5)", sap), s.Leave(sap, 5), api.OK)
	}
	wantList(t, "Hears(5), of one", s.Hears(5), 8)
	wantErr(t, "Leave(8, 5)", s.Leave(8, 5), api.OK)
	wantList(t, "Hears(5), of none", s.Hears(5))
	wantList(t, "Hears(1), still", s.Hears(1), 4, 8, 254)
}

func TestHearsOfAll(t *testing.T) {
	s := saps.New()
	wantList(t, "of none", s.Hears(255))
	open(t, s, 100)
	wantList(t, "of one", s.Hears(255), 100)
	open(t, s, 254, 2, 98, 102)
	wantList(t, "of several", s.Hears(255), 2, 98, 100, 102, 254)
	join(t, s, seat{98, 5})
	wantList(t, "of several, one in a group", s.Hears(255), 2, 98, 100, 102, 254)
	for _, sap := range []int{2, 254, 100, 98, 102} {
		wantErr(t, fmt.Sprintf("Close(%d)", sap), s.Close(sap), api.OK)
	}
	wantList(t, "of none again", s.Hears(255))
}

func TestHearsOfNoNumber(t *testing.T) {
	s := made(t, evens(maxSaps)...)
	for group := 1; group <= 253; group += 2 {
		join(t, s, seat{4, group}, seat{6, group})
	}
	for _, n := range append(far, 0) {
		wantList(t, fmt.Sprintf("Hears(%d)", n), s.Hears(n))
	}
}

// P11.2: List.

func TestList(t *testing.T) {
	s := saps.New()
	wantList(t, "of none", s.List())
	order := []int{254, 2, 128, 64, 192, 32, 96, 160, 224, 16, 10, 100, 8, 126, 130, 20}
	for n := range order {
		open(t, s, order[n])
		want := slices.Clone(order[:n+1])
		slices.Sort(want)
		wantList(t, fmt.Sprintf("of %d", n+1), s.List(), want...)
		wantList(t, fmt.Sprintf("of %d: Hears(255)", n+1), s.Hears(255), want...)
	}
	for n := range order {
		wantErr(t, fmt.Sprintf("Close(%d)", order[n]), s.Close(order[n]), api.OK)
		want := slices.Clone(order[n+1:])
		slices.Sort(want)
		wantList(t, fmt.Sprintf("without %d", n+1), s.List(), want...)
	}
}

// Against a model.

// model is what the chapter says, in arrays.
type model struct {
	class [256]int
	in    [256][256]bool // by SAP, by group
}

func (m *model) list() (list []int) {
	for sap := range m.class {
		if m.class[sap] > 0 {
			list = append(list, sap)
		}
	}
	return list
}

func (m *model) hears(to int) (list []int) {
	for _, sap := range m.list() {
		if to == sap || to == 255 || to%2 == 1 && m.in[sap][to] {
			list = append(list, sap)
		}
	}
	return list
}

func (m *model) open(sap, class int) api.Errno {
	switch {
	case sap == 0 || sap%2 == 1 || class < 1 || class > 4:
		return api.ErrArg
	case m.class[sap] > 0:
		return api.ErrThere
	case len(m.list()) == maxSaps:
		return api.ErrFull
	}
	m.class[sap] = class
	return api.OK
}

func (m *model) close(sap int) api.Errno {
	if m.class[sap] == 0 {
		return api.ErrNone
	}
	m.class[sap] = 0
	m.in[sap] = [256]bool{}
	return api.OK
}

// seat is Join, or Leave.
func (m *model) seat(sap, group int, in bool, already api.Errno) api.Errno {
	switch {
	case group%2 == 0 || group == 255:
		return api.ErrArg
	case m.class[sap] == 0:
		return api.ErrNone
	case m.in[sap][group] == in:
		return already
	}
	m.in[sap][group] = in
	return api.OK
}

// numbers answers one of n, from 0 on: the same ones each time.
func numbers() func(n int) int {
	x := uint64(88172645463325252)
	return func(n int) int {
		x = x*6364136223846793005 + 1442695040888963407
		return int(x >> 33 % uint64(n))
	}
}

func TestAgainstAModel(t *testing.T) {
	next := numbers()
	for _, span := range []int{6, 20, 44, 256} {
		s, m := saps.New(), new(model)
		for step := range 4000 {
			sap, group, class := next(span), next(span), next(6)
			what := fmt.Sprintf("span %d, step %d", span, step)
			switch next(8) {
			case 0, 1, 2:
				wantErr(t, fmt.Sprintf("%s: Open(%d, %d)", what, sap, class), s.Open(sap, class), m.open(sap, class))
			case 3:
				wantErr(t, fmt.Sprintf("%s: Close(%d)", what, sap), s.Close(sap), m.close(sap))
			case 4:
				wantErr(t, fmt.Sprintf("%s: Leave(%d, %d)", what, sap, group), s.Leave(sap, group), m.seat(sap, group, false, api.ErrNone))
			default:
				wantErr(t, fmt.Sprintf("%s: Join(%d, %d)", what, sap, group), s.Join(sap, group), m.seat(sap, group, true, api.ErrThere))
			}
			wantList(t, what+": List", s.List(), m.list()...)
			for _, to := range []int{sap, group, 0, 255} {
				wantList(t, fmt.Sprintf("%s: Hears(%d)", what, to), s.Hears(to), m.hears(to)...)
				wantCount(t, fmt.Sprintf("%s: Class(%d)", what, to), s.Class(to), m.class[to])
			}
			if t.Failed() {
				return
			}
		}
	}
}

// R4: what is answered is new memory.

// scribble writes into a list, spare room too, and behind it.
func scribble(list []int) {
	list = list[:cap(list)]
	for i := range list {
		list[i] = 99
	}
	_ = append(list[:0], 97, 98, 99)
}

func TestAnswersAreNewMemory(t *testing.T) {
	s := made(t, 8, 4, 2, 6, 10)
	join(t, s, seat{8, 5}, seat{4, 5}, seat{10, 5})
	was := state(s)
	for _, to := range []int{2, 5, 7, 12, 255, 0} {
		one, another := s.Hears(to), s.Hears(to)
		kept := slices.Clone(another)
		scribble(one)
		wantList(t, fmt.Sprintf("Hears(%d), the other one", to), another, kept...)
		wantList(t, fmt.Sprintf("Hears(%d), asked again", to), s.Hears(to), kept...)
	}
	one, all := s.List(), s.Hears(255)
	scribble(one)
	wantList(t, "Hears(255)", all, 2, 4, 6, 8, 10)
	scribble(all)
	wantList(t, "List", s.List(), 2, 4, 6, 8, 10)
	wantBool(t, "nothing is changed", state(s) == was, true)
}

// An answer stays as it is, whatever is opened and closed later.
func TestAnswersStay(t *testing.T) {
	s := made(t, 4, 8)
	join(t, s, seat{4, 5}, seat{8, 5})
	list, group, one := s.List(), s.Hears(5), s.Hears(4)
	wantErr(t, "Close(4)", s.Close(4), api.OK)
	open(t, s, 2, 6)
	join(t, s, seat{2, 5}, seat{6, 5})
	wantList(t, "List", list, 4, 8)
	wantList(t, "Hears(5)", group, 4, 8)
	wantList(t, "Hears(4)", one, 4)
}

// R5: two of them do not hear of one another, and the same calls have the same answers.

func TestTwoOfThem(t *testing.T) {
	a, b := made(t, 4, 8), made(t, 6)
	join(t, a, seat{4, 5})
	was := state(b)
	wantErr(t, "Open(4, 3) in the other one", b.Open(4, 3), api.OK)
	wantErr(t, "Join(4, 5) in the other one", b.Join(4, 5), api.OK)
	wantCount(t, "Class(4)", a.Class(4), 1)
	wantErr(t, "Close(4) in the other one", b.Close(4), api.OK)
	wantList(t, "Hears(5)", a.Hears(5), 4)
	wantList(t, "List", a.List(), 4, 8)
	wantBool(t, "the other one is as it was", state(b) == was, true)
	wantErr(t, "Close of one that is active in the other one alone", a.Close(6), api.ErrNone)
	open(t, a, evens(maxSaps + 2)[4:]...)
	wantErr(t, "one more", a.Open(254, 1), api.ErrFull)
	wantErr(t, "one more in the other one", b.Open(254, 1), api.OK)
}

// The order in which they are opened, and join, is not to be seen.
func TestOrderIsNotSeen(t *testing.T) {
	list := evens(maxSaps)
	first := ""
	for turn := range maxSaps {
		s := saps.New()
		for i := range list {
			open(t, s, list[(i*7+turn)%maxSaps])
		}
		for i := range list {
			join(t, s, seat{list[(i*5+turn)%maxSaps], 9})
		}
		if turn == 0 {
			first = state(s)
		}
		wantBool(t, fmt.Sprintf("turn %d tells the same", turn), state(s) == first, true)
	}
}

// R1: no number makes a call panic.

func TestAnyNumbersEndWell(t *testing.T) {
	s := made(t, 4)
	for _, n := range append(far, 0, 1, 255) {
		for _, m := range append(far, 0, 254, 255) {
			wantErr(t, "Open", s.Open(n, m), api.ErrArg)
			wantErr(t, "Join", s.Join(n, m), api.ErrArg)
			wantErr(t, "Leave", s.Leave(n, m), api.ErrArg)
		}
		wantErr(t, "Close", s.Close(n), api.ErrNone)
		wantCount(t, "Class", s.Class(n), 0)
	}
	wantList(t, "List", s.List(), 4)
}

// R7: a nil one, and a zero value.

// checkEmpty asks all that there is to be asked of one that is empty.
func checkEmpty(t *testing.T, what string, s *saps.Saps) {
	t.Helper()
	wantList(t, what+": List", s.List())
	for _, n := range append(far, 0, 1, 2, 4, 5, 253, 254, 255) {
		wantCount(t, what+": Class", s.Class(n), 0)
		wantList(t, what+": Hears", s.Hears(n))
	}
}

func TestNil(t *testing.T) {
	var s *saps.Saps
	for range 2 {
		for _, n := range append(far, 0, 1, 2, 4, 5, 253, 254, 255) {
			wantErr(t, "Open", s.Open(n, 1), api.ErrArg)
			wantErr(t, "Open(4)", s.Open(4, n), api.ErrArg)
			wantErr(t, "Close", s.Close(n), api.ErrArg)
			wantErr(t, "Join", s.Join(n, 5), api.ErrArg)
			wantErr(t, "Join(4)", s.Join(4, n), api.ErrArg)
			wantErr(t, "Leave", s.Leave(n, 5), api.ErrArg)
			wantErr(t, "Leave(4)", s.Leave(4, n), api.ErrArg)
		}
		checkEmpty(t, "nil", s)
	}
}

// A zero value has no room: what would be taken is refused as where most are active.
func TestZeroValue(t *testing.T) {
	s := new(saps.Saps)
	for range 2 {
		for class := 1; class <= 4; class++ {
			wantErr(t, "Open(4)", s.Open(4, class), api.ErrFull)
			wantErr(t, "Open(254)", s.Open(254, class), api.ErrFull)
			wantErr(t, "Open(5)", s.Open(5, class), api.ErrArg)
		}
		for _, class := range badClasses {
			wantErr(t, "Open of no class", s.Open(4, class), api.ErrArg)
		}
		for _, n := range append(far, 0, 1, 2, 4, 5, 253, 254, 255) {
			wantErr(t, "Close", s.Close(n), api.ErrNone)
			wantErr(t, "Join", s.Join(n, 5), api.ErrNone)
			wantErr(t, "Leave", s.Leave(n, 5), api.ErrNone)
		}
		for _, n := range append(far, 0, 2, 4, 254, 255) {
			wantErr(t, "Join of no group", s.Join(4, n), api.ErrArg)
			wantErr(t, "Leave of no group", s.Leave(4, n), api.ErrArg)
		}
		checkEmpty(t, "a zero value", s)
	}
}
