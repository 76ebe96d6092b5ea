package ties_test

import (
	"fmt"
	"math"
	"reflect"
	"runtime"
	"slices"
	"strings"
	"testing"
	"weak"

	"antiphon/api"
	"antiphon/ties"
)

// row is a key and its thing.
type row[T any] struct {
	key   ties.Key
	thing T
}

// key is one of station n: the SAP here, and the SAP there.
func key(n byte, near, there int) ties.Key {
	return ties.Key{Far: api.Addr{2, 0, 0, 0, 0, n}, Near: near, There: there}
}

// rooms are numbers that New may be handed, with the room that it then has.
var rooms = []struct{ most, room int }{
	{math.MinInt, 0}, {math.MinInt + 1, 0}, {-1 << 32, 0}, {-16, 0}, {-2, 0}, {-1, 0}, {0, 0},
	{1, 1}, {2, 2}, {3, 3}, {api.MaxTies, 16}, {17, 17},
}

// edges are numbers that Near and There may be, rising.
var edges = []int{math.MinInt, math.MinInt + 1, -1<<32 + 4, math.MinInt32, -256 + 4, -4, -1, 0, 1, 2, 4, 254, 255, 256, 256 + 4, 65536 + 4, math.MaxInt32, 1<<32 + 4, math.MaxInt - 1, math.MaxInt}

func wantErr(t *testing.T, what string, got, want api.Errno) {
	t.Helper()
	if got != want {
		t.Errorf("%s: %v, want %v", what, got, want)
	}
}

func wantBool(t *testing.T, what string, got, want bool) {
	t.Helper()
	if got != want {
		t.Errorf("%s: %v, want %v", what, got, want)
	}
}

func wantCount(t *testing.T, what string, got, want int) {
	t.Helper()
	if got != want {
		t.Errorf("%s: %d, want %d", what, got, want)
	}
}

func wantRows[T any](t *testing.T, what string, got, want []row[T]) {
	t.Helper()
	if len(got)+len(want) > 0 && !reflect.DeepEqual(got, want) {
		t.Errorf("%s: %v, want %v", what, got, want)
	}
}

// wantGet: k's thing is this one.
func wantGet[T any](t *testing.T, what string, of *ties.Table[T], k ties.Key, want T) {
	t.Helper()
	if x, is := of.Get(k); !is || !reflect.DeepEqual(x, want) {
		t.Errorf("%s: Get(%v): %v, %v, want %v, true", what, k, x, is, want)
	}
}

// wantNone: of k there is nothing, and beside false stands the zero value (R2).
func wantNone[T any](t *testing.T, what string, of *ties.Table[T], k ties.Key) {
	t.Helper()
	if x, is := of.Get(k); is || !reflect.ValueOf(&x).Elem().IsZero() {
		t.Errorf("%s: Get(%v): %v, %v, want the zero value, false", what, k, x, is)
	}
}

// walked is what a walk tells.
func walked[T any](of *ties.Table[T]) (list []row[T]) {
	for k, x := range of.Each() {
		list = append(list, row[T]{k, x})
	}
	return list
}

// wantThere asks Len, Each and Get: they must tell the same.
func wantThere[T any](t *testing.T, what string, of *ties.Table[T], want ...row[T]) {
	t.Helper()
	wantCount(t, what+": Len", of.Len(), len(want))
	wantRows(t, what+": Each", walked(of), want)
	for _, r := range want {
		wantGet(t, what, of, r.key, r.thing)
	}
}

// put puts rows that must all be taken.
func put[T any](t *testing.T, of *ties.Table[T], rows ...row[T]) {
	t.Helper()
	for _, r := range rows {
		wantErr(t, fmt.Sprintf("Put(%v)", r.key), of.Put(r.key, r.thing), api.OK)
	}
}

// made is a table of so much room beside its rows.
func made[T any](t *testing.T, room int, rows ...row[T]) *ties.Table[T] {
	t.Helper()
	of := ties.New[T](len(rows) + room)
	put(t, of, rows...)
	return of
}

// four are rows in order: each step of Less has its turn.
func four() []row[string] {
	return []row[string]{{key(1, 8, 8), "a"}, {key(2, 4, 6), "b"}, {key(2, 4, 8), "c"}, {key(2, 6, 2), "d"}}
}

// numbers tells one number after the other, the same ones each time.
func numbers() func(n int) int {
	seed := uint32(7)
	return func(n int) int {
		seed = seed*1664525 + 1013904223
		return int(seed>>8) % n
	}
}

// orders are all orders in which so many things can be put.
func orders(n int) (list [][]int) {
	if n == 0 {
		return [][]int{nil}
	}
	for _, less := range orders(n - 1) {
		for at := range n {
			list = append(list, slices.Insert(slices.Clone(less), at, n-1))
		}
	}
	return list
}

// The chapter's example.

func TestExample(t *testing.T) {
	k, l := key(2, 4, 8), key(2, 8, 4)
	of := ties.New[int](1)
	wantErr(t, "Put(k, 5)", of.Put(k, 5), api.OK)
	wantErr(t, "Put(l, 6)", of.Put(l, 6), api.ErrFull)
	wantErr(t, "Put(k, 7)", of.Put(k, 7), api.OK)
	wantGet(t, "at last", of, k, 7)
	wantBool(t, "Del(l)", of.Del(l), false)
	wantThere(t, "at last", of, row[int]{k, 7})
}

// P12.1: New.

func TestNewHasNone(t *testing.T) {
	for _, n := range append(rooms, struct{ most, room int }{math.MaxInt, math.MaxInt}) {
		of := ties.New[string](n.most)
		what := fmt.Sprintf("New(%d)", n.most)
		wantThere(t, what, of)
		for _, k := range []ties.Key{{}, key(1, 4, 8), key(255, -1, math.MinInt)} {
			wantNone(t, what, of, k)
			wantBool(t, what+": Del", of.Del(k), false)
		}
	}
}

func TestNewOfEachRoom(t *testing.T) {
	for _, n := range rooms {
		what := fmt.Sprintf("New(%d)", n.most)
		of := ties.New[int](n.most)
		var want []row[int]
		for i := range n.room {
			wantErr(t, what+": Put", of.Put(key(1, 4, i), i), api.OK)
			want = append(want, row[int]{key(1, 4, i), i})
		}
		for i := range 3 {
			wantErr(t, what+": Put of one more", of.Put(key(1, 4, n.room+i), 9), api.ErrFull)
		}
		wantThere(t, what, of, want...)
	}
}

func TestNewOfGreatRoom(t *testing.T) {
	for _, most := range []int{1 << 20, math.MaxInt32, 1 << 40, math.MaxInt - 1, math.MaxInt} {
		of := ties.New[string](most)
		for i := range 100 {
			wantErr(t, fmt.Sprintf("New(%d): Put", most), of.Put(key(1, 4, i), "x"), api.OK)
		}
		wantCount(t, fmt.Sprintf("New(%d): Len", most), of.Len(), 100)
	}
}

// P12.1: Put.

func TestPutOfOneThatIsThere(t *testing.T) {
	for room := range 3 {
		rows := four()
		of := made(t, room, rows...)
		for i := range rows {
			for _, x := range []string{"new", "", rows[i].thing, "newer"} {
				rows[i].thing = x
				wantErr(t, fmt.Sprintf("room for %d more: Put", room), of.Put(rows[i].key, x), api.OK)
				wantThere(t, fmt.Sprintf("room for %d more", room), of, rows...)
			}
		}
		for i := range room {
			wantErr(t, "Put in the room left", of.Put(key(9, 2, i), "x"), api.OK)
		}
		wantErr(t, "Put with no room left", of.Put(key(9, 2, room), "x"), api.ErrFull)
	}
}

// The zero value is a thing as well.
func TestPutOfZeroValue(t *testing.T) {
	k := ties.Key{}
	of := made(t, 0, row[int]{k, 0})
	wantThere(t, "a nought", of, row[int]{k, 0})
	wantErr(t, "Put of another one", of.Put(key(1, 4, 8), 0), api.ErrFull)
	wantBool(t, "Del", of.Del(k), true)
	wantNone(t, "behind Del", of, k)
}

// R3: what is refused changes nothing.
func TestPutWithoutRoomChangesNothing(t *testing.T) {
	rows := four()
	of := made(t, 0, rows...)
	for _, k := range []ties.Key{{}, key(0, 0, 0), key(1, 8, 6), key(2, 4, 7), key(255, 254, 254)} {
		wantErr(t, "Put", of.Put(k, "x"), api.ErrFull)
		wantNone(t, "refused", of, k)
		wantBool(t, "Del of one that was refused", of.Del(k), false)
		wantThere(t, "behind it", of, rows...)
	}
	wantErr(t, "Put of one that is there", of.Put(rows[1].key, "y"), api.OK)
	wantGet(t, "behind it", of, rows[1].key, "y")
}

func TestPutAgainBehindDel(t *testing.T) {
	for at, r := range four() {
		rows := four()
		of := made(t, 0, rows...)
		wantBool(t, "Del", of.Del(r.key), true)
		wantErr(t, "Put of it", of.Put(r.key, "again"), api.OK)
		rows[at].thing = "again"
		wantThere(t, "put again", of, rows...)
		wantErr(t, "Put of one more", of.Put(key(3, 4, 8), "x"), api.ErrFull)
		wantBool(t, "Del", of.Del(r.key), true)
		wantErr(t, "Put of another one in its room", of.Put(key(3, 4, 8), "x"), api.OK)
		wantErr(t, "Put of it, its room gone", of.Put(r.key, "x"), api.ErrFull)
		wantThere(t, "another one", of, append(slices.Delete(rows, at, at+1), row[string]{key(3, 4, 8), "x"})...)
	}
}

// Of one room, keys take turns for as long as one likes.
func TestRoomIsGivenBack(t *testing.T) {
	of := ties.New[int](1)
	for n := range 1000 {
		put(t, of, row[int]{key(byte(n), 4, n), n})
		wantErr(t, "Put of one more", of.Put(key(byte(n), 4, n+1), n), api.ErrFull)
		wantThere(t, "one", of, row[int]{key(byte(n), 4, n), n})
		wantBool(t, "Del", of.Del(key(byte(n), 4, n)), true)
	}
	wantThere(t, "none", of)
}

// P12.1: Get and Del.

func TestGetAndDelOfOneThatIsNotThere(t *testing.T) {
	rows := four()
	of := made(t, 1, rows...)
	for _, k := range []ties.Key{{}, key(1, 4, 8), key(2, 4, 7), key(2, 8, 4), key(2, 5, 8), key(2, -4, 8), key(2, 4, -8), key(0, 4, 8)} {
		wantNone(t, "not there", of, k)
		wantBool(t, fmt.Sprintf("Del(%v)", k), of.Del(k), false)
		wantThere(t, "behind it", of, rows...)
	}
	wantErr(t, "Put in the room left", of.Put(ties.Key{}, "x"), api.OK)
}

func TestDelInAnyOrder(t *testing.T) {
	for _, order := range orders(4) {
		rows := four()
		of := made(t, 0, rows...)
		for _, at := range order {
			k := four()[at].key
			wantBool(t, "Del", of.Del(k), true)
			rows = slices.DeleteFunc(rows, func(r row[string]) bool { return r.key == k })
			wantNone(t, "deleted", of, k)
			wantBool(t, "Del once more", of.Del(k), false)
			wantThere(t, fmt.Sprintf("deleted by %v", order), of, rows...)
		}
	}
}

// To be asked changes nothing.
func TestGetTwice(t *testing.T) {
	rows := four()
	of := made(t, 0, rows...)
	for range 3 {
		for _, r := range rows {
			wantGet(t, "asked again", of, r.key, r.thing)
		}
	}
	wantThere(t, "behind it", of, rows...)
}

// Keys are held against one another whole.

// wantApart: the keys, in order, have a thing each, whatever comes of the others.
func wantApart(t *testing.T, what string, keys ...ties.Key) {
	t.Helper()
	var rows []row[int]
	for i, k := range keys {
		rows = append(rows, row[int]{k, i})
	}
	of := made(t, 0, rows...)
	wantThere(t, what, of, rows...)
	for i, k := range keys {
		wantErr(t, what+": Put anew", of.Put(k, i+1000), api.OK)
		rows[i].thing = i + 1000
		wantThere(t, what+": one put anew", of, rows...)
	}
	for i, k := range keys {
		wantBool(t, what+": Del", of.Del(k), true)
		wantNone(t, what, of, k)
		wantThere(t, what+": one deleted", of, rows[i+1:]...)
	}
}

func TestKeysThatDifferInOneByteOfFar(t *testing.T) {
	base := ties.Key{Far: api.Addr{7, 7, 7, 7, 7, 7}, Near: 4, There: 8}
	for at := range base.Far {
		below, above, one, most := base, base, base, base
		below.Far[at], above.Far[at], one.Far[at], most.Far[at] = 0, 8, 128, 255
		wantApart(t, fmt.Sprintf("byte %d", at), below, base, above, one, most)
	}
}

func TestKeysThatDifferInOneBitOfFar(t *testing.T) {
	keys := []ties.Key{{Near: 4, There: 8}}
	for bit := range 48 {
		k := keys[0]
		k.Far[5-bit/8] = 1 << (bit % 8)
		keys = append(keys, k)
	}
	wantApart(t, "bits", keys...)
}

func TestKeysThatDifferInNearAlone(t *testing.T) {
	var keys []ties.Key
	for _, n := range edges {
		keys = append(keys, key(1, n, 8))
	}
	wantApart(t, "Near", keys...)
}

func TestKeysThatDifferInThereAlone(t *testing.T) {
	var keys []ties.Key
	for _, n := range edges {
		keys = append(keys, key(1, 8, n))
	}
	wantApart(t, "There", keys...)
}

func TestKeysOfAllNumbers(t *testing.T) {
	for _, n := range []int{0, 1, 4, 255} {
		var keys []ties.Key
		for near := range 12 {
			for there := range 12 {
				keys = append(keys, key(byte(n), near, there))
			}
		}
		wantApart(t, fmt.Sprintf("station %d", n), keys...)
	}
}

// P12.1: Less.

// ladder are keys in order, step by step.
func ladder() (keys []ties.Key) {
	for _, far := range []api.Addr{{}, {0, 0, 0, 0, 0, 1}, {0, 0, 0, 0, 0, 255}, {0, 0, 0, 0, 1, 0}, {0, 0, 255, 0, 0, 0}, {0, 1}, {1}, {1, 0, 0, 0, 0, 1}, {127, 255, 255, 255, 255, 255}, {128}, {255}, {255, 255, 255, 255, 255, 254}, {255, 255, 255, 255, 255, 255}} {
		for _, near := range edges {
			for _, there := range []int{math.MinInt, -256, -1, 0, 1, 254, 256, math.MaxInt} {
				keys = append(keys, ties.Key{Far: far, Near: near, There: there})
			}
		}
	}
	return keys
}

func TestLessOfEachTwo(t *testing.T) {
	keys := ladder()
	for i, a := range keys {
		for j, b := range keys {
			if ties.Less(a, b) != (i < j) {
				t.Fatalf("Less(%v, %v): %v", a, b, i >= j)
			}
		}
	}
}

// Far's bytes go ahead of Near, and Near of There, whatever stands behind.
func TestLessByItsFirstDifference(t *testing.T) {
	base := ties.Key{Far: api.Addr{7, 7, 7, 7, 7, 7}, Near: 7, There: 7}
	up := []func(k *ties.Key, by int){
		func(k *ties.Key, by int) { k.Near += by },
		func(k *ties.Key, by int) { k.There += by },
	}
	for at := range base.Far {
		up = slices.Insert(up, at, func(k *ties.Key, by int) { k.Far[at] += byte(by) })
	}
	for first := range up {
		for second := first + 1; second < len(up); second++ {
			a, b := base, base
			up[first](&b, 1)
			up[second](&a, 3)
			what := fmt.Sprintf("difference %d ahead of %d", first, second)
			wantBool(t, what, ties.Less(a, b), true)
			wantBool(t, what+", the other way", ties.Less(b, a), false)
		}
	}
}

func TestLessOfOneAndItself(t *testing.T) {
	for _, k := range append(ladder(), key(1, 4, 8), key(255, -4, -8)) {
		wantBool(t, fmt.Sprintf("Less(%v) of itself", k), ties.Less(k, k), false)
	}
}

// P12.1: Each.

func TestEachOfAnyOrder(t *testing.T) {
	all := append(four(), row[string]{key(3, -1, 0), "e"})
	for n := range len(all) + 1 {
		for _, order := range orders(n) {
			of := ties.New[string](n)
			for _, at := range order {
				put(t, of, all[at])
			}
			wantThere(t, fmt.Sprintf("put by %v", order), of, all[:n]...)
		}
	}
}

func TestEachOfMany(t *testing.T) {
	next := numbers()
	keys := ladder()
	of := ties.New[int](len(keys))
	var want []row[int]
	for i, k := range keys {
		want = append(want, row[int]{k, i})
	}
	shuffled := slices.Clone(want)
	for i := range shuffled {
		j := next(i + 1)
		shuffled[i], shuffled[j] = shuffled[j], shuffled[i]
	}
	put(t, of, shuffled...)
	wantThere(t, "many", of, want...)
	wantErr(t, "Put of one more", of.Put(key(1, 4, 8), 0), api.ErrFull)
}

// Whoever comes and goes, those that stay are told in order.
func TestEachBehindPutsAndDels(t *testing.T) {
	of := ties.New[int](50)
	for n := range 50 {
		put(t, of, row[int]{key(byte(n*7%50), 4, 8), n * 7 % 50})
	}
	var want []row[int]
	for n := range 50 {
		if n%3 == 0 {
			wantBool(t, "Del", of.Del(key(byte(n), 4, 8)), true)
		} else {
			want = append(want, row[int]{key(byte(n), 4, 8), n})
		}
	}
	wantThere(t, "two of three", of, want...)
	put(t, of, row[int]{key(0, 4, 8), 100}, row[int]{key(49, 4, 9), 101})
	want = slices.Insert(append(want, row[int]{key(49, 4, 9), 101}), 0, row[int]{key(0, 4, 8), 100})
	wantThere(t, "and two more", of, want...)
}

func TestEachBrokenOff(t *testing.T) {
	rows := four()
	of := made(t, 0, rows...)
	for stop := range rows {
		var told []row[string]
		for k, x := range of.Each() {
			told = append(told, row[string]{k, x})
			if len(told) == stop+1 {
				break
			}
		}
		wantRows(t, fmt.Sprintf("broken off behind %d", stop+1), told, rows[:stop+1])
		wantThere(t, "behind it", of, rows...)
	}
}

// A walk by hand: nobody is told any more who has said no.
func TestEachAskedByHand(t *testing.T) {
	for most := 1; most <= 5; most++ {
		calls := 0
		made(t, 0, four()...).Each()(func(ties.Key, string) bool {
			calls++
			return calls < most
		})
		wantCount(t, fmt.Sprintf("no said at %d: calls", most), calls, min(most, 4))
	}
}

func TestEachWalkedTwice(t *testing.T) {
	rows := four()
	each := made(t, 0, rows...).Each()
	for range 3 {
		var told []row[string]
		for k, x := range each {
			told = append(told, row[string]{k, x})
		}
		wantRows(t, "one walk, over again", told, rows)
		for range each {
			break
		}
	}
}

// TestEachBeginsAsItIsRangedOver: not as Each is called.
func TestEachBeginsAsItIsRangedOver(t *testing.T) {
	of := ties.New[string](4)
	each := of.Each()
	wantWalk := func(want ...row[string]) {
		t.Helper()
		var told []row[string]
		for k, x := range each {
			told = append(told, row[string]{k, x})
		}
		wantRows(t, "ranged over", told, want)
	}
	rows := four()
	wantWalk()
	put(t, of, rows[2], rows[0])
	wantWalk(rows[0], rows[2])
	put(t, of, rows[1], row[string]{rows[0].key, "new"})
	wantWalk(row[string]{rows[0].key, "new"}, rows[1], rows[2])
	of.Del(rows[1].key)
	wantWalk(row[string]{rows[0].key, "new"}, rows[2])
}

// TestEachWhileTableChanges: what is there as the walk begins is told, with the things of then, whatever is done meanwhile.
func TestEachWhileTableChanges(t *testing.T) {
	type table = *ties.Table[string]
	a, b, c, d := four()[0].key, four()[1].key, four()[2].key, four()[3].key
	rows := []row[string]{{a, "a"}, {b, "b"}, {c, "c"}}
	for _, one := range []struct {
		what   string
		change func(of table, k ties.Key)
		want   []row[string]
	}{
		{"Put of one behind", func(of table, k ties.Key) { of.Put(d, "d") }, []row[string]{{a, "a"}, {b, "b"}, {c, "c"}, {d, "d"}}},
		{"Put of one ahead", func(of table, k ties.Key) { of.Put(ties.Key{}, "x") }, []row[string]{{ties.Key{}, "x"}, {a, "a"}, {b, "b"}, {c, "c"}}},
		{"Put of one between", func(of table, k ties.Key) { of.Put(key(2, 4, 7), "x") }, []row[string]{{a, "a"}, {b, "b"}, {key(2, 4, 7), "x"}, {c, "c"}}},
		{"Put anew", func(of table, k ties.Key) { of.Put(k, "x") }, []row[string]{{a, "x"}, {b, "x"}, {c, "x"}}},
		{"Put anew of the last one", func(of table, k ties.Key) { of.Put(c, "x") }, []row[string]{{a, "a"}, {b, "b"}, {c, "x"}}},
		{"Put anew of the first one", func(of table, k ties.Key) { of.Put(a, "x") }, []row[string]{{a, "x"}, {b, "b"}, {c, "c"}}},
		{"Del", func(of table, k ties.Key) { of.Del(k) }, nil},
		{"Del of the last one", func(of table, k ties.Key) { of.Del(c) }, []row[string]{{a, "a"}, {b, "b"}}},
		{"Del of the first one", func(of table, k ties.Key) { of.Del(a) }, []row[string]{{b, "b"}, {c, "c"}}},
		{"Del of all", func(of table, k ties.Key) { of.Del(a); of.Del(b); of.Del(c) }, nil},
		{"Del and Put again", func(of table, k ties.Key) { of.Del(b); of.Put(b, "x") }, []row[string]{{a, "a"}, {b, "x"}, {c, "c"}}},
		{"Del, and Put of others", func(of table, k ties.Key) { of.Del(k); of.Put(d, "x"); of.Put(ties.Key{}, "y") }, []row[string]{{ties.Key{}, "y"}, {d, "x"}}},
	} {
		of := made(t, 2, rows...)
		var told []row[string]
		for k, x := range of.Each() {
			told = append(told, row[string]{k, x})
			one.change(of, k)
		}
		wantRows(t, one.what+" in the midst of a walk", told, rows)
		wantThere(t, one.what, of, one.want...)
	}
}

func TestWalkWithinWalk(t *testing.T) {
	rows := four()[:3]
	of := made(t, 0, rows...)
	var told []string
	for k, x := range of.Each() {
		for _, y := range of.Each() {
			told = append(told, x+y)
		}
		of.Del(k)
	}
	if want := []string{"aa", "ab", "ac", "bb", "bc", "cc"}; !slices.Equal(told, want) {
		t.Errorf("a walk within one that deletes: %q, want %q", told, want)
	}
}

func TestEachByNobody(t *testing.T) {
	of := made(t, 0, four()...)
	of.Each()(nil)
	wantThere(t, "behind it", of, four()...)
}

// TestEachWithBodyThatPanics: the panic is the caller's own, and leaves the table as it is.
func TestEachWithBodyThatPanics(t *testing.T) {
	of := made(t, 0, four()...)
	func() {
		defer func() { wantBool(t, "the caller hears of its own panic", recover() == "mine", true) }()
		for range of.Each() {
			panic("mine")
		}
	}()
	wantThere(t, "behind it", of, four()...)
}

// Tables of more than one type of thing.

// wantKept: a table keeps such things as any other one.
func wantKept[T any](t *testing.T, x, y T) {
	t.Helper()
	what := fmt.Sprintf("%T", x)
	k, l := key(1, 4, 8), key(1, 8, 4)
	of := made(t, 0, row[T]{l, y}, row[T]{k, x})
	wantThere(t, what, of, row[T]{k, x}, row[T]{l, y})
	wantErr(t, what+": Put of one more", of.Put(key(2, 4, 8), x), api.ErrFull)
	wantNone(t, what, of, key(2, 4, 8))
	wantErr(t, what+": Put anew", of.Put(k, y), api.OK)
	wantThere(t, what+": alike", of, row[T]{k, y}, row[T]{l, y})
	wantBool(t, what+": Del", of.Del(k), true)
	wantNone(t, what, of, k)
	wantThere(t, what+": one", of, row[T]{l, y})
}

func TestThingsOfEachKind(t *testing.T) {
	n, m := 3, 4
	wantKept(t, 5, -5)
	wantKept(t, "a", "b")
	wantKept(t, true, true)
	wantKept(t, byte(255), byte(1))
	wantKept(t, 1.5, math.Inf(-1))
	wantKept(t, []int{1, 2}, []int{3})
	wantKept(t, map[string]int{"a": 1}, map[string]int{"b": 2})
	wantKept(t, &n, &m)
	wantKept(t, [3]int{1, 2, 3}, [3]int{4})
	wantKept(t, [100]int{1}, [100]int{99: 2})
	wantKept(t, struct{}{}, struct{}{})
	wantKept(t, key(1, 2, 3), key(4, 5, 6))
	wantKept(t, api.Ind{Kind: 3, B: []byte("x")}, api.Ind{Sap: 4})
	wantKept[any](t, "a", []int{2})
	wantKept[error](t, api.ErrArg, api.ErrFull)
}

// What can't be compared, or is like nothing, is a thing as well: things are not held against one another.
func TestThingsThatCannotBeCompared(t *testing.T) {
	k := key(1, 4, 8)
	calls := made(t, 0, row[func() int]{k, func() int { return 7 }})
	f, is := calls.Get(k)
	wantBool(t, "a function", is && f() == 7, true)
	wantBool(t, "Del of it", calls.Del(k), true)
	floats := made(t, 0, row[float64]{k, math.NaN()})
	x, is := floats.Get(k)
	wantBool(t, "no number", is && x != x, true)
	none := made(t, 0, row[[]byte]{k, nil})
	list, is := none.Get(k)
	wantBool(t, "no list", is && list == nil, true)
	tables := made(t, 0, row[*ties.Table[float64]]{k, floats})
	wantGet(t, "a table", tables, k, floats)
}

// What is told is a copy: whoever writes into it changes nothing in the table.
func TestThingsAreTold(t *testing.T) {
	k := key(1, 4, 8)
	of := made(t, 0, row[[2]int]{k, [2]int{1, 2}})
	x, _ := of.Get(k)
	x[0] = 9
	for l, y := range of.Each() {
		l.Far[0], l.Near, y[1] = 9, 9, 9
	}
	wantThere(t, "arrays, written into", of, row[[2]int]{k, [2]int{1, 2}})
}

// What is deleted, or put anew, is kept nowhere.

type block [64]int

// gone tells whether nobody holds any of the things, once the table has lost them.
func gone(lose func(of *ties.Table[*block])) bool {
	of := ties.New[*block](8)
	var held []weak.Pointer[block]
	for n := range 8 {
		b := new(block)
		held = append(held, weak.Make(b))
		of.Put(key(byte(n), 4, 8), b)
	}
	lose(of)
	runtime.GC()
	none := !slices.ContainsFunc(held, func(p weak.Pointer[block]) bool { return p.Value() != nil })
	runtime.KeepAlive(of)
	return none
}

func TestNothingIsKeptOfWhatIsGone(t *testing.T) {
	wantBool(t, "deleted", gone(func(of *ties.Table[*block]) {
		for k := range of.Each() {
			of.Del(k)
		}
	}), true)
	wantBool(t, "put anew", gone(func(of *ties.Table[*block]) {
		for k := range of.Each() {
			of.Put(k, nil)
		}
	}), true)
}

// All of them, against a plain list, however calls follow one another.

// model is what the chapter says: a list that is gone through, and sorted by texts as it is asked.
type model struct {
	most int
	rows []row[int]
}

func (m *model) find(k ties.Key) int {
	return slices.IndexFunc(m.rows, func(r row[int]) bool { return r.key == k })
}

func (m *model) put(k ties.Key, x int) api.Errno {
	switch at := m.find(k); {
	case at >= 0:
		m.rows[at].thing = x
	case len(m.rows) >= m.most:
		return api.ErrFull
	default:
		m.rows = append(m.rows, row[int]{k, x})
	}
	return api.OK
}

func (m *model) del(k ties.Key) bool {
	at := m.find(k)
	if at >= 0 {
		m.rows = slices.Delete(m.rows, at, at+1)
	}
	return at >= 0
}

// asText is a text that comes ahead of others as its key does; it holds for small numbers alone.
func asText(k ties.Key) string {
	return fmt.Sprintf("%x %04d %04d", k.Far, k.Near, k.There)
}

func (m *model) inOrder() []row[int] {
	list := slices.Clone(m.rows)
	slices.SortFunc(list, func(a, b row[int]) int { return strings.Compare(asText(a.key), asText(b.key)) })
	return list
}

func TestAgainstModel(t *testing.T) {
	next := numbers()
	for _, most := range []int{0, 1, 2, 3, 7, api.MaxTies} {
		of, m := ties.New[int](most), &model{most: most}
		for step := range 2000 {
			k := ties.Key{Near: next(3), There: next(3)}
			k.Far[next(6)] = byte(next(3))
			if next(3) > 0 {
				wantErr(t, fmt.Sprintf("Put(%v, %d)", k, step), of.Put(k, step), m.put(k, step))
			} else {
				wantBool(t, fmt.Sprintf("Del(%v)", k), of.Del(k), m.del(k))
			}
			if m.find(k) < 0 {
				wantNone(t, "not there", of, k)
			}
			wantThere(t, fmt.Sprintf("New(%d), step %d", most, step), of, m.inOrder()...)
			if t.Failed() {
				return
			}
		}
	}
}

// R5: two tables do not hear of one another, and the same calls have the same answers.

func TestTwoTables(t *testing.T) {
	rows := four()
	a := made(t, 0, rows...)
	b := made(t, 1, rows[1:3]...)
	wantErr(t, "Put into the one", b.Put(rows[1].key, "x"), api.OK)
	wantBool(t, "Del in the one", b.Del(rows[2].key), true)
	wantThere(t, "the other one", a, rows...)
	wantErr(t, "Put into the full one", a.Put(key(9, 2, 2), "y"), api.ErrFull)
	wantBool(t, "Del of one that is there in the other one alone", b.Del(rows[0].key), false)
	put(t, b, row[string]{key(9, 2, 2), "z"})
	wantThere(t, "the one", b, row[string]{rows[1].key, "x"}, row[string]{key(9, 2, 2), "z"})
	wantThere(t, "the other one, at last", a, rows...)
}

// story is all that a table tells while the same things are done.
func story() string {
	next := numbers()
	of := ties.New[int](30)
	var told strings.Builder
	for range 500 {
		for range next(10) {
			fmt.Fprint(&told, of.Put(key(byte(next(4)), next(4), next(4)), next(100)), of.Del(key(byte(next(4)), next(4), next(4))))
		}
		fmt.Fprint(&told, of.Len(), walked(of))
	}
	return told.String()
}

func TestSameCallsHaveTheSameAnswers(t *testing.T) {
	first := story()
	for range 5 {
		wantBool(t, "the same story", story() == first, true)
	}
}

// R1: no key makes a call panic.

func TestAnyKeysEndWell(t *testing.T) {
	of := ties.New[int](len(ladder()))
	for i, k := range ladder() {
		wantNone(t, "not there yet", of, k)
		wantBool(t, "Del of one that is not there yet", of.Del(k), false)
		put(t, of, row[int]{k, i})
		wantGet(t, "there", of, k, i)
	}
	for _, k := range ladder() {
		wantBool(t, "Del", of.Del(k), true)
	}
	wantThere(t, "at last", of)
}

// R7: nil tables and zero values.

func checkNoRoom(t *testing.T, what string, of *ties.Table[string], want api.Errno) {
	t.Helper()
	for _, k := range []ties.Key{{}, key(1, 4, 8), key(255, math.MinInt, math.MaxInt)} {
		wantErr(t, what+": Put", of.Put(k, "x"), want)
		wantErr(t, what+": Put once more", of.Put(k, "x"), want)
		wantNone(t, what, of, k)
		wantBool(t, what+": Del", of.Del(k), false)
		wantThere(t, what, of)
		of.Each()(nil)
	}
}

func TestNoRoom(t *testing.T) {
	checkNoRoom(t, "nil", nil, api.ErrArg)
	checkNoRoom(t, "a zero value", new(ties.Table[string]), api.ErrFull)
	checkNoRoom(t, "New(0)", ties.New[string](0), api.ErrFull)
	checkNoRoom(t, "New(-1)", ties.New[string](-1), api.ErrFull)
	checkNoRoom(t, "New(MinInt)", ties.New[string](math.MinInt), api.ErrFull)
}
