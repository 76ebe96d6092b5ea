package tie

import (
	"reflect"
	"testing"

	"antiphon/api"
)

// What no call can lead to, since grid's table is as it is, and P19.3 names all the same.

// A control field of one byte: no U has an N(R) that may not be, so none leads to Error.
func TestControlOfOneByteAndOfTwo(t *testing.T) {
	for _, c := range []struct {
		p    api.Pdu
		want int
	}{
		{api.Pdu{Form: api.FormU, Kind: api.Sabme, Info: make([]byte, 4)}, 111},
		{api.Pdu{Form: api.FormU, Kind: api.Sabme, Poll: true, Info: make([]byte, 4)}, 127},
		{api.Pdu{Form: api.FormU, Kind: api.Disc, Poll: true, Info: make([]byte, 4)}, 83},
		{api.Pdu{Form: api.FormU, Kind: api.Ua, Response: true, Info: []byte{255, 255, 255, 255}}, 99},
		{api.Pdu{Form: api.FormU, Kind: api.Frmr, Response: true, Info: make([]byte, 5)}, 135},
		{api.Pdu{Form: api.FormI}, 0},
		{api.Pdu{Form: api.FormI, Ns: 1, Nr: 2, Poll: true, Info: []byte{9}}, 2*256 + 5},
		{api.Pdu{Form: api.FormI, Ns: 127, Nr: 127, Poll: true}, 254*256 + 255},
		{api.Pdu{Form: api.FormS, Kind: api.Rr, Nr: 3}, 1*256 + 6},
		{api.Pdu{Form: api.FormS, Kind: api.Rnr, Nr: 64, Response: true}, 5*256 + 128},
		{api.Pdu{Form: api.FormS, Kind: api.Rej, Poll: true}, 9*256 + 1},
	} {
		c.p.To, c.p.From = 254, 252 // which are no part of it
		if got := control(c.p); got != c.want {
			t.Errorf("%v: %d, want %d", c.p, got, c.want)
		}
	}
}

// Drop stands in no row: it does nothing.
func TestDropDoesNothing(t *testing.T) {
	x, _ := New(Config{1, 1, 1, 1, 1, 1}, 4, 8)
	y, _ := New(Config{1, 1, 1, 1, 1, 1}, 4, 8)
	u := &turn{Tie: x}
	u.actions()[api.Drop]()
	if !reflect.DeepEqual(x, y) || !reflect.DeepEqual(u.out, Out{}) {
		t.Errorf("behind Drop: %v, %v", x, u.out)
	}
}

// There is something to do for each action of package api.
func TestEachActionIsThere(t *testing.T) {
	actions := (&turn{Tie: &Tie{}}).actions()
	if len(actions) != api.Slow+1 {
		t.Errorf("%d actions, want %d", len(actions), api.Slow+1)
	}
	for i, action := range actions {
		if action == nil {
			t.Errorf("action %d is none", i)
		}
	}
}
