package grid_test

import (
	"fmt"
	"math"
	"slices"
	"strings"
	"testing"

	"antiphon/api"
	"antiphon/grid"
)

// How many states and events there are is written out: were those of api other ones, the tests would tell.
const (
	states = 14
	events = 34
)

// far are numbers of no state and of no event; in 8, 16 or 32 bits some of them would be.
var far = []int{math.MinInt, math.MinInt + 1, math.MinInt + 13, -1 << 32, -1<<32 + 8, -1 << 31, -65536, -65536 + 9, -256, -256 + 8, -34, -14, -2, -1,
	events, events + 1, 64, 127, 128, 255, 256, 256 + 8, 65536, 65536 + 9, 1 << 31, 1 << 32, 1<<32 + 8, 1<<32 + 13, math.MaxInt - 1, math.MaxInt}

var stateOf = map[string]int{
	"Adm": api.Adm, "Conn": api.Conn, "Setup": api.Setup, "Reset": api.Reset, "ResetCheck": api.ResetCheck, "ResetWait": api.ResetWait,
	"DConn": api.DConn, "Error": api.Error, "Normal": api.Normal, "Busy": api.Busy, "Reject": api.Reject,
	"Await": api.Await, "AwaitBusy": api.AwaitBusy, "AwaitReject": api.AwaitReject,
}

var eventOf = map[string]int{
	"UConnect": api.UConnect, "UAccept": api.UAccept, "UDisconnect": api.UDisconnect, "UReset": api.UReset, "UResetOk": api.UResetOk,
	"USend": api.USend, "UBusy": api.UBusy, "UFree": api.UFree,
	"GotSabme": api.GotSabme, "GotDisc": api.GotDisc, "GotUa": api.GotUa, "GotDm": api.GotDm, "GotFrmr": api.GotFrmr,
	"GotInfo": api.GotInfo, "GotInfoP": api.GotInfoP, "GotInfoF": api.GotInfoF, "GotGap": api.GotGap, "GotGapP": api.GotGapP, "GotGapF": api.GotGapF,
	"GotRr": api.GotRr, "GotRrP": api.GotRrP, "GotRrF": api.GotRrF, "GotRnr": api.GotRnr, "GotRnrP": api.GotRnrP, "GotRnrF": api.GotRnrF,
	"GotRej": api.GotRej, "GotRejP": api.GotRejP, "GotRejF": api.GotRejF, "GotWrong": api.GotWrong,
	"TimeAck": api.TimeAck, "TimeP": api.TimeP, "TimeRej": api.TimeRej, "TimeBusy": api.TimeBusy, "Spent": api.Spent,
}

var actionOf = map[string]int{
	"SendSabme": api.SendSabme, "SendDisc": api.SendDisc, "SendUa": api.SendUa, "SendDm": api.SendDm, "SendFrmr": api.SendFrmr,
	"SayConnect": api.SayConnect, "SayConnected": api.SayConnected, "SayDisconnect": api.SayDisconnect, "SayReset": api.SayReset, "SayResetDone": api.SayResetDone,
	"Clear": api.Clear, "StopAll": api.StopAll, "StartAck": api.StartAck, "StartP": api.StartP, "StartRej": api.StartRej, "StopRej": api.StopRej, "StartBusy": api.StartBusy,
	"Take": api.Take, "Ack": api.Ack, "PeerFree": api.PeerFree, "PeerBusy": api.PeerBusy, "GoBack": api.GoBack,
	"SayRr0": api.SayRr0, "SayRr1": api.SayRr1, "SayRnr0": api.SayRnr0, "SayRnr1": api.SayRnr1, "SayRej0": api.SayRej0, "SayRej1": api.SayRej1,
	"PollRr": api.PollRr, "PollRnr": api.PollRnr, "Push": api.Push, "Retry": api.Retry, "RetryZero": api.RetryZero, "Slow": api.Slow,
}

// place is a state's and an event's.
type place struct {
	state, event int
}

// number looks a name up.
func number(t *testing.T, names map[string]int, name string) int {
	t.Helper()
	n, ok := names[name]
	if !ok {
		t.Fatalf("no such name: %q", name)
	}
	return n
}

// row reads "action, action; state".
func row(t *testing.T, text string) grid.Row {
	t.Helper()
	actions, next, ok := strings.Cut(text, "; ")
	if !ok {
		t.Fatalf("no row: %q", text)
	}
	var do []int
	for _, name := range strings.Split(actions, ", ") {
		do = append(do, number(t, actionOf, name))
	}
	return grid.Row{Do: do, Next: number(t, stateOf, next), Known: true}
}

// rows reads the table.
func rows(t *testing.T) map[place]grid.Row {
	t.Helper()
	all := map[place]grid.Row{}
	for _, line := range strings.Split(strings.TrimSpace(table), "\n") {
		where, what, _ := strings.Cut(line, ": ")
		state, event, _ := strings.Cut(where, " ")
		at := place{number(t, stateOf, state), number(t, eventOf, event)}
		if _, twice := all[at]; twice {
			t.Fatalf("twice: %q", line)
		}
		all[at] = row(t, what)
	}
	return all
}

// nothing is what is answered where the table has nothing.
func nothing(state int) grid.Row {
	return grid.Row{Next: state}
}

// wanted is what the table has at a place.
func wanted(all map[place]grid.Row, state, event int) grid.Row {
	if r, ok := all[place{state, event}]; ok {
		return r
	}
	return nothing(state)
}

// same takes nil and an empty list as one.
func same(a, b grid.Row) bool {
	return slices.Equal(a.Do, b.Do) && a.Next == b.Next && a.Known == b.Known
}

// nameOf is a number's name, where it has one.
func nameOf(names map[string]int, n int) string {
	for name, m := range names {
		if m == n {
			return name
		}
	}
	return fmt.Sprint(n)
}

func text(r grid.Row) string {
	var do []string
	for _, action := range r.Do {
		do = append(do, nameOf(actionOf, action))
	}
	return fmt.Sprintf("%s; %s; known %v", strings.Join(do, ", "), nameOf(stateOf, r.Next), r.Known)
}

func wantRow(t *testing.T, what string, state, event int, got, want grid.Row) {
	t.Helper()
	if !same(got, want) {
		t.Errorf("%s, %s at %s: %s, want %s", what, nameOf(stateOf, state), nameOf(eventOf, event), text(got), text(want))
	}
}

func wantStep(t *testing.T, what string, state, event int, want grid.Row) {
	t.Helper()
	wantRow(t, "Step, "+what, state, event, grid.Step(state, event), want)
}

func TestNamesOfAll(t *testing.T) {
	if len(stateOf) != states || api.AwaitReject != states-1 {
		t.Errorf("%d states are named, the last is %d", len(stateOf), api.AwaitReject)
	}
	if len(eventOf) != events || api.Events != events {
		t.Errorf("%d events are named, of %d", len(eventOf), api.Events)
	}
	if n := len(rows(t)); n != 187 {
		t.Errorf("the table has %d lines", n)
	}
}

func TestStepIsTheTable(t *testing.T) {
	all := rows(t)
	for state := range states {
		for event := range events {
			wantStep(t, "each", state, event, wanted(all, state, event))
		}
	}
}

func TestRowsAreTheTable(t *testing.T) {
	all := rows(t)
	got := grid.Rows()
	if len(got) != states {
		t.Fatalf("Rows: %d states, want %d", len(got), states)
	}
	for state, line := range got {
		if len(line) != events {
			t.Fatalf("Rows, %s: %d events, want %d", nameOf(stateOf, state), len(line), events)
		}
		for event, r := range line {
			wantRow(t, "Rows", state, event, r, wanted(all, state, event))
			wantRow(t, "Rows against Step", state, event, r, grid.Step(state, event))
		}
	}
}

func TestChaptersExamples(t *testing.T) {
	wantStep(t, "example", api.Adm, api.UConnect, grid.Row{Do: []int{api.SendSabme, api.RetryZero, api.StartAck}, Next: api.Setup, Known: true})
	wantStep(t, "example", api.Reject, api.GotGapP, grid.Row{Do: []int{api.Ack, api.SayRr1, api.Push}, Next: api.Reject, Known: true})
	wantStep(t, "example", api.Adm, api.UAccept, grid.Row{Next: api.Adm})
}

// A row that stands for several states: what differs in them, by hand.
func TestSharedRowsByHand(t *testing.T) {
	cases := []struct {
		state, event, next int
		do                 []int
	}{
		{api.Normal, api.GotRrP, api.Normal, []int{api.PeerFree, api.Ack, api.SayRr1, api.Push}},
		{api.Busy, api.GotRrP, api.Busy, []int{api.PeerFree, api.Ack, api.SayRnr1, api.Push}},
		{api.Reject, api.GotRrP, api.Reject, []int{api.PeerFree, api.Ack, api.SayRr1, api.Push}},
		{api.Await, api.GotRrP, api.Await, []int{api.PeerFree, api.Ack, api.SayRr1}},
		{api.AwaitBusy, api.GotRrP, api.AwaitBusy, []int{api.PeerFree, api.Ack, api.SayRnr1}},
		{api.AwaitReject, api.GotRrP, api.AwaitReject, []int{api.PeerFree, api.Ack, api.SayRr1}},
		{api.Normal, api.GotRnrP, api.Normal, []int{api.Ack, api.PeerBusy, api.StartBusy, api.SayRr1}},
		{api.Busy, api.GotRnrP, api.Busy, []int{api.Ack, api.PeerBusy, api.StartBusy, api.SayRnr1}},
		{api.AwaitBusy, api.GotRnrP, api.AwaitBusy, []int{api.Ack, api.PeerBusy, api.SayRnr1}},
		{api.Normal, api.TimeAck, api.Await, []int{api.PollRr, api.StartP, api.Retry, api.Slow}},
		{api.Busy, api.TimeAck, api.AwaitBusy, []int{api.PollRnr, api.StartP, api.Retry, api.Slow}},
		{api.Reject, api.TimeAck, api.AwaitReject, []int{api.PollRr, api.StartP, api.Retry, api.Slow}},
		{api.Normal, api.TimeBusy, api.Await, []int{api.PollRr, api.StartP, api.Retry}},
		{api.Busy, api.TimeBusy, api.AwaitBusy, []int{api.PollRnr, api.StartP, api.Retry}},
		{api.Reject, api.TimeBusy, api.AwaitReject, []int{api.PollRr, api.StartP, api.Retry}},
		{api.Await, api.GotRrF, api.Normal, []int{api.PeerFree, api.Ack, api.GoBack, api.RetryZero, api.Push}},
		{api.AwaitBusy, api.GotRrF, api.Busy, []int{api.PeerFree, api.Ack, api.GoBack, api.RetryZero, api.Push}},
		{api.AwaitReject, api.GotRrF, api.Reject, []int{api.PeerFree, api.Ack, api.GoBack, api.RetryZero, api.Push}},
		{api.AwaitBusy, api.TimeP, api.AwaitBusy, []int{api.PollRnr, api.StartP, api.Retry}},
		{api.AwaitReject, api.TimeP, api.AwaitReject, []int{api.PollRr, api.StartP, api.Retry}},
	}
	for _, c := range cases {
		wantStep(t, "by hand", c.state, c.event, grid.Row{Do: c.do, Next: c.next, Known: true})
	}
}

// Where one could think that the table had something.
func TestNothingByHand(t *testing.T) {
	cases := []place{
		{api.Adm, api.UAccept}, {api.Adm, api.UDisconnect}, {api.Adm, api.GotRr}, {api.Adm, api.GotDm}, {api.Adm, api.GotUa}, {api.Adm, api.Spent},
		{api.Conn, api.GotSabme}, {api.Conn, api.GotDm}, {api.Conn, api.GotRrP}, {api.Conn, api.UConnect},
		{api.Setup, api.UConnect}, {api.Setup, api.UReset}, {api.Setup, api.GotFrmr}, {api.Setup, api.TimeP}, {api.Reset, api.UReset},
		{api.ResetCheck, api.GotSabme}, {api.ResetCheck, api.UReset}, {api.ResetWait, api.UResetOk}, {api.ResetWait, api.TimeAck}, {api.ResetWait, api.Spent},
		{api.DConn, api.UDisconnect}, {api.DConn, api.UConnect}, {api.Error, api.GotUa}, {api.Error, api.GotRr}, {api.Error, api.USend},
		{api.Normal, api.UFree}, {api.Normal, api.GotUa}, {api.Normal, api.GotInfoF}, {api.Normal, api.GotRrF}, {api.Normal, api.TimeP}, {api.Normal, api.TimeRej},
		{api.Busy, api.UBusy}, {api.Busy, api.TimeRej}, {api.Busy, api.GotGapF}, {api.Reject, api.UFree}, {api.Reject, api.GotRejF},
		{api.Await, api.USend}, {api.Await, api.UFree}, {api.Await, api.TimeAck}, {api.Await, api.TimeRej}, {api.Await, api.TimeBusy},
		{api.AwaitBusy, api.UBusy}, {api.AwaitBusy, api.USend}, {api.AwaitBusy, api.TimeBusy}, {api.AwaitReject, api.UFree}, {api.AwaitReject, api.TimeRej}, {api.AwaitReject, api.TimeAck},
	}
	for _, c := range cases {
		wantStep(t, "nothing", c.state, c.event, nothing(c.state))
	}
}

func TestNoSuchState(t *testing.T) {
	for _, state := range append(slices.Clone(far), states, states+1, 20, 33) {
		for event := range events {
			wantStep(t, "no such state", state, event, nothing(state))
		}
		for _, event := range far {
			wantStep(t, "neither", state, event, nothing(state))
		}
	}
}

func TestNoSuchEvent(t *testing.T) {
	for state := range states {
		for _, event := range far {
			wantStep(t, "no such event", state, event, nothing(state))
		}
	}
}

// dice are numbers from a seed.
type dice uint32

func (d *dice) roll(n int) int {
	*d = *d*1664525 + 1013904223
	return int(*d>>8) % n
}

// any is a number: often one of a state or an event, sometimes far from it.
func (d *dice) any() int {
	switch d.roll(3) {
	case 0:
		return far[d.roll(len(far))]
	case 1:
		return d.roll(60) - 10
	}
	return d.roll(states)
}

func TestAnyNumbersInAnyOrder(t *testing.T) {
	all := rows(t)
	d := dice(15)
	for range 20000 {
		state, event := d.any(), d.any()
		wantStep(t, "dice", state, event, wanted(all, state, event))
	}
}

// spoil writes a mark over all of a list's memory.
func spoil(list []int, mark int) {
	list = list[:cap(list)]
	for i := range list {
		list[i] = mark
	}
}

// spoilt is whether a list's memory has another mark anywhere.
func spoilt(list []int, mark int) bool {
	return slices.ContainsFunc(list[:cap(list)], func(n int) bool { return n != mark })
}

func TestStepAnswersNewMemory(t *testing.T) {
	all := rows(t)
	kept := map[place]grid.Row{}
	for at := range all {
		kept[at] = grid.Step(at.state, at.event)
	}
	for at := range all {
		spoil(grid.Step(at.state, at.event).Do, -1)
	}
	for at, want := range all {
		wantRow(t, "answered ahead", at.state, at.event, kept[at], want)
		wantStep(t, "behind others that were spoilt", at.state, at.event, want)
		wantRow(t, "Rows behind them", at.state, at.event, grid.Rows()[at.state][at.event], want)
	}
}

func TestRowsAnswersNewMemory(t *testing.T) {
	all := rows(t)
	kept, other := grid.Rows(), grid.Rows()
	for _, line := range other {
		for _, r := range line {
			spoil(r.Do, -1)
		}
		clear(line[:cap(line)])
	}
	clear(other[:cap(other)])
	fresh := grid.Rows()
	for state := range states {
		for event := range events {
			want := wanted(all, state, event)
			wantRow(t, "answered ahead", state, event, kept[state][event], want)
			wantRow(t, "answered behind", state, event, fresh[state][event], want)
			wantStep(t, "behind Rows that were spoilt", state, event, want)
		}
	}
}

func TestNoTwoListsOfRowsShareMemory(t *testing.T) {
	got := grid.Rows()
	for state, line := range got {
		for event, r := range line {
			spoil(r.Do, state*events+event)
		}
	}
	for state, line := range got {
		for event, r := range line {
			if spoilt(r.Do, state*events+event) {
				t.Errorf("Rows, %s at %s: its actions share memory", nameOf(stateOf, state), nameOf(eventOf, event))
			}
		}
	}
}

func TestNoTwoStatesOfRowsShareMemory(t *testing.T) {
	got := grid.Rows()
	for state, line := range got {
		line = line[:cap(line)]
		for i := range line {
			line[i] = grid.Row{Next: state + 100}
		}
	}
	for state, line := range got {
		for _, r := range line[:cap(line)] {
			if r.Next != state+100 {
				t.Errorf("Rows, %s: its row shares memory", nameOf(stateOf, state))
				break
			}
		}
	}
}
