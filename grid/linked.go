package grid

import "antiphon/api"

// linked are the rules of every state in which both ends are connected.
func linked(int) []rule {
	return []rule{
		{api.UReset, []int{api.StopAll, api.SendSabme, api.RetryZero, api.StartAck}, api.Reset},
		{api.UDisconnect, []int{api.StopAll, api.SendDisc, api.RetryZero, api.StartAck}, api.DConn},
		{api.GotSabme, []int{api.StopAll, api.SayReset}, api.ResetCheck},
		{api.GotDisc, []int{api.StopAll, api.SendUa, api.SayDisconnect}, api.Adm},
		{api.GotDm, []int{api.StopAll, api.SayDisconnect}, api.Adm},
		{api.GotFrmr, []int{api.StopAll, api.SayReset}, api.ResetWait},
		{api.GotWrong, []int{api.StopAll, api.SendFrmr, api.RetryZero, api.StartAck}, api.Error},
		{api.Spent, []int{api.StopAll, api.SayReset}, api.ResetWait},
	}
}

// partner is the state that awaits an answer to a poll, of one that does not; and the other way round.
func partner(state int) int {
	switch state {
	case api.Normal:
		return api.Await
	case api.Busy:
		return api.AwaitBusy
	case api.Reject:
		return api.AwaitReject
	case api.Await:
		return api.Normal
	case api.AwaitBusy:
		return api.Busy
	}
	return api.Reject
}

// asked is what answers a P: who is busy says so.
func asked(state int) int {
	if isBusy(state) {
		return api.SayRnr1
	}
	return api.SayRr1
}

// poll is what asks with a P: who is busy says so.
func poll(state int) int {
	if isBusy(state) {
		return api.PollRnr
	}
	return api.PollRr
}

func isBusy(state int) bool {
	return state == api.Busy || state == api.AwaitBusy
}

// sending are the rules of a linked state that does not await an answer to a poll.
func sending(state int) []rule {
	answer, ask, await := asked(state), poll(state), partner(state)
	return []rule{
		{api.USend, []int{api.Push}, state},
		{api.GotRr, []int{api.PeerFree, api.Ack, api.Push}, state},
		{api.GotRrP, []int{api.PeerFree, api.Ack, answer, api.Push}, state},
		{api.GotRnr, []int{api.Ack, api.PeerBusy, api.StartBusy}, state},
		{api.GotRnrP, []int{api.Ack, api.PeerBusy, api.StartBusy, answer}, state},
		{api.GotRej, []int{api.PeerFree, api.Ack, api.GoBack, api.Slow, api.Push}, state},
		{api.GotRejP, []int{api.PeerFree, api.Ack, api.GoBack, api.Slow, answer, api.Push}, state},
		{api.TimeAck, []int{ask, api.StartP, api.Retry, api.Slow}, await},
		{api.TimeBusy, []int{ask, api.StartP, api.Retry}, await},
	}
}

// awaiting are the rules of a linked state that awaits an answer to a poll.
func awaiting(state int) []rule {
	answer, ask, answered := asked(state), poll(state), partner(state)
	return []rule{
		{api.GotRr, []int{api.PeerFree, api.Ack}, state},
		{api.GotRrP, []int{api.PeerFree, api.Ack, answer}, state},
		{api.GotRrF, []int{api.PeerFree, api.Ack, api.GoBack, api.RetryZero, api.Push}, answered},
		{api.GotRnr, []int{api.Ack, api.PeerBusy}, state},
		{api.GotRnrP, []int{api.Ack, api.PeerBusy, answer}, state},
		{api.GotRnrF, []int{api.Ack, api.PeerBusy, api.StartBusy, api.GoBack, api.RetryZero}, answered},
		{api.GotRej, []int{api.PeerFree, api.Ack}, state},
		{api.GotRejP, []int{api.PeerFree, api.Ack, answer}, state},
		{api.GotRejF, []int{api.PeerFree, api.Ack, api.GoBack, api.Slow, api.RetryZero, api.Push}, answered},
		{api.TimeP, []int{ask, api.StartP, api.Retry}, state},
	}
}

func normal() []rule {
	return []rule{
		{api.UBusy, []int{api.SayRnr0}, api.Busy},
		{api.GotInfo, []int{api.Ack, api.Take, api.SayRr0, api.Push}, api.Normal},
		{api.GotInfoP, []int{api.Ack, api.Take, api.SayRr1, api.Push}, api.Normal},
		{api.GotGap, []int{api.Ack, api.SayRej0, api.StartRej, api.Push}, api.Reject},
		{api.GotGapP, []int{api.Ack, api.SayRej1, api.StartRej, api.Push}, api.Reject},
	}
}

func busy() []rule {
	return []rule{
		{api.UFree, []int{api.SayRr0}, api.Normal},
		{api.GotInfo, []int{api.Ack, api.SayRnr0, api.Push}, api.Busy},
		{api.GotInfoP, []int{api.Ack, api.SayRnr1, api.Push}, api.Busy},
		{api.GotGap, []int{api.Ack, api.SayRnr0, api.Push}, api.Busy},
		{api.GotGapP, []int{api.Ack, api.SayRnr1, api.Push}, api.Busy},
	}
}

func reject() []rule {
	return []rule{
		{api.UBusy, []int{api.StopRej, api.SayRnr0}, api.Busy},
		{api.GotInfo, []int{api.Ack, api.Take, api.StopRej, api.SayRr0, api.Push}, api.Normal},
		{api.GotInfoP, []int{api.Ack, api.Take, api.StopRej, api.SayRr1, api.Push}, api.Normal},
		{api.GotGap, []int{api.Ack, api.Push}, api.Reject},
		{api.GotGapP, []int{api.Ack, api.SayRr1, api.Push}, api.Reject},
		{api.TimeRej, []int{api.PollRr, api.StartP, api.Retry}, api.AwaitReject},
	}
}

func await() []rule {
	return []rule{
		{api.UBusy, []int{api.SayRnr0}, api.AwaitBusy},
		{api.GotInfo, []int{api.Ack, api.Take, api.SayRr0}, api.Await},
		{api.GotInfoP, []int{api.Ack, api.Take, api.SayRr1}, api.Await},
		{api.GotInfoF, []int{api.PeerFree, api.Ack, api.Take, api.GoBack, api.RetryZero, api.SayRr0, api.Push}, api.Normal},
		{api.GotGap, []int{api.Ack, api.SayRej0, api.StartRej}, api.AwaitReject},
		{api.GotGapP, []int{api.Ack, api.SayRej1, api.StartRej}, api.AwaitReject},
		{api.GotGapF, []int{api.PeerFree, api.Ack, api.GoBack, api.RetryZero, api.SayRej0, api.StartRej, api.Push}, api.Reject},
	}
}

func awaitBusy() []rule {
	return []rule{
		{api.UFree, []int{api.SayRr0}, api.Await},
		{api.GotInfo, []int{api.Ack, api.SayRnr0}, api.AwaitBusy},
		{api.GotInfoP, []int{api.Ack, api.SayRnr1}, api.AwaitBusy},
		{api.GotInfoF, []int{api.PeerFree, api.Ack, api.GoBack, api.RetryZero, api.SayRnr0, api.Push}, api.Busy},
		{api.GotGap, []int{api.Ack, api.SayRnr0}, api.AwaitBusy},
		{api.GotGapP, []int{api.Ack, api.SayRnr1}, api.AwaitBusy},
		{api.GotGapF, []int{api.PeerFree, api.Ack, api.GoBack, api.RetryZero, api.SayRnr0, api.Push}, api.Busy},
	}
}

func awaitReject() []rule {
	return []rule{
		{api.UBusy, []int{api.StopRej, api.SayRnr0}, api.AwaitBusy},
		{api.GotInfo, []int{api.Ack, api.Take, api.StopRej, api.SayRr0}, api.Await},
		{api.GotInfoP, []int{api.Ack, api.Take, api.StopRej, api.SayRr1}, api.Await},
		{api.GotInfoF, []int{api.PeerFree, api.Ack, api.Take, api.StopRej, api.GoBack, api.RetryZero, api.SayRr0, api.Push}, api.Normal},
		{api.GotGap, []int{api.Ack}, api.AwaitReject},
		{api.GotGapP, []int{api.Ack, api.SayRr1}, api.AwaitReject},
		{api.GotGapF, []int{api.PeerFree, api.Ack, api.GoBack, api.RetryZero, api.Push}, api.Reject},
	}
}
