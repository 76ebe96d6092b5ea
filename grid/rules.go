package grid

import "antiphon/api"

// rule is what one event does in a state.
type rule struct {
	event int
	do    []int
	next  int
}

// ownRules are those that a state shares with no other one.
func ownRules(state int) []rule {
	switch state {
	case api.Adm:
		return adm()
	case api.Conn:
		return conn()
	case api.Setup:
		return setup()
	case api.Reset:
		return reset()
	case api.ResetCheck:
		return resetCheck()
	case api.ResetWait:
		return resetWait()
	case api.DConn:
		return dConn()
	case api.Error:
		return inError()
	case api.Normal:
		return normal()
	case api.Busy:
		return busy()
	case api.Reject:
		return reject()
	case api.Await:
		return await()
	case api.AwaitBusy:
		return awaitBusy()
	case api.AwaitReject:
		return awaitReject()
	}
	return nil
}

func adm() []rule {
	return []rule{
		{api.UConnect, []int{api.SendSabme, api.RetryZero, api.StartAck}, api.Setup},
		{api.GotSabme, []int{api.SayConnect}, api.Conn},
		{api.GotDisc, []int{api.SendDm}, api.Adm},
		{api.GotRrP, []int{api.SendDm}, api.Adm},
	}
}

func conn() []rule {
	return []rule{
		{api.UAccept, []int{api.SendUa, api.Clear}, api.Normal},
		{api.UDisconnect, []int{api.SendDm}, api.Adm},
		{api.GotDisc, []int{api.SendUa, api.SayDisconnect}, api.Adm},
	}
}

func setup() []rule {
	return []rule{
		{api.GotUa, []int{api.StopAll, api.Clear, api.SayConnected}, api.Normal},
	}
}

func reset() []rule {
	return []rule{
		{api.GotUa, []int{api.StopAll, api.Clear, api.SayResetDone}, api.Normal},
	}
}

// asking are the rules of who has sent a Sabme.
func asking(state int) []rule {
	return []rule{
		{api.GotDm, []int{api.StopAll, api.SayDisconnect}, api.Adm},
		{api.GotSabme, []int{api.SendUa}, state},
		{api.GotDisc, []int{api.SendDm, api.StopAll, api.SayDisconnect}, api.Adm},
		{api.UDisconnect, []int{api.SendDisc, api.RetryZero, api.StartAck}, api.DConn},
		{api.TimeAck, []int{api.SendSabme, api.Retry, api.StartAck}, state},
		{api.Spent, []int{api.StopAll, api.SayDisconnect}, api.Adm},
	}
}

func resetCheck() []rule {
	return []rule{
		{api.UResetOk, []int{api.SendUa, api.Clear}, api.Normal},
		{api.UDisconnect, []int{api.SendDm}, api.Adm},
		{api.GotDisc, []int{api.SendUa, api.SayDisconnect}, api.Adm},
		{api.GotDm, []int{api.SayDisconnect}, api.Adm},
	}
}

func resetWait() []rule {
	return []rule{
		{api.UReset, []int{api.SendSabme, api.RetryZero, api.StartAck}, api.Reset},
		{api.UDisconnect, []int{api.SendDisc, api.RetryZero, api.StartAck}, api.DConn},
		{api.GotSabme, []int{api.SayReset}, api.ResetCheck},
		{api.GotDisc, []int{api.SendUa, api.SayDisconnect}, api.Adm},
		{api.GotDm, []int{api.SayDisconnect}, api.Adm},
	}
}

func dConn() []rule {
	return []rule{
		{api.GotUa, []int{api.StopAll}, api.Adm},
		{api.GotDm, []int{api.StopAll}, api.Adm},
		{api.GotSabme, []int{api.SendDm, api.StopAll}, api.Adm},
		{api.GotDisc, []int{api.SendUa}, api.DConn},
		{api.TimeAck, []int{api.SendDisc, api.Retry, api.StartAck}, api.DConn},
		{api.Spent, []int{api.StopAll}, api.Adm},
	}
}

// inError are those of state Error.
func inError() []rule {
	return []rule{
		{api.GotSabme, []int{api.StopAll, api.SayReset}, api.ResetCheck},
		{api.GotDisc, []int{api.SendUa, api.StopAll, api.SayDisconnect}, api.Adm},
		{api.GotDm, []int{api.StopAll, api.SayDisconnect}, api.Adm},
		{api.GotFrmr, []int{api.StopAll, api.SayReset}, api.ResetWait},
		{api.GotRrP, []int{api.SendFrmr}, api.Error},
		{api.TimeAck, []int{api.SendFrmr, api.Retry, api.StartAck}, api.Error},
		{api.Spent, []int{api.StopAll, api.SayReset}, api.ResetWait},
		{api.UReset, []int{api.StopAll, api.SendSabme, api.RetryZero, api.StartAck}, api.Reset},
		{api.UDisconnect, []int{api.StopAll, api.SendDisc, api.RetryZero, api.StartAck}, api.DConn},
	}
}
