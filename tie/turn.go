package tie

import (
	"antiphon/api"
	"antiphon/field"
	"antiphon/grid"
	"antiphon/pdu"
)

// turn is one call while it is done: what it is about, and what has come of it so far.
type turn struct {
	*Tie
	heard   api.Pdu
	final   bool // F of a Ua, Dm or Frmr
	attempt int  // the number of the one that it is about, behind a Ua or Dm
	fresh   bool // does a new one begin, of number n, where it asks?
	n       int
	out     Out
}

// do does an event, as grid says.
func (u *turn) do(event int) {
	row := grid.Step(u.state, event)
	actions := u.actions()
	for _, action := range row.Do {
		actions[action]()
	}
	u.state = row.Next
}

// hear does the event that what is heard is, but where the attempts' numbers say otherwise.
func (u *turn) hear(event int) {
	switch event {
	case api.GotSabme:
		u.hearSabme()
		return
	case api.GotUa:
		if u.attempt != u.own {
			return
		}
	case api.GotDm:
		if u.asks() && u.attempt != u.own {
			return
		}
	case api.GotWrong:
		u.reason = u.wrong()
	}
	u.do(event)
}

// hearSabme keeps the number of a new one in every state: grid has something for it, or it is Conn or ResetCheck, where nothing else is done.
func (u *turn) hearSabme() {
	again := u.attempt == u.other
	switch {
	case again && isData(u.state): // its Ua was lost
		u.sendUa()
	case again && u.isPast(): // its attempt is over
		u.sendDm()
	default:
		u.other = u.attempt
		u.do(api.GotSabme)
	}
}

// isPast says whether the other one's last attempt has come to its end.
func (u *turn) isPast() bool {
	switch u.state {
	case api.Adm, api.DConn, api.ResetWait, api.Error:
		return true
	}
	return false
}

// asks says whether an attempt of one's own waits for its answer.
func (u *turn) asks() bool {
	switch u.state {
	case api.Setup, api.Reset, api.DConn:
		return true
	}
	return false
}

// wrong is why what is heard may not be: its N(R).
func (u *turn) wrong() field.Reason {
	return field.Reason{
		Control:  control(u.heard),
		Vs:       u.numbers.Vs(),
		Vr:       u.numbers.Vr(),
		Response: u.heard.Response,
		Z:        true,
	}
}

// controlAt is where the control field begins: the SAPs stand ahead.
const controlAt = 2

// control is the control field, as a number, of a PDU that may be.
func control(p api.Pdu) int {
	b, _ := pdu.Encode(p)
	if p.Form == api.FormU {
		return int(b[controlAt])
	}
	return int(b[controlAt])<<8 | int(b[controlAt+1])
}

// attemptOf is the number that a U has behind it; 0 where there is none: what an I has behind it is a user's.
func attemptOf(p api.Pdu) int {
	if p.Form != api.FormU {
		return 0
	}
	n, _ := field.ReadNumber(p.Info)
	return n
}

// time does the event that a timer is told as.
func (u *turn) time(event int) {
	if !grid.Step(u.state, event).Known {
		return
	}
	if u.retries >= u.c.Tries {
		event = api.Spent
	}
	u.do(event)
}
