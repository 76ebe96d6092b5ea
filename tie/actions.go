package tie

import (
	"bytes"

	"antiphon/api"
	"antiphon/field"
)

// actions are what is done, each in its number's place.
func (u *turn) actions() []func() {
	return []func(){
		api.SendSabme:     u.sendSabme,
		api.SendDisc:      u.sendDisc,
		api.SendUa:        u.sendUa,
		api.SendDm:        u.sendDm,
		api.SendFrmr:      u.sendFrmr,
		api.SayConnect:    u.sayConnect,
		api.SayConnected:  u.sayConnected,
		api.SayDisconnect: u.sayDisconnect,
		api.SayReset:      u.sayReset,
		api.SayResetDone:  u.sayResetDone,
		api.Clear:         u.clear,
		api.Drop:          u.drop,
		api.StopAll:       u.stopAll,
		api.StartAck:      u.startAck,
		api.StartP:        u.startP,
		api.StartRej:      u.startRej,
		api.StopRej:       u.stopRej,
		api.StartBusy:     u.startBusy,
		api.Take:          u.take,
		api.Ack:           u.ack,
		api.PeerFree:      u.peerIsFree,
		api.PeerBusy:      u.peerIsBusy,
		api.GoBack:        u.goBack,
		api.SayRr0:        u.sayRr0,
		api.SayRr1:        u.sayRr1,
		api.SayRnr0:       u.sayRnr0,
		api.SayRnr1:       u.sayRnr1,
		api.SayRej0:       u.sayRej0,
		api.SayRej1:       u.sayRej1,
		api.PollRr:        u.pollRr,
		api.PollRnr:       u.pollRnr,
		api.Push:          u.push,
		api.Retry:         u.retry,
		api.RetryZero:     u.retryZero,
		api.Slow:          u.width.Slow,
	}
}

// send sends p from here to there.
func (u *turn) send(p api.Pdu) {
	p.To, p.From = u.there, u.near
	u.out.Send = append(u.out.Send, p)
}

func (u *turn) sendSabme() { u.ask(api.Sabme) }
func (u *turn) sendDisc()  { u.ask(api.Disc) }

// ask begins an attempt, or asks anew for the one that has begun.
func (u *turn) ask(kind int) {
	if u.fresh {
		u.own, u.out.Used = u.n, true
	}
	u.send(api.Pdu{Form: api.FormU, Kind: kind, Poll: true, Info: field.Number(u.own)})
}

func (u *turn) sendUa() { u.answer(api.Ua, field.Number(u.attempt)) }
func (u *turn) sendDm() { u.answer(api.Dm, field.Number(u.attempt)) }

func (u *turn) sendFrmr() {
	b, _ := field.PutReason(u.reason) // nothing of it can be refused
	u.answer(api.Frmr, b)
}

func (u *turn) answer(kind int, info []byte) {
	u.send(api.Pdu{Response: true, Form: api.FormU, Kind: kind, Poll: u.final, Info: info})
}

func (u *turn) sayConnect()    { u.say(api.SayConnect) }
func (u *turn) sayConnected()  { u.say(api.SayConnected) }
func (u *turn) sayDisconnect() { u.say(api.SayDisconnect) }
func (u *turn) sayReset()      { u.say(api.SayReset) }
func (u *turn) sayResetDone()  { u.say(api.SayResetDone) }

func (u *turn) say(action int) {
	u.out.Say = append(u.out.Say, action)
}

func (u *turn) sayRr0()  { u.status(api.Rr, false) }
func (u *turn) sayRr1()  { u.status(api.Rr, true) }
func (u *turn) sayRnr0() { u.status(api.Rnr, false) }
func (u *turn) sayRnr1() { u.status(api.Rnr, true) }
func (u *turn) sayRej0() { u.status(api.Rej, false) }
func (u *turn) sayRej1() { u.status(api.Rej, true) }

// status says how far it has come here.
func (u *turn) status(kind int, final bool) {
	u.send(api.Pdu{Response: true, Form: api.FormS, Kind: kind, Nr: u.numbers.Vr(), Poll: final})
}

func (u *turn) pollRr()  { u.poll(api.Rr) }
func (u *turn) pollRnr() { u.poll(api.Rnr) }

// poll asks how far it has come there: StartP's timer waits for that, and StartAck's no more.
func (u *turn) poll(kind int) {
	u.send(api.Pdu{Form: api.FormS, Kind: kind, Nr: u.numbers.Vr(), Poll: true})
	u.timers.Stop(api.TimeAck)
}

func (u *turn) startAck()  { u.timers.Start(api.TimeAck, u.c.Ack) }
func (u *turn) startP()    { u.timers.Start(api.TimeP, u.c.Poll) }
func (u *turn) startRej()  { u.timers.Start(api.TimeRej, u.c.Rej) }
func (u *turn) startBusy() { u.timers.Start(api.TimeBusy, u.c.Busy) }
func (u *turn) stopRej()   { u.timers.Stop(api.TimeRej) }

func (u *turn) stopAll() {
	for event := range u.timers.Each() {
		u.timers.Stop(event)
	}
}

func (u *turn) retry() {
	u.retries++
}

func (u *turn) retryZero() {
	u.retries = 0
	u.timers.Stop(api.TimeP)
}

// drop does nothing.
func (u *turn) drop() {}

// clear begins an epoch.
func (u *turn) clear() {
	u.numbers.Clear()
	u.row.Clear()
	u.width.Fresh()
	u.peerBusy = false
	u.epoch++
}

func (u *turn) peerIsBusy() {
	u.peerBusy = true
}

func (u *turn) peerIsFree() {
	u.peerBusy = false
	u.timers.Stop(api.TimeBusy)
}

// ack takes what is heard as an acknowledgement. tell has seen to it that its N(R) may be.
func (u *turn) ack() {
	up := u.numbers.Acked(u.heard.Nr)
	if up < 1 {
		return
	}
	u.row.Acked(up)
	u.width.Acked(up)
	u.retries = 0
	u.timers.Stop(api.TimeAck)
	if u.numbers.Out() > 0 {
		u.startAck()
	}
}

func (u *turn) goBack() {
	u.numbers.Back()
	u.row.Again()
	u.timers.Stop(api.TimeAck)
}

// take takes what is heard for the user.
func (u *turn) take() {
	u.out.Took = append(u.out.Took, bytes.Clone(u.heard.Info))
	u.numbers.Took()
}

// push sends what may be out and is not.
func (u *turn) push() {
	for u.mayPush() {
		sdu, _ := u.row.Next()
		u.send(api.Pdu{Form: api.FormI, Ns: u.numbers.Sent(), Nr: u.numbers.Vr(), Info: sdu})
	}
	if u.numbers.Out() > 0 && u.timers.Left(api.TimeAck) == 0 {
		u.startAck()
	}
}

func (u *turn) mayPush() bool {
	return !u.peerBusy && u.row.Waits() > 0 && u.numbers.Out() < u.width.Now()
}
