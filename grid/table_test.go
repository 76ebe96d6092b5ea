package grid_test

// table is the chapter's, written out: a line for each state and each event that it has: the actions in their order, and the next state. What is not here it does not have.
const table = `
Adm UConnect: SendSabme, RetryZero, StartAck; Setup
Adm GotSabme: SayConnect; Conn
Adm GotDisc: SendDm; Adm
Adm GotRrP: SendDm; Adm
Conn UAccept: SendUa, Clear; Normal
Conn UDisconnect: SendDm; Adm
Conn GotDisc: SendUa, SayDisconnect; Adm
Setup UDisconnect: SendDisc, RetryZero, StartAck; DConn
Setup GotSabme: SendUa; Setup
Setup GotDisc: SendDm, StopAll, SayDisconnect; Adm
Setup GotUa: StopAll, Clear, SayConnected; Normal
Setup GotDm: StopAll, SayDisconnect; Adm
Setup TimeAck: SendSabme, Retry, StartAck; Setup
Setup Spent: StopAll, SayDisconnect; Adm
Reset UDisconnect: SendDisc, RetryZero, StartAck; DConn
Reset GotSabme: SendUa; Reset
Reset GotDisc: SendDm, StopAll, SayDisconnect; Adm
Reset GotUa: StopAll, Clear, SayResetDone; Normal
Reset GotDm: StopAll, SayDisconnect; Adm
Reset TimeAck: SendSabme, Retry, StartAck; Reset
Reset Spent: StopAll, SayDisconnect; Adm
ResetCheck UDisconnect: SendDm; Adm
ResetCheck UResetOk: SendUa, Clear; Normal
ResetCheck GotDisc: SendUa, SayDisconnect; Adm
ResetCheck GotDm: SayDisconnect; Adm
ResetWait UDisconnect: SendDisc, RetryZero, StartAck; DConn
ResetWait UReset: SendSabme, RetryZero, StartAck; Reset
ResetWait GotSabme: SayReset; ResetCheck
ResetWait GotDisc: SendUa, SayDisconnect; Adm
ResetWait GotDm: SayDisconnect; Adm
DConn GotSabme: SendDm, StopAll; Adm
DConn GotDisc: SendUa; DConn
DConn GotUa: StopAll; Adm
DConn GotDm: StopAll; Adm
DConn TimeAck: SendDisc, Retry, StartAck; DConn
DConn Spent: StopAll; Adm
Error UDisconnect: StopAll, SendDisc, RetryZero, StartAck; DConn
Error UReset: StopAll, SendSabme, RetryZero, StartAck; Reset
Error GotSabme: StopAll, SayReset; ResetCheck
Error GotDisc: SendUa, StopAll, SayDisconnect; Adm
Error GotDm: StopAll, SayDisconnect; Adm
Error GotFrmr: StopAll, SayReset; ResetWait
Error GotRrP: SendFrmr; Error
Error TimeAck: SendFrmr, Retry, StartAck; Error
Error Spent: StopAll, SayReset; ResetWait
Normal UDisconnect: StopAll, SendDisc, RetryZero, StartAck; DConn
Normal UReset: StopAll, SendSabme, RetryZero, StartAck; Reset
Normal USend: Push; Normal
Normal UBusy: SayRnr0; Busy
Normal GotSabme: StopAll, SayReset; ResetCheck
Normal GotDisc: StopAll, SendUa, SayDisconnect; Adm
Normal GotDm: StopAll, SayDisconnect; Adm
Normal GotFrmr: StopAll, SayReset; ResetWait
Normal GotInfo: Ack, Take, SayRr0, Push; Normal
Normal GotInfoP: Ack, Take, SayRr1, Push; Normal
Normal GotGap: Ack, SayRej0, StartRej, Push; Reject
Normal GotGapP: Ack, SayRej1, StartRej, Push; Reject
Normal GotRr: PeerFree, Ack, Push; Normal
Normal GotRrP: PeerFree, Ack, SayRr1, Push; Normal
Normal GotRnr: Ack, PeerBusy, StartBusy; Normal
Normal GotRnrP: Ack, PeerBusy, StartBusy, SayRr1; Normal
Normal GotRej: PeerFree, Ack, GoBack, Slow, Push; Normal
Normal GotRejP: PeerFree, Ack, GoBack, Slow, SayRr1, Push; Normal
Normal GotWrong: StopAll, SendFrmr, RetryZero, StartAck; Error
Normal TimeAck: PollRr, StartP, Retry, Slow; Await
Normal TimeBusy: PollRr, StartP, Retry; Await
Normal Spent: StopAll, SayReset; ResetWait
Busy UDisconnect: StopAll, SendDisc, RetryZero, StartAck; DConn
Busy UReset: StopAll, SendSabme, RetryZero, StartAck; Reset
Busy USend: Push; Busy
Busy UFree: SayRr0; Normal
Busy GotSabme: StopAll, SayReset; ResetCheck
Busy GotDisc: StopAll, SendUa, SayDisconnect; Adm
Busy GotDm: StopAll, SayDisconnect; Adm
Busy GotFrmr: StopAll, SayReset; ResetWait
Busy GotInfo: Ack, SayRnr0, Push; Busy
Busy GotInfoP: Ack, SayRnr1, Push; Busy
Busy GotGap: Ack, SayRnr0, Push; Busy
Busy GotGapP: Ack, SayRnr1, Push; Busy
Busy GotRr: PeerFree, Ack, Push; Busy
Busy GotRrP: PeerFree, Ack, SayRnr1, Push; Busy
Busy GotRnr: Ack, PeerBusy, StartBusy; Busy
Busy GotRnrP: Ack, PeerBusy, StartBusy, SayRnr1; Busy
Busy GotRej: PeerFree, Ack, GoBack, Slow, Push; Busy
Busy GotRejP: PeerFree, Ack, GoBack, Slow, SayRnr1, Push; Busy
Busy GotWrong: StopAll, SendFrmr, RetryZero, StartAck; Error
Busy TimeAck: PollRnr, StartP, Retry, Slow; AwaitBusy
Busy TimeBusy: PollRnr, StartP, Retry; AwaitBusy
Busy Spent: StopAll, SayReset; ResetWait
Reject UDisconnect: StopAll, SendDisc, RetryZero, StartAck; DConn
Reject UReset: StopAll, SendSabme, RetryZero, StartAck; Reset
Reject USend: Push; Reject
Reject UBusy: StopRej, SayRnr0; Busy
Reject GotSabme: StopAll, SayReset; ResetCheck
Reject GotDisc: StopAll, SendUa, SayDisconnect; Adm
Reject GotDm: StopAll, SayDisconnect; Adm
Reject GotFrmr: StopAll, SayReset; ResetWait
Reject GotInfo: Ack, Take, StopRej, SayRr0, Push; Normal
Reject GotInfoP: Ack, Take, StopRej, SayRr1, Push; Normal
Reject GotGap: Ack, Push; Reject
Reject GotGapP: Ack, SayRr1, Push; Reject
Reject GotRr: PeerFree, Ack, Push; Reject
Reject GotRrP: PeerFree, Ack, SayRr1, Push; Reject
Reject GotRnr: Ack, PeerBusy, StartBusy; Reject
Reject GotRnrP: Ack, PeerBusy, StartBusy, SayRr1; Reject
Reject GotRej: PeerFree, Ack, GoBack, Slow, Push; Reject
Reject GotRejP: PeerFree, Ack, GoBack, Slow, SayRr1, Push; Reject
Reject GotWrong: StopAll, SendFrmr, RetryZero, StartAck; Error
Reject TimeAck: PollRr, StartP, Retry, Slow; AwaitReject
Reject TimeRej: PollRr, StartP, Retry; AwaitReject
Reject TimeBusy: PollRr, StartP, Retry; AwaitReject
Reject Spent: StopAll, SayReset; ResetWait
Await UDisconnect: StopAll, SendDisc, RetryZero, StartAck; DConn
Await UReset: StopAll, SendSabme, RetryZero, StartAck; Reset
Await UBusy: SayRnr0; AwaitBusy
Await GotSabme: StopAll, SayReset; ResetCheck
Await GotDisc: StopAll, SendUa, SayDisconnect; Adm
Await GotDm: StopAll, SayDisconnect; Adm
Await GotFrmr: StopAll, SayReset; ResetWait
Await GotInfo: Ack, Take, SayRr0; Await
Await GotInfoP: Ack, Take, SayRr1; Await
Await GotInfoF: PeerFree, Ack, Take, GoBack, RetryZero, SayRr0, Push; Normal
Await GotGap: Ack, SayRej0, StartRej; AwaitReject
Await GotGapP: Ack, SayRej1, StartRej; AwaitReject
Await GotGapF: PeerFree, Ack, GoBack, RetryZero, SayRej0, StartRej, Push; Reject
Await GotRr: PeerFree, Ack; Await
Await GotRrP: PeerFree, Ack, SayRr1; Await
Await GotRrF: PeerFree, Ack, GoBack, RetryZero, Push; Normal
Await GotRnr: Ack, PeerBusy; Await
Await GotRnrP: Ack, PeerBusy, SayRr1; Await
Await GotRnrF: Ack, PeerBusy, StartBusy, GoBack, RetryZero; Normal
Await GotRej: PeerFree, Ack; Await
Await GotRejP: PeerFree, Ack, SayRr1; Await
Await GotRejF: PeerFree, Ack, GoBack, Slow, RetryZero, Push; Normal
Await GotWrong: StopAll, SendFrmr, RetryZero, StartAck; Error
Await TimeP: PollRr, StartP, Retry; Await
Await Spent: StopAll, SayReset; ResetWait
AwaitBusy UDisconnect: StopAll, SendDisc, RetryZero, StartAck; DConn
AwaitBusy UReset: StopAll, SendSabme, RetryZero, StartAck; Reset
AwaitBusy UFree: SayRr0; Await
AwaitBusy GotSabme: StopAll, SayReset; ResetCheck
AwaitBusy GotDisc: StopAll, SendUa, SayDisconnect; Adm
AwaitBusy GotDm: StopAll, SayDisconnect; Adm
AwaitBusy GotFrmr: StopAll, SayReset; ResetWait
AwaitBusy GotInfo: Ack, SayRnr0; AwaitBusy
AwaitBusy GotInfoP: Ack, SayRnr1; AwaitBusy
AwaitBusy GotInfoF: PeerFree, Ack, GoBack, RetryZero, SayRnr0, Push; Busy
AwaitBusy GotGap: Ack, SayRnr0; AwaitBusy
AwaitBusy GotGapP: Ack, SayRnr1; AwaitBusy
AwaitBusy GotGapF: PeerFree, Ack, GoBack, RetryZero, SayRnr0, Push; Busy
AwaitBusy GotRr: PeerFree, Ack; AwaitBusy
AwaitBusy GotRrP: PeerFree, Ack, SayRnr1; AwaitBusy
AwaitBusy GotRrF: PeerFree, Ack, GoBack, RetryZero, Push; Busy
AwaitBusy GotRnr: Ack, PeerBusy; AwaitBusy
AwaitBusy GotRnrP: Ack, PeerBusy, SayRnr1; AwaitBusy
AwaitBusy GotRnrF: Ack, PeerBusy, StartBusy, GoBack, RetryZero; Busy
AwaitBusy GotRej: PeerFree, Ack; AwaitBusy
AwaitBusy GotRejP: PeerFree, Ack, SayRnr1; AwaitBusy
AwaitBusy GotRejF: PeerFree, Ack, GoBack, Slow, RetryZero, Push; Busy
AwaitBusy GotWrong: StopAll, SendFrmr, RetryZero, StartAck; Error
AwaitBusy TimeP: PollRnr, StartP, Retry; AwaitBusy
AwaitBusy Spent: StopAll, SayReset; ResetWait
AwaitReject UDisconnect: StopAll, SendDisc, RetryZero, StartAck; DConn
AwaitReject UReset: StopAll, SendSabme, RetryZero, StartAck; Reset
AwaitReject UBusy: StopRej, SayRnr0; AwaitBusy
AwaitReject GotSabme: StopAll, SayReset; ResetCheck
AwaitReject GotDisc: StopAll, SendUa, SayDisconnect; Adm
AwaitReject GotDm: StopAll, SayDisconnect; Adm
AwaitReject GotFrmr: StopAll, SayReset; ResetWait
AwaitReject GotInfo: Ack, Take, StopRej, SayRr0; Await
AwaitReject GotInfoP: Ack, Take, StopRej, SayRr1; Await
AwaitReject GotInfoF: PeerFree, Ack, Take, StopRej, GoBack, RetryZero, SayRr0, Push; Normal
AwaitReject GotGap: Ack; AwaitReject
AwaitReject GotGapP: Ack, SayRr1; AwaitReject
AwaitReject GotGapF: PeerFree, Ack, GoBack, RetryZero, Push; Reject
AwaitReject GotRr: PeerFree, Ack; AwaitReject
AwaitReject GotRrP: PeerFree, Ack, SayRr1; AwaitReject
AwaitReject GotRrF: PeerFree, Ack, GoBack, RetryZero, Push; Reject
AwaitReject GotRnr: Ack, PeerBusy; AwaitReject
AwaitReject GotRnrP: Ack, PeerBusy, SayRr1; AwaitReject
AwaitReject GotRnrF: Ack, PeerBusy, StartBusy, GoBack, RetryZero; Reject
AwaitReject GotRej: PeerFree, Ack; AwaitReject
AwaitReject GotRejP: PeerFree, Ack, SayRr1; AwaitReject
AwaitReject GotRejF: PeerFree, Ack, GoBack, Slow, RetryZero, Push; Reject
AwaitReject GotWrong: StopAll, SendFrmr, RetryZero, StartAck; Error
AwaitReject TimeP: PollRr, StartP, Retry; AwaitReject
AwaitReject Spent: StopAll, SayReset; ResetWait
`
