package client

import (
	"cableway/alarm"
	"cableway/api"
	"cableway/arena"
	"cableway/attempt"
	"cableway/chunks"
	"cableway/credit"
	"cableway/frame"
	"cableway/handler"
	"cableway/record"
	"cableway/send"
	"cableway/settle"
	"cableway/slot"
)

// What comes next for the hand that asks.
const (
	idle        = iota // nothing: it asks for nothing
	lookUp             // what can be told, or taken, without a cell
	readSlot           // which word the call's slot has
	openSlot           // its next turn
	askDeadline        // the alarm of its end
	sendFirst          // its first try
	undo               // the end of its turn, as it is refused
	cancel             // the end of the turn of a call that it cancels
)

// asking is what the hand that asks does.
type asking struct {
	next int
	ask  api.Ask
	call uint32 // whose it is
	slot int
	word uint64         // what was read there
	r    *record.Record // of the call
	send send.Task
	end  settle.Task
}

// askOn lets the hand that asks do one step.
func (c *Client) askOn(a *arena.Arena, now api.Tick) {
	switch c.asks.next {
	case lookUp:
		c.lookUp(now)
	case readSlot:
		c.asks.word = a.Read(c.table.Cell(c.asks.slot))
		c.asks.next = openSlot
	case openSlot:
		c.open(a, now)
	case askDeadline:
		c.askDeadline(a, now)
	case sendFirst:
		c.sendFirst(a, now)
	case undo:
		c.undo(a, now)
	case cancel:
		c.cancelOn(a, now)
	}
}

// tell tells what became of what was asked for, which ends it.
func (c *Client) tell(err api.Errno, v uint32, now api.Tick) {
	e := api.Event{Kind: api.EvReturn, Call: c.asks.call, Ask: c.asks.ask, Err: err, Value: v}
	if r := c.book.Find(c.asks.call); r != nil {
		e.How = r.How
	}
	c.note(e, now)
	c.asks = asking{}
}

// lookUp is what is done first, without a cell.
func (c *Client) lookUp(now api.Tick) {
	if c.asks.ask.What == api.AskCall {
		c.call(now)
		return
	}
	r := c.book.Find(c.asks.call)
	if r == nil {
		c.tell(api.ErrNone, 0, now)
		return
	}
	switch c.asks.ask.What {
	case api.AskCancel:
		c.cancel(r, now)
	case api.AskPoll:
		c.poll(r, now)
	case api.AskRecv:
		c.read(r, now)
	case api.AskGrant:
		c.grant(r, now)
	default:
		c.tell(api.ErrInput, 0, now)
	}
}

// call begins a call, if there is all that it needs.
func (c *Client) call(now api.Tick) {
	if err := c.take(now); err != api.OK {
		c.tell(err, 0, now)
		return
	}
	c.asks.next = readSlot
}

// take takes what a call needs; where that fails, nothing is taken.
func (c *Client) take(now api.Tick) api.Errno {
	x := c.asks.ask
	switch {
	case !c.may(x, now):
		return api.ErrInput
	case !c.book.Room():
		return api.ErrFull
	case !c.admit.Take(x.Service):
		return api.ErrBusy
	}
	at, ok := c.table.Pick()
	if !ok {
		c.admit.Give(x.Service)
		return api.ErrNone
	}
	// The breaker is asked last: a call that it lets go to try must go.
	if !c.breaker(x.Service).May(now) {
		c.back(x.Service, at, slot.Word(0, api.SlotFree))
		return api.ErrOpen
	}
	c.asks.slot = at
	return api.OK
}

// may tells whether a call may be: there is such a service, and such a method, and its end is still to come.
func (c *Client) may(x api.Ask, now api.Tick) bool {
	return x.Service >= 0 && x.Service < len(c.breakers) && handler.Known(x.Method) &&
		x.End > max(0, now) && x.End < api.Never
}

// open begins the next turn of the call's slot: from then on the call goes on.
func (c *Client) open(a *arena.Arena, now api.Tick) {
	x, at := c.asks.ask, c.asks.slot
	w, ok := slot.Open(c.asks.word, handler.Streams(x.Method), c.table.Most())
	if !ok {
		c.refuse(x.Service, c.asks.word, api.ErrNone, now)
		return
	}
	a.Write(c.table.Cell(at), w)
	r := c.record(slot.Gen(w))
	c.book.Put(r)
	c.asks.r = r
	f, _ := alarm.Ask(api.Alarm{At: r.End, Client: c.id, Slot: at, Gen: r.F.Gen, What: api.ForDeadline})
	c.sends(f, askDeadline)
}

// record is that of the call, in a turn of its slot.
func (c *Client) record(gen int) *record.Record {
	x := c.asks.ask
	f := api.Frame{
		Kind: api.KindRequest, Client: c.id, Service: x.Service, Slot: c.asks.slot, Gen: gen, Call: c.asks.call,
		Sure: x.Sure, Stream: handler.Streams(x.Method), Seq: x.Method, Value: x.Arg,
	}
	// No window has room for more, so all of it is granted.
	whole, _ := credit.New(c.window).Grant(api.MostWindow)
	return &record.Record{
		F: f, End: x.End, Tries: attempt.New(f, x.End, c.hedges), Credit: whole, Chunks: chunks.New(), Sending: true,
	}
}

// sends lets a frame be sent next.
func (c *Client) sends(f api.Frame, next int) {
	w, _ := frame.Put(f)
	c.asks.send, c.asks.next = send.New(c.ring(f), w), next
}

// sent does a step of what is sent, and tells whether it was sent; where it has no room, the turn is ended again.
func (c *Client) sent(a *arena.Arena) bool {
	c.asks.send = c.asks.send.Step(a)
	err, done := c.asks.send.Done()
	if done && err != api.OK {
		c.asks.r.Sending = false
		c.asks.end, c.asks.next = c.settle(c.asks.r), undo
	}
	return done && err == api.OK
}

// askDeadline asks for the alarm of the call's end; then its tries begin: the first is sent by this hand, all else by the pump.
func (c *Client) askDeadline(a *arena.Arena, now api.Tick) {
	if !c.sent(a) {
		return
	}
	for _, m := range c.asks.r.Tries.Begin(now) {
		if m.What == api.MoveSend {
			c.sends(m.Frame, sendFirst)
		} else {
			c.wait(m.Alarm)
		}
	}
}

// sendFirst sends the first try: then the call is accepted.
func (c *Client) sendFirst(a *arena.Arena, now api.Tick) {
	if !c.sent(a) {
		return
	}
	r := c.asks.r
	r.Sending, r.Sent = false, true
	c.owe(r)
	c.tell(api.OK, 0, now)
}

// undo ends the turn of a call of which something had no room. If that ended already, all has its course.
func (c *Client) undo(a *arena.Arena, now api.Tick) {
	c.asks.end = c.asks.end.Step(a)
	switch err, done := c.asks.end.Done(); {
	case done && err == api.OK:
		c.book.Drop(c.asks.call)
		c.refuse(c.asks.ask.Service, c.asks.end.Word(), api.ErrFull, now)
	case done:
		c.tell(api.OK, 0, now)
	}
}

// refuse refuses a call that the breaker had let go: its slot, that has a word, is back, and the breaker hears ill.
func (c *Client) refuse(service int, w uint64, err api.Errno, now api.Tick) {
	c.back(service, c.asks.slot, w)
	c.breaker(service).Note(now, false)
	c.tell(err, 0, now)
}

// cancel begins to cancel a call.
func (c *Client) cancel(r *record.Record, now api.Tick) {
	if !goesOn(r) {
		c.tell(api.ErrStale, 0, now)
		return
	}
	c.asks.r, c.asks.end, c.asks.next = r, c.settle(r), cancel
}

// cancelOn goes on with that; the other hand may end the call meanwhile.
func (c *Client) cancelOn(a *arena.Arena, now api.Tick) {
	c.asks.end = c.asks.end.Step(a)
	err, done := c.asks.end.Done()
	if !done {
		return
	}
	if err == api.OK {
		c.ended(c.asks.r, api.EndCancelled, 0, c.asks.end.Word(), now)
	}
	c.tell(err, 0, now)
}

// poll tells how a call ended, when its service was told all; then its record goes.
func (c *Client) poll(r *record.Record, now api.Tick) {
	if goesOn(r) || r.Owes {
		c.tell(api.ErrBusy, 0, now)
		return
	}
	c.tell(api.OK, r.Value, now)
	c.book.Drop(r.F.Call)
}

// read tells the first chunk that was not read.
func (c *Client) read(r *record.Record, now api.Tick) {
	v, ok := r.Chunks.Read()
	switch {
	case ok:
		r.Credit, _ = r.Credit.Take()
		c.tell(api.OK, v, now)
	case r.F.Stream && goesOn(r):
		c.tell(api.ErrBusy, 0, now)
	default:
		c.tell(api.ErrEmpty, 0, now)
	}
}

// grant lets more chunks come, as far as the window has room.
func (c *Client) grant(r *record.Record, now api.Tick) {
	switch {
	case !r.F.Stream:
		c.tell(api.ErrInput, 0, now)
		return
	case !goesOn(r):
		c.tell(api.ErrStale, 0, now)
		return
	}
	after, n := r.Credit.Grant(int(c.asks.ask.Arg))
	if n == 0 {
		c.tell(api.ErrFull, 0, now)
		return
	}
	r.Credit = after
	c.pump.Put(about(r, api.KindCredit, uint32(n)))
	c.tell(api.OK, uint32(n), now)
}
