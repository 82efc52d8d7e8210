package client

import (
	"cableway/alarm"
	"cableway/api"
	"cableway/arena"
	"cableway/fetch"
	"cableway/frame"
	"cableway/record"
	"cableway/send"
	"cableway/settle"
)

// What comes next for the hand that pumps.
const (
	turn     = iota // what the pump turns to
	sending         // of the first frame that waits
	fetching        // from one of its rings
	ending          // of the turn of a call
)

// pumping is what the hand that pumps does.
type pumping struct {
	next  int
	frame api.Frame // what is sent
	send  send.Task
	from  int // what is fetched from, as the pump turns
	fetch fetch.Task
	got   [api.TurnReply + api.MostServices]uint64 // how many frames were fetched there
	end   settle.Task
	r     *record.Record // whose turn is ended
	how   int            // and how that would be
	value uint32
}

// pumpOn lets the hand that pumps do one step. Turning is none of its own: what is turned to begins in the same step.
func (c *Client) pumpOn(a *arena.Arena, now api.Tick) {
	if c.pumps.next == turn {
		c.turn()
	}
	switch c.pumps.next {
	case sending:
		c.sendOn(a, now)
	case fetching:
		c.fetchOn(a, now)
	case ending:
		c.endOn(a, now)
	}
}

// turn turns to what comes next.
func (c *Client) turn() {
	to := c.pump.Turn()
	if to == api.TurnSend {
		c.sendNext()
		return
	}
	c.pumps.from = to
	c.pumps.fetch, c.pumps.next = fetch.New(c.source(to), c.pumps.got[to]), fetching
}

// source is the ring that a turn of the pump fetches from.
func (c *Client) source(to int) api.Ring {
	if to == api.TurnDue {
		return c.wires.Due
	}
	return c.wires.Replies[to-api.TurnReply]
}

// ring is the one that a frame is sent into; one that may not be, where there is no such service.
func (c *Client) ring(f api.Frame) api.Ring {
	switch {
	case f.Kind == api.KindAlarm:
		return c.wires.Alarms
	case f.Service < 0 || f.Service >= len(c.wires.Requests):
		return api.Ring{}
	}
	return c.wires.Requests[f.Service]
}

// sendNext begins to send the first frame that waits. A request of a call that ended goes unsent, and so does what is no frame.
func (c *Client) sendNext() {
	f, _ := c.pump.First()
	w, ok := frame.Put(f)
	if !ok || f.Kind == api.KindRequest && c.goingOn(f) == nil {
		c.pump.Gone()
		return
	}
	c.pumps.frame, c.pumps.send, c.pumps.next = f, send.New(c.ring(f), w), sending
}

// goingOn is the record of a frame's call, if that goes on; nil: it does not. Of an alarm that came the slot's turn tells which call that is.
func (c *Client) goingOn(f api.Frame) *record.Record {
	r := c.book.Live(f.Slot, f.Gen)
	if r == nil || f.Client != c.id || f.Kind != api.KindDue && f.Call != r.F.Call {
		return nil
	}
	return r
}

// sendOn goes on with what is sent.
func (c *Client) sendOn(a *arena.Arena, now api.Tick) {
	c.pumps.send = c.pumps.send.Step(a)
	err, done := c.pumps.send.Done()
	if !done {
		return
	}
	c.pumps.next = turn
	if err != api.OK {
		c.noRoom(c.pumps.frame, now)
		return
	}
	c.pump.Gone()
	if r := c.book.Find(c.pumps.frame.Call); r != nil && c.pumps.frame.Kind == api.KindAck {
		r.Owes = false
	}
}

// noRoom is what is done about a frame that has no room: a request failed, all else is sent later.
func (c *Client) noRoom(f api.Frame, now api.Tick) {
	if f.Kind != api.KindRequest {
		c.pump.Last()
		return
	}
	c.pump.Gone()
	// The other hand may have ended the call meanwhile.
	if r := c.goingOn(f); r != nil {
		c.failed(r, f.Try, now)
	}
}

// fetchOn goes on with what is fetched; what came does something in the step in which it is all there.
func (c *Client) fetchOn(a *arena.Arena, now api.Tick) {
	c.pumps.fetch = c.pumps.fetch.Step(a)
	err, done := c.pumps.fetch.Done()
	if !done {
		return
	}
	c.pumps.next = turn
	if err != api.OK {
		return
	}
	c.pumps.got[c.pumps.from]++
	f, err := frame.Get(c.pumps.fetch.Words())
	if r := c.goingOn(f); r != nil && err == api.OK {
		c.came(r, f, now)
	}
}

// came does what a frame tells of a call that goes on.
func (c *Client) came(r *record.Record, f api.Frame, now api.Tick) {
	switch f.Kind {
	case api.KindDue:
		c.due(r, f.Try, now)
	case api.KindFailure:
		c.failed(r, f.Try, now)
	case api.KindReply:
		if !r.F.Stream {
			c.ends(r, api.EndReply, f.Value)
		}
	case api.KindChunk:
		if r.F.Stream && r.Chunks.Put(f.Seq, f.Value) == api.OK {
			c.note(api.Event{Kind: api.EvChunk, Call: r.F.Call, Seq: f.Seq, Value: f.Value}, now)
		}
	case api.KindEnd:
		if r.F.Stream && r.Chunks.End(f.Seq) == api.OK {
			c.ends(r, api.EndStream, uint32(r.Chunks.Came()))
		}
	}
}

// due is told that something has come that a call waited for.
func (c *Client) due(r *record.Record, what int, now api.Tick) {
	if what == api.ForDeadline && now >= r.End {
		c.ends(r, api.EndTimeout, 0)
		return
	}
	c.move(r, r.Tries.Due(what, now))
}

// failed is told that a try failed.
func (c *Client) failed(r *record.Record, try int, now api.Tick) {
	c.move(r, r.Tries.Failed(try, now, c.budget))
}

// move does what is to be done for a call.
func (c *Client) move(r *record.Record, moves []api.Move) {
	for _, m := range moves {
		switch m.What {
		case api.MoveSend:
			c.pump.Put(m.Frame)
		case api.MoveWait:
			c.wait(m.Alarm)
		case api.MoveFail:
			c.ends(r, api.EndFailed, 0)
		}
	}
}

// wait lets an alarm be asked for, if it may be.
func (c *Client) wait(w api.Alarm) {
	if f, ok := alarm.Ask(w); ok {
		c.pump.Put(f)
	}
}

// ends begins to end a call.
func (c *Client) ends(r *record.Record, how int, v uint32) {
	c.pumps.r, c.pumps.how, c.pumps.value = r, how, v
	c.pumps.end, c.pumps.next = c.settle(r), ending
}

// endOn goes on with that; where the other hand was first, nothing is left to do.
func (c *Client) endOn(a *arena.Arena, now api.Tick) {
	c.pumps.end = c.pumps.end.Step(a)
	err, done := c.pumps.end.Done()
	if !done {
		return
	}
	c.pumps.next = turn
	if err == api.OK {
		c.ended(c.pumps.r, c.pumps.how, c.pumps.value, c.pumps.end.Word(), now)
	}
}
