package client

import (
	"cableway/api"
	"cableway/record"
	"cableway/settle"
)

// settle is the ending of the turn of a call.
func (c *Client) settle(r *record.Record) settle.Task {
	return settle.New(c.table.Cell(r.F.Slot), r.F.Gen, c.table.Most())
}

// back takes a slot back, that has a word, of a call to a service that goes on no more.
func (c *Client) back(service, at int, w uint64) {
	c.table.Back(at, w)
	c.admit.Give(service)
}

// ended notes how a call ended: who ended its turn, and so nobody else, comes here.
func (c *Client) ended(r *record.Record, how int, v uint32, w uint64, now api.Tick) {
	r.How, r.Value = how, v
	c.back(r.F.Service, r.F.Slot, w)
	c.breaker(r.F.Service).Note(now, answered(how) || how == api.EndCancelled)
	if answered(how) {
		c.budget.Well()
	}
	c.note(api.Event{Kind: api.EvResolve, Call: r.F.Call, How: how, Value: v}, now)
	c.owe(r)
}

// answered tells whether a call ended as its service said.
func answered(how int) bool { return how == api.EndReply || how == api.EndStream }

// owe lets its service be told of a call that ended. As long as its first request is being sent that waits: what came behind it would come ahead of it.
func (c *Client) owe(r *record.Record) {
	if goesOn(r) || r.Sending || !r.Sent {
		return
	}
	if !answered(r.How) {
		c.pump.Put(about(r, api.KindCancel, 0))
	}
	c.pump.Put(about(r, api.KindAck, 0))
	r.Owes = true
}

// about is a frame of a kind that tells a call's service something.
func about(r *record.Record, kind int, v uint32) api.Frame {
	f := r.F
	f.Kind, f.Seq, f.Value = kind, 0, v
	return f
}
