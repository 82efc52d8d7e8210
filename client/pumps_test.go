package client_test

import (
	"testing"

	"cableway/api"
	"cableway/record"
	"cableway/ring"
	"cableway/slot"
)

// ways are all ways in which calls end.
var ways = []int{api.EndReply, api.EndStream, api.EndTimeout, api.EndCancelled, api.EndFailed}

// valueOf is what a call that finish ends comes to.
func valueOf(how int) uint32 {
	switch how {
	case api.EndReply:
		return 77
	case api.EndStream:
		return 1
	}
	return 0
}

// ready lets a call go on that is to end in a way; its requests and alarms are taken away.
func (b *bench) ready(how int) *record.Record {
	b.t.Helper()
	x := call(api.MethodEcho, 5)
	x.End = b.now + 1000
	if how == api.EndStream {
		x.Method = api.MethodCount
	}
	r := b.accepted(x)
	if how == api.EndStream {
		b.put(b.w.Replies[0], of(r, api.KindChunk, 0, 5))
		b.flow()
	}
	b.empty(b.w.Requests[0])
	b.empty(b.w.Alarms)
	b.news()
	return r
}

// finish lets the last call end in that way.
func (b *bench) finish(how int) {
	b.t.Helper()
	r := b.find(b.c.Next() - 1)
	switch how {
	case api.EndReply:
		b.put(b.w.Replies[0], of(r, api.KindReply, 0, 77))
	case api.EndStream:
		b.put(b.w.Replies[0], of(r, api.KindEnd, 1, 0))
	case api.EndTimeout:
		b.now = r.End
		b.put(b.w.Due, due(r, api.ForDeadline))
	case api.EndFailed:
		b.put(b.w.Replies[0], of(r, api.KindFailure, 0, api.WhyFailed))
	case api.EndCancelled:
		b.asks(cancel(r.F.Call))
		return
	}
	for n := 0; r.How == 0; n++ {
		if n == 100 {
			b.t.Fatal("it does not end")
		}
		b.step(true)
	}
}

// endBy lets a call end in a way, and all be sent that is to be sent then.
func (b *bench) endBy(how int) *record.Record {
	b.t.Helper()
	r := b.ready(how)
	b.finish(how)
	b.flow()
	b.empty(b.w.Requests[0])
	return r
}

// 30.1: what is left of a call that ended: slot, admission, events, what its service is told, and that it owes till then.
func TestEnds(t *testing.T) {
	for _, how := range ways {
		b := sit(t, config())
		r := b.ready(how)
		b.counts(1, 2, 0)
		b.owes(false)
		if how != api.EndCancelled {
			b.finish(how)
			b.happened(b.resolve(1, how, valueOf(how)))
		} else {
			b.finish(how)
		}
		b.counts(0, 3, 0)
		if r.How != how || r.Value != valueOf(how) || !r.Owes {
			t.Errorf("%d: %+v", how, r)
		}
		b.owes(true)
		want := []api.Frame{of(r, api.KindCancel, 0, 0), of(r, api.KindAck, 0, 0)}
		if how == api.EndReply || how == api.EndStream {
			want = want[1:]
		}
		b.waits(want...)
		for b.c.Pump().Len() > 0 {
			b.owes(true)
			b.step(true)
		}
		b.owes(false)
		if r.Owes {
			t.Errorf("%d: %+v", how, r)
		}
		b.takes(b.w.Requests[0], want...)
		b.flow()
		b.happened()
	}
}

// 30.1: a slot whose last turn ended is retired, how ever that was.
func TestEndsRetired(t *testing.T) {
	for _, how := range ways {
		b := sitAt(t, config(), 1, 8, 1, 2)
		b.endBy(how)
		b.counts(0, 1, 0)
		b.endBy(how)
		b.counts(0, 0, 1)
		if got := b.a.Look(b.c.Table().Cell(0)); got != slot.Word(2, api.SlotRetired) {
			t.Errorf("%d: %x", how, got)
		}
	}
}

// 30.1: a reply, a stream's end and a cancelling are well for the breaker of its service; the others are ill.
func TestEndsBreaker(t *testing.T) {
	for _, how := range ways {
		want := api.BreakerOpen
		if how == api.EndReply || how == api.EndStream || how == api.EndCancelled {
			want = api.BreakerShut
		}
		b := sit(t, touchy(1))
		b.endBy(how)
		b.breaker(0, want)
		b.breaker(1, api.BreakerShut)
		// Half open, what goes well shuts it, what goes ill opens it again.
		b = sit(t, touchy(1))
		b.ill()
		b.now += 10
		b.breaker(0, api.BreakerHalf)
		b.endBy(how)
		b.breaker(0, want)
	}
}

// 30.1: a reply and a stream's end are well for the budget, too; the others are not.
func TestEndsBudget(t *testing.T) {
	for _, how := range ways {
		x := config()
		x.Retries = api.Retries{Most: 1, Gain: 5, Cost: 5, Room: 5, Wait: 2, Bound: 9}
		b := sit(t, x)
		first := b.ready(api.EndFailed)
		b.put(b.w.Replies[0], of(first, api.KindFailure, 0, api.WhyFailed))
		b.flow()
		b.takes(b.w.Alarms, asked(first, b.now+2, api.ForRetry))
		// All that it had room for is gone.
		second := b.ready(how)
		b.finish(how)
		if second.How != how {
			t.Fatalf("%+v", second)
		}
		b.flow()
		b.empty(b.w.Requests[0])
		b.news()
		third := b.ready(api.EndFailed)
		b.put(b.w.Replies[0], of(third, api.KindFailure, 0, api.WhyFailed))
		b.flow()
		if how == api.EndReply || how == api.EndStream {
			b.takes(b.w.Alarms, asked(third, b.now+2, api.ForRetry))
		} else if third.How != api.EndFailed {
			t.Errorf("%d: %+v", how, third)
		}
	}
}

// nothing fails where a frame that comes does something, be it to a call that goes on.
func (b *bench) nothing(r *record.Record, from api.Ring, f api.Frame) {
	b.t.Helper()
	before, held := *r, *r.Chunks
	b.put(from, f)
	b.flow()
	if *r != before || *r.Chunks != held {
		b.t.Fatalf("%+v did %+v", f, r)
	}
	b.happened()
	b.waits()
	b.takes(b.w.Alarms)
	for _, q := range b.w.Requests {
		b.takes(q)
	}
}

// T2: frames of elder turns, of other slots, calls and clients do nothing, whatever they tell.
func TestStale(t *testing.T) {
	kinds := []int{api.KindReply, api.KindFailure, api.KindChunk, api.KindEnd}
	for _, method := range []int{api.MethodEcho, api.MethodCount} {
		b := sit(t, config())
		b.endBy(api.EndReply)
		b.endBy(api.EndReply)
		b.endBy(api.EndReply)
		r := b.accepted(call(method, 5))
		if r.F.Slot != 0 || r.F.Gen != 2 || r.F.Call != 4 {
			t.Fatalf("%+v", r.F)
		}
		b.empty(b.w.Requests[0])
		b.empty(b.w.Alarms)
		b.news()
		for _, kind := range kinds {
			f := of(r, kind, 0, 9)
			for _, change := range []func(f *api.Frame){
				func(f *api.Frame) { f.Gen = 1 }, func(f *api.Frame) { f.Gen = 3 }, func(f *api.Frame) { f.Gen = 0 },
				func(f *api.Frame) { f.Slot = 1 }, func(f *api.Frame) { f.Slot = 15 },
				func(f *api.Frame) { f.Call = 1 }, func(f *api.Frame) { f.Call = 5 }, func(f *api.Frame) { f.Call = 0 },
				func(f *api.Frame) { f.Client = 0 }, func(f *api.Frame) { f.Client = 2 },
			} {
				g := f
				change(&g)
				b.nothing(r, b.w.Replies[0], g)
				b.nothing(r, b.w.Replies[1], g)
				b.nothing(r, b.w.Due, g)
			}
		}
		b.now = 1000
		for _, what := range []int{api.ForDeadline, api.ForRetry, api.ForHedge} {
			f := due(r, what)
			for _, change := range []func(f *api.Frame){
				func(f *api.Frame) { f.Gen = 1 }, func(f *api.Frame) { f.Gen = 3 }, func(f *api.Frame) { f.Slot = 1 },
				func(f *api.Frame) { f.Client = 0 }, func(f *api.Frame) { f.Client = 3 },
			} {
				g := f
				change(&g)
				b.nothing(r, b.w.Due, g)
			}
		}
		// The call's own number is none of an alarm's.
		f := due(r, api.ForDeadline)
		f.Call = 77
		b.put(b.w.Due, f)
		b.flow()
		b.happened(b.resolve(4, api.EndTimeout, 0))
	}
}

// 30.1: a frame of another kind, or of what is of a stream where there is none, or the other way round, does nothing.
func TestOtherKinds(t *testing.T) {
	b := sit(t, config())
	r := b.ready(api.EndReply)
	for kind := api.KindRequest; kind <= api.KindDue; kind++ {
		switch kind {
		case api.KindReply, api.KindFailure, api.KindDue:
		default:
			b.nothing(r, b.w.Replies[0], of(r, kind, 0, 9))
			b.nothing(r, b.w.Due, of(r, kind, 0, 9))
		}
	}
	b = sit(t, config())
	x := call(api.MethodCount, 5)
	r = b.accepted(x)
	b.empty(b.w.Requests[0])
	b.empty(b.w.Alarms)
	b.news()
	for kind := api.KindRequest; kind <= api.KindDue; kind++ {
		switch kind {
		case api.KindChunk, api.KindEnd, api.KindFailure, api.KindDue:
		default:
			b.nothing(r, b.w.Replies[0], of(r, kind, 0, 9))
		}
	}
}

// 30.1: words that are no frame do nothing.
func TestNoFrame(t *testing.T) {
	b := sit(t, config())
	r := b.ready(api.EndReply)
	b.put(b.w.Replies[0], of(r, api.KindReply, 0, 9))
	at := ring.Data(b.w.Replies[0], 0, 0)
	for _, i := range []int{0, 2} {
		b.a.Write(at+i, b.a.Look(at+i)|1<<63)
	}
	for _, w := range []api.Words{{}, {15}, {0, 0, 1 << 20}, {1<<64 - 1, 1<<64 - 1, 1<<64 - 1}} {
		b.putWords(b.w.Replies[0], w)
		b.flow()
	}
	b.happened()
	if r.How != 0 {
		t.Errorf("%+v", r)
	}
	b.put(b.w.Replies[0], of(r, api.KindReply, 0, 9))
	b.flow()
	b.happened(b.resolve(1, api.EndReply, 9))
}

// 30.1: a stream's chunks come in order, each once; its end is told when all came.
func TestChunks(t *testing.T) {
	b := sit(t, config())
	r := b.accepted(call(api.MethodCount, 5))
	b.empty(b.w.Requests[0])
	b.empty(b.w.Alarms)
	b.news()
	b.nothing(r, b.w.Replies[0], of(r, api.KindChunk, 1, 6))
	b.nothing(r, b.w.Replies[0], of(r, api.KindEnd, 1, 0))
	for n := range 3 {
		f := of(r, api.KindChunk, n, uint32(5+n))
		b.put(b.w.Replies[0], f)
		b.flow()
		b.happened(b.chunk(1, n, uint32(5+n)))
		b.nothing(r, b.w.Replies[0], f)
		b.nothing(r, b.w.Replies[0], of(r, api.KindEnd, n, 0))
		b.nothing(r, b.w.Replies[0], of(r, api.KindEnd, n+2, 0))
	}
	b.put(b.w.Replies[0], of(r, api.KindEnd, 3, 55))
	b.put(b.w.Replies[0], of(r, api.KindChunk, 3, 8))
	b.flow()
	b.happened(b.resolve(1, api.EndStream, 3))
	b.told(poll(1), none, api.EndStream, 3)
}

// 30.1: a stream of nothing ends, too.
func TestNoChunks(t *testing.T) {
	b := sit(t, config())
	r := b.accepted(call(api.MethodPower, 5))
	b.news()
	b.put(b.w.Replies[0], of(r, api.KindEnd, 0, 0))
	b.flow()
	b.happened(b.resolve(1, api.EndStream, 0))
}

// 30.1: an end in time: when the End has come, not ahead of it, whoever tells so.
func TestDeadline(t *testing.T) {
	b := sit(t, config())
	r := b.ready(api.EndTimeout)
	for _, now := range []api.Tick{0, 1, 998, 999} {
		b.now = now
		b.nothing(r, b.w.Due, due(r, api.ForDeadline))
	}
	for b.now = 1000; b.now < 1003; b.now++ {
		b.nothing(r, b.w.Due, due(r, api.ForRetry))
		b.nothing(r, b.w.Due, due(r, api.ForHedge))
		for _, what := range []int{0, 4, 15} {
			f := due(r, what)
			b.nothing(r, b.w.Due, f)
		}
	}
	b.put(b.w.Due, due(r, api.ForDeadline))
	b.flow()
	b.happened(b.resolve(1, api.EndTimeout, 0))
	b.put(b.w.Due, due(r, api.ForDeadline))
	b.flow()
	b.happened()
}

// 30.1: a failure: a retry is waited for, as the budget tells, and sent when it is due; the last one fails the call.
func TestRetries(t *testing.T) {
	x := config()
	x.Retries = api.Retries{Most: 2, Cost: 1, Room: 9, Wait: 3, Bound: 100}
	b := sit(t, x)
	r := b.ready(api.EndFailed)
	for try := range 3 {
		f := of(r, api.KindFailure, 0, api.WhyBusy)
		f.Try = try + 1
		b.nothing(r, b.w.Replies[0], f)
		f.Try = try
		b.put(b.w.Replies[0], f)
		if try == 2 {
			break
		}
		b.flow()
		b.takes(b.w.Alarms, asked(r, b.now+api.Tick(3<<try), api.ForRetry))
		b.now += api.Tick(3 << try)
		b.nothing(r, b.w.Due, due(r, api.ForHedge))
		b.put(b.w.Due, due(r, api.ForRetry))
		b.flow()
		want := r.F
		want.Try = try + 1
		b.takes(b.w.Requests[0], want)
		b.nothing(r, b.w.Due, due(r, api.ForRetry))
	}
	b.flow()
	b.happened(b.resolve(1, api.EndFailed, 0))
	b.takes(b.w.Requests[0], of(r, api.KindCancel, 0, 0), of(r, api.KindAck, 0, 0))
}

// 30.1: a hedge is sent when it is due, and the next one waited for; one answer of any try ends the call.
func TestHedges(t *testing.T) {
	x := config()
	x.Hedges = api.Hedges{Most: 2, After: 4}
	b := sit(t, x)
	r := b.accepted(call(api.MethodEcho, 5))
	b.takes(b.w.Requests[0], r.F)
	b.empty(b.w.Alarms)
	b.flow()
	b.takes(b.w.Alarms, asked(r, 4, api.ForHedge))
	b.now = 5
	b.put(b.w.Due, due(r, api.ForHedge))
	b.flow()
	want := r.F
	want.Try = 1
	b.takes(b.w.Requests[0], want)
	b.takes(b.w.Alarms, asked(r, 9, api.ForHedge))
	b.now = 9
	b.put(b.w.Due, due(r, api.ForHedge))
	b.flow()
	want.Try = 2
	b.takes(b.w.Requests[0], want)
	b.news()
	b.nothing(r, b.w.Due, due(r, api.ForHedge))
	f := of(r, api.KindFailure, 0, api.WhyFailed)
	before := *r
	b.put(b.w.Replies[0], f)
	b.flow()
	if *r != before || r.Tries.Out() != 2 {
		t.Errorf("%+v", r)
	}
	f = of(r, api.KindReply, 0, 8)
	f.Try = 1
	b.put(b.w.Replies[0], f)
	b.flow()
	b.happened(b.resolve(1, api.EndReply, 8))
	b.takes(b.w.Requests[0], of(r, api.KindAck, 0, 0))
}

// 30.1: the pump turns from one thing to the next, each step touching one cell: what is due, then service by service.
func TestTurnsOfPump(t *testing.T) {
	b := sitAt(t, config(), 3, 4, 2, 5)
	w := b.w
	var want []int
	for range 3 {
		want = append(want, ring.Stand(w.Due, 0), ring.Stand(w.Replies[0], 0), ring.Stand(w.Replies[1], 0), ring.Stand(w.Replies[2], 0))
	}
	b.touches(true, want...)
	b.put(w.Replies[1], api.Frame{Kind: api.KindReply})
	at := ring.Stand(w.Replies[1], 0)
	b.touches(true, ring.Stand(w.Due, 0), ring.Stand(w.Replies[0], 0), at, at+1, at+2, at+3, at, ring.Stand(w.Replies[2], 0))
	b.touches(true, ring.Stand(w.Due, 0), ring.Stand(w.Replies[0], 0), ring.Stand(w.Replies[1], 1), ring.Stand(w.Replies[2], 0))
	f := api.Frame{Kind: api.KindAck, Client: 1, Service: 2}
	b.c.Pump().Put(f)
	b.touches(true, sendSteps(w.Requests[2], 0)...)
	b.touches(true, ring.Stand(w.Due, 0))
	b.takes(w.Requests[2], f)
	g := api.Frame{Kind: api.KindAlarm, Client: 1}
	b.touches(true, ring.Stand(w.Replies[0], 0), ring.Stand(w.Replies[1], 1), ring.Stand(w.Replies[2], 0))
	b.c.Pump().Put(g)
	b.touches(true, sendSteps(w.Alarms, 0)...)
	b.takes(w.Alarms, g)
}

// 30.1: what came does something in the step in which it is all there; then the call's turn is ended, in two more.
func TestEndSteps(t *testing.T) {
	b := sitAt(t, config(), 1, 4, 2, 5)
	r := b.ready(api.EndReply)
	b.put(b.w.Replies[0], of(r, api.KindReply, 0, 7))
	for b.step(true) != ring.Stand(b.w.Replies[0], 0) {
	}
	cell := b.c.Table().Cell(0)
	at := ring.Stand(b.w.Replies[0], 0)
	b.touches(true, at+1, at+2, at+3, at, cell)
	b.counts(1, 1, 0)
	b.happened()
	b.touches(true, cell)
	b.counts(0, 2, 0)
	b.happened(b.resolve(1, api.EndReply, 7))
	// Then it turns on: what is to be sent now is next.
	b.touches(true, ring.Tail(b.w.Requests[0]))
}

// 30.1: a chunk, and what is waited for, take no step of their own.
func TestChunkSteps(t *testing.T) {
	b := sitAt(t, config(), 1, 4, 2, 5)
	r := b.ready(api.EndStream)
	b.put(b.w.Replies[0], of(r, api.KindChunk, 1, 7))
	for b.step(true) != ring.Stand(b.w.Replies[0], 1) {
	}
	at := ring.Stand(b.w.Replies[0], 1)
	b.touches(true, at+1, at+2, at+3)
	b.happened()
	b.touches(true, at)
	b.happened(b.chunk(1, 1, 7))
	b.touches(true, ring.Stand(b.w.Due, 0))
}

// 30.1: the other hand may cancel a call while this one ends it: then nothing is left to do, and one end is noted.
func TestEndLost(t *testing.T) {
	for before := range 2 {
		b := sitAt(t, config(), 1, 8, 2, 5)
		r := b.ready(api.EndReply)
		b.put(b.w.Replies[0], of(r, api.KindReply, 0, 7))
		cell, at := b.c.Table().Cell(0), ring.Stand(b.w.Replies[0], 0)
		for b.step(true) != at {
		}
		b.touches(true, at+1, at+2, at+3, at)
		for range before {
			b.touches(true, cell)
		}
		b.told(cancel(1), none, api.EndCancelled, 0)
		b.news()
		for range before + 1 {
			b.touches(true, cell)
		}
		b.happened()
		b.touches(true, ring.Tail(b.w.Requests[0]))
		b.counts(0, 2, 0)
		b.waits(of(r, api.KindCancel, 0, 0), of(r, api.KindAck, 0, 0))
	}
}

// 30.1: the slot's next turn may go on by then; it is none of the elder one's.
func TestEndLostNextTurn(t *testing.T) {
	b := sitAt(t, config(), 1, 8, 1, 5)
	r := b.ready(api.EndReply)
	b.put(b.w.Replies[0], of(r, api.KindReply, 0, 7))
	cell, at := b.c.Table().Cell(0), ring.Stand(b.w.Replies[0], 0)
	for b.step(true) != at {
	}
	b.touches(true, at+1, at+2, at+3, at, cell)
	b.told(cancel(1), none, api.EndCancelled, 0)
	next := b.accepted(call(api.MethodEcho, 1))
	b.touches(true, cell, cell)
	b.counts(1, 0, 0)
	if next.F.Gen != 2 || next.How != 0 || r.How != api.EndCancelled {
		t.Errorf("%+v, %+v", next, r)
	}
}

// 30.1: a request of a call that ended goes unsent, in a step that touches no cell; what else waits is sent.
func TestUnsent(t *testing.T) {
	x := config()
	x.Hedges = api.Hedges{Most: 3, After: 4}
	b := sit(t, x)
	r := b.accepted(call(api.MethodEcho, 5))
	b.flow()
	b.empty(b.w.Requests[0])
	b.empty(b.w.Alarms)
	b.now = 4
	b.put(b.w.Due, due(r, api.ForHedge))
	for b.c.Pump().Len() == 0 {
		b.step(true)
	}
	hedge := r.F
	hedge.Try = 1
	want := []api.Frame{hedge, asked(r, 8, api.ForHedge), of(r, api.KindCancel, 0, 0), of(r, api.KindAck, 0, 0)}
	b.waits(want[:2]...)
	b.asks(cancel(1))
	b.waits(want...)
	b.touches(true, ring.Stand(b.w.Replies[0], 0), ring.Stand(b.w.Replies[1], 0), -1)
	b.waits(want[1:]...)
	b.touches(true, ring.Stand(b.w.Due, 1))
	b.flow()
	b.takes(b.w.Requests[0], want[2:]...)
	b.takes(b.w.Alarms, want[1])
}

// 30.1: a request whose record is gone, or that is of another client, or of another turn, is one of a call that does not go on.
func TestUnsentOthers(t *testing.T) {
	b := sit(t, config())
	r := b.ready(api.EndReply)
	for _, change := range []func(f *api.Frame){
		func(f *api.Frame) { f.Call = 7 }, func(f *api.Frame) { f.Gen = 2 }, func(f *api.Frame) { f.Slot = 2 }, func(f *api.Frame) { f.Client = 0 },
	} {
		f := r.F
		change(&f)
		b.c.Pump().Put(f)
	}
	b.flow()
	b.waits()
	b.takes(b.w.Requests[0])
}

// 30.1: one that is being sent when its call ends is sent, ahead of what tells its service so.
func TestSentAllTheSame(t *testing.T) {
	x := config()
	x.Hedges = api.Hedges{Most: 1, After: 4}
	for steps := 1; steps < 7; steps++ {
		b := sit(t, x)
		r := b.accepted(call(api.MethodEcho, 5))
		b.flow()
		b.empty(b.w.Requests[0])
		b.now = 4
		b.put(b.w.Due, due(r, api.ForHedge))
		for b.c.Pump().Len() == 0 {
			b.step(true)
		}
		b.pump(2 + steps)
		b.asks(cancel(1))
		b.flow()
		hedge := r.F
		hedge.Try = 1
		b.takes(b.w.Requests[0], hedge, of(r, api.KindCancel, 0, 0), of(r, api.KindAck, 0, 0))
	}
}

// 30.1: a request that has no room failed: a retry is waited for, if there may be one; else the call failed.
func TestRequestNoRoom(t *testing.T) {
	x := config()
	x.Retries = api.Retries{Most: 2, Cost: 1, Room: 9, Wait: 3, Bound: 3}
	b := sit(t, x)
	r := b.ready(api.EndFailed)
	b.put(b.w.Replies[0], of(r, api.KindFailure, 0, api.WhyFailed))
	b.flow()
	b.takes(b.w.Alarms, asked(r, 3, api.ForRetry))
	b.fill(b.w.Requests[0])
	b.now = 3
	b.put(b.w.Due, due(r, api.ForRetry))
	b.flow()
	b.waits()
	b.takes(b.w.Alarms, asked(r, 6, api.ForRetry))
	if r.How != 0 || r.Tries.Out() != 0 {
		t.Errorf("%+v", r)
	}
	b.now = 6
	b.put(b.w.Due, due(r, api.ForRetry))
	b.flow()
	b.happened(b.resolve(1, api.EndFailed, 0))
	// The service is told when there is room.
	b.owes(true)
	b.told(poll(1), api.ErrBusy, api.EndFailed, 0)
	b.empty(b.w.Requests[0])
	b.flow()
	b.owes(false)
	b.told(poll(1), none, api.EndFailed, 0)
}

// 30.1: the steps of that: two till there is no room, two that end the call's turn, then it turns on.
func TestRequestNoRoomSteps(t *testing.T) {
	x := config()
	x.Hedges = api.Hedges{Most: 1, After: 4}
	b := sitAt(t, x, 1, 4, 1, 5)
	r := b.accepted(call(api.MethodEcho, 5))
	b.flow()
	b.put(b.w.Due, due(r, api.ForHedge))
	b.empty(b.w.Requests[0])
	b.fill(b.w.Requests[0])
	for b.c.Pump().Len() == 0 {
		b.step(true)
	}
	b.put(b.w.Replies[0], of(r, api.KindFailure, 0, api.WhyFailed))
	for b.step(true) != ring.Tail(b.w.Requests[0]) {
	}
	b.news()
	cell := b.c.Table().Cell(0)
	b.touches(true, ring.Stand(b.w.Requests[0], 5))
	if r.How != 0 {
		t.Error("it ended ahead of its turn")
	}
	b.touches(true, cell, cell)
	b.happened(b.resolve(1, api.EndFailed, 0))
	b.touches(true, ring.Stand(b.w.Due, 1))
}

// 30.1: a request that has no room, whose call ended meanwhile: nothing failed, and the budget loses nothing.
func TestRequestNoRoomEnded(t *testing.T) {
	x := config()
	x.Retries = api.Retries{Most: 2, Cost: 5, Room: 10, Wait: 3, Bound: 3}
	b := sitAt(t, x, 1, 4, 2, 5)
	r := b.ready(api.EndFailed)
	b.put(b.w.Replies[0], of(r, api.KindFailure, 0, api.WhyFailed))
	b.flow()
	b.fill(b.w.Requests[0])
	b.put(b.w.Due, due(r, api.ForRetry))
	for b.step(true) != ring.Tail(b.w.Requests[0]) {
	}
	b.asks(cancel(1))
	b.step(true)
	b.empty(b.w.Alarms)
	b.empty(b.w.Requests[0])
	b.flow()
	b.takes(b.w.Requests[0], of(r, api.KindCancel, 0, 0), of(r, api.KindAck, 0, 0))
	b.takes(b.w.Alarms)
	// What is left is enough for one more retry.
	s := b.ready(api.EndFailed)
	b.put(b.w.Replies[0], of(s, api.KindFailure, 0, api.WhyFailed))
	b.flow()
	b.takes(b.w.Alarms, asked(s, b.now+3, api.ForRetry))
}

// 30.1: all else that has no room is the last one then, and is sent later.
func TestOthersNoRoom(t *testing.T) {
	for _, kind := range []int{api.KindCancel, api.KindCredit, api.KindAck, api.KindAlarm} {
		b := sit(t, config())
		full := b.w.Requests[0]
		if kind == api.KindAlarm {
			full = b.w.Alarms
		}
		b.fill(full)
		f := api.Frame{Kind: kind, Client: 1, Call: 9}
		g := api.Frame{Kind: api.KindAck, Client: 1, Service: 1, Call: 8}
		b.c.Pump().Put(f)
		b.c.Pump().Put(g)
		for b.step(true) != ring.Stand(full, 4) {
		}
		b.waits(g, f)
		b.flow()
		b.waits(f)
		b.takes(b.w.Requests[1], g)
		b.empty(full)
		b.flow()
		b.waits()
		b.takes(full, f)
	}
}

// 30.1: it owes till the ack is sent, be the cancelling sent later; each call for itself.
func TestOwesEach(t *testing.T) {
	b := sit(t, config())
	b.fill(b.w.Requests[1])
	one := b.ready(api.EndCancelled)
	b.finish(api.EndCancelled)
	two := b.ready(api.EndReply)
	b.finish(api.EndReply)
	for b.c.Pump().Len() > 1 {
		b.step(true)
		b.owes(one.Owes || two.Owes)
	}
	if one.Owes || !two.Owes {
		t.Errorf("%+v, %+v", one, two)
	}
	b.told(poll(1), none, api.EndCancelled, 0)
	b.told(poll(2), api.ErrBusy, api.EndReply, 0)
	b.flow()
	b.told(poll(2), none, api.EndReply, 77)
}

// 30.1: a reply, or a failure, comes from whichever ring; each ring's frames come in its order.
func TestRings(t *testing.T) {
	for ring := range 2 {
		b := sit(t, config())
		r := b.ready(api.EndReply)
		b.put(b.w.Replies[ring], of(r, api.KindReply, 0, 1))
		b.put(b.w.Replies[ring], of(r, api.KindReply, 0, 2))
		b.flow()
		b.happened(b.resolve(1, api.EndReply, 1))
	}
}

// 30.1: rings are gone round as often as there is something: no frame is lost, none comes twice.
func TestRounds(t *testing.T) {
	b := sitAt(t, config(), 1, 2, 1, 5)
	r := b.accepted(call(api.MethodCount, 0))
	b.news()
	for n := range 50 {
		b.put(b.w.Replies[0], of(r, api.KindChunk, n, uint32(n)))
		b.put(b.w.Due, due(r, api.ForDeadline))
		b.flow()
		b.happened(b.chunk(1, n, uint32(n)))
		b.told(recv(1), none, 0, uint32(n))
		b.news()
	}
}
