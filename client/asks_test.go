package client_test

import (
	"math"
	"slices"
	"testing"

	"cableway/api"
	"cableway/chunks"
	"cableway/credit"
	"cableway/ring"
	"cableway/send"
	"cableway/slot"
)

// sendSteps are the cells that sending into a ring touches, when none is in the way.
func sendSteps(r api.Ring, turn uint64) []int {
	stand := ring.Stand(r, turn)
	return []int{ring.Tail(r), stand, ring.Tail(r), stand + 1, stand + 2, stand + 3, stand}
}

// 30.1: the document's example: seventeen steps, the first without a cell, each of the others at one.
func TestExample(t *testing.T) {
	for service := range 2 {
		b := sit(t, config())
		x := call(api.MethodTwice, 4)
		x.Service = service
		b.begin(x)
		cell := b.c.Table().Cell(0)
		want := slices.Concat([]int{-1, cell, cell}, sendSteps(b.w.Alarms, 0), sendSteps(b.w.Requests[service], 0))
		if len(want) != 17 {
			t.Fatalf("%d steps", len(want))
		}
		b.touches(false, want...)
		b.happened(b.invoked(x, 1), b.returned(x, 1, none, 0, 0))
		if !b.c.Idle() || b.c.Step(b.a, false, b.now) {
			t.Error("it goes on")
		}
	}
}

// 30.1: what a call is as a frame, its record and its alarm, of each method, sure or not.
func TestCall(t *testing.T) {
	for service := range 3 {
		for method := range api.Methods {
			for _, sure := range []bool{false, true} {
				x := config()
				x.Window = 5
				b := sitAt(t, x, 3, 4, 3, 5)
				b.now = 7
				ask := api.Ask{What: api.AskCall, Service: service, Method: method, Arg: math.MaxUint32 - 3, Sure: sure, End: 1 << 35, Call: 99}
				b.told(ask, none, 0, 0)
				r := b.find(1)
				streams := method == api.MethodCount || method == api.MethodPower
				want := api.Frame{Kind: api.KindRequest, Client: 1, Service: service, Gen: 1, Call: 1, Sure: sure, Stream: streams, Seq: method, Value: math.MaxUint32 - 3}
				if r.F != want || r.End != 1<<35 || r.How != 0 || r.Value != 0 || r.Sending || !r.Sent || r.Owes {
					t.Fatalf("record %+v", r)
				}
				if r.Credit.Out() != 5 || r.Credit.Granted() != 5 || r.Tries.Sent() != 1 || r.Chunks.Came() != 0 {
					t.Fatalf("record %+v", r)
				}
				b.takes(b.w.Requests[service], want)
				b.takes(b.w.Alarms, asked(r, 1<<35, api.ForDeadline))
				state := api.SlotPending
				if streams {
					state = api.SlotStreams
				}
				if got := b.a.Look(b.c.Table().Cell(0)); got != slot.Word(1, state) {
					t.Fatalf("the slot has %x", got)
				}
				b.counts(1, 2, 0)
				b.waits()
				b.owes(false)
				if b.c.Admit().To(service) != 1 {
					t.Error("another service's")
				}
			}
		}
	}
}

// 30.1: when what is taken, written and noted is there: the slot at the first step, the record with the turn.
func TestCallStepByStep(t *testing.T) {
	b := sit(t, config())
	b.begin(call(api.MethodEcho, 1))
	if b.c.Table().Free() != 3 || b.c.Admit().Len() != 0 {
		t.Error("something is taken ahead of the first step")
	}
	b.hand(1)
	if b.c.Table().Free() != 2 || b.c.Admit().Len() != 1 || b.c.Book().Len() != 0 {
		t.Error("the first step takes a slot, and is admitted")
	}
	b.hand(1)
	if b.c.Book().Len() != 0 || b.c.Live() != 0 || b.c.Table().Live(b.a) != 0 {
		t.Error("a call goes on already")
	}
	b.hand(1)
	b.counts(1, 2, 0)
	r := b.find(1)
	if !r.Sending || r.Sent || r.Tries.Sent() != 0 {
		t.Errorf("%+v", r)
	}
	b.hand(6)
	b.takes(b.w.Alarms)
	b.hand(1)
	b.takes(b.w.Alarms, asked(r, 1000, api.ForDeadline))
	b.hand(6)
	if !r.Sending || r.Sent || r.Tries.Sent() != 1 {
		t.Errorf("%+v", r)
	}
	b.takes(b.w.Requests[0])
	b.hand(1)
	b.takes(b.w.Requests[0], r.F)
	if r.Sending || !r.Sent {
		t.Errorf("%+v", r)
	}
}

// 30.1: a call's number is the last one's and 1, whatever becomes of it; what is not a call takes none.
func TestNumbers(t *testing.T) {
	b := sit(t, config())
	want := uint32(1)
	for range 3 {
		for _, x := range []api.Ask{call(api.MethodEcho, 1), cancel(want), call(-1, 0), poll(7), {What: 9}, call(api.MethodCount, 1), grant(1, 1), cancel(want + 2), recv(1)} {
			if got := b.c.Next(); got != want {
				t.Fatalf("Next() = %d, not %d", got, want)
			}
			b.begin(x)
			l := b.c.Events()
			n := x.Call
			if x.What == api.AskCall {
				n = want
				want++
			}
			if len(l) != 1 || l[0] != b.invoked(x, n) {
				t.Fatalf("%+v", l)
			}
			b.end()
		}
	}
}

// 30.1: Begin: false, as long as it asks for something: then nothing is changed.
func TestBegin(t *testing.T) {
	b := sit(t, config())
	x := call(api.MethodEcho, 1)
	b.begin(x)
	for n := range 17 {
		if b.c.Idle() || b.c.Begin(call(api.MethodLook, 2), 9) || b.c.Begin(poll(1), 9) {
			t.Fatalf("ahead of step %d", n)
		}
		if b.c.Next() != 2 {
			t.Fatal("a number is taken")
		}
		b.hand(1)
	}
	b.happened(b.invoked(x, 1), b.returned(x, 1, none, 0, 0))
	if !b.c.Idle() || !b.c.Begin(poll(1), 9) {
		t.Error("it may not ask again")
	}
}

// 30.1: what happened has the time of when it did.
func TestTimes(t *testing.T) {
	b := sit(t, config())
	x := call(api.MethodEcho, 1)
	b.now = 5
	b.begin(x)
	want := []api.Event{b.invoked(x, 1)}
	for b.now = 6; !b.c.Idle(); b.now++ {
		b.step(false)
	}
	b.now = 22
	want = append(want, b.returned(x, 1, none, 0, 0))
	b.put(b.w.Replies[0], of(b.find(1), api.KindReply, 0, 9))
	for ; b.c.Live() > 0; b.now++ {
		b.step(true)
	}
	b.now--
	want = append(want, b.resolve(1, api.EndReply, 9))
	b.happened(want...)
}

// refused fails where a call is not refused with an error in one step, that touches no cell and changes nothing.
func (b *bench) refused(x api.Ask, err api.Errno) {
	b.t.Helper()
	live, free, retired, len := b.c.Live(), b.c.Table().Free(), b.c.Table().Retired(), b.c.Book().Len()
	n := b.c.Next()
	b.news()
	b.begin(x)
	b.touches(false, -1)
	b.happened(b.invoked(x, n), b.returned(x, n, err, 0, 0))
	if !b.c.Idle() {
		b.t.Fatal("it goes on")
	}
	b.counts(live, free, retired)
	if got := b.c.Book().Len(); got != len {
		b.t.Fatalf("%d records, not %d", got, len)
	}
}

// 30.1: ErrInput: no such service, or no such method.
func TestCallInput(t *testing.T) {
	for services := 1; services <= mostServices; services++ {
		for _, n := range numbers {
			b := sitAt(t, config(), services, 2, 1, 5)
			x := call(api.MethodEcho, 1)
			x.Service = n
			if n >= 0 && n < services {
				b.told(x, none, 0, 0)
			} else {
				b.refused(x, api.ErrInput)
			}
		}
	}
	for _, n := range numbers {
		b := sit(t, config())
		x := call(n, 1)
		if n >= 0 && n < api.Methods {
			b.told(x, none, 0, 0)
		} else {
			b.refused(x, api.ErrInput)
		}
	}
}

// 30.1: ErrInput: its End is no time from 0 on that has not come, and comes.
func TestCallEnd(t *testing.T) {
	times := []api.Tick{math.MinInt64, math.MinInt64 + 1, -api.Never, -2, -1, 0, 1, 2, 3, 99, 100, 101, 1 << 32, api.Never - 2, api.Never - 1, api.Never, api.Never + 1, math.MaxInt64 - 1, math.MaxInt64}
	for _, now := range times {
		for _, end := range times {
			b := sit(t, config())
			b.now = now
			x := call(api.MethodEcho, 1)
			x.End = end
			if end > now && end > 0 && end < api.Never {
				b.told(x, none, 0, 0)
			} else {
				b.refused(x, api.ErrInput)
			}
		}
	}
}

// 30.1: whether the End has come is asked at the first step, not when the call is asked for.
func TestCallEndLater(t *testing.T) {
	b := sit(t, config())
	x := call(api.MethodEcho, 1)
	x.End = 5
	b.begin(x)
	want := []api.Event{b.invoked(x, 1)}
	b.now = 5
	b.touches(false, -1)
	b.happened(append(want, b.returned(x, 1, api.ErrInput, 0, 0))...)
}

// 30.1: ErrFull: no room for a record, as long as those that ended are there, too.
func TestCallRecords(t *testing.T) {
	for records := range 4 {
		x := config()
		x.Records = records
		b := sitAt(t, x, 1, 8, 6, 5)
		for range records {
			b.accepted(call(api.MethodEcho, 1))
		}
		b.refused(call(api.MethodEcho, 1), api.ErrFull)
		if records == 0 {
			continue
		}
		b.asks(cancel(1))
		b.refused(call(api.MethodEcho, 1), api.ErrFull)
		b.empty(b.w.Requests[0])
		b.flow()
		b.told(poll(1), none, api.EndCancelled, 0)
		b.told(call(api.MethodEcho, 1), none, 0, 0)
		b.empty(b.w.Requests[0])
		b.refused(call(api.MethodEcho, 1), api.ErrFull)
	}
}

// 30.1: ErrBusy: too many go on, in all, or to that service.
func TestCallBusy(t *testing.T) {
	for all := range 4 {
		for each := range 4 {
			x := config()
			x.All, x.Each = all, each
			b := sitAt(t, x, 2, 16, 8, 5)
			var to [2]int
			for n := range 10 {
				x := call(api.MethodEcho, 1)
				x.Service = n / 5
				if to[0]+to[1] < all && to[x.Service] < each {
					b.told(x, none, 0, 0)
					to[x.Service]++
				} else {
					b.refused(x, api.ErrBusy)
				}
			}
		}
	}
}

// 30.1: what ended is admitted no more, so another one may go on; of the same service alone.
func TestCallBusyNoMore(t *testing.T) {
	x := config()
	x.Each = 1
	b := sit(t, x)
	b.accepted(call(api.MethodEcho, 1))
	b.refused(call(api.MethodEcho, 1), api.ErrBusy)
	other := call(api.MethodEcho, 1)
	other.Service = 1
	b.told(other, none, 0, 0)
	b.asks(cancel(1))
	b.refused(other, api.ErrBusy)
	b.told(call(api.MethodEcho, 1), none, 0, 0)
}

// 30.1: ErrNone: no slot can be picked, as all are taken, or retired.
func TestCallNone(t *testing.T) {
	for slots := 1; slots <= 3; slots++ {
		b := sitAt(t, config(), 1, 16, slots, 1)
		for n := range slots {
			b.told(call(api.MethodEcho, 1), none, 0, 0)
			b.counts(n+1, slots-n-1, 0)
		}
		b.refused(call(api.MethodEcho, 1), api.ErrNone)
		for n := range slots {
			b.asks(cancel(uint32(n + 1)))
			b.refused(call(api.MethodEcho, 1), api.ErrNone)
		}
		b.counts(0, 0, slots)
	}
}

// touchy is a config whose breakers open when one thing went ill.
func touchy(trials int) api.Config {
	x := config()
	x.Break = api.Break{Buckets: 2, Width: 100, Least: 1, Part: 100, Cool: 10, Trials: trials}
	return x
}

// ill lets a call of the service 0 go ill.
func (b *bench) ill() {
	b.t.Helper()
	x := call(api.MethodEcho, 1)
	x.End = b.now + 1
	r := b.accepted(x)
	b.now++
	b.put(b.w.Due, due(r, api.ForDeadline))
	b.flow()
	b.news()
	if r.How != api.EndTimeout {
		b.t.Fatalf("%+v", r)
	}
	b.empty(b.w.Requests[0])
	b.empty(b.w.Alarms)
}

// 30.1: ErrOpen: that service's breaker is open; another one's is not.
func TestCallOpen(t *testing.T) {
	b := sit(t, touchy(1))
	b.ill()
	b.breaker(0, api.BreakerOpen)
	b.breaker(1, api.BreakerShut)
	b.refused(call(api.MethodEcho, 1), api.ErrOpen)
	other := call(api.MethodEcho, 1)
	other.Service = 1
	b.told(other, none, 0, 0)
	b.now += 9
	b.refused(call(api.MethodEcho, 1), api.ErrOpen)
	b.now++
	b.breaker(0, api.BreakerHalf)
	b.told(call(api.MethodEcho, 1), none, 0, 0)
	b.refused(call(api.MethodEcho, 1), api.ErrOpen)
}

// 30.1: the slot that the breaker refused was picked: it is the last one that can be picked then.
func TestCallOpenSlot(t *testing.T) {
	b := sit(t, touchy(1))
	b.ill()
	b.refused(call(api.MethodEcho, 1), api.ErrOpen)
	other := call(api.MethodEcho, 1)
	other.Service = 1
	// The slot 0 went first, and is back behind the others; then 1 was picked, and refused.
	for n, want := range []int{2, 0, 1} {
		if r := b.accepted(other); r.F.Slot != want {
			t.Fatalf("call %d has the slot %d", n, r.F.Slot)
		}
	}
}

// 30.1: where several errors apply it is the one named first; a call that may try is not lost by another error.
func TestCallOrder(t *testing.T) {
	x := touchy(1)
	x.Records, x.All, x.Each = 3, 2, 2
	b := sitAt(t, x, 1, 8, 2, 9)
	ill, bad := call(api.MethodEcho, 1), call(api.MethodEcho, 1)
	bad.Service = 1
	b.ill()
	b.told(poll(1), none, api.EndTimeout, 0)
	b.now += 10
	b.breaker(0, api.BreakerHalf)
	// Two go on, one of them to try: all but the records are taken.
	b.told(ill, none, 0, 0)
	b.refused(bad, api.ErrInput)
	b.refused(ill, api.ErrOpen)
	b.put(b.w.Replies[0], of(b.find(2), api.KindReply, 0, 1))
	b.flow()
	b.breaker(0, api.BreakerShut)
	b.empty(b.w.Requests[0])
	b.told(ill, none, 0, 0)
	b.told(ill, none, 0, 0)
	b.refused(bad, api.ErrInput)
	b.refused(ill, api.ErrFull)
	b.flow()
	b.told(poll(2), none, api.EndReply, 1)
	b.refused(bad, api.ErrInput)
	b.refused(ill, api.ErrBusy)
}

// 30.1: no room for a record is told ahead of all that is told behind it, and so is each of the others.
func TestCallOrderPairs(t *testing.T) {
	for mask := range 16 {
		if mask == 0 {
			continue
		}
		x := touchy(1)
		x.Records, x.All, x.Each = 4, 4, 4
		slots := 4
		if mask&4 != 0 {
			slots = 1
		}
		want := []api.Errno{api.ErrFull, api.ErrBusy, api.ErrNone, api.ErrOpen}
		for n := range 4 {
			if mask>>n&1 != 0 {
				want = want[n:]
				break
			}
		}
		if mask&1 != 0 {
			x.Records = 2
		}
		if mask&2 != 0 {
			x.All = 1
		}
		b := sitAt(t, x, 1, 8, slots, 9)
		b.ill()
		b.now += 10
		b.told(call(api.MethodEcho, 1), none, 0, 0) // the one that tries; it is not sent to again
		if mask&8 == 0 {
			r := b.find(2)
			b.put(b.w.Replies[0], of(r, api.KindReply, 0, 1))
			b.flow()
			b.told(poll(2), none, api.EndReply, 1)
			b.told(call(api.MethodEcho, 1), none, 0, 0)
		}
		b.refused(call(api.MethodEcho, 1), want[0])
	}
}

// 30.1: a half open breaker lets Trials go; what is refused for another reason is none of them.
func TestCallTrials(t *testing.T) {
	x := touchy(2)
	x.All = 2
	b := sitAt(t, x, 2, 16, 4, 9)
	b.ill()
	b.now += 10
	other := call(api.MethodEcho, 1)
	other.Service = 1
	b.told(other, none, 0, 0)
	b.told(other, none, 0, 0)
	for range 5 {
		b.refused(call(api.MethodEcho, 1), api.ErrBusy)
		b.refused(call(99, 1), api.ErrInput)
	}
	b.asks(cancel(2))
	b.asks(cancel(3))
	b.told(call(api.MethodEcho, 1), none, 0, 0)
	b.told(call(api.MethodEcho, 1), none, 0, 0)
	b.asks(cancel(b.c.Next() - 1))
	b.refused(call(api.MethodEcho, 1), api.ErrOpen)
}

// 30.1: no room for the alarm: the turn is ended again, in two steps, and nothing is left of the call.
func TestCallNoAlarm(t *testing.T) {
	b := sit(t, touchy(1))
	b.fill(b.w.Alarms)
	x, cell := call(api.MethodEcho, 1), b.c.Table().Cell(0)
	b.begin(x)
	b.touches(false, -1, cell, cell, ring.Tail(b.w.Alarms), ring.Stand(b.w.Alarms, 4), cell)
	b.counts(1, 2, 0)
	b.touches(false, cell)
	b.gone(x, cell)
}

// gone fails where anything is left of the call 1, that had no room.
func (b *bench) gone(x api.Ask, cell int) {
	b.t.Helper()
	b.happened(b.invoked(x, 1), b.returned(x, 1, api.ErrFull, 0, 0))
	b.counts(0, 3, 0)
	b.owes(false)
	b.waits()
	b.breaker(0, api.BreakerOpen)
	b.breaker(1, api.BreakerShut)
	if got := b.a.Look(cell); b.c.Book().Len() != 0 || got != slot.Word(1, api.SlotFree) || b.c.Next() != 2 || !b.c.Idle() {
		b.t.Errorf("%d records, the slot has %x, next is %d", b.c.Book().Len(), got, b.c.Next())
	}
	b.told(poll(1), api.ErrNone, 0, 0)
	b.flow()
	b.happened()
}

// 30.1: the document's fifth example: no room for the first try: so it is, too; its alarm comes, and does nothing.
func TestCallNoRequest(t *testing.T) {
	b := sit(t, touchy(1))
	b.fill(b.w.Requests[0])
	x, cell := call(api.MethodEcho, 1), b.c.Table().Cell(0)
	b.begin(x)
	want := slices.Concat([]int{-1, cell, cell}, sendSteps(b.w.Alarms, 0), []int{ring.Tail(b.w.Requests[0]), ring.Stand(b.w.Requests[0], 4), cell, cell})
	b.touches(false, want[:len(want)-1]...)
	r := b.find(1)
	b.counts(1, 2, 0)
	b.touches(false, cell)
	b.gone(x, cell)
	b.empty(b.w.Requests[0])
	b.takes(b.w.Alarms, asked(r, 1000, api.ForDeadline))
	b.now = 1000
	b.put(b.w.Due, due(r, api.ForDeadline))
	b.flow()
	b.happened()
	b.takes(b.w.Requests[0])
}

// 30.1: the call that was refused takes a trial from a half open breaker, and brings it back by going ill.
func TestCallNoRoomTrial(t *testing.T) {
	b := sit(t, touchy(1))
	b.ill()
	b.now += 10
	b.fill(b.w.Requests[0])
	b.told(call(api.MethodEcho, 1), api.ErrFull, 0, 0)
	b.breaker(0, api.BreakerOpen)
	b.empty(b.w.Requests[0])
	b.now += 10
	b.told(call(api.MethodEcho, 1), none, 0, 0)
}

// 30.1: a turn that was the slot's last is retired, also where its call is refused.
func TestCallNoRoomRetired(t *testing.T) {
	b := sitAt(t, config(), 1, 4, 2, 1)
	b.fill(b.w.Requests[0])
	b.told(call(api.MethodEcho, 1), api.ErrFull, 0, 0)
	b.counts(0, 1, 1)
}

// 30.1: the call ended ahead of there being no room for its first try: then it was accepted, and owes nothing, as nothing was sent.
func TestCallNoRoomEnded(t *testing.T) {
	b := sit(t, touchy(1))
	b.fill(b.w.Requests[0])
	x := call(api.MethodEcho, 1)
	x.End = 9
	b.begin(x)
	b.hand(11)
	b.happened(b.invoked(x, 1))
	r := b.find(1)
	b.now = 9
	b.put(b.w.Due, due(r, api.ForDeadline))
	b.flow()
	b.happened(b.resolve(1, api.EndTimeout, 0))
	if !r.Sending || r.Owes {
		t.Errorf("%+v", r)
	}
	b.touches(false, ring.Stand(b.w.Requests[0], 4), b.c.Table().Cell(0))
	b.happened(b.returned(x, 1, none, api.EndTimeout, 0))
	b.counts(0, 3, 0)
	b.owes(false)
	b.waits()
	if r.Sending || r.Sent {
		t.Errorf("%+v", r)
	}
	b.told(poll(1), none, api.EndTimeout, 0)
	b.told(poll(1), api.ErrNone, 0, 0)
}

// 30.1: it may end between the two steps that end its turn again; then that begins anew, and finds that it ended.
func TestCallNoRoomEndedBetween(t *testing.T) {
	b := sit(t, config())
	b.fill(b.w.Requests[0])
	x := call(api.MethodEcho, 1)
	x.End = 9
	b.begin(x)
	b.hand(13)
	r := b.find(1)
	b.now = 9
	b.put(b.w.Due, due(r, api.ForDeadline))
	b.flow()
	b.news()
	b.touches(false, b.c.Table().Cell(0))
	b.happened()
	b.touches(false, b.c.Table().Cell(0))
	b.happened(b.returned(x, 1, none, api.EndTimeout, 0))
	b.counts(0, 3, 0)
}

// 30.1: a call that ends while its first try is being sent: its service is told behind that, not ahead.
func TestCallEndsWhileSent(t *testing.T) {
	for before := 10; before < 17; before++ {
		b := sit(t, config())
		x := call(api.MethodEcho, 1)
		x.End = 9
		b.begin(x)
		b.hand(before)
		r := b.find(1)
		b.now = 9
		b.put(b.w.Due, due(r, api.ForDeadline))
		b.flow()
		b.waits()
		b.counts(0, 3, 0)
		b.news()
		b.hand(17 - before)
		b.happened(b.returned(x, 1, none, api.EndTimeout, 0))
		b.waits(of(r, api.KindCancel, 0, 0), of(r, api.KindAck, 0, 0))
		b.owes(true)
		b.told(poll(1), api.ErrBusy, api.EndTimeout, 0)
		b.flow()
		b.owes(false)
		b.takes(b.w.Requests[0], r.F, of(r, api.KindCancel, 0, 0), of(r, api.KindAck, 0, 0))
		b.told(poll(1), none, api.EndTimeout, 0)
	}
}

// 30.1: who else sends into the ring may come first; then it begins anew, behind that one.
func TestCallInTheWay(t *testing.T) {
	for before := 11; before < 13; before++ {
		b := sit(t, config())
		b.begin(call(api.MethodEcho, 1))
		b.hand(before)
		r := b.find(1)
		b.put(b.w.Requests[0], api.Frame{Kind: api.KindAck, Client: 3})
		if e := b.end(); e.Err != none {
			t.Fatalf("%+v", e)
		}
		b.takes(b.w.Requests[0], api.Frame{Kind: api.KindAck, Client: 3}, r.F)
		// What it had found was lost: one look at the place, or that and the swap; then it begins anew.
		if want := 17 + before - 9; b.steps != want {
			t.Errorf("%d steps, not %d", b.steps, want)
		}
	}
}

// 30.1: turns of a slot follow one another, and slots are taken in line; a turn never comes again.
func TestTurns(t *testing.T) {
	b := sitAt(t, config(), 1, 16, 2, 3)
	for n := range 6 {
		r := b.accepted(call(api.MethodEcho, 1))
		if r.F.Slot != n%2 || r.F.Gen != 1+n/2 {
			t.Fatalf("call %d has the turn %d of the slot %d", n+1, r.F.Gen, r.F.Slot)
		}
		b.asks(cancel(uint32(n + 1)))
		b.flow()
		b.asks(poll(uint32(n + 1)))
		b.empty(b.w.Requests[0])
		b.empty(b.w.Alarms)
	}
	b.counts(0, 0, 2)
	b.refused(call(api.MethodEcho, 1), api.ErrNone)
}

// 30.1: a slot that is not free, though it was picked, has no turn for a call: it is refused, and nothing is written.
func TestCallSlotTaken(t *testing.T) {
	for _, w := range []uint64{slot.Word(3, api.SlotPending), slot.Word(3, api.SlotStreams), slot.Word(3, api.SlotRetired), slot.Word(5, api.SlotFree)} {
		b := sit(t, touchy(1))
		cell := b.c.Table().Cell(0)
		b.a.Write(cell, w)
		b.told(call(api.MethodEcho, 1), api.ErrNone, 0, 0)
		if b.a.Look(cell) != w || b.c.Book().Len() != 0 || b.c.Admit().Len() != 0 {
			t.Errorf("the slot had %x, and has %x", w, b.a.Look(cell))
		}
		b.takes(b.w.Alarms)
		b.breaker(0, api.BreakerOpen)
	}
}

// 30.1: what is asked of a call that there is no record of: ErrNone, in one step, without a cell, whatever is asked.
func TestAskNone(t *testing.T) {
	b := sit(t, config())
	b.accepted(call(api.MethodCount, 1))
	b.news()
	for _, n := range []uint32{0, 2, 3, 1 << 31, math.MaxUint32} {
		for _, what := range numbers {
			if what == api.AskCall {
				continue
			}
			x := api.Ask{What: what, Call: n, Service: 1, Method: 2, Arg: 3, Sure: true, End: 4}
			b.begin(x)
			b.touches(false, -1)
			b.happened(b.invoked(x, n), b.returned(x, n, api.ErrNone, 0, 0))
		}
	}
	b.counts(1, 2, 0)
}

// 30.1: another What: ErrInput, where there is a record of the call, whether that goes on or ended.
func TestAskInput(t *testing.T) {
	b := sit(t, config())
	b.accepted(call(api.MethodCount, 1))
	for _, how := range []int{api.EndNone, api.EndCancelled} {
		if how == api.EndCancelled {
			b.asks(cancel(1))
		}
		for _, what := range numbers {
			if what >= api.AskCall && what <= api.AskGrant {
				continue
			}
			x := api.Ask{What: what, Call: 1}
			b.news()
			b.begin(x)
			b.touches(false, -1)
			b.happened(b.invoked(x, 1), b.returned(x, 1, api.ErrInput, how, 0))
		}
	}
}

// 30.1: a cancelling: it looks, then ends the turn; the call is told as ended, then the cancelling OK.
func TestCancel(t *testing.T) {
	for _, method := range []int{api.MethodEcho, api.MethodPower} {
		b := sit(t, touchy(1))
		r := b.accepted(call(method, 1))
		x, cell := cancel(1), b.c.Table().Cell(0)
		b.now = 8
		b.news()
		b.begin(x)
		b.touches(false, -1, cell)
		b.counts(1, 2, 0)
		b.touches(false, cell)
		b.happened(b.invoked(x, 1), b.resolve(1, api.EndCancelled, 0), b.returned(x, 1, none, api.EndCancelled, 0))
		b.counts(0, 3, 0)
		b.breaker(0, api.BreakerShut)
		if b.a.Look(cell) != slot.Word(1, api.SlotFree) || r.How != api.EndCancelled || r.Value != 0 {
			t.Errorf("%x, %+v", b.a.Look(cell), r)
		}
		b.waits(of(r, api.KindCancel, 0, 0), of(r, api.KindAck, 0, 0))
		b.owes(true)
	}
}

// 30.1: a cancelling of what ended: ErrStale, in one step, without a cell, how ever it ended.
func TestCancelEnded(t *testing.T) {
	for _, how := range ways {
		b := sit(t, config())
		r := b.endBy(how)
		b.news()
		x := cancel(r.F.Call)
		b.begin(x)
		b.touches(false, -1)
		if !b.c.Idle() {
			t.Error("it goes on")
		}
		b.happened(b.invoked(x, r.F.Call), b.returned(x, r.F.Call, api.ErrStale, how, 0))
	}
}

// 30.1: the other hand may end the call while it is cancelled: ErrStale, at the first look or when that is changed.
func TestCancelLost(t *testing.T) {
	for before := 1; before < 3; before++ {
		b := sit(t, config())
		r := b.accepted(call(api.MethodEcho, 1))
		b.news()
		b.begin(cancel(1))
		b.hand(before)
		b.put(b.w.Replies[0], of(r, api.KindReply, 0, 6))
		b.flow()
		b.happened(b.invoked(cancel(1), 1), b.resolve(1, api.EndReply, 6))
		b.touches(false, slices.Repeat([]int{b.c.Table().Cell(0)}, before)...)
		b.happened(b.returned(cancel(1), 1, api.ErrStale, api.EndReply, 0))
		b.counts(0, 3, 0)
	}
}

// 30.1: a polling, in one step, without a cell: ErrBusy, as long as it goes on, or its service is still to be told; then how it ended, once.
func TestPoll(t *testing.T) {
	for _, how := range ways {
		b := sit(t, config())
		b.ready(how)
		b.news()
		for range 2 {
			b.begin(poll(1))
			b.touches(false, -1)
			b.happened(b.invoked(poll(1), 1), b.returned(poll(1), 1, api.ErrBusy, 0, 0))
		}
		b.finish(how)
		r := b.find(1)
		for r.Owes {
			b.told(poll(1), api.ErrBusy, how, 0)
			b.step(true)
		}
		b.news()
		b.begin(poll(1))
		b.touches(false, -1)
		b.happened(b.invoked(poll(1), 1), b.returned(poll(1), 1, none, how, valueOf(how)))
		if b.c.Book().Len() != 0 {
			t.Error("the record is there")
		}
		b.told(poll(1), api.ErrNone, 0, 0)
	}
}

// 30.1: a reading, in one step, without a cell: chunks in order; ErrBusy, as long as more may come; ErrEmpty behind the end.
func TestRecv(t *testing.T) {
	b := sit(t, config())
	r := b.accepted(call(api.MethodCount, 7))
	reads := func(err api.Errno, how int, v uint32) {
		t.Helper()
		b.news()
		b.begin(recv(1))
		b.touches(false, -1)
		b.happened(b.invoked(recv(1), 1), b.returned(recv(1), 1, err, how, v))
	}
	reads(api.ErrBusy, 0, 0)
	for n := range uint32(2) {
		b.put(b.w.Replies[0], of(r, api.KindChunk, int(n), 7+n))
	}
	b.flow()
	if r.Credit.Out() != 2 || r.Chunks.Left() != 2 {
		t.Errorf("%+v", r.Credit)
	}
	reads(none, 0, 7)
	if r.Credit.Out() != 1 || r.Credit.Taken() != 1 {
		t.Errorf("%+v", r.Credit)
	}
	b.put(b.w.Replies[0], of(r, api.KindEnd, 2, 0))
	b.flow()
	reads(none, api.EndStream, 8)
	reads(api.ErrEmpty, api.EndStream, 0)
	if r.Credit.Out() != 0 || r.Credit.Taken() != 2 {
		t.Errorf("%+v", r.Credit)
	}
	b.told(poll(1), none, api.EndStream, 2)
	reads(api.ErrNone, 0, 0)
}

// 30.1: what came of a stream that ended otherwise can be read, too; of what is no stream there is nothing: ErrEmpty, also as long as it goes on.
func TestRecvEnded(t *testing.T) {
	b := sit(t, config())
	r := b.accepted(call(api.MethodCount, 7))
	b.put(b.w.Replies[0], of(r, api.KindChunk, 0, 7))
	b.flow()
	b.asks(cancel(1))
	b.told(recv(1), none, api.EndCancelled, 7)
	b.told(recv(1), api.ErrEmpty, api.EndCancelled, 0)
	b.accepted(call(api.MethodEcho, 7))
	b.told(recv(2), api.ErrEmpty, 0, 0)
	b.asks(cancel(2))
	b.told(recv(2), api.ErrEmpty, api.EndCancelled, 0)
}

// 30.1: a reading takes as much of the credit as was read, also where more came than was granted.
func TestRecvMore(t *testing.T) {
	b := sit(t, config())
	r := b.accepted(call(api.MethodCount, 0))
	for n := range 3 {
		b.put(b.w.Replies[0], of(r, api.KindChunk, n, 0))
		b.flow()
	}
	for n := range 3 {
		b.told(recv(1), none, 0, 0)
		if want := max(0, 1-n); r.Credit.Out() != want {
			t.Errorf("%d are out", r.Credit.Out())
		}
	}
}

// 30.1: a granting, in one step, without a cell: as many as the window has room for; ErrFull: none.
func TestGrant(t *testing.T) {
	args := []uint32{0, 1, 2, 3, 15, 16, 17, 1<<31 - 1, 1 << 31, math.MaxUint32}
	for window := 1; window <= mostWindow; window++ {
		for read := range window + 1 {
			for _, arg := range args {
				x := config()
				x.Window = window
				b := sit(t, x)
				r := b.accepted(call(api.MethodCount, 7))
				r.Chunks = chunks.New()
				for n := range read {
					r.Chunks.Put(n, 0)
					b.told(recv(1), none, 0, 0)
				}
				b.news()
				ask := grant(1, arg)
				b.begin(ask)
				b.touches(false, -1)
				n := min(arg, uint32(read))
				if n == 0 {
					b.happened(b.invoked(ask, 1), b.returned(ask, 1, api.ErrFull, 0, 0))
					b.waits()
					continue
				}
				b.happened(b.invoked(ask, 1), b.returned(ask, 1, none, 0, n))
				b.waits(of(r, api.KindCredit, 0, n))
				if r.Credit.Out() != window-read+int(n) || r.Credit.Granted() != window+int(n) {
					t.Errorf("%+v", r.Credit)
				}
			}
		}
	}
}

// 30.1: ErrInput: no stream, also where it ended; ErrStale: it ended; ErrFull: nothing can be granted.
func TestGrantErrors(t *testing.T) {
	b := sit(t, config())
	b.accepted(call(api.MethodEcho, 7))
	r := b.accepted(call(api.MethodCount, 7))
	b.told(grant(1, 1), api.ErrInput, 0, 0)
	b.told(grant(2, 1), api.ErrFull, 0, 0)
	b.told(grant(3, 1), api.ErrNone, 0, 0)
	b.put(b.w.Replies[0], of(r, api.KindChunk, 0, 7))
	b.flow()
	b.told(recv(2), none, 0, 7)
	b.told(grant(2, 0), api.ErrFull, 0, 0)
	b.waits()
	b.asks(cancel(1))
	b.asks(cancel(2))
	b.told(grant(1, 1), api.ErrInput, api.EndCancelled, 0)
	b.told(grant(2, 1), api.ErrStale, api.EndCancelled, 0)
	if r.Credit != func() credit.Client {
		c, _ := credit.New(2).Grant(2)
		c, _ = c.Take()
		return c
	}() {
		t.Errorf("%+v", r.Credit)
	}
}

// 30.1: what is granted goes to its service; what waits for the same call, and is not the first, is added to.
func TestGrantSent(t *testing.T) {
	b := sit(t, config())
	r := b.accepted(call(api.MethodCount, 7))
	b.empty(b.w.Requests[0])
	other := b.accepted(call(api.MethodEcho, 7))
	b.empty(b.w.Requests[0])
	b.asks(cancel(2))
	for n := range 2 {
		b.put(b.w.Replies[0], of(r, api.KindChunk, n, 7))
		r.Chunks.Put(n, 7)
		b.told(recv(1), none, 0, 7)
		b.told(grant(1, 9), none, 0, 1)
	}
	b.waits(of(other, api.KindCancel, 0, 0), of(other, api.KindAck, 0, 0), of(r, api.KindCredit, 0, 2))
	b.flow()
	b.takes(b.w.Requests[0], of(other, api.KindCancel, 0, 0), of(other, api.KindAck, 0, 0), of(r, api.KindCredit, 0, 2))
}

// 30.1: what else the tries begin with waits at the pump: the alarm of a hedge, from when the deadline is asked for.
func TestCallHedge(t *testing.T) {
	x := config()
	x.Hedges = api.Hedges{Most: 2, After: 4}
	b := sit(t, x)
	b.now = 10
	b.begin(call(api.MethodEcho, 1))
	b.hand(9)
	b.waits()
	b.hand(1)
	r := b.find(1)
	b.waits(asked(r, 14, api.ForHedge))
	b.end()
	b.waits(asked(r, 14, api.ForHedge))
	for _, ask := range []api.Ask{call(api.MethodCount, 1), {What: api.AskCall, Sure: true, End: 100}, {What: api.AskCall, End: 14}} {
		b.accepted(ask)
		b.waits(asked(r, 14, api.ForHedge))
		b.empty(b.w.Alarms)
		b.empty(b.w.Requests[0])
		b.asks(cancel(b.c.Next() - 1))
		b.flow()
		b.c.Pump().Put(asked(r, 14, api.ForHedge))
	}
}

// 30.1: a step of a task that others sent into is one cell's, too.
func TestCallBesideOthers(t *testing.T) {
	for lead := range 8 {
		b := sit(t, config())
		w, s := b.w.Requests[0], send.New(b.w.Requests[0], api.Words{})
		b.begin(call(api.MethodEcho, 1))
		b.hand(10)
		for range lead {
			s = s.Step(b.a)
		}
		for !b.c.Idle() {
			b.step(false)
			s = s.Step(b.a)
		}
		for range 20 {
			s = s.Step(b.a)
		}
		if ring.Held(b.a, w, 0) != 2 {
			t.Errorf("lead %d: %d frames", lead, ring.Held(b.a, w, 0))
		}
	}
}
