package attempt_test

import (
	"math"
	"slices"
	"testing"

	"cableway/api"
	"cableway/attempt"
	"cableway/budget"
)

const (
	never = api.Never
	last  = 15 // the last try's number, as the chapter's given limit is

	none  = api.MoveNone
	retry = api.ForRetry
	side  = api.ForHedge
)

// request is what a client asks for; its kind and its try are other ones than a request's.
var request = api.Frame{Kind: api.KindCancel, Client: 1, Service: 2, Slot: 3, Gen: 4, Call: 5, Try: 9, Seq: 3, Value: 7}

// rich is a rule of retries that are never refused.
var rich = api.Retries{Most: 14, Room: 100, Cost: 1, Wait: 2, Bound: 8}

// times are times, and what are none, beside each other.
var times = []api.Tick{
	math.MinInt64, math.MinInt64 + 1, -never - 1, -never, -5, -1, 0, 1, 2, 3, 4, 5, 8, 99, 100, 1000,
	never/2 - 1, never / 2, never - 5, never - 4, never - 2, never - 1, never, never + 1, 2 * never, math.MaxInt64 - 1, math.MaxInt64,
}

// numbers are numbers, and what are none, beside each other.
var numbers = []int{math.MinInt, math.MinInt + 1, -16, -1, 0, 1, 2, 3, 13, 14, 15, 16, 17, 63, 64, 1 << 32, math.MaxInt - 1, math.MaxInt}

// sure and streams are the request, as one that is done once at most, and as one that streams.
func sure() api.Frame {
	f := request
	f.Sure = true
	return f
}

func streams() api.Frame {
	f := request
	f.Stream = true
	return f
}

// sends is the move that sends a try of a frame.
func sends(f api.Frame, try int) api.Move {
	f.Kind, f.Try = api.KindRequest, try
	return api.Move{What: api.MoveSend, Frame: f}
}

// waits is the move that waits for something of a frame's turn.
func waits(f api.Frame, what int, at api.Tick) api.Move {
	return api.Move{What: api.MoveWait, Alarm: api.Alarm{At: at, Client: f.Client, Slot: f.Slot, Gen: f.Gen, What: what}}
}

// fails is the move of a call that failed.
func fails() api.Move { return api.Move{What: api.MoveFail} }

// moved fails where other things are to be done.
func moved(t *testing.T, got []api.Move, want ...api.Move) {
	t.Helper()
	if !slices.Equal(got, want) {
		t.Fatalf("%+v, not %+v", got, want)
	}
}

// counted fails where there were other tries.
func counted(t *testing.T, a *attempt.Attempt, sent, retries, hedges, out int) {
	t.Helper()
	got, want := [4]int{a.Sent(), a.Retries(), a.Hedges(), a.Out()}, [4]int{sent, retries, hedges, out}
	if got != want {
		t.Fatalf("sent, retries, hedges, out: %v, not %v", got, want)
	}
}

// begun is a call of a frame that began at 0.
func begun(t *testing.T, f api.Frame, end api.Tick, h api.Hedges) *attempt.Attempt {
	t.Helper()
	a := attempt.New(f, end, h)
	if got := a.Begin(0); len(got) == 0 || got[0] != sends(f, 0) {
		t.Fatalf("Begin: %+v", got)
	}
	return a
}

// near is the nearest time.
func near(t api.Tick) api.Tick {
	switch {
	case t < 0:
		return 0
	case t > never:
		return never
	}
	return t
}

// later is so many ticks behind a time; both are small enough, when they are near, for their sum not to wrap round.
func later(t, n api.Tick) api.Tick { return near(near(t) + near(n)) }

// plain is a call's tries as a list of all of them.
type plain struct {
	f     api.Frame
	end   api.Tick
	h     api.Hedges
	tries []try
	waits bool
}

// try is what a try is for (0: the first one), and whether it is out.
type try struct {
	what int
	out  bool
}

// count is how many tries are such.
func (p *plain) count(is func(try) bool) int {
	n := 0
	for _, x := range p.tries {
		if is(x) {
			n++
		}
	}
	return n
}

// of is how many tries are for something.
func (p *plain) of(what int) int { return p.count(func(x try) bool { return x.what == what }) }

func (p *plain) out() int { return p.count(func(x try) bool { return x.out }) }

// most is how many hedges there may be.
func (p *plain) most() int {
	if p.f.Sure || p.f.Stream || p.h.After <= 0 {
		return 0
	}
	return max(0, min(p.h.Most, 14))
}

// send is the next try, and for all but a retry the waiting for a hedge.
func (p *plain) send(what int, now api.Tick) []api.Move {
	if len(p.tries) > last {
		return nil
	}
	l := []api.Move{sends(p.f, len(p.tries))}
	p.tries = append(p.tries, try{what, true})
	at := later(now, p.h.After)
	if what != retry && p.of(side) < p.most() && at < near(p.end) {
		l = append(l, waits(p.f, side, at))
	}
	return l
}

func (p *plain) begin(now api.Tick) []api.Move {
	if len(p.tries) > 0 {
		return nil
	}
	return p.send(0, now)
}

func (p *plain) failed(n int, now api.Tick, b *budget.Budget) []api.Move {
	if n < 0 || n >= len(p.tries) || !p.tries[n].out {
		return nil
	}
	p.tries[n].out = false
	if p.waits || p.out() > 0 {
		return nil
	}
	if p.f.Stream || p.of(retry) >= b.Most() || len(p.tries) > last || !b.Take() {
		return []api.Move{fails()}
	}
	at := later(now, b.Wait(p.of(retry)+1))
	if at >= near(p.end) {
		return []api.Move{fails()}
	}
	p.waits = true
	return []api.Move{waits(p.f, retry, at)}
}

func (p *plain) due(what int, now api.Tick) []api.Move {
	switch {
	case what == retry && p.waits:
		p.waits = false
		return p.send(retry, now)
	case what == side && len(p.tries) > 0 && p.of(side) < p.most():
		return p.send(side, now)
	}
	return nil
}

// same fails where there were other tries than those in the list.
func same(t *testing.T, a *attempt.Attempt, p *plain) {
	t.Helper()
	retries := p.of(retry)
	if p.waits {
		retries++
	}
	counted(t, a, len(p.tries), retries, p.of(side), p.out())
}

// 20.1: the numbers' limits and names are those that are given.
func TestNumbers(t *testing.T) {
	if api.MostTry != last || none != 0 || api.MoveSend != 1 || api.MoveWait != 2 || api.MoveFail != 3 {
		t.Fatal("other numbers")
	}
}

// 20.1: the document's example.
func TestExample(t *testing.T) {
	a := attempt.New(api.Frame{}, 100, api.Hedges{})
	moved(t, a.Begin(0), api.Move{What: api.MoveSend, Frame: api.Frame{Kind: api.KindRequest, Try: 0}})
}

// 20.1, 20.2: of a new one nothing was sent yet.
func TestNew(t *testing.T) {
	for _, n := range numbers {
		for _, at := range times {
			a := attempt.New(request, at, api.Hedges{Most: n, After: at})
			if a == nil {
				t.Fatal("nil")
			}
			counted(t, a, 0, 0, 0, 0)
		}
	}
}

// 20.1: it begins once; each try is the request, but for its kind and number.
func TestBeginOnce(t *testing.T) {
	for _, f := range []api.Frame{
		{}, request, sure(), streams(), {Kind: api.KindRequest}, {Kind: -1, Try: math.MaxInt}, {Kind: math.MinInt, Try: -1},
		{Kind: 99, Client: -7, Service: 99, Slot: math.MinInt, Gen: math.MaxInt, Call: math.MaxUint32, Seq: -1, Value: math.MaxUint32},
	} {
		a := attempt.New(f, 100, api.Hedges{})
		moved(t, a.Begin(7), sends(f, 0))
		counted(t, a, 1, 0, 0, 1)
		for range 3 {
			moved(t, a.Begin(8))
			counted(t, a, 1, 0, 0, 1)
		}
		// Nor when it is out no more.
		a.Failed(0, 9, nil)
		moved(t, a.Begin(10))
		counted(t, a, 1, 0, 0, 0)
	}
}

// 20.1: it waits for a hedge, if there is to be one, by hand.
func TestBeginHedgeByHand(t *testing.T) {
	for _, c := range []struct {
		most     int
		after    api.Tick
		now, end api.Tick
		at       api.Tick // never: none
	}{
		{2, 4, 0, 100, 4}, {2, 4, 7, 100, 11}, {1, 4, 0, 100, 4}, {14, 1, 98, 100, 99}, {math.MaxInt, 4, 0, 100, 4},
		{0, 4, 0, 100, never}, {-1, 4, 0, 100, never}, {2, 0, 0, 100, never}, {2, -1, 0, 100, never},
		{2, 4, 95, 100, 99}, {2, 4, 96, 100, never}, {2, 4, 97, 100, never}, {2, 4, 100, 100, never}, {2, 4, 200, 100, never},
		{2, 4, 0, 5, 4}, {2, 4, 0, 4, never}, {2, 4, 0, 0, never}, {2, 4, 0, -1, never}, {2, 4, -9, 100, 4}, {2, 4, math.MinInt64, 100, 4},
		{2, 4, 0, never, 4}, {2, 4, never - 5, never, never - 1}, {2, 4, never - 4, never, never}, {2, 4, never, never, never},
		{2, 4, math.MaxInt64, math.MaxInt64, never}, {2, math.MaxInt64, 0, math.MaxInt64, never}, {2, never - 1, 0, math.MaxInt64, never - 1},
	} {
		a := attempt.New(request, c.end, api.Hedges{Most: c.most, After: c.after})
		want := []api.Move{sends(request, 0)}
		if c.at != never {
			want = append(want, waits(request, api.ForHedge, c.at))
		}
		moved(t, a.Begin(c.now), want...)
		counted(t, a, 1, 0, 0, 1)
	}
}

// 20.1: what is done once at most, or streams, waits for no hedge.
func TestBeginWithoutHedge(t *testing.T) {
	for _, f := range []api.Frame{sure(), streams()} {
		a := attempt.New(f, 100, api.Hedges{Most: 3, After: 4})
		moved(t, a.Begin(0), sends(f, 0))
		counted(t, a, 1, 0, 0, 1)
	}
}

// 20.1: it begins and hedges at all edges, against a plain one.
func TestBeginHedge(t *testing.T) {
	for _, n := range []int{math.MinInt, 0, 1, 15, math.MaxInt} {
		for _, after := range times {
			for _, now := range times {
				for _, end := range times {
					h := api.Hedges{Most: n, After: after}
					a, p := attempt.New(request, end, h), &plain{f: request, end: end, h: h}
					moved(t, a.Begin(now), p.begin(now)...)
					for range 2 {
						moved(t, a.Due(side, now), p.due(side, now)...)
					}
					same(t, a, p)
				}
			}
		}
	}
}

// 20.1, 20.2: one that failed waits for a retry, each for as long as the budget tells of it, up to as many as there may be.
func TestRetries(t *testing.T) {
	b := budget.New(api.Retries{Most: 4, Room: 10, Cost: 2, Wait: 2, Bound: 9})
	a := begun(t, request, 1000, api.Hedges{})
	now := api.Tick(10)
	for i, wait := range []api.Tick{2, 4, 8, 9} {
		counted(t, a, i+1, i, 0, 1)
		moved(t, a.Failed(i, now, b), waits(request, api.ForRetry, now+wait))
		counted(t, a, i+1, i+1, 0, 0)
		if b.Left() != 10-2*(i+1) {
			t.Fatalf("%d is left", b.Left())
		}
		now += 20
		moved(t, a.Due(retry, now), sends(request, i+1))
		counted(t, a, i+2, i+1, 0, 1)
	}
	moved(t, a.Failed(4, now, b), fails())
	counted(t, a, 5, 4, 0, 0)
	if b.Left() != 2 {
		t.Fatalf("%d is left", b.Left())
	}
}

// 20.1: what is done once at most is tried again likewise.
func TestSureRetries(t *testing.T) {
	b := budget.New(rich)
	a := begun(t, sure(), 1000, api.Hedges{Most: 3, After: 1})
	moved(t, a.Failed(0, 5, b), waits(sure(), api.ForRetry, 7))
	moved(t, a.Due(retry, 7), sends(sure(), 1))
	counted(t, a, 2, 1, 0, 1)
}

// 20.1: where another one is out, nothing is done and nothing is taken; the last of them is the one that counts.
func TestFailedWhileOut(t *testing.T) {
	b := budget.New(rich)
	a := begun(t, request, 1000, api.Hedges{Most: 3, After: 4})
	for i := range 3 {
		a.Due(side, api.Tick(4+4*i))
	}
	counted(t, a, 4, 0, 3, 4)
	for i, n := range []int{2, 0, 3} {
		moved(t, a.Failed(n, 20, b))
		counted(t, a, 4, 0, 3, 3-i)
		// Once more it is nothing new.
		moved(t, a.Failed(n, 21, b))
		counted(t, a, 4, 0, 3, 3-i)
	}
	if b.Left() != 100 {
		t.Fatalf("%d is left", b.Left())
	}
	moved(t, a.Failed(1, 22, b), waits(request, api.ForRetry, 24))
	counted(t, a, 4, 1, 3, 0)
	if b.Left() != 99 {
		t.Fatalf("%d is left", b.Left())
	}
}

// 20.1: where a retry is waited for, nothing is done and nothing is taken.
func TestFailedWhileWaiting(t *testing.T) {
	b := budget.New(rich)
	a := begun(t, request, 1000, api.Hedges{Most: 3, After: 4})
	moved(t, a.Failed(0, 1, b), waits(request, api.ForRetry, 3))
	moved(t, a.Failed(0, 1, b))
	// A hedge is sent beside it, and fails.
	moved(t, a.Due(side, 2), sends(request, 1), waits(request, api.ForHedge, 6))
	counted(t, a, 2, 1, 1, 1)
	moved(t, a.Failed(1, 3, b))
	counted(t, a, 2, 1, 1, 0)
	moved(t, a.Failed(1, 3, b))
	if b.Left() != 99 {
		t.Fatalf("%d is left", b.Left())
	}
	moved(t, a.Due(retry, 3), sends(request, 2))
	counted(t, a, 3, 1, 1, 1)
	moved(t, a.Failed(2, 3, b), waits(request, api.ForRetry, 7))
}

// 20.1: what is not out does not fail: it was not sent, or is none, or failed already, or nothing began.
func TestFailedNotOut(t *testing.T) {
	b := budget.New(rich)
	a := attempt.New(request, 1000, api.Hedges{Most: 3, After: 4})
	for _, n := range numbers {
		moved(t, a.Failed(n, 0, b))
	}
	counted(t, a, 0, 0, 0, 0)
	a.Begin(0)
	for _, n := range numbers {
		if n != 0 {
			moved(t, a.Failed(n, 1, b))
		}
	}
	counted(t, a, 1, 0, 0, 1)
	if b.Left() != 100 {
		t.Fatalf("%d is left", b.Left())
	}
	// Of one that failed for good nothing fails any more.
	a = begun(t, streams(), 1000, api.Hedges{})
	moved(t, a.Failed(0, 1, b), fails())
	for _, n := range numbers {
		moved(t, a.Failed(n, 2, b))
	}
	counted(t, a, 1, 0, 0, 0)
}

// 20.1: it fails where it streams, was tried again so often, or the budget has nothing; nothing is taken then.
func TestFails(t *testing.T) {
	for _, c := range []struct {
		f api.Frame
		r api.Retries
	}{
		{streams(), rich},
		{request, api.Retries{}},
		{request, api.Retries{Most: 0, Room: 9, Cost: 1, Wait: 1, Bound: 1}},
		{request, api.Retries{Most: -1, Room: 9, Cost: 1, Wait: 1, Bound: 1}},
		{request, api.Retries{Most: math.MinInt, Room: 9, Cost: 0, Wait: 1, Bound: 1}},
		{request, api.Retries{Most: 3, Room: 0, Cost: 1, Wait: 1, Bound: 1}},
		{request, api.Retries{Most: 3, Room: 4, Cost: 5, Wait: 1, Bound: 1}},
		{sure(), api.Retries{Most: 3, Room: 4, Cost: 5, Wait: 1, Bound: 1}},
		{sure(), api.Retries{Most: 0, Room: 4, Cost: 1, Wait: 1, Bound: 1}},
	} {
		b := budget.New(c.r)
		left := b.Left()
		a := begun(t, c.f, 1000, api.Hedges{})
		moved(t, a.Failed(0, 5, b), fails())
		counted(t, a, 1, 0, 0, 0)
		if b.Left() != left {
			t.Errorf("%+v: %d is left", c.r, b.Left())
		}
		moved(t, a.Due(retry, 9))
		counted(t, a, 1, 0, 0, 0)
	}
	// Of no budget nothing may be tried again.
	a := begun(t, request, 1000, api.Hedges{})
	moved(t, a.Failed(0, 5, nil), fails())
	counted(t, a, 1, 0, 0, 0)
}

// 20.1: a hedge that is waited for keeps no call from failing.
func TestFailsAheadOfHedge(t *testing.T) {
	a := begun(t, request, 1000, api.Hedges{Most: 3, After: 4})
	moved(t, a.Failed(0, 1, nil), fails())
}

// 20.1: what the budget gets meanwhile counts, and each budget is asked by itself.
func TestBudgets(t *testing.T) {
	b := budget.New(api.Retries{Most: 3, Room: 5, Gain: 5, Cost: 5, Wait: 1, Bound: 9})
	a := begun(t, request, 1000, api.Hedges{})
	moved(t, a.Failed(0, 0, b), waits(request, api.ForRetry, 1))
	moved(t, a.Due(retry, 1), sends(request, 1))
	b.Well()
	moved(t, a.Failed(1, 1, b), waits(request, api.ForRetry, 3))
	moved(t, a.Due(retry, 3), sends(request, 2))
	moved(t, a.Failed(2, 3, b), fails())
	// One that was tried again more often than another budget lets it be is tried again no more.
	a = begun(t, request, 1000, api.Hedges{})
	moved(t, a.Failed(0, 0, budget.New(rich)), waits(request, api.ForRetry, 2))
	a.Due(retry, 2)
	moved(t, a.Failed(1, 2, budget.New(rich)), waits(request, api.ForRetry, 6))
	a.Due(retry, 6)
	few := budget.New(api.Retries{Most: 1, Room: 5, Cost: 5, Wait: 1, Bound: 9})
	moved(t, a.Failed(2, 6, few), fails())
	counted(t, a, 3, 2, 0, 0)
	if few.Left() != 5 {
		t.Fatalf("%d is left", few.Left())
	}
}

// 20.1: a retry that would come at the end, or behind it, is none; what the budget gave is gone then.
func TestRetryAtEnd(t *testing.T) {
	for _, c := range []struct {
		wait, now, end api.Tick
		at             api.Tick // never: none
	}{
		{4, 0, 100, 4}, {4, 95, 100, 99}, {4, 96, 100, never}, {4, 97, 100, never}, {4, 99, 100, never}, {4, 100, 100, never}, {4, 300, 100, never},
		{4, 0, 5, 4}, {4, 0, 4, never}, {4, 0, 3, never}, {4, 0, 1, never}, {4, 0, 0, never}, {4, 0, -1, never}, {4, -5, -1, never}, {4, math.MinInt64, math.MinInt64, never},
		{4, -5, 5, 4}, {4, -5, 4, never}, {4, math.MinInt64, 100, 4},
		// It waits for one tick at least.
		{0, 98, 100, 99}, {0, 99, 100, never}, {-7, 98, 100, 99},
		// A call that never ends is tried again, but not at Never, that does not come.
		{4, 0, never, 4}, {4, never - 5, never, never - 1}, {4, never - 4, never, never}, {4, never, never, never}, {4, never - 5, never + 1, never - 1},
		{4, math.MaxInt64, math.MaxInt64, never}, {never - 1, 0, never, never - 1}, {never - 1, 1, never, never}, {never, 0, never, never},
		{math.MaxInt64, 0, math.MaxInt64, never}, {math.MaxInt64, math.MinInt64, 100, never},
	} {
		b := budget.New(api.Retries{Most: 3, Room: 9, Cost: 2, Wait: c.wait, Bound: c.wait})
		a := begun(t, request, c.end, api.Hedges{})
		if c.at == never {
			moved(t, a.Failed(0, c.now, b), fails())
			counted(t, a, 1, 0, 0, 0)
			moved(t, a.Due(retry, c.now))
		} else {
			moved(t, a.Failed(0, c.now, b), waits(request, api.ForRetry, c.at))
			counted(t, a, 1, 1, 0, 0)
		}
		if b.Left() != 7 {
			t.Errorf("%+v: %d is left", c, b.Left())
		}
	}
}

// 20.1: retries at all edges of times, against a plain one.
func TestRetryTimes(t *testing.T) {
	for _, wait := range times {
		for _, now := range times {
			for _, end := range times {
				r := api.Retries{Most: 3, Room: 9, Cost: 2, Wait: wait, Bound: math.MaxInt64}
				b, twin := budget.New(r), budget.New(r)
				a, p := attempt.New(request, end, api.Hedges{}), &plain{f: request, end: end}
				moved(t, a.Begin(now), p.begin(now)...)
				for n := range 3 {
					moved(t, a.Failed(n, now, b), p.failed(n, now, twin)...)
					moved(t, a.Due(retry, now), p.due(retry, now)...)
				}
				same(t, a, p)
				if b.Left() != twin.Left() {
					t.Fatalf("waiting %d, at %d, to %d: %d is left, not %d", wait, now, end, b.Left(), twin.Left())
				}
			}
		}
	}
}

// 20.2: a retry is sent where it is waited for, once, whatever time it is; it waits for no hedge.
func TestDueRetry(t *testing.T) {
	for _, now := range times {
		b := budget.New(rich)
		a := begun(t, request, 100, api.Hedges{Most: 3, After: 4})
		moved(t, a.Due(retry, now))
		counted(t, a, 1, 0, 0, 1)
		a.Failed(0, 5, b)
		counted(t, a, 1, 1, 0, 0)
		moved(t, a.Due(retry, now), sends(request, 1))
		counted(t, a, 2, 1, 0, 1)
		moved(t, a.Due(retry, now))
		counted(t, a, 2, 1, 0, 1)
	}
}

// 20.2: hedges are sent as long as fewer were than there may be, each with the waiting for the next one, from then on.
func TestDueHedge(t *testing.T) {
	a := begun(t, request, 100, api.Hedges{Most: 3, After: 4})
	moved(t, a.Due(side, 4), sends(request, 1), waits(request, api.ForHedge, 8))
	counted(t, a, 2, 0, 1, 2)
	moved(t, a.Due(side, 9), sends(request, 2), waits(request, api.ForHedge, 13))
	counted(t, a, 3, 0, 2, 3)
	moved(t, a.Due(side, 13), sends(request, 3))
	counted(t, a, 4, 0, 3, 4)
	for range 3 {
		moved(t, a.Due(side, 17))
		counted(t, a, 4, 0, 3, 4)
	}
	// The next one would not be ahead of the end.
	a = begun(t, request, 100, api.Hedges{Most: 3, After: 4})
	moved(t, a.Due(side, 95), sends(request, 1), waits(request, api.ForHedge, 99))
	moved(t, a.Due(side, 96), sends(request, 2))
	counted(t, a, 3, 0, 2, 3)
	// One that has come is sent, however late.
	moved(t, a.Due(side, never), sends(request, 3))
	counted(t, a, 4, 0, 3, 4)
}

// 20.2: a call has as many hedges as layer 18 tells.
func TestDueHedges(t *testing.T) {
	for _, f := range []api.Frame{{}, request, sure(), streams()} {
		for _, n := range numbers {
			for _, after := range []api.Tick{math.MinInt64, -1, 0, 1, 4, 50, never, math.MaxInt64} {
				h := api.Hedges{Most: n, After: after}
				a, p := attempt.New(f, 100, h), &plain{f: f, end: 100, h: h}
				a.Begin(0)
				p.begin(0)
				for now := range api.Tick(20) {
					moved(t, a.Due(side, now), p.due(side, now)...)
					same(t, a, p)
				}
				if a.Hedges() != p.most() {
					t.Fatalf("%+v: %d", h, a.Hedges())
				}
			}
		}
	}
}

// 20.2: hedges are sent also where all that were sent failed.
func TestHedgeBehindFailed(t *testing.T) {
	b := budget.New(rich)
	a := begun(t, request, 100, api.Hedges{Most: 2, After: 4})
	a.Failed(0, 1, b)
	moved(t, a.Due(side, 4), sends(request, 1), waits(request, api.ForHedge, 8))
	moved(t, a.Due(retry, 5), sends(request, 2))
	moved(t, a.Due(side, 8), sends(request, 3))
	counted(t, a, 4, 1, 2, 3)
}

// 20.2: ahead of its beginning nothing is sent but by Begin.
func TestDueAheadOfBegin(t *testing.T) {
	a := attempt.New(request, 100, api.Hedges{Most: 3, After: 4})
	for what := range 5 {
		moved(t, a.Due(what, 4))
	}
	counted(t, a, 0, 0, 0, 0)
	moved(t, a.Begin(5), sends(request, 0), waits(request, api.ForHedge, 9))
}

// 20.2: what is waited for by others, or is nothing, does nothing.
func TestDueOther(t *testing.T) {
	b := budget.New(rich)
	a := begun(t, request, 100, api.Hedges{Most: 3, After: 4})
	a.Due(side, 4)
	a.Failed(0, 5, b)
	a.Failed(1, 5, b)
	for _, what := range append(numbers, api.ForDeadline, 4, 5) {
		if what != retry && what != side {
			moved(t, a.Due(what, 5))
		}
	}
	counted(t, a, 2, 1, 1, 0)
	moved(t, a.Due(retry, 7), sends(request, 2))
}

// 20.1: there are tries up to the number MostTry; behind that one the call fails, and the budget loses nothing.
func TestMostTry(t *testing.T) {
	b := budget.New(rich)
	a := begun(t, request, 1000, api.Hedges{Most: 14, After: 1})
	for n := 1; n < last; n++ {
		moved(t, a.Due(side, 1)[:1], sends(request, n))
	}
	for n := range last - 1 {
		moved(t, a.Failed(n, 2, b))
	}
	moved(t, a.Failed(last-1, 2, b), waits(request, api.ForRetry, 4))
	moved(t, a.Due(retry, 4), sends(request, last))
	counted(t, a, last+1, 1, 14, 1)
	left := b.Left()
	moved(t, a.Failed(last, 5, b), fails())
	counted(t, a, last+1, 1, 14, 0)
	if b.Left() != left {
		t.Fatalf("%d is left", b.Left())
	}
}

// 20.1, 20.2: as many retries as may be, then hedges, up to the last try.
func TestMostTryByRetries(t *testing.T) {
	b := budget.New(rich)
	a := begun(t, request, 1000, api.Hedges{Most: 14, After: 1})
	for n := range last - 1 {
		moved(t, a.Failed(n, 2, b), waits(request, api.ForRetry, 2+min(api.Tick(2)<<n, 8)))
		moved(t, a.Due(retry, 4), sends(request, n+1))
	}
	counted(t, a, last, 14, 0, 1)
	moved(t, a.Due(side, 5)[:1], sends(request, last))
	counted(t, a, last+1, 14, 1, 2)
	for range 3 {
		moved(t, a.Due(side, 6))
		counted(t, a, last+1, 14, 1, 2)
	}
	moved(t, a.Failed(last-1, 7, b))
	moved(t, a.Failed(last, 7, b), fails())
}

// 20.2: a hedge may take the last try from a retry that is waited for: that is not sent, and waited for no more.
func TestLastTryTaken(t *testing.T) {
	b := budget.New(rich)
	a := begun(t, request, 1000, api.Hedges{Most: 14, After: 1})
	a.Failed(0, 1, b)
	for n := 1; n <= 14; n++ {
		a.Due(side, 2)
	}
	counted(t, a, last, 1, 14, 14)
	moved(t, a.Due(retry, 3), sends(request, last))
	// Two retries and thirteen hedges, then one more hedge.
	a = begun(t, request, 1000, api.Hedges{Most: 14, After: 1})
	a.Failed(0, 1, b)
	a.Due(retry, 3)
	for range 13 {
		a.Due(side, 4)
	}
	for n := 1; n < last; n++ {
		a.Failed(n, 5, b)
	}
	counted(t, a, last, 2, 13, 0)
	moved(t, a.Due(side, 6), sends(request, last))
	counted(t, a, last+1, 2, 14, 1)
	moved(t, a.Due(retry, 9))
	counted(t, a, last+1, 1, 14, 1)
	moved(t, a.Failed(last, 9, b), fails())
}

// rules are rules that calls in all orders are held by.
var rules = []struct {
	end api.Tick
	h   api.Hedges
	r   api.Retries
}{
	{1000, api.Hedges{}, rich},
	{1000, api.Hedges{Most: 2, After: 4}, rich},
	{1000, api.Hedges{Most: 1, After: 1}, api.Retries{Most: 1, Room: 9, Cost: 1, Wait: 3, Bound: 9}},
	{1000, api.Hedges{Most: 3, After: 2}, api.Retries{Most: 3, Gain: 1, Room: 3, Cost: 2, Wait: 1, Bound: 2}},
	{14, api.Hedges{Most: 3, After: 5}, api.Retries{Most: 3, Gain: 1, Room: 3, Cost: 1, Wait: 3, Bound: 20}},
	{9, api.Hedges{Most: 2, After: 2}, api.Retries{Most: 2, Room: 3, Cost: 1, Wait: 2, Bound: 2}},
}

// pair is a call, and a plain one beside it, each with a budget of its own.
type pair struct {
	a       *attempt.Attempt
	p       *plain
	b, twin *budget.Budget
}

func newPair(f api.Frame, end api.Tick, h api.Hedges, r api.Retries) pair {
	return pair{attempt.New(f, end, h), &plain{f: f, end: end, h: h}, budget.New(r), budget.New(r)}
}

// call does one of the things that change something: 0 begins, 1 is a retry that is due, 2 a hedge, 3 something that went well; behind them each try fails.
func (x pair) call(t *testing.T, n int, now api.Tick) {
	t.Helper()
	switch n {
	case 0:
		moved(t, x.a.Begin(now), x.p.begin(now)...)
	case 1:
		moved(t, x.a.Due(retry, now), x.p.due(retry, now)...)
	case 2:
		moved(t, x.a.Due(side, now), x.p.due(side, now)...)
	case 3:
		x.b.Well()
		x.twin.Well()
	default:
		moved(t, x.a.Failed(n-4, now, x.b), x.p.failed(n-4, now, x.twin)...)
	}
	same(t, x.a, x.p)
	if x.b.Left() != x.twin.Left() {
		t.Fatalf("%d is left, not %d", x.b.Left(), x.twin.Left())
	}
}

// 20.1, 20.2: each order of five calls, behind the beginning or without it, against a plain list.
func TestAllOrders(t *testing.T) {
	const kinds, length = 7, 5
	orders := 1
	for range length {
		orders *= kinds
	}
	for _, f := range []api.Frame{request, sure(), streams()} {
		for _, c := range rules {
			for order := range orders {
				x := newPair(f, c.end, c.h, c.r)
				// Most orders are those of one that began.
				if order%kinds != 0 {
					x.call(t, 0, 0)
				}
				rest := order
				for i := range length {
					x.call(t, rest%kinds, api.Tick(2*i))
					rest /= kinds
				}
			}
		}
	}
}

// 20.1, 20.2: long runs, drawn by a rule, against a plain list.
func TestDrawn(t *testing.T) {
	seed := uint64(1)
	draw := func(n int) int {
		seed = seed*6364136223846793005 + 1442695040888963407
		return int(seed >> 33 % uint64(n))
	}
	frames := []api.Frame{request, request, request, sure(), streams()}
	var full, failed int
	for range 3_000 {
		h := api.Hedges{Most: draw(40) - 2, After: api.Tick(draw(6) - 1)}
		r := api.Retries{Most: draw(40) - 2, Gain: draw(3), Room: draw(40), Cost: draw(4), Wait: api.Tick(draw(4)), Bound: api.Tick(draw(9))}
		now := api.Tick(draw(5) - 2)
		if draw(4) == 0 {
			now = never - 200
		}
		x := newPair(frames[draw(len(frames))], now+api.Tick(draw(400)), h, r)
		x.call(t, 0, now)
		// More fails than comes due, or less.
		part := 1 + draw(9)
		for range 300 {
			now += api.Tick(draw(4))
			n := 1 + draw(3)
			if draw(10) < part {
				n = 4 + draw(last+4)
			}
			x.call(t, n, now)
		}
		full += x.a.Sent() / (last + 1)
		failed += 1 - min(1, x.a.Out())
	}
	// The rule must come to calls with all tries, and to such with none out.
	if full < 100 || failed < 100 {
		t.Errorf("%d had all tries, %d none out", full, failed)
	}
}

// 20.1: a list of moves is the caller's own.
func TestOwn(t *testing.T) {
	a, other := attempt.New(request, 100, api.Hedges{Most: 3, After: 4}), attempt.New(request, 100, api.Hedges{Most: 3, After: 4})
	one, two := a.Begin(0), other.Begin(0)
	clear(one)
	moved(t, two, sends(request, 0), waits(request, api.ForHedge, 4))
	clear(a.Due(side, 4))
	moved(t, a.Due(side, 8), sends(request, 2), waits(request, api.ForHedge, 12))
	// Two of the same are two.
	counted(t, a, 3, 0, 2, 3)
	counted(t, other, 1, 0, 0, 1)
	for range 3 {
		counted(t, a, 3, 0, 2, 3)
	}
}

// 20.2: of none: nothing, whatever is done, and its budget loses nothing.
func TestNone(t *testing.T) {
	var a *attempt.Attempt
	b := budget.New(rich)
	for range 2 {
		moved(t, a.Begin(0))
		for _, n := range numbers {
			moved(t, a.Failed(n, 0, b))
			moved(t, a.Due(n, 0))
		}
		counted(t, a, 0, 0, 0, 0)
	}
	if b.Left() != 100 {
		t.Fatalf("%d is left", b.Left())
	}
}

// A plain one is that of a plain request, that ends at 0 and has no hedges.
func TestPlain(t *testing.T) {
	var a attempt.Attempt
	counted(t, &a, 0, 0, 0, 0)
	moved(t, a.Due(side, 0))
	moved(t, a.Begin(0), sends(api.Frame{}, 0))
	counted(t, &a, 1, 0, 0, 1)
	moved(t, a.Failed(0, 0, budget.New(rich)), fails())
	counted(t, &a, 1, 0, 0, 0)
}
