package client_test

import (
	"math"
	"slices"
	"testing"

	"cableway/alarm"
	"cableway/api"
	"cableway/arena"
	"cableway/client"
	"cableway/fetch"
	"cableway/frame"
	"cableway/record"
	"cableway/ring"
	"cableway/send"
	"cableway/slot"
)

const (
	mostClients  = 4 // as the given limits are
	mostServices = 4
	mostSlots    = 16
	mostGen      = 1<<24 - 1
	mostCells    = 1 << 14
	mostRecords  = 32
	mostWindow   = 16
)

// numbers are clients, services, methods and whats, also what may not be.
var numbers = []int{
	math.MinInt, math.MinInt + 1, math.MinInt32, -1 << 32, -1<<32 + 1, -100, -17, -5, -4, -3, -2, -1, 0, 1, 2, 3, 4, 5, 6, 7, 8, 15, 16, 17,
	63, 64, 100, 255, 256, 1<<24 - 1, 1 << 24, math.MaxInt32, 1 << 32, 1<<32 + 1, 1<<32 + 3, math.MaxInt - 1, math.MaxInt,
}

// none is no error, and how nothing ended.
const none = api.OK

// spread lays wires of so many clients and services, one behind the other, with rings of so many places: how many cells they have.
func spread(clients, services, places, slots, gens int) ([]api.Wires, int) {
	at := 0
	one := func(places int) api.Ring {
		r := api.Ring{Base: at, Places: places}
		at += ring.Cells(places)
		return r
	}
	alarms := one(places)
	var requests []api.Ring
	for range services {
		requests = append(requests, one(places))
	}
	var l []api.Wires
	for range clients {
		w := api.Wires{Requests: requests, Alarms: alarms, Due: one(places)}
		for range services {
			w.Replies = append(w.Replies, one(places))
		}
		w.Table = api.Table{Base: at, Slots: slots, Gens: gens}
		at += slots
		l = append(l, w)
	}
	return l, at
}

// rings are all rings of wires.
func rings(w api.Wires) []api.Ring {
	return slices.Concat([]api.Ring{w.Alarms, w.Due}, w.Requests, w.Replies)
}

// cells are an arena in which all of these wires' rings are empty.
func cells(n int, l ...api.Wires) *arena.Arena {
	a := arena.New(n)
	for _, w := range l {
		for _, r := range rings(w) {
			ring.Init(a, r)
		}
	}
	return a
}

// config is one with room for all, and neither retries nor hedges; its breakers open only when very much goes ill.
func config() api.Config {
	return api.Config{Records: 8, All: 8, Each: 8, Window: 2, Break: api.Break{Buckets: 1, Width: 100, Least: 1000, Part: 100, Cool: 10, Trials: 1}}
}

// bench is a client, its cells, and who sends into its rings and fetches from the others.
type bench struct {
	t     *testing.T
	a     *arena.Arena
	w     api.Wires
	c     *client.Client
	now   api.Tick
	sent  map[api.Ring]uint64
	got   map[api.Ring]uint64
	seen  []api.Event
	steps int
}

// sit is the client 1 of such a kind, of two services, with rings of 4 places and 3 slots.
func sit(t *testing.T, x api.Config) *bench {
	t.Helper()
	return sitAt(t, x, 2, 4, 3, 5)
}

func sitAt(t *testing.T, x api.Config, services, places, slots, gens int) *bench {
	t.Helper()
	l, n := spread(1, services, places, slots, gens)
	b := &bench{t: t, a: cells(n, l...), w: l[0], c: client.New(1, x, l[0]), sent: map[api.Ring]uint64{}, got: map[api.Ring]uint64{}}
	if b.c == nil {
		t.Fatal("no client")
	}
	return b
}

// step lets a hand do a step, and fails where it touches more than a cell, or one that there is not: which it touched (-1: none).
func (b *bench) step(pumps bool) int {
	b.t.Helper()
	b.a.Begin()
	if !b.c.Step(b.a, pumps, b.now) {
		b.t.Fatalf("nothing to do (pumps: %v)", pumps)
	}
	b.steps++
	l := b.a.Touched()
	if len(l) > 1 || b.a.Stray() > 0 {
		b.t.Fatalf("touched %d, and %d others", l, b.a.Stray())
	}
	if len(l) == 0 {
		return -1
	}
	return l[0]
}

// touches fails where a hand's steps touch other cells (-1: none).
func (b *bench) touches(pumps bool, want ...int) {
	b.t.Helper()
	for n, at := range want {
		if got := b.step(pumps); got != at {
			b.t.Fatalf("step %d of %d touches %d", n, want, got)
		}
	}
}

// pump lets the hand that pumps do so many steps.
func (b *bench) pump(n int) {
	b.t.Helper()
	for range n {
		b.step(true)
	}
}

// flow lets it do so many that all that is to be sent, or came, is done.
func (b *bench) flow() {
	b.t.Helper()
	b.pump(100 + 40*(b.c.Pump().Len()+len(b.w.Requests)))
}

// begin lets the client ask for something.
func (b *bench) begin(x api.Ask) {
	b.t.Helper()
	if !b.c.Begin(x, b.now) {
		b.t.Fatalf("Begin(%+v) is false", x)
	}
}

// hand lets the hand that asks do so many steps.
func (b *bench) hand(n int) {
	b.t.Helper()
	for range n {
		b.step(false)
	}
}

// news is what happened since then; all of it is kept in seen, too.
func (b *bench) news() []api.Event {
	l := b.c.Events()
	b.seen = append(b.seen, l...)
	return l
}

// end lets the hand that asks go on till it is told: what.
func (b *bench) end() api.Event {
	b.t.Helper()
	for n := 0; !b.c.Idle(); n++ {
		if n == 100 {
			b.t.Fatal("it is not told anything")
		}
		b.step(false)
	}
	if b.c.Step(b.a, false, b.now) {
		b.t.Fatal("a hand that asks for nothing has something to do")
	}
	l := b.news()
	if len(l) == 0 || l[len(l)-1].Kind != api.EvReturn {
		b.t.Fatalf("it was not told: %+v", l)
	}
	return l[len(l)-1]
}

// asks lets the client ask for something, till it is told: what.
func (b *bench) asks(x api.Ask) api.Event {
	b.t.Helper()
	b.begin(x)
	return b.end()
}

// told fails where it is told something else.
func (b *bench) told(x api.Ask, err api.Errno, how int, v uint32) {
	b.t.Helper()
	call := x.Call
	if x.What == api.AskCall {
		call = b.c.Next()
	}
	want := api.Event{Kind: api.EvReturn, Client: 1, Call: call, Ask: x, Err: err, How: how, Value: v, At: b.now}
	if got := b.asks(x); got != want {
		b.t.Fatalf("it is told %+v, not %+v", got, want)
	}
}

// happened fails where other things happened since then.
func (b *bench) happened(want ...api.Event) {
	b.t.Helper()
	if got := b.news(); !slices.Equal(got, want) {
		b.t.Fatalf("%+v happened, not %+v", got, want)
	}
}

// resolve, chunk and returned are what happens to a call now.
func (b *bench) resolve(call uint32, how int, v uint32) api.Event {
	return api.Event{Kind: api.EvResolve, Client: 1, Call: call, How: how, Value: v, At: b.now}
}

func (b *bench) chunk(call uint32, seq int, v uint32) api.Event {
	return api.Event{Kind: api.EvChunk, Client: 1, Call: call, Seq: seq, Value: v, At: b.now}
}

func (b *bench) returned(x api.Ask, call uint32, err api.Errno, how int, v uint32) api.Event {
	return api.Event{Kind: api.EvReturn, Client: 1, Call: call, Ask: x, Err: err, How: how, Value: v, At: b.now}
}

func (b *bench) invoked(x api.Ask, call uint32) api.Event {
	return api.Event{Kind: api.EvInvoke, Client: 1, Call: call, Ask: x, At: b.now}
}

// put sends a frame into a ring, at once.
func (b *bench) put(r api.Ring, f api.Frame) {
	b.t.Helper()
	w, ok := frame.Put(f)
	if !ok {
		b.t.Fatalf("no frame: %+v", f)
	}
	b.putWords(r, w)
}

func (b *bench) putWords(r api.Ring, w api.Words) {
	b.t.Helper()
	s := send.New(r, w)
	for {
		err, done := s.Done()
		switch {
		case done && err != api.OK:
			b.t.Fatalf("no room in %+v", r)
		case done:
			return
		}
		s = s.Step(b.a)
	}
}

// fill fills a ring with frames of nobody.
func (b *bench) fill(r api.Ring) {
	b.t.Helper()
	for range r.Places {
		b.put(r, api.Frame{Kind: api.KindAck})
	}
}

// take fetches the next frame from a ring, at once; false: there is none.
func (b *bench) take(r api.Ring) (api.Frame, bool) {
	b.t.Helper()
	s := fetch.New(r, b.got[r])
	for {
		err, done := s.Done()
		if !done {
			s = s.Step(b.a)
			continue
		}
		if err != api.OK {
			return api.Frame{}, false
		}
		b.got[r]++
		f, err := frame.Get(s.Words())
		if err != api.OK {
			b.t.Fatalf("words that are no frame: %x", s.Words())
		}
		return f, true
	}
}

// takes fails where other frames are in a ring: it is empty then.
func (b *bench) takes(r api.Ring, want ...api.Frame) {
	b.t.Helper()
	for n, f := range want {
		if got, ok := b.take(r); !ok || got != f {
			b.t.Fatalf("frame %d is %+v, %v, not %+v", n, got, ok, f)
		}
	}
	if got, ok := b.take(r); ok {
		b.t.Fatalf("one more frame: %+v", got)
	}
}

// empty takes all away that is in a ring.
func (b *bench) empty(r api.Ring) {
	b.t.Helper()
	for {
		if _, ok := b.take(r); !ok {
			return
		}
	}
}

// waits fails where other frames wait at the pump.
func (b *bench) waits(want ...api.Frame) {
	b.t.Helper()
	if got := b.c.Pump().All(); !slices.Equal(got, want) {
		b.t.Fatalf("%+v wait, not %+v", got, want)
	}
}

// counts fails where another number of calls goes on, or of slots is free or retired.
func (b *bench) counts(live, free, retired int) {
	b.t.Helper()
	table, admit := b.c.Table(), b.c.Admit()
	got := []int{b.c.Live(), admit.Len(), table.Live(b.a), table.Free(), table.Retired()}
	if want := []int{live, live, live, free, retired}; !slices.Equal(got, want) {
		b.t.Fatalf("going on, admitted, live, free, retired: %d, not %d", got, want)
	}
}

// owes fails where it owes something, or does not.
func (b *bench) owes(want bool) {
	b.t.Helper()
	if got := b.c.Owes(); got != want {
		b.t.Fatalf("Owes() = %v", got)
	}
}

// breaker fails where a service's breaker stands otherwise.
func (b *bench) breaker(service, want int) {
	b.t.Helper()
	if got := b.c.Breaker(service, b.now); got != want {
		b.t.Fatalf("Breaker(%d, %d) = %d, not %d", service, b.now, got, want)
	}
}

// find is the record of a call, that there must be.
func (b *bench) find(call uint32) *record.Record {
	b.t.Helper()
	r := b.c.Book().Find(call)
	if r == nil {
		b.t.Fatalf("no record of %d", call)
	}
	return r
}

// call is a call of a method of the service 0, whose end is far away; each of the others is about one.
func call(method int, arg uint32) api.Ask {
	return api.Ask{What: api.AskCall, Method: method, Arg: arg, End: 1000}
}

func cancel(n uint32) api.Ask { return api.Ask{What: api.AskCancel, Call: n} }

func poll(n uint32) api.Ask { return api.Ask{What: api.AskPoll, Call: n} }

func recv(n uint32) api.Ask { return api.Ask{What: api.AskRecv, Call: n} }

func grant(n, many uint32) api.Ask { return api.Ask{What: api.AskGrant, Call: n, Arg: many} }

// accepted lets the client call something, and fails where that is refused: the call's record.
func (b *bench) accepted(x api.Ask) *record.Record {
	b.t.Helper()
	n := b.c.Next()
	if e := b.asks(x); e.Err != none || e.Call != n {
		b.t.Fatalf("told %+v", e)
	}
	return b.find(n)
}

// of is a frame of another kind about a record's call, with what it tells.
func of(r *record.Record, kind, seq int, v uint32) api.Frame {
	f := r.F
	f.Kind, f.Seq, f.Value = kind, seq, v
	return f
}

// due is the frame that tells that what a record's call waited for has come.
func due(r *record.Record, what int) api.Frame {
	return alarm.Tell(api.Alarm{Client: r.F.Client, Slot: r.F.Slot, Gen: r.F.Gen, What: what})
}

// asked is the frame that asks for an alarm about a record's call.
func asked(r *record.Record, at api.Tick, what int) api.Frame {
	f, _ := alarm.Ask(api.Alarm{At: at, Client: r.F.Client, Slot: r.F.Slot, Gen: r.F.Gen, What: what})
	return f
}

// 30.1: nil: no such client.
func TestNewClients(t *testing.T) {
	l, _ := spread(1, 1, 2, 1, 1)
	for _, id := range numbers {
		c := client.New(id, config(), l[0])
		if want := id >= 0 && id < mostClients; (c != nil) != want {
			t.Errorf("New(%d) is one: %v", id, c != nil)
		}
		if c == nil {
			continue
		}
		c.Begin(call(0, 0), 3)
		if l := c.Events(); len(l) != 1 || l[0].Client != id {
			t.Errorf("client %d: %+v", id, l)
		}
	}
}

// 30.1: nil: no or too many services, or not as many rings of replies.
func TestNewServices(t *testing.T) {
	for requests := range 7 {
		for replies := range 7 {
			w := api.Wires{Requests: make([]api.Ring, requests), Replies: make([]api.Ring, replies), Table: api.Table{Slots: 1, Gens: 1}}
			c := client.New(0, config(), w)
			want := requests == replies && requests >= 1 && requests <= mostServices
			if (c != nil) != want {
				t.Errorf("%d services, %d rings of replies: %v", requests, replies, c != nil)
			}
		}
	}
	for _, w := range []api.Wires{{}, {Table: api.Table{Slots: 1, Gens: 1}}, {Requests: make([]api.Ring, 1), Replies: make([]api.Ring, 1)}} {
		if client.New(0, config(), w) != nil {
			t.Errorf("New of %+v", w)
		}
	}
}

// 30.1: nil: a table that may not be.
func TestNewTable(t *testing.T) {
	bases := []int{math.MinInt, -1, 0, 1, mostCells - 17, mostCells - 16, mostCells - 15, mostCells - 2, mostCells - 1, mostCells, math.MaxInt}
	slots := []int{math.MinInt, -1, 0, 1, 2, 15, 16, 17, math.MaxInt}
	gens := []int{math.MinInt, -1, 0, 1, 2, mostGen - 1, mostGen, mostGen + 1, math.MaxInt}
	for _, base := range bases {
		for _, n := range slots {
			for _, gen := range gens {
				w := api.Wires{Requests: make([]api.Ring, 2), Replies: make([]api.Ring, 2), Table: api.Table{Base: base, Slots: n, Gens: gen}}
				want := n >= 1 && n <= mostSlots && gen >= 1 && gen <= mostGen && base >= 0 && base <= mostCells && base+n <= mostCells
				if c := client.New(3, config(), w); (c != nil) != want {
					t.Errorf("table %+v: %v", w.Table, c != nil)
				}
			}
		}
	}
}

// 30.1: a new one: it asks for nothing, its first call's number is 1, nothing goes on, nothing happened.
func TestNew(t *testing.T) {
	b := sit(t, config())
	b.happened()
	b.counts(0, 3, 0)
	b.owes(false)
	b.waits()
	if !b.c.Idle() || b.c.Next() != 1 || b.c.Book().Len() != 0 {
		t.Errorf("%v, %d, %d", b.c.Idle(), b.c.Next(), b.c.Book().Len())
	}
	for _, n := range numbers {
		for _, now := range []api.Tick{math.MinInt64, -1, 0, 1, api.Never, math.MaxInt64} {
			if got := b.c.Breaker(n, now); got != api.BreakerShut {
				t.Errorf("Breaker(%d, %d) = %d", n, now, got)
			}
		}
	}
	if b.c.Step(b.a, false, 0) {
		t.Error("the hand that asks had something to do")
	}
	if !b.c.Step(b.a, true, 0) {
		t.Error("the hand that pumps had nothing to do")
	}
	b.happened()
}

// 30.1: rooms as they are told: records 0 to MostRecords, and the window of its streams 1 to MostWindow.
func TestNewRooms(t *testing.T) {
	for _, n := range numbers {
		x := config()
		x.Records, x.Window = n, n
		b := sitAt(t, x, 1, 64, mostSlots, 1000)
		records := max(0, min(n, mostRecords))
		for range min(records, 3) {
			r := b.accepted(call(api.MethodCount, 1))
			if got, want := r.Credit.Out(), max(1, min(n, mostWindow)); got != want {
				t.Fatalf("a window of %d grants %d", n, got)
			}
			b.asks(cancel(b.c.Next() - 1))
		}
		if got, want := b.c.Book().Room(), records > 3; got != want {
			t.Fatalf("records %d: room for more: %v", n, got)
		}
	}
}

// 30.1: the lists that are handed in may be changed later.
func TestNewOwn(t *testing.T) {
	l, n := spread(1, 2, 4, 2, 3)
	w := l[0]
	given := w
	given.Requests, given.Replies = slices.Clone(w.Requests), slices.Clone(w.Replies)
	a := cells(n, w)
	b := &bench{t: t, a: a, w: w, c: client.New(1, config(), given), got: map[api.Ring]uint64{}}
	for n := range given.Requests {
		given.Requests[n], given.Replies[n] = api.Ring{}, api.Ring{}
	}
	r := b.accepted(call(api.MethodEcho, 5))
	b.takes(w.Requests[0], r.F)
	b.put(w.Replies[0], of(r, api.KindReply, 0, 5))
	b.flow()
	b.happened(b.resolve(1, api.EndReply, 5))
}

// 30.1: two clients share cells alone.
func TestTwo(t *testing.T) {
	l, n := spread(2, 1, 4, 2, 3)
	a := cells(n, l...)
	one := &bench{t: t, a: a, w: l[0], c: client.New(1, config(), l[0]), got: map[api.Ring]uint64{}}
	two := &bench{t: t, a: a, w: l[1], c: client.New(2, config(), l[1]), got: map[api.Ring]uint64{}}
	r := one.accepted(call(api.MethodEcho, 5))
	if two.c.Next() != 1 || two.c.Live() != 0 || two.c.Book().Len() != 0 || len(two.c.Events()) != 0 {
		t.Error("the other one has it")
	}
	s := two.accepted(call(api.MethodEcho, 6))
	one.takes(l[0].Requests[0], r.F, s.F)
	if r.F.Client != 1 || s.F.Client != 2 {
		t.Errorf("%+v, %+v", r.F, s.F)
	}
}

// 30.1: of none: nothing, and it asks for nothing.
func TestNone(t *testing.T) {
	var c *client.Client
	a := arena.New(10)
	for _, pumps := range []bool{false, true} {
		if c.Step(a, pumps, 3) || c.Step(nil, pumps, 3) {
			t.Error("a step is done")
		}
	}
	if len(a.Touched()) != 0 || a.Stray() != 0 {
		t.Error("something was touched")
	}
	if c.Begin(call(0, 0), 3) {
		t.Error("it asks for something")
	}
	if !c.Idle() || c.Next() != 0 || c.Live() != 0 || c.Owes() || len(c.Events()) != 0 {
		t.Errorf("%v, %d, %d, %v", c.Idle(), c.Next(), c.Live(), c.Owes())
	}
	if c.Book() != nil || c.Table() != nil || c.Admit() != nil || c.Pump() != nil {
		t.Error("it has something")
	}
	for _, n := range numbers {
		if c.Breaker(n, 3) != api.BreakerShut {
			t.Errorf("Breaker(%d)", n)
		}
	}
}

// R1: a plain one, and any arguments: nothing panics, and all ends.
func TestPlain(t *testing.T) {
	whats := []api.Ask{call(0, 0), cancel(1), poll(1), recv(1), grant(1, 1), {What: 7, Call: 1}, {What: math.MinInt, Service: math.MaxInt, Method: math.MinInt, End: math.MinInt64}}
	for _, a := range []*arena.Arena{nil, arena.New(1), arena.New(300)} {
		for _, now := range []api.Tick{math.MinInt64, 0, api.Never, math.MaxInt64} {
			made := client.New(0, config(), api.Wires{Requests: make([]api.Ring, 1), Replies: make([]api.Ring, 1), Table: api.Table{Slots: 1, Gens: 1}})
			for n, c := range []*client.Client{{}, made} {
				for _, x := range whats {
					c.Begin(x, now)
					for range 60 {
						c.Step(a, false, now)
						c.Step(a, true, now)
					}
				}
				if n == 0 && (!c.Idle() || c.Live() != 0 || c.Owes() || c.Breaker(0, now) != api.BreakerShut) {
					t.Error("a plain one has something")
				}
				c.Events()
			}
		}
	}
}

// R1: what others lay into its book and its pump, as these are the things themselves, lets nothing panic.
func TestStrange(t *testing.T) {
	for _, n := range numbers {
		b := sit(t, config())
		f := api.Frame{Kind: n, Client: n, Service: n, Slot: n, Gen: n, Call: 3, Try: n, Seq: n}
		b.c.Pump().Put(f)
		b.c.Pump().Put(api.Frame{Kind: api.KindRequest, Client: 1, Service: 3, Slot: 1, Gen: 1, Call: 3})
		b.c.Pump().Put(api.Frame{Kind: api.KindAck, Client: 1, Service: 3, Call: 3})
		b.c.Book().Put(&record.Record{F: api.Frame{Client: 1, Service: n, Slot: 1, Gen: 1, Call: 3}})
		b.c.Book().Put(&record.Record{F: api.Frame{Client: 1, Service: n, Slot: n, Gen: n, Call: 4, Stream: true}, How: n})
		b.a.Write(b.c.Table().Cell(1), slot.Word(1, api.SlotPending))
		b.put(b.w.Due, api.Frame{Kind: api.KindDue, Client: 1, Slot: 1, Gen: 1, Try: api.ForDeadline})
		for range 200 {
			b.c.Step(b.a, true, b.now)
		}
		for _, x := range []api.Ask{cancel(3), cancel(4), poll(4), recv(4), grant(4, 1)} {
			b.c.Begin(x, 0)
			for range 20 {
				b.c.Step(b.a, false, b.now)
			}
			if !b.c.Idle() {
				t.Fatalf("%+v of %d does not end", x, n)
			}
		}
	}
}

// 30.1: Events: what happened since then, which is the caller's own.
func TestEvents(t *testing.T) {
	b := sit(t, config())
	x, y := call(api.MethodEcho, 1), call(99, 1)
	b.begin(x)
	b.hand(17)
	b.begin(y)
	l := b.c.Events()
	want := []api.Event{b.invoked(x, 1), b.returned(x, 1, none, 0, 0), b.invoked(y, 2)}
	if !slices.Equal(l, want) {
		t.Fatalf("%+v", l)
	}
	for n := range l {
		l[n] = api.Event{}
	}
	b.happened()
	b.hand(1)
	b.happened(b.returned(y, 2, api.ErrInput, 0, 0))
	b.happened()
}
