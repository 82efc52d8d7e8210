package pump_test

import (
	"math"
	"slices"
	"testing"

	"cableway/api"
	"cableway/pump"
)

const most = 4 // services, as the chapter's given limit is

// numbers are services, kinds and clients, also what may not be.
var numbers = []int{
	math.MinInt, math.MinInt + 1, math.MinInt32, -1 << 32, -1<<32 + 1, -1<<32 + 4, -100, -4, -3, -2, -1, 0, 1, 2, 3, 4, 5, 6, 7, 8, 9, 10, 11, 15, 16, 17,
	100, 255, 256, math.MaxInt32, 1 << 32, 1<<32 + 1, 1<<32 + 4, 1<<32 + 6, math.MaxInt - 1, math.MaxInt,
}

// values are what is granted, and numbers of calls, at their edges.
var values = []uint32{0, 1, 2, 3, 15, 16, 17, 255, 256, 65535, 65536, 1<<31 - 1, 1 << 31, 1<<31 + 1, math.MaxUint32 - 1, math.MaxUint32}

// nearest is the number from one on up to another one that counts for n, case by case.
func nearest(n, from, to int) int {
	switch {
	case n < from:
		return from
	case n > to:
		return to
	}
	return n
}

// of is a frame of a kind, of a call.
func of(kind int, call, value uint32) api.Frame {
	return api.Frame{Kind: kind, Client: 1, Service: 2, Slot: 3, Gen: 4, Call: call, Value: value}
}

// credit is a frame that grants a call so much.
func credit(call, value uint32) api.Frame { return of(api.KindCredit, call, value) }

// ack is a frame that grants nothing.
func ack(call uint32) api.Frame { return of(api.KindAck, call, 0) }

// has fails where other frames are to be sent, or others are told.
func has(t *testing.T, p *pump.Pump, want ...api.Frame) {
	t.Helper()
	if got := p.All(); !slices.Equal(got, want) {
		t.Fatalf("All() = %+v, not %+v", got, want)
	}
	if got := p.Len(); got != len(want) {
		t.Fatalf("Len() = %d, not %d", got, len(want))
	}
	var first api.Frame
	if len(want) > 0 {
		first = want[0]
	}
	if got, ok := p.First(); got != first || ok != (len(want) > 0) {
		t.Fatalf("First() = %+v, %v, not %+v, %v", got, ok, first, len(want) > 0)
	}
}

// turns fails where a pump turns elsewhere, one behind the other.
func turns(t *testing.T, p *pump.Pump, want ...int) {
	t.Helper()
	for n, turn := range want {
		if got := p.Turn(); got != turn {
			t.Fatalf("turn %d of %d is %d", n, want, got)
		}
	}
}

// goes fails where the first does not go, or goes where there is none.
func goes(t *testing.T, p *pump.Pump, want bool) {
	t.Helper()
	if got := p.Gone(); got != want {
		t.Fatalf("Gone() = %v, not %v", got, want)
	}
}

// lasts fails where the first is not the last one then, or is where there is none.
func lasts(t *testing.T, p *pump.Pump, want bool) {
	t.Helper()
	if got := p.Last(); got != want {
		t.Fatalf("Last() = %v, not %v", got, want)
	}
}

// with is a pump that has these to send.
func with(frames ...api.Frame) *pump.Pump {
	p := pump.New(2)
	for _, f := range frames {
		p.Put(f)
	}
	return p
}

// plain is a pump as a list of frames, and a list of the turns that are still to come.
type plain struct {
	services int
	list     []api.Frame
	coming   []int
}

func (p *plain) put(f api.Frame) {
	if f.Kind == 6 {
		for n, g := range p.list {
			if n == 0 || g.Kind != 6 || g.Call != f.Call || g.Client != f.Client {
				continue
			}
			p.list[n].Value = uint32((uint64(g.Value) + uint64(f.Value)) & math.MaxUint32)
			return
		}
	}
	p.list = append(p.list, f)
}

func (p *plain) gone() bool {
	if len(p.list) == 0 {
		return false
	}
	p.list = slices.Clone(p.list[1:])
	return true
}

func (p *plain) last() bool {
	if len(p.list) == 0 {
		return false
	}
	p.list = slices.Concat(p.list[1:], p.list[:1])
	return true
}

func (p *plain) turn() int {
	for {
		if len(p.coming) == 0 {
			for n := range 2 + p.services {
				p.coming = append(p.coming, n)
			}
		}
		turn := p.coming[0]
		p.coming = p.coming[1:]
		if turn == 0 && len(p.list) == 0 {
			continue
		}
		return turn
	}
}

// 29.1: the document's example: of nothing to send, it turns to what is due.
func TestExample(t *testing.T) {
	if got := pump.New(1).Turn(); got != api.TurnDue {
		t.Errorf("Turn() = %d", got)
	}
}

// 29.1: the numbers that the chapter tells.
func TestNumbers(t *testing.T) {
	if api.MostServices != most {
		t.Errorf("MostServices = %d, not %d", api.MostServices, most)
	}
	if got := []int{api.TurnSend, api.TurnDue, api.TurnReply}; !slices.Equal(got, []int{0, 1, 2}) {
		t.Errorf("the turns are %d", got)
	}
}

// 29.1: of 1 to MostServices services; beyond, of as many as the nearest. It begins with nothing to send.
func TestServices(t *testing.T) {
	for _, n := range numbers {
		services := nearest(n, 1, most)
		p := pump.New(n)
		has(t, p)
		for range 3 {
			turns(t, p, api.TurnDue)
			for s := range services {
				turns(t, p, api.TurnReply+s)
			}
		}
		p.Put(ack(1))
		for range 3 {
			turns(t, p, api.TurnSend, api.TurnDue)
			for s := range services {
				turns(t, p, api.TurnReply+s)
			}
		}
	}
}

// 29.1: it turns from the beginning: to sending first, where there is something to send.
func TestTurnFirst(t *testing.T) {
	turns(t, with(ack(1)), 0, 1, 2, 3, 0, 1, 2, 3, 0)
	turns(t, with(), 1, 2, 3, 1, 2, 3, 1)
}

// 29.1: what is put while it turns elsewhere is sent when its turn comes, not sooner.
func TestTurnLater(t *testing.T) {
	for before := range 9 {
		p, ring := pump.New(3), []int{1, 2, 3, 4}
		for n := range before {
			turns(t, p, ring[n%4])
		}
		p.Put(ack(1))
		for n := before; n%4 != 0; n++ {
			turns(t, p, ring[n%4])
		}
		turns(t, p, 0, 1, 2, 3, 4, 0, 1)
	}
}

// 29.1: sending is passed over only where nothing is to be sent then, not where nothing was, or will be.
func TestTurnPassed(t *testing.T) {
	p := with(ack(1))
	turns(t, p, 0)
	goes(t, p, true)
	turns(t, p, 1, 2, 3, 1, 2)
	p.Put(ack(2))
	p.Put(ack(3))
	turns(t, p, 3, 0, 1)
	goes(t, p, true)
	turns(t, p, 2, 3, 0, 1, 2, 3)
	goes(t, p, true)
	turns(t, p, 1)
	p.Put(ack(4))
	goes(t, p, true)
	turns(t, p, 2, 3, 1)
}

// 29.1: a turn is one alone: what is put, goes, is last, or is told changes no turn, but whether sending is passed over.
func TestTurnAlone(t *testing.T) {
	p := with(ack(1), ack(2))
	for range 5 {
		for _, want := range []int{0, 1, 2, 3} {
			p.Put(credit(9, 1))
			p.Put(ack(3))
			lasts(t, p, true)
			goes(t, p, true)
			p.All()
			p.First()
			p.Len()
			turns(t, p, want)
		}
	}
}

// 29.1: turning sends nothing.
func TestTurnSendsNothing(t *testing.T) {
	p := with(ack(1), credit(2, 3))
	for range 20 {
		p.Turn()
		has(t, p, ack(1), credit(2, 3))
	}
}

// 29.1: what is put comes behind the others, in order, whatever it is: what is put twice is sent twice.
func TestPut(t *testing.T) {
	p := pump.New(1)
	var want []api.Frame
	for range 2 {
		for _, kind := range numbers {
			for _, call := range values {
				if kind == api.KindCredit {
					continue
				}
				f := of(kind, call, call)
				p.Put(f)
				want = append(want, f)
			}
		}
	}
	has(t, p, want...)
	for n := range want {
		if got, ok := p.First(); got != want[n] || !ok {
			t.Fatalf("First() = %+v, %v, not %+v", got, ok, want[n])
		}
		goes(t, p, true)
	}
	has(t, p)
}

// 29.1: each part of a frame comes out as it was put, also where it may not be.
func TestPutWhole(t *testing.T) {
	for _, n := range numbers {
		for _, flag := range []bool{false, true} {
			f := api.Frame{Kind: n, Client: n - 1, Service: n - 2, Slot: n - 3, Gen: n - 4, Call: uint32(n - 5), Try: n - 6, Sure: flag, Stream: !flag, Seq: n - 7, Value: uint32(n - 8)}
			has(t, with(f), f)
			p := with(ack(1), f)
			lasts(t, p, true)
			has(t, p, f, ack(1))
		}
	}
}

// 29.1: what is granted is added to what waits for the same call, and takes no place; it may wrap round.
func TestCredit(t *testing.T) {
	for _, one := range values {
		for _, two := range values {
			p := with(ack(7), credit(7, one), ack(8), credit(7, two))
			has(t, p, ack(7), credit(7, one+two), ack(8))
			p.Put(credit(7, 1))
			has(t, p, ack(7), credit(7, one+two+1), ack(8))
		}
	}
}

// 29.1: what is added changes nothing else of what waits: only its Value is taken.
func TestCreditValueAlone(t *testing.T) {
	f := api.Frame{Kind: api.KindCredit, Client: 1, Service: 1, Slot: 1, Gen: 1, Call: 7, Try: 1, Seq: 1, Value: 5}
	g := api.Frame{Kind: api.KindCredit, Client: 1, Service: 2, Slot: 2, Gen: 2, Call: 7, Try: 2, Sure: true, Stream: true, Seq: 2, Value: 6}
	want := f
	want.Value = 11
	has(t, with(ack(1), f, g), ack(1), want)
	want = g
	want.Value = 11
	has(t, with(ack(1), g, f), ack(1), want)
}

// 29.1: to the first of all nothing is added, be it alone or not: it may be sent already.
func TestCreditFirst(t *testing.T) {
	has(t, with(credit(7, 1), credit(7, 2)), credit(7, 1), credit(7, 2))
	has(t, with(credit(7, 1), ack(7), credit(7, 2)), credit(7, 1), ack(7), credit(7, 2))
	has(t, with(credit(7, 1), credit(7, 2), credit(7, 4)), credit(7, 1), credit(7, 6))
	has(t, with(credit(7, 1), ack(7), credit(7, 2), ack(8), credit(7, 4)), credit(7, 1), ack(7), credit(7, 6), ack(8))
}

// 29.1: the foremost one is added to, where several wait behind the first; what came to be the first is none of them.
func TestCreditForemost(t *testing.T) {
	p := with(credit(7, 1), credit(7, 2), ack(8))
	lasts(t, p, true)
	has(t, p, credit(7, 2), ack(8), credit(7, 1))
	p.Put(credit(7, 8))
	has(t, p, credit(7, 2), ack(8), credit(7, 9))
	lasts(t, p, true)
	has(t, p, ack(8), credit(7, 9), credit(7, 2))
	p.Put(credit(7, 16))
	has(t, p, ack(8), credit(7, 25), credit(7, 2))
	goes(t, p, true)
	p.Put(credit(7, 32))
	has(t, p, credit(7, 25), credit(7, 34))
	goes(t, p, true)
	p.Put(credit(7, 64))
	has(t, p, credit(7, 34), credit(7, 64))
}

// 29.1: what is granted to another call is added to none: neither to the one of another number, nor to that of another client.
func TestCreditOthers(t *testing.T) {
	for _, one := range values {
		for _, two := range values {
			if one != two {
				has(t, with(ack(1), credit(one, 3), credit(two, 4)), ack(1), credit(one, 3), credit(two, 4))
			}
		}
	}
	for _, one := range numbers {
		for _, two := range numbers {
			f, g := credit(7, 3), credit(7, 4)
			f.Client, g.Client = one, two
			if one != two {
				has(t, with(ack(1), f, g), ack(1), f, g)
				continue
			}
			g.Value = 7
			has(t, with(ack(1), f, credit(8, 1), f, f), ack(1), api.Frame{Kind: 6, Client: one, Service: 2, Slot: 3, Gen: 4, Call: 7, Value: 9}, credit(8, 1))
		}
	}
}

// 29.1: only what grants credit is added, and only to what grants it, whatever else the same call sends.
func TestCreditAlone(t *testing.T) {
	for _, kind := range numbers {
		if kind == api.KindCredit {
			continue
		}
		f := of(kind, 7, 5)
		has(t, with(ack(1), f, credit(7, 2)), ack(1), f, credit(7, 2))
		has(t, with(ack(1), credit(7, 2), f), ack(1), credit(7, 2), f)
		has(t, with(ack(1), f, f), ack(1), f, f)
		has(t, with(ack(1), f, credit(7, 2), f, credit(7, 3)), ack(1), f, credit(7, 5), f)
	}
}

// 29.1: the first goes, one behind the other, till there is none.
func TestGone(t *testing.T) {
	for n := range 40 {
		p := pump.New(1)
		var want []api.Frame
		for call := range uint32(n) {
			want = append(want, ack(call))
			p.Put(ack(call))
		}
		for k := range n {
			has(t, p, want[k:]...)
			goes(t, p, true)
		}
		has(t, p)
		goes(t, p, false)
		has(t, p)
		p.Put(ack(100))
		has(t, p, ack(100))
	}
}

// 29.1: the first is the last one, as often as it is asked; of one alone it stays.
func TestLast(t *testing.T) {
	for n := 1; n < 12; n++ {
		p := pump.New(1)
		var want []api.Frame
		for call := range uint32(n) {
			want = append(want, ack(call))
			p.Put(ack(call))
		}
		for k := range 3 * n {
			has(t, p, slices.Concat(want[k%n:], want[:k%n])...)
			lasts(t, p, true)
		}
	}
	p := pump.New(1)
	lasts(t, p, false)
	has(t, p)
}

// 29.1: what comes to be the last one is added to none, and none to it, where it grants credit.
func TestLastCredit(t *testing.T) {
	p := with(credit(7, 1), credit(7, 2))
	lasts(t, p, true)
	has(t, p, credit(7, 2), credit(7, 1))
	lasts(t, p, true)
	has(t, p, credit(7, 1), credit(7, 2))
}

// 29.1: what All and First answer is the caller's own, and what was told does not change.
func TestOwn(t *testing.T) {
	p := with(ack(1), credit(7, 2), ack(3))
	got := p.All()
	got[0], got[1], got[2] = ack(9), ack(9), ack(9)
	_ = append(got[:1], ack(8))
	has(t, p, ack(1), credit(7, 2), ack(3))
	before := p.All()
	p.Put(credit(7, 5))
	lasts(t, p, true)
	goes(t, p, true)
	p.Put(ack(4))
	if want := []api.Frame{ack(1), credit(7, 2), ack(3)}; !slices.Equal(before, want) {
		t.Errorf("what was told changed to %+v", before)
	}
}

// 29.1: two pumps have nothing in common.
func TestTwoPumps(t *testing.T) {
	one, two := with(ack(1), credit(7, 2)), with()
	two.Put(credit(7, 5))
	turns(t, one, 0, 1)
	turns(t, two, 0, 1, 2, 3)
	turns(t, one, 2)
	goes(t, two, true)
	has(t, one, ack(1), credit(7, 2))
	has(t, two)
	lasts(t, one, true)
	has(t, one, credit(7, 2), ack(1))
	turns(t, two, 1)
}

// 29.1: a plain one sends as any other; it turns to no service.
func TestPlain(t *testing.T) {
	var p pump.Pump
	has(t, &p)
	goes(t, &p, false)
	lasts(t, &p, false)
	turns(t, &p, 1, 1, 1)
	p.Put(ack(1))
	p.Put(credit(7, 2))
	p.Put(credit(7, 3))
	has(t, &p, ack(1), credit(7, 5))
	turns(t, &p, 0, 1, 0, 1)
	lasts(t, &p, true)
	goes(t, &p, true)
	has(t, &p, ack(1))
}

// 29.1: of none there is nothing, and it turns to what is due.
func TestNone(t *testing.T) {
	var p *pump.Pump
	for range 4 {
		p.Put(ack(1))
		p.Put(credit(7, 2))
		has(t, p)
		goes(t, p, false)
		lasts(t, p, false)
		turns(t, p, 1, 1, 1, 1)
	}
}

// does does one of several things to a pump and a plain one, and fails where they answer other than each other.
func does(t *testing.T, p *pump.Pump, q *plain, what int) {
	t.Helper()
	puts := []api.Frame{credit(7, 1), credit(8, 2), ack(7)}
	switch {
	case what < len(puts):
		p.Put(puts[what])
		q.put(puts[what])
	case what == 3:
		goes(t, p, q.gone())
	case what == 4:
		lasts(t, p, q.last())
	default:
		turns(t, p, q.turn())
	}
	has(t, p, q.list...)
}

// 29.1: each order of six things that are done.
func TestOrders(t *testing.T) {
	const things, long = 6, 6
	orders := 1
	for range long {
		orders *= things
	}
	for order := range orders {
		p, q := pump.New(1), &plain{services: 1}
		for left, n := order, 0; n < long; left, n = left/things, n+1 {
			does(t, p, q, left%things)
		}
	}
}

// 29.1: long runs, drawn by a rule, of few calls and many kinds.
func TestLongRuns(t *testing.T) {
	for seed := range uint64(60) {
		draw := func(n int) int {
			seed = seed*6364136223846793005 + 1442695040888963407
			return int(seed>>33) % n
		}
		services := 1 + draw(most)
		p, q := pump.New(services), &plain{services: services}
		fill := 2 + draw(7)
		for range 2000 {
			switch what := draw(10); {
			case what < fill:
				f := api.Frame{Kind: 1 + draw(10), Client: draw(2), Service: draw(services), Call: uint32(draw(4)), Value: uint32(draw(1<<31)) * 2}
				if draw(2) == 0 {
					f.Kind = api.KindCredit
				}
				p.Put(f)
				q.put(f)
			case what < 8:
				goes(t, p, q.gone())
			case what == 8:
				lasts(t, p, q.last())
			default:
				turns(t, p, q.turn())
			}
			has(t, p, q.list...)
		}
	}
}
