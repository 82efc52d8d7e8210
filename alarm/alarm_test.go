package alarm_test

import (
	"math"
	"math/big"
	"testing"

	"cableway/alarm"
	"cableway/api"
	"cableway/frame"
)

const never = api.Never

// plain is an alarm that may be, with no number 0; least and full have the least and the greatest numbers that may be.
var (
	plain = api.Alarm{At: 3<<32 + 9, Client: 2, Slot: 13, Gen: 0xabcdef, What: api.ForRetry}
	least = api.Alarm{At: 0, Client: 0, Slot: 0, Gen: 1, What: 1}
	full  = api.Alarm{At: 1<<40 - 1, Client: 3, Slot: 15, Gen: 1<<24 - 1, What: 3}
)

var bases = []api.Alarm{plain, least, full}

// part is a number of an alarm, and of a frame that is about it: what it may be.
type part struct {
	name  string
	of    func(a *api.Alarm) *int
	in    func(f *api.Frame) *int
	least int
	most  int
}

var parts = []part{
	{"Client", func(a *api.Alarm) *int { return &a.Client }, func(f *api.Frame) *int { return &f.Client }, 0, 3},
	{"Slot", func(a *api.Alarm) *int { return &a.Slot }, func(f *api.Frame) *int { return &f.Slot }, 0, 15},
	{"Gen", func(a *api.Alarm) *int { return &a.Gen }, func(f *api.Frame) *int { return &f.Gen }, 1, 1<<24 - 1},
	{"What", func(a *api.Alarm) *int { return &a.What }, func(f *api.Frame) *int { return &f.Try }, 1, 3},
}

// tried are numbers about the edges of a part; some are like one that may be in their lower bits.
func (p part) tried() []int {
	l := []int{
		p.least - 1, p.least, p.least + 1, (p.least + p.most) / 2, p.most - 1, p.most, p.most + 1, p.most + 2,
		-1, -p.most, -p.most - 1, math.MinInt, math.MinInt + p.least, math.MaxInt, math.MaxInt - 1,
	}
	for bit := range 63 {
		l = append(l, 1<<bit, 1<<bit+p.least, -1<<bit, -1<<bit+p.least)
	}
	return l
}

func (p part) may(n int) bool { return n >= p.least && n <= p.most }

// edges are times, and what are none, beside each other.
var edges = []api.Tick{
	math.MinInt64, math.MinInt64 + 1, -never - 1, -never, -never + 1, -1 << 32, -256, -2, -1,
	0, 1, 2, 5, 255, 256, 1<<16 - 1, 1 << 16, 1<<31 - 1, 1 << 31, 1<<32 - 1, 1 << 32, 1<<32 + 1, 5<<32 + 7, 255 << 32,
	never/2 - 1, never / 2, never/2 + 1, never - 2, never - 1,
	never, never + 1, never + 5, 2 * never, 1 << 48, 1 << 62, math.MaxInt64 - 1, math.MaxInt64,
}

// may is whether an alarm may be, part by part.
func may(a api.Alarm) bool {
	for _, p := range parts {
		if !p.may(*p.of(&a)) {
			return false
		}
	}
	return a.At >= 0 && a.At < never
}

// asked is the frame that asks for an alarm, worked out by sums; none, where it may not be.
func asked(a api.Alarm) (api.Frame, bool) {
	if !may(a) {
		return api.Frame{}, false
	}
	return api.Frame{
		Kind: 9, Client: a.Client, Slot: a.Slot, Gen: a.Gen, Try: a.What,
		Value: uint32(a.At % (1 << 32)), Seq: int(a.At / (1 << 32)),
	}, true
}

// holds looks what May, Ask, Of and Tell answer of an alarm.
func holds(t *testing.T, a api.Alarm) {
	t.Helper()
	want, is := asked(a)
	if alarm.May(a) != is {
		t.Errorf("May of %+v: not %v", a, is)
	}
	f, ok := alarm.Ask(a)
	if f != want || ok != is {
		t.Errorf("Ask of %+v: %+v, %v; not %+v, %v", a, f, ok, want, is)
	}
	told := api.Frame{Kind: 10, Client: a.Client, Slot: a.Slot, Gen: a.Gen, Try: a.What}
	if f := alarm.Tell(a); f != told {
		t.Errorf("Tell of %+v: %+v; not %+v", a, f, told)
	}
	if !is {
		return
	}
	if back, ok := alarm.Of(f); back != a || !ok {
		t.Errorf("Of of Ask of %+v: %+v, %v", a, back, ok)
	}
	passes(t, f)
	passes(t, alarm.Tell(a))
}

// passes looks whether a frame may be, and comes back from its words as it is.
func passes(t *testing.T, f api.Frame) {
	t.Helper()
	w, ok := frame.Put(f)
	if back, err := frame.Get(w); !ok || err != api.OK || back != f {
		t.Errorf("by words, %+v is %+v, %v, %d", f, back, ok, err)
	}
}

// asksNone looks whether a frame asks for no alarm.
func asksNone(t *testing.T, f api.Frame) {
	t.Helper()
	if a, ok := alarm.Of(f); ok || a != (api.Alarm{}) {
		t.Errorf("Of of %+v: %+v, %v", f, a, ok)
	}
}

// 14.1: some alarms' frames, by hand; the document's example.
func TestByHand(t *testing.T) {
	for _, c := range []struct {
		a     api.Alarm
		asked api.Frame
		told  api.Frame
	}{
		{
			api.Alarm{At: 5, Client: 1, Slot: 2, Gen: 7, What: api.ForHedge},
			api.Frame{Kind: api.KindAlarm, Client: 1, Slot: 2, Gen: 7, Try: 3, Value: 5},
			api.Frame{Kind: api.KindDue, Client: 1, Slot: 2, Gen: 7, Try: 3},
		},
		{
			plain,
			api.Frame{Kind: api.KindAlarm, Client: 2, Slot: 13, Gen: 0xabcdef, Try: 2, Value: 9, Seq: 3},
			api.Frame{Kind: api.KindDue, Client: 2, Slot: 13, Gen: 0xabcdef, Try: 2},
		},
		{
			least,
			api.Frame{Kind: api.KindAlarm, Gen: 1, Try: 1},
			api.Frame{Kind: api.KindDue, Gen: 1, Try: 1},
		},
		{
			full,
			api.Frame{Kind: api.KindAlarm, Client: 3, Slot: 15, Gen: 1<<24 - 1, Try: 3, Value: math.MaxUint32, Seq: 255},
			api.Frame{Kind: api.KindDue, Client: 3, Slot: 15, Gen: 1<<24 - 1, Try: 3},
		},
	} {
		if !alarm.May(c.a) {
			t.Errorf("May of %+v", c.a)
		}
		f, ok := alarm.Ask(c.a)
		if f != c.asked || !ok {
			t.Errorf("Ask of %+v: %+v, %v", c.a, f, ok)
		}
		if a, ok := alarm.Of(c.asked); a != c.a || !ok {
			t.Errorf("Of of %+v: %+v, %v", c.asked, a, ok)
		}
		if f := alarm.Tell(c.a); f != c.told {
			t.Errorf("Tell of %+v: %+v", c.a, f)
		}
	}
	if alarm.May(api.Alarm{}) {
		t.Error("May of an alarm for nothing")
	}
}

// 14.1: each number about its edges, in different alarms: what may be, and where it stands in frames.
func TestEachNumber(t *testing.T) {
	for _, a := range bases {
		for _, p := range parts {
			for _, n := range p.tried() {
				b := a
				*p.of(&b) = n
				holds(t, b)
			}
		}
	}
}

// 14.1: times about their edges: one below 0, or from Never on, may not be, and does not count as the nearest.
func TestEachTime(t *testing.T) {
	for _, a := range bases {
		for _, at := range edges {
			a.At = at
			holds(t, a)
		}
	}
	// By hand.
	for at, is := range map[api.Tick]bool{
		math.MinInt64: false, -1: false, 0: true, 1: true, never - 1: true, never: false, never + 1: false, math.MaxInt64: false,
	} {
		a := plain
		a.At = at
		if f, ok := alarm.Ask(a); alarm.May(a) != is || ok != is || is == (f == api.Frame{}) {
			t.Errorf("Ask of the time %d: %+v, %v", at, f, ok)
		}
	}
}

// 14.1: an alarm is for one of three things.
func TestWhat(t *testing.T) {
	a := plain
	for _, what := range []int{api.ForDeadline, api.ForRetry, api.ForHedge} {
		a.What = what
		if f, ok := alarm.Ask(a); !alarm.May(a) || !ok || f.Try != what || alarm.Tell(a).Try != what {
			t.Errorf("Ask for %d: %+v, %v", what, f, ok)
		}
	}
	for _, what := range []int{math.MinInt, -3, -2, -1, 0, 4, 5, 15, 16, 17, math.MaxInt} {
		a.What = what
		if f, ok := alarm.Ask(a); alarm.May(a) || ok || f != (api.Frame{}) {
			t.Errorf("Ask for %d: %+v, %v", what, f, ok)
		}
	}
}

// 14.1: an alarm with two numbers that may not be may not be.
func TestTwoThatMayNotBe(t *testing.T) {
	for _, p := range parts {
		for _, n := range []int{p.least - 1, p.most + 1} {
			for _, q := range parts {
				for _, m := range []int{q.least - 1, q.most + 1} {
					a := plain
					*p.of(&a), *q.of(&a) = n, m
					holds(t, a)
				}
			}
			for _, at := range []api.Tick{-1, never} {
				a := plain
				a.At = at
				*p.of(&a) = n
				holds(t, a)
			}
		}
	}
}

// 14.1: alarms of all clients, slots and things, and of turns and times about their edges: no two have the same frame.
func TestAllAlarms(t *testing.T) {
	met := map[api.Frame]api.Alarm{}
	for n := range 4 * 16 * 3 {
		for _, gen := range []int{1, 2, 3, 255, 256, 1 << 12, 1<<23 - 1, 1 << 23, 1<<24 - 2, 1<<24 - 1} {
			for _, at := range edges {
				a := api.Alarm{At: at, Client: n % 4, Slot: n / 4 % 16, Gen: gen, What: 1 + n/64}
				holds(t, a)
				f, ok := alarm.Ask(a)
				if b, is := met[f]; ok && is {
					t.Fatalf("the same frame: of %+v and of %+v", a, b)
				}
				met[f] = a
			}
		}
	}
}

// 14.1: just frames of the kind KindAlarm ask for alarms.
func TestOfOtherKinds(t *testing.T) {
	for _, a := range bases {
		f, _ := alarm.Ask(a)
		for kind := -20; kind < 40; kind++ {
			f.Kind = kind
			if kind != 9 {
				asksNone(t, f)
			} else if b, ok := alarm.Of(f); b != a || !ok {
				t.Errorf("Of of %+v: %+v, %v", f, b, ok)
			}
		}
		for _, kind := range []int{math.MinInt, math.MinInt + 9, 9 + 1<<8, 9 + 1<<32, math.MaxInt} {
			f.Kind = kind
			asksNone(t, f)
		}
		asksNone(t, alarm.Tell(a))
	}
	asksNone(t, api.Frame{})
}

// 14.1: a frame that asks for an alarm that may not be asks for none.
func TestOfEachNumber(t *testing.T) {
	for _, a := range bases {
		f, _ := alarm.Ask(a)
		for _, p := range parts {
			for _, n := range p.tried() {
				g, b := f, a
				*p.in(&g), *p.of(&b) = n, n
				if !p.may(n) {
					asksNone(t, g)
				} else if got, ok := alarm.Of(g); got != b || !ok {
					t.Errorf("Of of %+v: %+v, %v", g, got, ok)
				}
			}
		}
	}
	asksNone(t, api.Frame{Kind: api.KindAlarm})
	asksNone(t, api.Frame{Kind: api.KindAlarm, Gen: 1})
	asksNone(t, api.Frame{Kind: api.KindAlarm, Try: 1})
}

// 14.1: an alarm's time is its frame's, as that tells it: Value, and the lower eight bits of Seq above it.
func TestOfTime(t *testing.T) {
	for _, a := range bases {
		f, _ := alarm.Ask(a)
		for _, c := range []struct {
			value uint32
			seq   int
			want  api.Tick
		}{
			{0, 0, 0}, {5, 0, 5}, {math.MaxUint32, 0, 1<<32 - 1}, {0, 1, 1 << 32}, {9, 3, 3<<32 + 9}, {math.MaxUint32, 255, never - 1},
			{5, 256, 5}, {5, 257, 1<<32 + 5}, {5, 1<<16 - 1, 255<<32 + 5}, {5, 1 << 16, 5}, {5, -1, 255<<32 + 5}, {7, math.MinInt, 7},
		} {
			f.Value, f.Seq, a.At = c.value, c.seq, c.want
			if got, ok := alarm.Of(f); got != a || !ok {
				t.Errorf("Of of Value %d and Seq %d: %+v, %v", c.value, c.seq, got, ok)
			}
		}
	}
}

// 14.1: what else a frame has makes no other alarm of it.
func TestOfPassesOver(t *testing.T) {
	for _, a := range bases {
		f, _ := alarm.Ask(a)
		for _, g := range []api.Frame{
			{Service: 1}, {Service: 3}, {Call: 1}, {Call: math.MaxUint32}, {Sure: true}, {Stream: true},
			{Service: 2, Call: 77, Sure: true, Stream: true},
		} {
			f.Service, f.Call, f.Sure, f.Stream = g.Service, g.Call, g.Sure, g.Stream
			if got, ok := alarm.Of(f); got != a || !ok {
				t.Errorf("Of of %+v: %+v, %v", f, got, ok)
			}
		}
	}
}

// 14.1: very many frames, drawn by a rule: those that ask for an alarm are, but for what is passed over, what asks for it.
func TestOfDrawn(t *testing.T) {
	x := uint64(11)
	draw := func(n uint64) int {
		x = x*6364136223846793005 + 1442695040888963407
		return int((x >> 33) % n)
	}
	met := 0
	for range 200000 {
		f := api.Frame{
			Kind: 7 + draw(4), Client: draw(6) - 1, Slot: draw(19) - 1, Gen: draw(1<<24 + 9), Try: draw(6) - 1,
			Service: draw(4), Call: uint32(draw(1 << 31)), Sure: draw(2) == 1, Stream: draw(2) == 1,
			Seq: draw(256), Value: uint32(draw(1<<31)) << draw(2),
		}
		if draw(5) == 0 {
			f.Gen = draw(3) - 1
		}
		a := api.Alarm{At: api.Tick(f.Seq)*(1<<32) + api.Tick(f.Value), Client: f.Client, Slot: f.Slot, Gen: f.Gen, What: f.Try}
		if f.Kind != 9 || !may(a) {
			asksNone(t, f)
			continue
		}
		met++
		if got, ok := alarm.Of(f); got != a || !ok {
			t.Fatalf("Of of %+v: %+v, %v", f, got, ok)
		}
		holds(t, a)
	}
	if met < 5000 {
		t.Errorf("only %d alarms", met)
	}
}

// 14.1: who is told of an alarm is not told when it was to come, nor does that matter.
func TestTellWithoutTime(t *testing.T) {
	for _, a := range bases {
		want := alarm.Tell(a)
		if want.Value != 0 || want.Seq != 0 || want.Kind != api.KindDue || want.Try != a.What {
			t.Errorf("Tell of %+v: %+v", a, want)
		}
		for _, at := range edges {
			a.At = at
			if f := alarm.Tell(a); f != want {
				t.Errorf("Tell of %+v: %+v", a, f)
			}
		}
	}
}

// soon is the time of Soon, by numbers that do not wrap round.
func soon(now, ticksOn, end api.Tick) api.Tick {
	nearest := func(t *big.Int) *big.Int {
		switch {
		case t.Sign() < 0:
			return big.NewInt(0)
		case t.Cmp(big.NewInt(int64(never))) > 0:
			return big.NewInt(int64(never))
		}
		return t
	}
	big1 := func(t api.Tick) *big.Int { return nearest(big.NewInt(int64(t))) }
	at := nearest(new(big.Int).Add(big1(now), big1(ticksOn)))
	if e := big1(end); e.Cmp(at) < 0 {
		at = e
	}
	return api.Tick(at.Int64())
}

// 14.1: an alarm so many ticks from now on, but not behind the end, by hand.
func TestSoonByHand(t *testing.T) {
	for _, c := range []struct{ now, ticksOn, end, want api.Tick }{
		{3, 4, 100, 7}, {0, 0, 0, 0}, {0, 0, 9, 0}, {3, 0, 9, 3}, {0, 4, 9, 4},
		// At the end at the latest.
		{3, 4, 8, 7}, {3, 4, 7, 7}, {3, 4, 6, 6}, {3, 4, 3, 3}, {3, 4, 2, 2}, {3, 4, 0, 0}, {3, 4, -1, 0},
		// Where it would be beyond all times, or never comes.
		{3, 4, never, 7}, {never - 1, 1, never - 1, never - 1}, {never - 1, 1, never, never}, {never - 2, 1, never, never - 1},
		{never, 0, never, never}, {0, never, never, never}, {never, never, 5, 5}, {never, never, never, never},
		// What is no time, or no number of ticks, counts as the nearest.
		{-5, 4, 100, 4}, {3, -4, 100, 3}, {-5, -4, 100, 0}, {3, 4, never + 9, 7}, {math.MaxInt64, math.MaxInt64, math.MaxInt64, never},
		{math.MaxInt64, math.MaxInt64, 50, 50}, {math.MinInt64, math.MaxInt64, 50, 50}, {math.MinInt64, math.MinInt64, 50, 0},
		{3, 4, math.MinInt64, 0}, {3, math.MaxInt64, math.MaxInt64, never}, {math.MaxInt64, 4, math.MaxInt64, never},
	} {
		f := api.Frame{Kind: api.KindRequest, Client: 1, Service: 3, Slot: 5, Gen: 9, Call: 8, Try: 2, Sure: true, Seq: 4, Value: 77}
		want := api.Alarm{At: c.want, Client: 1, Slot: 5, Gen: 9, What: api.ForHedge}
		if a := alarm.Soon(c.now, c.ticksOn, c.end, f, api.ForHedge); a != want {
			t.Errorf("Soon of %d, %d, %d: %+v; not %+v", c.now, c.ticksOn, c.end, a, want)
		}
	}
}

// 14.1: when an alarm comes, at all edges of all three times.
func TestSoonEdges(t *testing.T) {
	f := api.Frame{Client: 3, Slot: 1, Gen: 2}
	for _, now := range edges {
		for _, ticksOn := range edges {
			for _, end := range edges {
				want := api.Alarm{At: soon(now, ticksOn, end), Client: 3, Slot: 1, Gen: 2, What: api.ForRetry}
				if a := alarm.Soon(now, ticksOn, end, f, api.ForRetry); a != want {
					t.Fatalf("Soon of %d, %d, %d: %+v; not %+v", now, ticksOn, end, a, want)
				}
			}
		}
	}
}

// 14.1: an alarm is of the turn of the frame's slot, and for what is told, as they are; nothing else of the frame matters.
func TestSoonOfWhat(t *testing.T) {
	for _, what := range []int{math.MinInt, -1, 0, 1, 2, 3, 4, 99, math.MaxInt} {
		for _, f := range []api.Frame{
			{}, {Kind: api.KindRequest, Client: 3, Slot: 15, Gen: 1<<24 - 1}, {Kind: api.KindAlarm, Gen: 1, Try: 3, Seq: 200, Value: 9},
			{Kind: -1, Client: -1, Service: -1, Slot: -1, Gen: -1, Try: -1, Seq: -1},
			{Client: math.MaxInt, Slot: math.MinInt, Gen: 1 << 24, Call: 5, Sure: true, Stream: true},
		} {
			want := api.Alarm{At: 12, Client: f.Client, Slot: f.Slot, Gen: f.Gen, What: what}
			if a := alarm.Soon(5, 7, 20, f, what); a != want {
				t.Errorf("Soon of %+v for %d: %+v", f, what, a)
			}
		}
	}
}

// 14.1: an alarm that comes soon can be asked for, just if it may be: if its end never comes, it may never come itself.
func TestSoonIsAsked(t *testing.T) {
	f := api.Frame{Kind: api.KindRequest, Client: 2, Slot: 7, Gen: 4, Call: 6}
	for _, end := range []api.Tick{10, 30, never - 1, never} {
		for _, ticksOn := range []api.Tick{0, 5, never - 21, never - 20, never} {
			a := alarm.Soon(20, ticksOn, end, f, api.ForDeadline)
			holds(t, a)
			if _, ok := alarm.Ask(a); ok != (end < never || ticksOn < never-20) {
				t.Errorf("Ask of Soon of 20, %d, %d: %v", ticksOn, end, ok)
			}
		}
	}
}
