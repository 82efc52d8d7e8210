package wheel_test

import (
	"math"
	"slices"
	"testing"

	"cableway/api"
	"cableway/wheel"
)

const (
	never = api.Never
	most  = 256
)

// edges are times, and what are none, beside each other; those about which rounds begin anew are among them.
var edges = []api.Tick{
	math.MinInt64, math.MinInt64 + 1, -never, -2, -1, 0, 1, 2, 14, 15, 16, 17, 31, 32, 33, 239, 240, 241, 254, 255, 256, 257, 271, 272, 273,
	511, 512, 513, 4079, 4080, 4094, 4095, 4096, 4097, 4351, 4352, 8191, 8192, 65535, 65536, 1<<20 - 1, 1 << 20,
	never/2 - 1, never / 2, never - 4097, never - 4096, never - 257, never - 256, never - 17, never - 16, never - 2, never - 1,
	never, never + 1, 2 * never, math.MaxInt64 - 1, math.MaxInt64,
}

// nearest is the time that counts for one.
func nearest(t api.Tick) api.Tick {
	switch {
	case t < 0:
		return 0
	case t > never:
		return never
	}
	return t
}

// at is an alarm of a time for a slot.
func at(t api.Tick, slot int) api.Alarm {
	return api.Alarm{At: t, Client: 2, Slot: slot, Gen: 7, What: api.ForRetry}
}

// plain is a wheel as a list of alarms, in the order in which they were laid.
type plain struct {
	now    api.Tick
	alarms []api.Alarm
}

func (p *plain) advance(to api.Tick) { p.now = max(p.now, nearest(to)) }

func (p *plain) put(a api.Alarm) bool {
	a.At = nearest(a.At)
	var others []api.Alarm
	for _, b := range p.alarms {
		if b.Client != a.Client || b.Slot != a.Slot || b.What != a.What {
			others = append(others, b)
		}
	}
	if a.At == never || len(others) >= most {
		return false
	}
	p.alarms = append(others, a)
	return true
}

func (p *plain) come() int {
	n := 0
	for _, a := range p.alarms {
		if a.At <= p.now {
			n++
		}
	}
	return n
}

func (p *plain) take() (api.Alarm, bool) {
	first := -1
	for i, a := range p.alarms {
		if a.At <= p.now && (first < 0 || a.At < p.alarms[first].At) {
			first = i
		}
	}
	if first < 0 {
		return api.Alarm{}, false
	}
	a := p.alarms[first]
	p.alarms = slices.Delete(p.alarms, first, first+1)
	return a, true
}

// both is a wheel, and a plain one that is told the same.
type both struct {
	t *testing.T
	w *wheel.Wheel
	p *plain
}

func begin(t *testing.T, now api.Tick) *both {
	b := &both{t, wheel.New(now), &plain{now: nearest(now)}}
	b.fits()
	return b
}

// fits looks whether both tell the same.
func (b *both) fits() {
	b.t.Helper()
	if b.w.Now() != b.p.now || b.w.Len() != len(b.p.alarms) || b.w.Come() != b.p.come() {
		b.t.Fatalf("Now %d, Len %d, Come %d; not %d, %d, %d", b.w.Now(), b.w.Len(), b.w.Come(), b.p.now, len(b.p.alarms), b.p.come())
	}
}

func (b *both) put(l ...api.Alarm) {
	b.t.Helper()
	for _, a := range l {
		if got, want := b.w.Put(a), b.p.put(a); got != want {
			b.t.Fatalf("at %d, Put of %v: %v", b.p.now, a, got)
		}
		b.fits()
	}
}

func (b *both) advance(to api.Tick) {
	b.t.Helper()
	b.w.Advance(to)
	b.p.advance(to)
	b.fits()
}

func (b *both) take() bool {
	b.t.Helper()
	got, ok := b.w.Take()
	want, wantOK := b.p.take()
	if got != want || ok != wantOK {
		b.t.Fatalf("at %d, Take: %v, %v; not %v, %v", b.p.now, got, ok, want, wantOK)
	}
	b.fits()
	return ok
}

// drain takes what has come, and then all that is left, each at its time.
func (b *both) drain() {
	b.t.Helper()
	for {
		for b.take() {
		}
		if len(b.p.alarms) == 0 {
			return
		}
		next := never
		for _, a := range b.p.alarms {
			next = min(next, a.At)
		}
		b.advance(next - 1)
		b.advance(next)
	}
}

// is looks what a wheel tells, by hand.
func is(t *testing.T, w *wheel.Wheel, now api.Tick, length, come int) {
	t.Helper()
	if w.Now() != now || w.Len() != length || w.Come() != come {
		t.Fatalf("Now %d, Len %d, Come %d; not %d, %d, %d", w.Now(), w.Len(), w.Come(), now, length, come)
	}
}

// puts lays alarms that can be laid.
func puts(t *testing.T, w *wheel.Wheel, l ...api.Alarm) {
	t.Helper()
	for _, a := range l {
		if !w.Put(a) {
			t.Fatalf("Put of %v: false", a)
		}
	}
}

// putsNot looks whether an alarm can't be laid, and nothing that is told is changed.
func putsNot(t *testing.T, w *wheel.Wheel, a api.Alarm) {
	t.Helper()
	now, length, come := w.Now(), w.Len(), w.Come()
	if w.Put(a) {
		t.Fatalf("Put of %v: true", a)
	}
	is(t, w, now, length, come)
}

// takes looks whether just these alarms have come, in this order.
func takes(t *testing.T, w *wheel.Wheel, want ...api.Alarm) {
	t.Helper()
	for i, a := range want {
		if w.Come() != len(want)-i {
			t.Fatalf("Come: %d, not %d", w.Come(), len(want)-i)
		}
		if got, ok := w.Take(); got != a || !ok {
			t.Fatalf("Take: %v, %v; not %v", got, ok, a)
		}
	}
	now, length := w.Now(), w.Len()
	for range 2 {
		if a, ok := w.Take(); a != (api.Alarm{}) || ok {
			t.Fatalf("Take, where none has come: %v, %v", a, ok)
		}
	}
	is(t, w, now, length, 0)
}

// 13.1: the document's example.
func TestExample(t *testing.T) {
	w := wheel.New(0)
	puts(t, w, at(5, 0))
	is(t, w, 0, 1, 0)
	w.Advance(5)
	is(t, w, 5, 1, 1)
	takes(t, w, at(5, 0))
	is(t, w, 5, 0, 0)
}

// 13.1: the numbers that the document tells.
func TestNumbers(t *testing.T) {
	if api.WheelLevels != 3 || api.WheelPlaces != 16 || api.MostAlarms != most {
		t.Errorf("%d levels, %d places, %d alarms", api.WheelLevels, api.WheelPlaces, api.MostAlarms)
	}
}

// 13.1: a wheel begins without alarms, at the nearest time; a plain one at 0.
func TestNew(t *testing.T) {
	for _, x := range edges {
		w := wheel.New(x)
		is(t, w, nearest(x), 0, 0)
		takes(t, w)
	}
	var w wheel.Wheel
	is(t, &w, 0, 0, 0)
	takes(t, &w)
	puts(t, &w, at(0, 1), at(5000, 2), at(20, 3))
	is(t, &w, 0, 3, 1)
	w.Advance(5000)
	takes(t, &w, at(0, 1), at(20, 3), at(5000, 2))
}

// 13.1: of none there is nothing.
func TestNone(t *testing.T) {
	var w *wheel.Wheel
	for _, x := range edges {
		if w.Put(at(x, 1)) {
			t.Errorf("Put at %d: true", x)
		}
		w.Advance(x)
		is(t, w, 0, 0, 0)
		takes(t, w)
	}
}

// 13.1: the time is another one, if that is later; else it stays.
func TestAdvance(t *testing.T) {
	for _, from := range edges {
		for _, to := range edges {
			w := wheel.New(from)
			want := max(nearest(from), nearest(to))
			w.Advance(to)
			is(t, w, want, 0, 0)
			w.Advance(to)
			w.Advance(from)
			w.Advance(to - 1)
			is(t, w, max(want, nearest(to-1)), 0, 0)
		}
	}
	// By hand.
	w := wheel.New(10)
	puts(t, w, at(11, 1), at(300, 2), at(9000, 3))
	for _, x := range []api.Tick{10, 9, 0, -1, math.MinInt64} {
		w.Advance(x)
		is(t, w, 10, 3, 0)
	}
	w.Advance(math.MaxInt64)
	is(t, w, never, 3, 3)
	w.Advance(20)
	is(t, w, never, 3, 3)
	takes(t, w, at(11, 1), at(300, 2), at(9000, 3))
}

// 13.1: what has come stays so, also where the time is to be an earlier one.
func TestEarlierTakesNothingBack(t *testing.T) {
	w := wheel.New(0)
	puts(t, w, at(20, 1), at(21, 2))
	w.Advance(20)
	w.Advance(19)
	w.Advance(0)
	is(t, w, 20, 2, 1)
	takes(t, w, at(20, 1))
	w.Advance(21)
	takes(t, w, at(21, 2))
}

// 13.1: an alarm's time is kept as the nearest one; one that never comes is not laid; one that is past has come at once. From each time, to each time.
func TestPutEdges(t *testing.T) {
	for _, now := range edges {
		for _, x := range edges {
			w := wheel.New(now)
			a := at(nearest(x), 1)
			switch {
			case a.At == never:
				putsNot(t, w, at(x, 1))
				w.Advance(never)
				is(t, w, never, 0, 0)
				continue
			case a.At <= nearest(now):
				puts(t, w, at(x, 1))
				is(t, w, nearest(now), 1, 1)
			default:
				puts(t, w, at(x, 1))
				is(t, w, nearest(now), 1, 0)
				takes(t, w)
				w.Advance(a.At - 1)
				is(t, w, a.At-1, 1, 0)
				w.Advance(a.At)
				is(t, w, a.At, 1, 1)
			}
			takes(t, w, a)
			is(t, w, max(a.At, nearest(now)), 0, 0)
		}
	}
}

// 13.1: an alarm comes at its time, and not ahead of it, whatever the times between.
func TestBetween(t *testing.T) {
	for _, now := range edges {
		for _, x := range edges {
			b := begin(t, now)
			b.put(at(x, 1), at(x, 2), at(x-1, 3), at(x+1, 4), at(never-1, 5))
			for _, y := range edges {
				b.advance(y)
			}
			b.drain()
		}
	}
}

// 13.1: alarms of very many times, where the time goes on by steps of each size.
func TestSteps(t *testing.T) {
	for _, from := range []api.Tick{0, 1, 15, 250, 4000, 4095, 1 << 30, never - 6000} {
		for _, step := range []api.Tick{1, 2, 7, 15, 16, 17, 100, 255, 256, 257, 1000, 4095, 4096, 4097, 5000} {
			b := begin(t, from)
			for i := range api.Tick(most) {
				b.put(at(from+1+i*i*31%5900, int(i)))
			}
			for x := from; x < from+6000; x += step {
				b.advance(x)
				if x/step%3 == 0 {
					b.take()
				}
			}
			b.drain()
		}
	}
}

// 13.1: each tick on its own: what is laid for each distance comes just then.
func TestEachTick(t *testing.T) {
	for _, from := range []api.Tick{0, 9, 255, 3900} {
		for distance := range api.Tick(4400) {
			if distance > 300 && distance%16 > 1 && distance < 4000 {
				continue
			}
			w, x := wheel.New(from), from+distance
			puts(t, w, at(x, 1))
			for y := from; y < x; y++ {
				w.Advance(y)
				if w.Come() != 0 {
					t.Fatalf("from %d, of %d: it came at %d", from, x, y)
				}
			}
			w.Advance(x)
			takes(t, w, at(x, 1))
		}
	}
}

// permute calls f with all orders of a list, from a place on.
func permute(l []int, from int, f func([]int)) {
	if from == len(l) {
		f(l)
		return
	}
	for i := from; i < len(l); i++ {
		l[from], l[i] = l[i], l[from]
		permute(l, from+1, f)
		l[from], l[i] = l[i], l[from]
	}
}

// Words: the earliest is taken first, whatever the order in which they were laid; and however the time goes on.
func TestEarliestFirst(t *testing.T) {
	for _, times := range [][]api.Tick{{0, 1, 2, 5, 9, 15}, {3, 16, 31, 40, 255, 256}, {4, 4095, 4096, 5000, 70000, never - 1}} {
		permute([]int{0, 1, 2, 3, 4, 5}, 0, func(order []int) {
			w, v := wheel.New(0), wheel.New(0)
			var want []api.Alarm
			for slot, x := range times {
				want = append(want, at(x, slot))
			}
			for _, i := range order {
				puts(t, w, want[i])
				puts(t, v, want[i])
			}
			w.Advance(never - 1)
			takes(t, w, want...)
			for _, x := range times {
				v.Advance(x)
			}
			takes(t, v, want...)
		})
	}
}

// Words: of alarms of one time the one that was laid first is taken first: also where they were laid from near and from far, and where others come and go.
func TestLaidFirst(t *testing.T) {
	for _, x := range []api.Tick{5, 15, 16, 100, 256, 300, 4096, 5000, 9000, 1 << 20, never - 1} {
		w := wheel.New(0)
		var want []api.Alarm
		slot := 20
		for _, ahead := range []api.Tick{never, 9000, 5000, 4097, 4096, 4095, 300, 257, 256, 255, 20, 17, 16, 15, 3, 1, 0} {
			if ahead > x && ahead < never {
				continue
			}
			w.Advance(x - ahead)
			for range 2 {
				slot = slot * 7 % 41
				want = append(want, at(x, slot))
				puts(t, w, at(x, slot), at(x-1, 50), at(never-1, 51), at(min(x+1, never-1), 52))
			}
			for w.Come() > 0 && w.Now() < x {
				w.Take()
			}
		}
		is(t, w, x, w.Len(), w.Come())
		for a, ok := w.Take(); ok; a, ok = w.Take() {
			if a.Slot >= 50 {
				continue
			}
			if len(want) == 0 || a != want[0] {
				t.Fatalf("of %d: %v ahead of %v", x, a, want)
			}
			want = want[1:]
		}
		if len(want) > 0 {
			t.Errorf("of %d: %v are left", x, want)
		}
	}
}

// Words: what has come is in order with what comes later, and with what is laid when its time is past.
func TestPastOnesAreInOrder(t *testing.T) {
	w := wheel.New(100)
	puts(t, w, at(100, 1), at(40, 2), at(101, 3), at(-9, 4), at(40, 5), at(0, 6), at(99, 7))
	is(t, w, 100, 7, 6)
	w.Advance(101)
	puts(t, w, at(41, 8), at(101, 9), at(100, 10))
	takes(t, w, at(0, 4), at(0, 6), at(40, 2), at(40, 5), at(41, 8), at(99, 7), at(100, 1), at(100, 10), at(101, 3), at(101, 9))
	is(t, w, 101, 0, 0)
}

// Words: nothing of an alarm but its time, and when it was laid, tells when it is taken.
func TestOtherFieldsAreNoOrder(t *testing.T) {
	l := []api.Alarm{
		{At: 5, Client: 9, Slot: 9, Gen: 9, What: 9}, {At: 5, Client: 0, Slot: 9, Gen: 9, What: 9},
		{At: 5, Client: 9, Slot: 0, Gen: 9, What: 9}, {At: 5, Client: 8, Slot: 9, Gen: 0, What: 9},
		{At: 5, Client: 9, Slot: 9, Gen: 9, What: 0}, {At: 5},
	}
	permute([]int{0, 1, 2, 3, 4, 5}, 0, func(order []int) {
		for _, to := range []api.Tick{0, 5} {
			w := wheel.New(to)
			var want []api.Alarm
			for _, i := range order {
				want = append(want, l[i])
				puts(t, w, l[i])
			}
			w.Advance(5)
			takes(t, w, want...)
		}
	})
}

// 13.1: all else of an alarm is kept as it is, be it what may be or not.
func TestPutKeepsAll(t *testing.T) {
	for _, x := range []api.Tick{3, 30, 300, 3000, 30000, never - 1} {
		w := wheel.New(0)
		var want []api.Alarm
		for _, n := range []int{math.MinInt, -1, 1, 4, 16, 1 << 24, math.MaxInt} {
			for _, a := range []api.Alarm{{Client: n}, {Slot: n, Gen: n}, {What: n}, {Client: n, Slot: n, Gen: n, What: n}} {
				a.At = x
				puts(t, w, a)
				want = append(want, a)
			}
		}
		is(t, w, 0, len(want), 0)
		w.Advance(x)
		takes(t, w, want...)
	}
}

// Words: of the same What, of the same slot of the same client, there is the one that was laid last: wherever the elder one is, and whether or not one of them has come.
func TestSame(t *testing.T) {
	for _, now := range []api.Tick{0, 1, 20, 4095, 5000} {
		for _, x := range edges {
			for _, y := range edges {
				if nearest(x) == never || nearest(y) == never {
					continue
				}
				w := wheel.New(now)
				elder, later := at(x, 1), at(y, 1)
				elder.Gen, later.Gen = 9, 3
				puts(t, w, at(5001, 8), elder, at(0, 9), later)
				come := 1
				if nearest(y) <= now {
					come++
				}
				is(t, w, now, 3, come)
				w.Advance(never)
				later.At = nearest(y)
				want := []api.Alarm{at(0, 9), later, at(5001, 8)}
				if later.At >= 5001 {
					want[1], want[2] = want[2], want[1]
				}
				takes(t, w, want...)
			}
		}
	}
}

// Words: one that comes in another one's place was laid then: behind those that were laid between, also where nothing of it is another one.
func TestSameIsLaidAnew(t *testing.T) {
	for _, now := range []api.Tick{0, 90, 100} {
		for _, x := range []api.Tick{100, 4500} {
			w := wheel.New(now)
			puts(t, w, at(x, 1), at(x, 2), at(x, 3), at(x, 2), at(x, 4), at(x, 1))
			w.Advance(x)
			takes(t, w, at(x, 3), at(x, 2), at(x, 4), at(x, 1))
		}
	}
}

// Words: one of another What, slot or client is another one; one of another turn is not.
func TestOthersStay(t *testing.T) {
	for _, x := range []api.Tick{0, 7, 70, 700, 7000} {
		w := wheel.New(0)
		a := api.Alarm{At: x, Client: 1, Slot: 2, Gen: 3, What: 2}
		b, c, d, e := a, a, a, a
		b.Client, c.Slot, d.What, e.Gen = 2, 1, 3, 4
		b.At, d.At = x+1, x+2
		puts(t, w, a, b, c, d)
		is(t, w, 0, 4, w.Come())
		puts(t, w, e)
		is(t, w, 0, 4, w.Come())
		w.Advance(x + 2)
		takes(t, w, c, e, b, d)
	}
}

// 13.1: where one that never comes is to be laid, the elder one stays.
func TestNeverLeavesTheElder(t *testing.T) {
	for _, x := range []api.Tick{0, 5, 50, 500, 5000, never - 1} {
		w := wheel.New(0)
		puts(t, w, at(x, 1))
		for _, y := range []api.Tick{never, never + 1, math.MaxInt64} {
			putsNot(t, w, at(y, 1))
		}
		w.Advance(x)
		takes(t, w, at(x, 1))
	}
}

// Words: behind one that was taken, the same can be laid again, and is one.
func TestSameBehindTaken(t *testing.T) {
	w := wheel.New(0)
	for range 3 {
		puts(t, w, at(0, 1), at(0, 2))
		takes(t, w, at(0, 1), at(0, 2))
	}
	puts(t, w, at(9, 1))
	is(t, w, 0, 1, 0)
}

// 13.1: there are MostAlarms at most, those that have come among them; one for the same as another one comes in its place; where one was taken there is room for one.
func TestFull(t *testing.T) {
	for _, spread := range []api.Tick{0, 1, 3, 16, 33, 300} {
		b := begin(t, 100)
		for i := range most {
			b.put(at(90+spread*api.Tick(i), i))
		}
		w := b.w
		if w.Len() != most {
			t.Fatalf("Len: %d", w.Len())
		}
		for _, x := range edges {
			putsNot(t, w, at(x, most))
		}
		for _, i := range []int{0, 1, 77, most - 1} {
			for _, x := range edges {
				b.put(at(x, i))
			}
			putsNot(t, w, at(150, most))
		}
		other := at(150, 5)
		other.What = api.ForHedge
		putsNot(t, w, other)
		b.advance(200)
		putsNot(t, w, at(150, most))
		for i := range 3 {
			b.take()
			putsNot(t, w, at(never, most+i))
			b.put(at(160, most+i))
			putsNot(t, w, at(150, most+9))
		}
		b.drain()
		b.put(at(never-1, 1), at(0, 2))
		b.drain()
	}
}

// 13.1: very many in one place, and at one time.
func TestManyAtOnce(t *testing.T) {
	for _, x := range []api.Tick{1, 17, 260, 4100, 99999} {
		b := begin(t, 0)
		for round := range 3 {
			for i := range most {
				b.put(at(x, i*(2*round+1)%most))
			}
		}
		b.advance(x - 1)
		b.drain()
	}
}

// 13.1: each order of few calls, against a plain list.
func TestAllOrders(t *testing.T) {
	for _, now := range []api.Tick{0, 14, 255, 4095} {
		walk(t, now, nil, 5)
	}
}

// walk goes on from some calls with each further one.
func walk(t *testing.T, now api.Tick, calls []int, left int) {
	b := begin(t, now)
	for n, c := range calls {
		call(b, n, c)
	}
	if left == 0 {
		b.drain()
		return
	}
	for c := range 8 {
		walk(t, now, append(slices.Clone(calls), c), left-1)
	}
}

// call does one call of a number.
func call(b *both, n, c int) {
	b.t.Helper()
	a := at(b.p.now, c%2)
	a.Gen = n
	switch c {
	case 0:
		b.put(a)
	case 1, 2:
		a.At++
		b.put(a)
	case 3, 4:
		a.At += 17
		b.put(a)
	case 5:
		b.advance(b.p.now + 1)
	case 6:
		b.advance(b.p.now + 16)
	case 7:
		b.take()
	}
}

// 13.1: very many calls, drawn by a rule, against a plain list; full at times, and empty at times.
func TestLong(t *testing.T) {
	for _, span := range []uint64{1, 4, 20, 300, 5000, 100000, 1 << 30} {
		for _, slots := range []uint64{3, 40, 400} {
			b, x, peak := begin(t, api.Tick(span*slots)), span+slots, 0
			draw := func(n uint64) uint64 {
				x = x*6364136223846793005 + 1442695040888963407
				return x >> 20 % n
			}
			for n := range 6000 {
				// Many are laid for a while, then many taken.
				filling := n/1000%2 == 0
				switch d := draw(10); {
				case d < 6 == filling:
					a := at(b.p.now+api.Tick(draw(span))-api.Tick(draw(span)/4), int(draw(slots)))
					a.Client, a.What, a.Gen = int(draw(2)), 1+int(draw(2)), n
					b.put(a)
				case d%2 == 0:
					b.advance(b.p.now + api.Tick(draw(span)+1)/api.Tick(1+draw(16)))
				default:
					b.take()
				}
				peak = max(peak, b.w.Len())
			}
			b.drain()
			if slots == 400 && peak != most {
				t.Errorf("spans of %d: it was never full, but had %d at most", span, peak)
			}
		}
	}
}

// 13.1: each has its own alarms and its own time.
func TestTwo(t *testing.T) {
	v, w := wheel.New(3), wheel.New(4)
	puts(t, v, at(5, 1), at(50, 2))
	is(t, w, 4, 0, 0)
	puts(t, w, at(5, 1))
	v.Advance(60)
	is(t, w, 4, 1, 0)
	takes(t, v, at(5, 1), at(50, 2))
	w.Advance(5)
	takes(t, w, at(5, 1))
}

// 13.1: asking changes nothing: what is asked again and again is answered the same.
func TestAskingChangesNothing(t *testing.T) {
	w := wheel.New(6)
	puts(t, w, at(4, 1), at(-3, 2), at(9, 3), at(2, 4), at(900, 5))
	for range 3 {
		is(t, w, 6, 5, 3)
	}
	takes(t, w, at(0, 2), at(2, 4), at(4, 1))
	is(t, w, 6, 2, 0)
}
