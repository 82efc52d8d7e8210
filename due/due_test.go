package due_test

import (
	"math"
	"slices"
	"testing"

	"cableway/api"
	"cableway/due"
)

const (
	never = api.Never
	most  = 256
)

// edges are times, and what are none, beside each other.
var edges = []api.Tick{
	math.MinInt64, math.MinInt64 + 1, -never - 1, -never, -2, -1, 0, 1, 2, 3, 5, 1000,
	never/2 - 1, never / 2, never - 2, never - 1, never, never + 1, never + 2, 2 * never, math.MaxInt64 - 1, math.MaxInt64,
}

// nearest is the time that counts for one.
func nearest(t api.Tick) api.Tick {
	switch {
	case t < 0:
		return 0
	case t > never:
		return never
	}
	return t
}

// comes tells whether a time has come.
func comes(now, t api.Tick) bool { return nearest(t) != never && nearest(t) <= nearest(now) }

// at is an alarm of a time, that can be told from others by its slot.
func at(t api.Tick, slot int) api.Alarm {
	return api.Alarm{At: t, Client: 2, Slot: slot, Gen: 7, What: api.ForRetry}
}

// kept is an alarm as it is told: its time is the nearest.
func kept(a api.Alarm) api.Alarm {
	a.At = nearest(a.At)
	return a
}

// keptAll is some alarms as they are told.
func keptAll(l []api.Alarm) []api.Alarm {
	var k []api.Alarm
	for _, a := range l {
		k = append(k, kept(a))
	}
	return k
}

// with is alarms, in order, and one more that is laid behind them.
func with(l []api.Alarm, a api.Alarm) []api.Alarm {
	i := 0
	for i < len(l) && l[i].At <= nearest(a.At) {
		i++
	}
	return slices.Insert(slices.Clone(l), i, kept(a))
}

// holds looks whether there are just these alarms, in this order.
func holds(t *testing.T, d *due.Due, want ...api.Alarm) {
	t.Helper()
	first := never
	if len(want) > 0 {
		first = want[0].At
	}
	if d.Len() != len(want) || d.First() != first {
		t.Fatalf("Len %d, First %d; not %d, %d", d.Len(), d.First(), len(want), first)
	}
	if l := d.All(); !slices.Equal(l, want) {
		t.Fatalf("All: %v, not %v", l, want)
	}
}

// puts lays alarms that can be laid.
func puts(t *testing.T, d *due.Due, l ...api.Alarm) {
	t.Helper()
	for _, a := range l {
		if !d.Put(a) {
			t.Fatalf("Put of %v: false", a)
		}
	}
}

// putsNot looks whether an alarm can't be laid, and nothing is changed.
func putsNot(t *testing.T, d *due.Due, a api.Alarm) {
	t.Helper()
	was := d.All()
	if d.Put(a) {
		t.Fatalf("Put of %v: true", a)
	}
	holds(t, d, was...)
}

// takes looks whether these alarms are taken at a time, in this order.
func takes(t *testing.T, d *due.Due, now api.Tick, want ...api.Alarm) {
	t.Helper()
	for _, a := range want {
		if got, ok := d.Take(now); got != a || !ok {
			t.Fatalf("Take at %d: %v, %v; not %v", now, got, ok, a)
		}
	}
}

// takesNone looks whether none has come: the alarm is a plain one then, and nothing is changed.
func takesNone(t *testing.T, d *due.Due, now api.Tick) {
	t.Helper()
	was := d.All()
	for range 2 {
		if a, ok := d.Take(now); a != (api.Alarm{}) || ok {
			t.Fatalf("Take at %d, where none has come: %v, %v", now, a, ok)
		}
	}
	holds(t, d, was...)
}

// 12.1: the document's example.
func TestExample(t *testing.T) {
	d := &due.Due{}
	puts(t, d, at(5, 0), at(3, 1))
	if d.First() != 3 {
		t.Errorf("First: %d", d.First())
	}
	holds(t, d, at(3, 1), at(5, 0))
}

// 12.1: a plain Due{} has no alarms, and can be used.
func TestPlain(t *testing.T) {
	var d due.Due
	holds(t, &d)
	for _, now := range edges {
		takesNone(t, &d, now)
	}
	puts(t, &d, at(4, 1))
	holds(t, &d, at(4, 1))
	takes(t, &d, 4, at(4, 1))
	holds(t, &d)
	takesNone(t, &d, never)
}

// 12.1: of none there is nothing.
func TestNone(t *testing.T) {
	var d *due.Due
	for _, x := range edges {
		if d.Put(at(x, 1)) {
			t.Errorf("Put at %d: true", x)
		}
		if a, ok := d.Take(x); a != (api.Alarm{}) || ok {
			t.Errorf("Take at %d: %v, %v", x, a, ok)
		}
	}
	holds(t, d)
}

// Words: the earliest is taken first, whatever the order in which they were laid.
func TestEarliestFirst(t *testing.T) {
	times := []api.Tick{0, 1, 2, 5, 9, never - 1}
	order := []int{0, 1, 2, 3, 4, 5}
	permute(order, 0, func(order []int) {
		d := &due.Due{}
		var want []api.Alarm
		for slot, x := range times {
			want = append(want, at(x, slot))
		}
		for _, i := range order {
			puts(t, d, want[i])
		}
		holds(t, d, want...)
		takes(t, d, never-1, want...)
		holds(t, d)
	})
}

// permute calls f with all orders of a list, from a place on.
func permute(l []int, from int, f func([]int)) {
	if from == len(l) {
		f(l)
		return
	}
	for i := from; i < len(l); i++ {
		l[from], l[i] = l[i], l[from]
		permute(l, from+1, f)
		l[from], l[i] = l[i], l[from]
	}
}

// Words: of alarms of one time the one that was laid first is taken first, also where others come and go meanwhile.
func TestLaidFirst(t *testing.T) {
	d := &due.Due{}
	puts(t, d, at(5, 9), at(5, 3), at(5, 6), at(5, 1), at(5, 8), at(5, 2))
	holds(t, d, at(5, 9), at(5, 3), at(5, 6), at(5, 1), at(5, 8), at(5, 2))
	takes(t, d, 5, at(5, 9), at(5, 3))
	puts(t, d, at(4, 7), at(5, 9), at(6, 0), at(5, 0))
	holds(t, d, at(4, 7), at(5, 6), at(5, 1), at(5, 8), at(5, 2), at(5, 9), at(5, 0), at(6, 0))
	takes(t, d, 5, at(4, 7), at(5, 6), at(5, 1), at(5, 8))
	puts(t, d, at(5, 6), at(5, 1))
	takes(t, d, 5, at(5, 2), at(5, 9), at(5, 0), at(5, 6), at(5, 1))
	takesNone(t, d, 5)
	takes(t, d, 6, at(6, 0))
	holds(t, d)
}

// Words: nothing of an alarm but its time, and when it was laid, tells when it is taken.
func TestOtherFieldsAreNoOrder(t *testing.T) {
	l := []api.Alarm{
		{At: 5, Client: 9, Slot: 9, Gen: 9, What: 9}, {At: 5, Client: 0, Slot: 9, Gen: 9, What: 9},
		{At: 5, Client: 9, Slot: 0, Gen: 9, What: 9}, {At: 5, Client: 9, Slot: 9, Gen: 0, What: 9},
		{At: 5, Client: 9, Slot: 9, Gen: 9, What: 0}, {At: 5},
	}
	order := []int{0, 1, 2, 3, 4, 5}
	permute(order, 0, func(order []int) {
		d := &due.Due{}
		var want []api.Alarm
		for _, i := range order {
			want = append(want, l[i])
			puts(t, d, l[i])
		}
		holds(t, d, want...)
		takes(t, d, 5, want...)
	})
}

// 12.1: many of a few times: those of each time in the order in which they were laid.
func TestManyOfFewTimes(t *testing.T) {
	for times := 1; times <= 9; times++ {
		d := &due.Due{}
		var want []api.Alarm
		for i := range most {
			a := at(api.Tick(i*7%times), i)
			puts(t, d, a)
			want = with(want, a)
		}
		holds(t, d, want...)
		for now := range api.Tick(times) {
			i := 0
			for i < len(want) && want[i].At == now {
				i++
			}
			takes(t, d, now, want[:i]...)
			takesNone(t, d, now)
			want = want[i:]
		}
		holds(t, d)
	}
}

// 12.1: an alarm's time is kept as the nearest one; one that never comes is not laid.
func TestPutEdges(t *testing.T) {
	for _, x := range edges {
		for _, others := range [][]api.Alarm{nil, {at(0, 8)}, {at(1, 8), at(never-1, 9)}} {
			d := &due.Due{}
			puts(t, d, others...)
			if nearest(x) == never {
				putsNot(t, d, at(x, 1))
				continue
			}
			puts(t, d, at(x, 1))
			holds(t, d, with(others, at(x, 1))...)
		}
	}
	// By hand.
	d := &due.Due{}
	putsNot(t, d, at(never, 1))
	putsNot(t, d, at(never+1, 1))
	putsNot(t, d, at(math.MaxInt64, 1))
	puts(t, d, at(never-1, 1), at(0, 2), at(-5, 3), at(math.MinInt64, 4))
	holds(t, d, at(0, 2), at(0, 3), at(0, 4), at(never-1, 1))
}

// 12.1: all else of an alarm is kept as it is, be it what may be or not.
func TestPutKeepsAll(t *testing.T) {
	d := &due.Due{}
	var want []api.Alarm
	for _, x := range []int{math.MinInt, -1, 0, 1, 4, 16, 1 << 24, math.MaxInt} {
		for _, a := range []api.Alarm{{Client: x}, {Slot: x}, {Gen: x}, {What: x}, {Client: x, Slot: x, Gen: x, What: x}} {
			a.At = 3
			puts(t, d, a)
			want = append(want, a)
		}
	}
	holds(t, d, want...)
	takes(t, d, 3, want...)
}

// 12.1: the same alarm can be laid more than once: each is one.
func TestSameTwice(t *testing.T) {
	d := &due.Due{}
	puts(t, d, at(5, 1), at(5, 1), at(2, 1), at(5, 1))
	holds(t, d, at(2, 1), at(5, 1), at(5, 1), at(5, 1))
	takes(t, d, 5, at(2, 1), at(5, 1), at(5, 1))
	holds(t, d, at(5, 1))
}

// 12.1: there are MostAlarms at most; where one was taken there is room for one.
func TestFull(t *testing.T) {
	for _, step := range []api.Tick{-1, 0, 1} {
		d := &due.Due{}
		var want []api.Alarm
		for i := range most {
			a := at(500+step*api.Tick(i), i)
			puts(t, d, a)
			want = with(want, a)
		}
		holds(t, d, want...)
		for _, x := range edges {
			putsNot(t, d, at(x, 999))
		}
		putsNot(t, d, want[0])
		takesNone(t, d, want[0].At-1)
		putsNot(t, d, at(1, 999))
		for i := range 3 {
			takes(t, d, 1000, want[0])
			putsNot(t, d, at(never, 999))
			puts(t, d, at(600, 300+i))
			want = with(want[1:], at(600, 300+i))
			putsNot(t, d, at(1, 999))
		}
		holds(t, d, want...)
		takes(t, d, 1000, want...)
		holds(t, d)
		puts(t, d, at(7, 1))
		holds(t, d, at(7, 1))
	}
	if api.MostAlarms != most {
		t.Errorf("MostAlarms: %d", api.MostAlarms)
	}
}

// 12.1: an alarm is taken just when it has come, at all edges.
func TestTakeEdges(t *testing.T) {
	for _, x := range edges {
		for _, now := range edges {
			d := &due.Due{}
			if !d.Put(at(x, 1)) {
				continue
			}
			if !comes(now, x) {
				takesNone(t, d, now)
				continue
			}
			takes(t, d, now, kept(at(x, 1)))
			takesNone(t, d, now)
			holds(t, d)
		}
	}
	// By hand.
	d := &due.Due{}
	puts(t, d, at(5, 1), at(6, 2), at(never-1, 3), at(0, 4))
	takes(t, d, math.MinInt64, at(0, 4))
	takesNone(t, d, -1)
	takesNone(t, d, 4)
	takes(t, d, 5, at(5, 1))
	takesNone(t, d, 5)
	takes(t, d, 7, at(6, 2))
	takesNone(t, d, never-2)
	takes(t, d, math.MaxInt64, at(never-1, 3))
	takesNone(t, d, math.MaxInt64)
}

// 12.1: the time that is told is nowhere kept: behind a later one an earlier one may be told, and laid.
func TestTimeIsNotKept(t *testing.T) {
	d := &due.Due{}
	puts(t, d, at(5, 1), at(9, 2))
	takes(t, d, 100, at(5, 1))
	takesNone(t, d, 8)
	puts(t, d, at(3, 3))
	takesNone(t, d, 2)
	takes(t, d, 3, at(3, 3))
	takesNone(t, d, 8)
	takes(t, d, 9, at(9, 2))
}

// 12.1: each order of few calls, against a plain list.
func TestAllOrders(t *testing.T) { walk(t, nil, 6) }

// walk goes on from some calls with each further one: below 3 is Put at that time, else Take.
func walk(t *testing.T, calls []int, left int) {
	d := &due.Due{}
	var want []api.Alarm
	for n, c := range calls {
		want = call(t, d, want, api.Tick(c%3), n, c >= 3)
	}
	holds(t, d, want...)
	if left == 0 {
		return
	}
	for c := range 6 {
		walk(t, append(slices.Clone(calls), c), left-1)
	}
}

// call does one call, and tells what there is behind it.
func call(t *testing.T, d *due.Due, want []api.Alarm, x api.Tick, n int, take bool) []api.Alarm {
	t.Helper()
	switch {
	case !take && len(want) < most && nearest(x) != never:
		puts(t, d, at(x, n))
		return with(want, at(x, n))
	case !take:
		putsNot(t, d, at(x, n))
	case len(want) > 0 && comes(x, want[0].At):
		takes(t, d, x, want[0])
		return want[1:]
	default:
		takesNone(t, d, x)
	}
	return want
}

// 12.1: very many calls, drawn by a rule, against a plain list; full at times, and empty at times.
func TestLong(t *testing.T) {
	for _, span := range []uint64{1, 4, 50, 1 << 41} {
		d, x, peak := &due.Due{}, span, 0
		var want []api.Alarm
		for n := range 12000 {
			x = x*6364136223846793005 + 1442695040888963407
			// Many are laid for a while, then many taken.
			take := x>>60 < 3
			if n/1500%2 == 1 {
				take = x>>60 >= 3
			}
			want = call(t, d, want, api.Tick(x>>20%span), n, take)
			if d.Len() != len(want) {
				t.Fatalf("Len: %d, not %d", d.Len(), len(want))
			}
			if n%37 == 0 {
				holds(t, d, want...)
			}
			peak = max(peak, len(want))
		}
		holds(t, d, want...)
		if peak != most {
			t.Errorf("it was never full, but had %d at most", peak)
		}
	}
}

// 12.1: each has its own alarms.
func TestTwo(t *testing.T) {
	d, e := &due.Due{}, &due.Due{}
	puts(t, d, at(5, 1), at(3, 2))
	holds(t, e)
	takesNone(t, e, 9)
	puts(t, e, at(4, 3))
	takes(t, d, 9, at(3, 2))
	holds(t, d, at(5, 1))
	holds(t, e, at(4, 3))
}

// R2: an answer is the caller's own, and stays as it was.
func TestAllIsTheCallers(t *testing.T) {
	d := &due.Due{}
	want := []api.Alarm{at(1, 1), at(2, 2), at(3, 3), at(4, 4)}
	puts(t, d, want[3], want[1], want[2], want[0])
	l := d.All()
	for i := range l {
		l[i] = at(9, 9)
	}
	_ = append(l[:1], at(8, 8), at(8, 8))
	holds(t, d, want...)
	l = d.All()
	_ = append(l, at(7, 7))
	takes(t, d, 1, want[0])
	puts(t, d, at(5, 5), at(0, 0))
	if !slices.Equal(l, want) {
		t.Errorf("the answer is now %v", l)
	}
	holds(t, d, at(0, 0), want[1], want[2], want[3], at(5, 5))
}

// 12.1: asking changes nothing: what is asked again and again is answered the same.
func TestAskingChangesNothing(t *testing.T) {
	d := &due.Due{}
	l := []api.Alarm{at(4, 1), at(-3, 2), at(4, 3), at(2, 4), at(4, 5), at(2, 6), at(9, 7)}
	puts(t, d, l...)
	want := keptAll([]api.Alarm{l[1], l[3], l[5], l[0], l[2], l[4], l[6]})
	for range 3 {
		holds(t, d, want...)
	}
	takes(t, d, 9, want...)
}
