package window_test

import (
	"math"
	"testing"

	"cableway/api"
	"cableway/window"
)

const (
	never = api.Never
	most  = 16 // as the chapter's given limit is
)

// edges are times, and what are none, beside each other.
var edges = []api.Tick{
	math.MinInt64, math.MinInt64 + 1, -never - 1, -never, -5, -4, -1, 0, 1, 2, 3, 4, 5, 7, 8, 9, 11, 12, 15, 16, 17, 63, 64, 65, 1000,
	never/2 - 1, never / 2, never/2 + 1, never - 5, never - 4, never - 3, never - 2, never - 1,
	never, never + 1, never + 2, 2 * never, math.MaxInt64 - 1, math.MaxInt64,
}

// sizes are how many buckets, also what may not be.
var sizes = []int{
	math.MinInt, math.MinInt + 1, -most, -2, -1, 0, 1, 2, 3, 4, 8, most - 1, most, most + 1, most + 2, 2 * most, 1000, math.MaxInt - 1, math.MaxInt,
}

// size is how many buckets count for a number, case by case.
func size(n int) int {
	switch {
	case n < 1:
		return 1
	case n > most:
		return most
	}
	return n
}

// nearest is the time that counts for one.
func nearest(t api.Tick) api.Tick {
	switch {
	case t < 0:
		return 0
	case t > never:
		return never
	}
	return t
}

// thing is something that happened, and the bucket in which it counts.
type thing struct {
	bucket api.Tick
	well   bool
}

// plain is a window as a list of all that ever happened.
type plain struct {
	buckets int
	width   api.Tick
	latest  api.Tick
	things  []thing
}

func newPlain(buckets int, width api.Tick) *plain {
	if width < 1 {
		width = 1
	}
	return &plain{buckets: size(buckets), width: width}
}

func (p *plain) meet(now api.Tick) {
	if bucket := nearest(now) / p.width; bucket > p.latest {
		p.latest = bucket
	}
}

func (p *plain) note(now api.Tick, well bool) {
	p.meet(now)
	p.things = append(p.things, thing{p.latest, well})
}

func (p *plain) counts(now api.Tick) api.Counts {
	p.meet(now)
	var c api.Counts
	for _, x := range p.things {
		switch {
		case x.bucket <= p.latest-api.Tick(p.buckets):
		case x.well:
			c.Well++
		default:
			c.Ill++
		}
	}
	return c
}

func (p *plain) clear() { p.things = nil }

// counted fails where a window's counts are other ones.
func counted(t *testing.T, w *window.Window, now api.Tick, well, ill int) {
	t.Helper()
	if got := w.Counts(now); got != (api.Counts{Well: well, Ill: ill}) {
		t.Errorf("at %d: %d went well, %d ill; not %d and %d", now, got.Well, got.Ill, well, ill)
	}
}

// 16.1: the document's example: the bucket of 3 is the last but one at 4 to 7, and does not count at 8.
func TestExample(t *testing.T) {
	for now, well := range []int{1, 1, 1, 1, 1, 1, 1, 1, 0, 0, 0, 0, 0} {
		w := window.New(2, 4)
		w.Note(3, true)
		counted(t, w, api.Tick(now), well, 0)
	}
}

// 16.1: what went well and what went ill are counted apart, bucket by bucket, by hand.
func TestByHand(t *testing.T) {
	w := window.New(3, 10)
	counted(t, w, 0, 0, 0)
	w.Note(0, true)
	w.Note(9, false)
	w.Note(9, false)
	counted(t, w, 9, 1, 2)
	w.Note(10, true)
	w.Note(19, true)
	counted(t, w, 19, 3, 2)
	w.Note(25, false)
	counted(t, w, 29, 3, 3)
	counted(t, w, 30, 2, 1) // those of 0 to 9 count no more
	w.Note(30, true)
	counted(t, w, 39, 3, 1)
	counted(t, w, 40, 1, 1) // nor those of 10 to 19
	counted(t, w, 50, 1, 0)
	counted(t, w, 59, 1, 0)
	counted(t, w, 60, 0, 0)
	w.Note(1000, false)
	counted(t, w, 1000, 0, 1)
	counted(t, w, 1029, 0, 1)
	counted(t, w, 1030, 0, 0)
}

// 16.1: buckets begin at 0, one width each, not where the first thing happened.
func TestBucketsBegin(t *testing.T) {
	for width := api.Tick(1); width <= 7; width++ {
		for at := range 5 * width {
			for now := at; now < 8*width; now++ {
				w := window.New(2, width)
				w.Note(at, false)
				ill := 0
				if now < (at/width+2)*width {
					ill = 1
				}
				counted(t, w, now, 0, ill)
			}
		}
	}
}

// 16.1: earlier times count in the latest bucket that was met, whether it was met by a note or by asking.
func TestEarlier(t *testing.T) {
	for _, early := range []api.Tick{19, 10, 9, 5, 1, 0, -1, math.MinInt64} {
		w := window.New(2, 10)
		w.Note(25, true)
		w.Note(early, false) // in the bucket of 20 to 29
		counted(t, w, 29, 1, 1)
		counted(t, w, early, 1, 1)
		counted(t, w, 39, 1, 1)
		counted(t, w, 40, 0, 0)
		w.Note(early, true) // in that of 40 to 49, that was asked for
		counted(t, w, early, 1, 0)
		counted(t, w, 59, 1, 0)
		counted(t, w, 60, 0, 0)
	}
}

// 16.1: an earlier time that is asked for brings nothing back, and takes nothing away.
func TestAskedEarlier(t *testing.T) {
	w := window.New(2, 4)
	w.Note(0, true)
	w.Note(4, false)
	w.Note(8, false)
	for _, now := range []api.Tick{11, 8, 7, 4, 3, 0, -1, math.MinInt64} {
		counted(t, w, now, 0, 2)
	}
	counted(t, w, 12, 0, 1)
	counted(t, w, 0, 0, 1)
	counted(t, w, 16, 0, 0)
	counted(t, w, 0, 0, 0)
}

// 16.1: so many buckets count, from 1 to MostBuckets; others count as the nearest.
func TestBuckets(t *testing.T) {
	if api.MostBuckets != most {
		t.Fatal("the limit is another one")
	}
	want := map[int]int{
		1: 1, 2: 2, 3: 3, 15: 15, 16: 16, 17: 16, 18: 16, 1000: 16, math.MaxInt: 16,
		0: 1, -1: 1, -16: 1, math.MinInt: 1,
	}
	for n, last := range want {
		for _, width := range []api.Tick{1, 4} {
			w := window.New(n, width)
			for bucket := range 3 * most {
				w.Note(api.Tick(bucket)*width, bucket%2 == 0)
				counts := w.Counts(api.Tick(bucket) * width)
				if got := counts.Well + counts.Ill; got != min(bucket+1, last) {
					t.Errorf("%d buckets of %d: in the bucket %d there are %d", n, width, bucket, got)
				}
			}
		}
	}
}

// 16.1: each of so many buckets goes when it is its turn, and not those behind it.
func TestBucketsGo(t *testing.T) {
	for buckets := 1; buckets <= most; buckets++ {
		for step := 1; step <= most+2; step++ {
			w := window.New(buckets, 3)
			for n := range buckets { // n + 1 things in the bucket n
				for range n + 1 {
					w.Note(api.Tick(3*n+1), false)
				}
			}
			now := buckets - 1 + step
			left := 0
			for n := max(0, now-buckets+1); n < buckets; n++ {
				left += n + 1
			}
			counted(t, w, api.Tick(3*now), 0, left)
		}
	}
}

// 16.1: a bucket has one tick at least; a width above Never is as it is.
func TestWidth(t *testing.T) {
	for _, width := range []api.Tick{1, 0, -1, -never, math.MinInt64 + 1, math.MinInt64} {
		w := window.New(2, width)
		w.Note(7, true)
		counted(t, w, 8, 1, 0)
		counted(t, w, 9, 0, 0)
	}
	for _, c := range []struct {
		width, now api.Tick
		well       int
	}{
		{2, 1, 1}, {2, 2, 0}, {1000, 999, 1}, {1000, 1000, 0}, {never / 2, never/2 - 1, 1}, {never / 2, never / 2, 0},
		{never - 1, never - 2, 1}, {never - 1, never - 1, 0}, {never, never - 1, 1}, {never, never, 0}, {never, math.MaxInt64, 0},
		{never + 1, never, 1}, {never + 1, math.MaxInt64, 1}, {2 * never, never, 1}, {math.MaxInt64, never, 1}, {math.MaxInt64, math.MaxInt64, 1},
	} {
		w := window.New(1, c.width)
		w.Note(0, true)
		counted(t, w, c.now, c.well, 0)
	}
}

// 16.1: times below 0 count as 0, those above Never as Never.
func TestTimes(t *testing.T) {
	for _, c := range []struct {
		at, now api.Tick
		well    int
	}{
		{-1, 0, 1}, {math.MinInt64, 0, 1}, {-1, 1, 0}, {math.MinInt64, 1, 0}, {-5, -1, 1}, {0, math.MinInt64, 1},
		{never, never, 1}, {never + 1, never, 1}, {math.MaxInt64, never, 1}, {never, never + 1, 1}, {never, math.MaxInt64, 1},
		{never - 1, never - 1, 1}, {never - 1, never, 0}, {never - 1, math.MaxInt64, 0}, {0, never, 0}, {0, math.MaxInt64, 0},
		{math.MaxInt64, 0, 1}, {math.MaxInt64, math.MinInt64, 1},
	} {
		w := window.New(1, 1)
		w.Note(c.at, true)
		counted(t, w, c.now, c.well, 0)
	}
}

// 16.1: behind Clear all is 0, in each bucket; what happens then counts.
func TestClear(t *testing.T) {
	w := window.New(3, 4)
	w.Clear()
	counted(t, w, 0, 0, 0)
	for now := range api.Tick(12) {
		w.Note(now, now%3 == 0)
	}
	counted(t, w, 11, 4, 8)
	w.Clear()
	counted(t, w, 11, 0, 0)
	counted(t, w, 0, 0, 0)
	w.Note(11, true)
	w.Note(12, false)
	counted(t, w, 12, 1, 1)
	w.Clear()
	w.Clear()
	counted(t, w, 12, 0, 0)
	counted(t, w, 100, 0, 0)
}

// 16.1: the latest bucket that was met was met, also behind Clear: earlier times count in it.
func TestClearKeepsLatest(t *testing.T) {
	w := window.New(2, 4)
	w.Note(21, true)
	w.Clear()
	w.Note(0, false)
	counted(t, w, 0, 0, 1)
	counted(t, w, 27, 0, 1)
	counted(t, w, 28, 0, 0)
	w.Clear()
	w.Note(3, true)
	counted(t, w, 35, 1, 0)
	counted(t, w, 36, 0, 0)
}

// call does a call of a window and of a plain one; false: they tell another thing.
func call(w *window.Window, p *plain, what int, now api.Tick) bool {
	switch what {
	case 0:
		w.Note(now, true)
		p.note(now, true)
	case 1:
		w.Note(now, false)
		p.note(now, false)
	case 2:
		return w.Counts(now) == p.counts(now)
	default:
		w.Clear()
		p.clear()
	}
	return true
}

// 16.1: each order of few calls, at times about where buckets begin.
func TestAllOrders(t *testing.T) {
	const calls = 5
	times := []api.Tick{1, 3, 4, 9}
	kinds := 3*len(times) + 1
	orders := 1
	for range calls {
		orders *= kinds
	}
	for order := range orders {
		buckets := 1 + order%3
		w, p := window.New(buckets, 4), newPlain(buckets, 4)
		for i, rest := 0, order; i < calls; i, rest = i+1, rest/kinds {
			kind := rest % kinds
			what, now := kind/len(times), times[kind%len(times)]
			if !call(w, p, what, now) {
				t.Fatalf("%d buckets, order %d, call %d: other counts", buckets, order, i)
			}
		}
		if got, want := w.Counts(0), p.counts(0); got != want {
			t.Fatalf("%d buckets, order %d: %v, not %v", buckets, order, got, want)
		}
		if got, want := w.Counts(13), p.counts(13); got != want {
			t.Fatalf("%d buckets, order %d: %v, not %v at last", buckets, order, got, want)
		}
	}
}

// 16.1: what happened at an edge, asked at an edge, of all sizes and widths; then at a third one.
func TestEdges(t *testing.T) {
	for _, buckets := range sizes {
		for _, width := range edges {
			for i, at := range edges {
				for j, now := range edges {
					w, p := window.New(buckets, width), newPlain(buckets, width)
					third := edges[(i+j)%len(edges)]
					for _, c := range []struct {
						what int
						now  api.Tick
					}{{0, at}, {2, now}, {1, third}, {2, at}, {2, third}, {2, now}} {
						if !call(w, p, c.what, c.now) {
							t.Fatalf("%d buckets of %d, at %d, then %d and %d: other counts", buckets, width, at, now, third)
						}
					}
				}
			}
		}
	}
}

// 16.1: very many calls, drawn by a rule: times that go on, some of them far, and some back.
func TestDrawn(t *testing.T) {
	seed := uint64(1)
	draw := func(n int) int {
		seed = seed*6364136223846793005 + 1442695040888963407
		return int(seed >> 33 % uint64(n))
	}
	for range 300 {
		buckets, width := draw(20)-1, api.Tick(draw(9)-1)
		w, p := window.New(buckets, width), newPlain(buckets, width)
		now := api.Tick(draw(5))
		for range 300 {
			switch draw(12) {
			case 0:
				now -= api.Tick(draw(20))
			case 1:
				now += api.Tick(draw(150))
			default:
				now += api.Tick(draw(4))
			}
			what := draw(4)
			if what == 3 && draw(8) > 0 {
				what = 2
			}
			if !call(w, p, what, now) {
				t.Fatalf("%d buckets of %d, at %d: other counts", buckets, width, now)
			}
		}
	}
}

// 16.1: asking twice is as asking once, and two windows are two.
func TestTwo(t *testing.T) {
	w, other := window.New(2, 4), window.New(2, 4)
	for range 3 {
		w.Note(5, true)
	}
	w.Note(5, false)
	for range 3 {
		counted(t, w, 5, 3, 1)
		counted(t, other, 5, 0, 0)
	}
	other.Note(5, false)
	w.Clear()
	counted(t, w, 5, 0, 0)
	counted(t, other, 5, 0, 1)
}

// 16.1: what a caller does to counts that it was told changes nothing.
func TestOwn(t *testing.T) {
	w := window.New(1, 1)
	w.Note(0, true)
	c := w.Counts(0)
	c.Well, c.Ill = 7, 8
	counted(t, w, 0, 1, 0)
}

// 16.1: very many things in one bucket are that many.
func TestMany(t *testing.T) {
	w := window.New(most, 4)
	for i := range 100000 {
		w.Note(3, i%4 == 0)
	}
	counted(t, w, 3, 25000, 75000)
	counted(t, w, 4*most-1, 25000, 75000)
	counted(t, w, 4*most, 0, 0)
}

// 16.1: of none: 0; it stays so, whatever is done. A plain one has no buckets, so nothing counts in it.
func TestNone(t *testing.T) {
	for _, w := range []*window.Window{nil, {}} {
		for _, now := range edges {
			w.Note(now, true)
			w.Note(now, false)
			counted(t, w, now, 0, 0)
			w.Clear()
			counted(t, w, now, 0, 0)
		}
	}
}

// 16.1: there is a window, whatever it is asked to be.
func TestNew(t *testing.T) {
	for _, buckets := range sizes {
		for _, width := range edges {
			w := window.New(buckets, width)
			if w == nil {
				t.Fatalf("%d buckets of %d: none", buckets, width)
			}
			counted(t, w, 0, 0, 0)
			w.Note(0, false)
			counted(t, w, 0, 0, 1)
		}
	}
}
