package hedge_test

import (
	"math"
	"math/big"
	"slices"
	"testing"

	"cableway/api"
	"cableway/hedge"
)

const (
	never = api.Never
	most  = 14 // as there are 15 tries, the first one among them
)

// numbers are numbers of hedges, and what are none, beside each other.
var numbers = []int{
	math.MinInt, math.MinInt + 1, math.MinInt32, -16, -15, -14, -2, -1, 0, 1, 2, 3, 7, 12, 13, 14, 15, 16, 17, 1000,
	math.MaxInt32, math.MaxInt - 1, math.MaxInt,
}

// times are times, and what are none, beside each other.
var times = []api.Tick{
	math.MinInt64, math.MinInt64 + 1, -never - 1, -never, -never + 1, -5, -2, -1, 0, 1, 2, 3, 4, 5, 8, 15, 1000,
	never/15 - 1, never / 15, never / 14, never/2 - 1, never / 2, never/2 + 1, never - 5, never - 2, never - 1,
	never, never + 1, never + 5, 2 * never, math.MaxInt64 - never, math.MaxInt64 - 1, math.MaxInt64,
}

// lone are calls that may have hedges, whatever else they have; the others are done once at most, or stream.
var lone = []api.Frame{
	{},
	{Kind: api.KindRequest, Client: 3, Service: 2, Slot: 15, Gen: api.MostGen, Call: math.MaxUint32, Try: 15, Seq: api.MostSeq, Value: math.MaxUint32},
	{Kind: api.KindCancel, Try: 14},
	{Kind: -1, Client: 99, Service: -7, Slot: math.MinInt, Gen: math.MaxInt, Try: math.MaxInt, Seq: -1},
}

// others are calls that have no hedges.
func others() []api.Frame {
	var l []api.Frame
	for _, f := range lone {
		f.Sure = true
		l = append(l, f)
		f.Stream = true
		l = append(l, f)
		f.Sure = false
		l = append(l, f)
	}
	return l
}

// count is how many hedges there may be, case by case.
func count(h api.Hedges) int {
	switch {
	case h.After <= 0 || h.Most <= 0:
		return 0
	case h.Most >= 14:
		return 14
	}
	return h.Most
}

// near is the nearest time, as a number that does not wrap round.
func near(t api.Tick) *big.Int {
	switch {
	case t < 0:
		return big.NewInt(0)
	case t > never:
		return big.NewInt(int64(never))
	}
	return big.NewInt(int64(t))
}

// later is the time that is so many Afters behind one; Never, where the end is not behind it.
func later(h api.Hedges, from, end api.Tick, times int) api.Tick {
	t := new(big.Int).Mul(near(h.After), big.NewInt(int64(times)))
	t.Add(t, near(from))
	if t.Cmp(near(end)) >= 0 {
		return never
	}
	return api.Tick(t.Int64())
}

// next is when the next one is sent, by numbers that do not wrap round.
func next(h api.Hedges, sent int, last, end api.Tick) api.Tick {
	if sent < 0 || sent >= count(h) {
		return never
	}
	return later(h, last, end, 1)
}

// plan is all of them, each by itself.
func plan(h api.Hedges, begin, end api.Tick) []api.Tick {
	var l []api.Tick
	for i := range count(h) {
		if t := later(h, begin, end, i+1); t != never {
			l = append(l, t)
		}
	}
	return l
}

// 18.1: from 0 to MostTry - 1; what is beyond counts as the nearest.
func TestMost(t *testing.T) {
	if api.MostTry != most+1 {
		t.Fatal("the limit is another one")
	}
	want := map[int]int{
		0: 0, 1: 1, 2: 2, 12: 12, 13: 13, 14: 14, 15: 14, 16: 14, 1000: 14, math.MaxInt: 14,
		-1: 0, -14: 0, math.MinInt: 0,
	}
	for n, w := range want {
		if got := hedge.Most(api.Hedges{Most: n, After: 4}, api.Frame{}); got != w {
			t.Errorf("of %d: %d, not %d", n, got, w)
		}
	}
}

// 18.1: there are as many, however long it is waited for them, and whatever else the call is; where After is 0, or counts as 0, there are none.
func TestMostAfter(t *testing.T) {
	for _, n := range numbers {
		for _, after := range times {
			h := api.Hedges{Most: n, After: after}
			for _, f := range lone {
				if got := hedge.Most(h, f); got != count(h) {
					t.Errorf("%+v: %d, not %d", h, got, count(h))
				}
			}
		}
	}
}

// 18.1: a call that is done once at most, or streams, has none: none may be sent, none is planned.
func TestOthers(t *testing.T) {
	for _, f := range others() {
		for _, n := range numbers {
			for _, after := range times {
				h := api.Hedges{Most: n, After: after}
				if got := hedge.Most(h, f); got != 0 {
					t.Fatalf("%+v, sure %v, stream %v: %d", h, f.Sure, f.Stream, got)
				}
				for _, sent := range []int{-1, 0, 1, 13} {
					if got := hedge.Next(h, f, sent, 0, never); got != never {
						t.Fatalf("%+v, sure %v, stream %v: the next one at %d", h, f.Sure, f.Stream, got)
					}
				}
				if got := hedge.Plan(h, f, 0, never); len(got) != 0 {
					t.Fatalf("%+v, sure %v, stream %v: %v", h, f.Sure, f.Stream, got)
				}
			}
		}
	}
}

// 18.1: when the next one is sent, by hand.
func TestNextByHand(t *testing.T) {
	for _, c := range []struct {
		most      int
		after     api.Tick
		sent      int
		last, end api.Tick
		want      api.Tick
	}{
		{2, 4, 0, 0, 100, 4}, {2, 4, 1, 4, 100, 8}, {2, 4, 1, 0, 100, 4}, {2, 4, 0, 90, 100, 94}, {2, 1, 0, 7, 100, 8},
		// So many were sent.
		{2, 4, 2, 8, 100, never}, {2, 4, 3, 8, 100, never}, {2, 4, math.MaxInt, 8, 100, never}, {1, 4, 1, 8, 100, never}, {0, 4, 0, 8, 100, never},
		{-1, 4, 0, 8, 100, never}, {math.MinInt, 4, 0, 8, 100, never}, {14, 4, 13, 8, 100, 12}, {14, 4, 14, 8, 100, never},
		{15, 4, 13, 8, 100, 12}, {15, 4, 14, 8, 100, never}, {math.MaxInt, 4, 13, 8, 100, 12}, {math.MaxInt, 4, 14, 8, 100, never},
		// Fewer than none were.
		{2, 4, -1, 0, 100, never}, {2, 4, math.MinInt, 0, 100, never}, {14, 4, -14, 0, 100, never}, {math.MaxInt, 4, -1, 0, never, never},
		// It is not ahead of the end.
		{2, 4, 0, 0, 3, never}, {2, 4, 0, 0, 4, never}, {2, 4, 0, 0, 5, 4}, {2, 4, 0, 1, 5, never}, {2, 4, 0, 6, 5, never}, {2, 4, 0, 0, 0, never},
		{2, 4, 0, 0, -1, never}, {2, 4, 0, 0, math.MinInt64, never}, {2, 4, 0, 96, 100, never}, {2, 4, 0, 95, 100, 99},
		// A call that never ends has hedges all the same; those that would come then never do.
		{2, 4, 0, 0, never, 4}, {2, 4, 0, never - 5, never, never - 1}, {2, 4, 0, never - 4, never, never}, {2, 4, 0, never - 1, never, never},
		{2, 4, 0, never, never, never}, {2, 4, 0, never - 6, never - 1, never - 2}, {2, 4, 0, never - 5, never - 1, never},
		{2, 4, 0, 0, never + 1, 4}, {2, 4, 0, 0, math.MaxInt64, 4}, {2, 4, 0, never - 4, math.MaxInt64, never}, {2, 4, 0, math.MaxInt64, math.MaxInt64, never},
		{2, 4, 0, never + 9, never + 99, never},
		// What is no time counts as the nearest.
		{2, 4, 0, -1, 100, 4}, {2, 4, 0, -100, 100, 4}, {2, 4, 0, math.MinInt64, 100, 4}, {2, 4, 0, math.MinInt64, 4, never},
		{2, 0, 0, 3, 100, never}, {2, -1, 0, 3, 100, never}, {2, math.MinInt64, 0, 3, 100, never},
		{2, never - 1, 0, 0, never, never - 1}, {2, never - 1, 0, 1, never, never}, {2, never, 0, 0, never, never}, {2, math.MaxInt64, 0, 0, never, never},
		{2, math.MaxInt64, 0, math.MaxInt64, math.MaxInt64, never}, {2, math.MaxInt64, 0, math.MinInt64, math.MaxInt64, never},
	} {
		for _, f := range lone {
			if got := hedge.Next(api.Hedges{Most: c.most, After: c.after}, f, c.sent, c.last, c.end); got != c.want {
				t.Errorf("%+v: %d", c, got)
			}
		}
	}
}

// 18.1: when the next one is sent, at all edges.
func TestNext(t *testing.T) {
	for _, n := range []int{math.MinInt, -1, 0, 1, 2, 13, 14, 15, math.MaxInt} {
		for _, after := range times {
			h := api.Hedges{Most: n, After: after}
			for _, sent := range numbers {
				for _, last := range times {
					for _, end := range times {
						got, want := hedge.Next(h, api.Frame{}, sent, last, end), next(h, sent, last, end)
						if got != want {
							t.Fatalf("%+v, %d sent, the last one at %d, to %d: %d, not %d", h, sent, last, end, got, want)
						}
					}
				}
			}
		}
	}
}

// 18.1: the document's example, and more that are worked out by hand.
func TestPlanByHand(t *testing.T) {
	for _, c := range []struct {
		most       int
		after      api.Tick
		begin, end api.Tick
		want       []api.Tick
	}{
		{2, 4, 0, 100, []api.Tick{4, 8}},
		{3, 4, 0, 100, []api.Tick{4, 8, 12}}, {1, 4, 0, 100, []api.Tick{4}}, {0, 4, 0, 100, nil}, {-1, 4, 0, 100, nil}, {math.MinInt, 4, 0, 100, nil},
		{3, 5, 7, 100, []api.Tick{12, 17, 22}}, {3, 1, 9, 100, []api.Tick{10, 11, 12}},
		// None but those ahead of the end.
		{3, 4, 0, 13, []api.Tick{4, 8, 12}}, {3, 4, 0, 12, []api.Tick{4, 8}}, {3, 4, 0, 9, []api.Tick{4, 8}}, {3, 4, 0, 8, []api.Tick{4}},
		{3, 4, 0, 5, []api.Tick{4}}, {3, 4, 0, 4, nil}, {3, 4, 0, 1, nil}, {3, 4, 0, 0, nil}, {3, 4, 0, -1, nil}, {3, 4, 0, math.MinInt64, nil},
		{3, 4, 50, 50, nil}, {3, 4, 50, 20, nil}, {3, 4, 50, 54, nil}, {3, 4, 50, 55, []api.Tick{54}},
		// As many as there may be.
		{14, 1, 0, never, []api.Tick{1, 2, 3, 4, 5, 6, 7, 8, 9, 10, 11, 12, 13, 14}},
		{15, 1, 0, never, []api.Tick{1, 2, 3, 4, 5, 6, 7, 8, 9, 10, 11, 12, 13, 14}},
		{math.MaxInt, 2, 0, never, []api.Tick{2, 4, 6, 8, 10, 12, 14, 16, 18, 20, 22, 24, 26, 28}},
		{13, 1, 0, never, []api.Tick{1, 2, 3, 4, 5, 6, 7, 8, 9, 10, 11, 12, 13}},
		{math.MaxInt, 1, 0, 4, []api.Tick{1, 2, 3}},
		// What is no time counts as the nearest.
		{2, 4, -1, 100, []api.Tick{4, 8}}, {2, 4, math.MinInt64, 100, []api.Tick{4, 8}}, {2, 4, 0, math.MaxInt64, []api.Tick{4, 8}},
		{2, 0, 0, 100, nil}, {2, -1, 0, 100, nil}, {2, math.MinInt64, 0, 100, nil}, {math.MaxInt, 0, 0, never, nil},
		{3, never / 2, 0, never, []api.Tick{never / 2}}, {3, never/2 - 1, 0, never, []api.Tick{never/2 - 1, never - 2}}, {3, never/2 - 1, 2, never, []api.Tick{never/2 + 1}},
		{3, never - 1, 0, never, []api.Tick{never - 1}}, {3, never, 0, never, nil}, {3, never + 1, 0, never + 9, nil}, {3, math.MaxInt64, 0, math.MaxInt64, nil},
		{3, 1, never - 3, never, []api.Tick{never - 2, never - 1}}, {3, 1, never - 3, never - 1, []api.Tick{never - 2}}, {3, 1, never - 1, never, nil},
		{3, 1, never, never, nil}, {3, 1, never + 5, math.MaxInt64, nil}, {3, math.MaxInt64, math.MaxInt64, math.MaxInt64, nil},
	} {
		for _, f := range lone {
			if got := hedge.Plan(api.Hedges{Most: c.most, After: c.after}, f, c.begin, c.end); !slices.Equal(got, c.want) {
				t.Errorf("%+v: %v", c, got)
			}
		}
	}
}

// 18.1: all of them, at all edges.
func TestPlan(t *testing.T) {
	for _, n := range numbers {
		for _, after := range times {
			h := api.Hedges{Most: n, After: after}
			for _, begin := range times {
				for _, end := range times {
					holdPlan(t, h, begin, end)
				}
			}
		}
	}
}

// holdPlan holds a plan against one where each is by itself, and against the next ones, one by one.
func holdPlan(t *testing.T, h api.Hedges, begin, end api.Tick) {
	t.Helper()
	got, want := hedge.Plan(h, api.Frame{}, begin, end), plan(h, begin, end)
	if !slices.Equal(got, want) {
		t.Fatalf("%+v, from %d to %d: %v, not %v", h, begin, end, got, want)
	}
	last := begin
	for sent := range len(got) + 1 {
		at := hedge.Next(h, api.Frame{}, sent, last, end)
		if sent == len(got) {
			if at != never {
				t.Fatalf("%+v, from %d to %d: one more at %d", h, begin, end, at)
			}
			break
		}
		if at != got[sent] || at <= last || at >= end {
			t.Fatalf("%+v, from %d to %d: that behind %d at %d", h, begin, end, last, at)
		}
		last = at
	}
}

// 18.1: very many, drawn by a rule.
func TestDrawn(t *testing.T) {
	seed := uint64(1)
	draw := func(n int) int {
		seed = seed*6364136223846793005 + 1442695040888963407
		return int(seed >> 33 % uint64(n))
	}
	for range 50_000 {
		h := api.Hedges{Most: draw(19) - 2, After: api.Tick(draw(9) - 1)}
		begin := api.Tick(draw(60) - 5)
		if draw(4) == 0 {
			begin += never - 60
		}
		end := begin + api.Tick(draw(70)-5)
		holdPlan(t, h, begin, end)
		sent := draw(19) - 2
		if got, want := hedge.Next(h, lone[draw(len(lone))], sent, begin, end), next(h, sent, begin, end); got != want {
			t.Fatalf("%+v, %d sent, the last one at %d, to %d: %d, not %d", h, sent, begin, end, got, want)
		}
	}
}

// 18.1: a plan is the caller's own.
func TestOwn(t *testing.T) {
	h := api.Hedges{Most: 3, After: 4}
	one := hedge.Plan(h, api.Frame{}, 0, 100)
	other := hedge.Plan(h, api.Frame{}, 0, 100)
	clear(one)
	if want := []api.Tick{4, 8, 12}; !slices.Equal(other, want) || !slices.Equal(hedge.Plan(h, api.Frame{}, 0, 100), want) {
		t.Error("two plans have one and the same")
	}
}

// 18.1: with hedges of which nothing is told there are none.
func TestPlain(t *testing.T) {
	if hedge.Most(api.Hedges{}, api.Frame{}) != 0 || hedge.Next(api.Hedges{}, api.Frame{}, 0, 0, 100) != never || len(hedge.Plan(api.Hedges{}, api.Frame{}, 0, 100)) != 0 {
		t.Error("there are some")
	}
}
