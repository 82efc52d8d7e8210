package ticks_test

import (
	"math"
	"math/big"
	"testing"

	"cableway/api"
	"cableway/ticks"
)

const never = api.Never

// edges are times, and what are none, beside each other.
var edges = []api.Tick{
	math.MinInt64, math.MinInt64 + 1, -never - 1, -never, -never + 1, -3, -2, -1,
	0, 1, 2, 3, 4, 5, 7, 8, 9, 63, 64, 65, 1000,
	never/2 - 1, never / 2, never/2 + 1, never - 2, never - 1,
	never, never + 1, never + 2, 2*never - 1, 2 * never, 1 << 62, math.MaxInt64 - 1, math.MaxInt64,
}

// counts are how often, or how many, also what may not be.
var counts = []int{
	math.MinInt, math.MinInt + 1, -2, -1, 0, 1, 2, 3, 4, 5, 7, 8, 38, 39, 40, 41, 42, 62, 63, 64, 65, 1000,
	1 << 30, math.MaxInt32, math.MaxInt - 1, math.MaxInt,
}

// nearest is the time that counts for one, case by case.
func nearest(t api.Tick) api.Tick {
	switch {
	case t < 0:
		return 0
	case t > never:
		return never
	}
	return t
}

// sum is two times one behind the other, in numbers that do not wrap round.
func sum(t, n api.Tick) api.Tick {
	s := new(big.Int).Add(big.NewInt(int64(nearest(t))), big.NewInt(int64(nearest(n))))
	if s.Cmp(big.NewInt(int64(never))) > 0 {
		return never
	}
	return api.Tick(s.Int64())
}

// double is what Twice must answer, in numbers that do not wrap round.
func double(n api.Tick, times int, bound api.Tick) api.Tick {
	s, most := big.NewInt(int64(nearest(n))), big.NewInt(int64(nearest(bound)))
	if times > 0 {
		// 100 times are enough to have each number but 0 beyond all bounds.
		s.Lsh(s, uint(min(times, 100)))
	}
	if s.Cmp(most) > 0 {
		s = most
	}
	return api.Tick(s.Int64())
}

// 3.1: times are from 0 to Never, others count as the nearest.
func TestClamp(t *testing.T) {
	want := map[api.Tick]api.Tick{
		0: 0, 1: 1, 5: 5, never - 1: never - 1, never: never,
		-1: 0, -never: 0, math.MinInt64: 0,
		never + 1: never, 2 * never: never, math.MaxInt64: never,
	}
	for at, w := range want {
		if got := ticks.Clamp(at); got != w {
			t.Errorf("Clamp of %d: %d", at, got)
		}
	}
	for _, at := range edges {
		if got := ticks.Clamp(at); got != nearest(at) {
			t.Errorf("Clamp of %d: %d", at, got)
		}
	}
}

// 3.1: so many ticks later, by hand.
func TestAfterByHand(t *testing.T) {
	for _, c := range [][3]api.Tick{
		{0, 0, 0}, {3, 4, 7}, {3, 0, 3}, {0, 4, 4}, {5, 5, 10},
		{never - 3, 2, never - 1}, {never - 3, 3, never}, {never - 3, 4, never}, {1, never - 2, never - 1},
		{1, never - 1, never}, {2, never - 1, never}, {0, never, never}, {never, 0, never}, {never, never, never},
		{5, -3, 5}, {-3, 5, 5}, {-3, -5, 0}, {never + 9, -9, never}, {math.MaxInt64, -1, never},
		{math.MaxInt64, math.MaxInt64, never}, {1, math.MaxInt64, never}, {math.MinInt64, math.MinInt64, 0},
		{math.MinInt64, 6, 6}, {math.MinInt64, math.MaxInt64, never},
	} {
		if got := ticks.After(c[0], c[1]); got != c[2] {
			t.Errorf("After of %d and %d: %d", c[0], c[1], got)
		}
	}
}

// 3.1: all edges, against sums that do not wrap round.
func TestAfter(t *testing.T) {
	for _, a := range edges {
		for _, n := range edges {
			if got := ticks.After(a, n); got != sum(a, n) {
				t.Errorf("After of %d and %d: %d", a, n, got)
			}
		}
	}
}

// 3.1: what is not above now is past, but Never is not, whatever now is.
func TestPastByHand(t *testing.T) {
	for _, c := range []struct {
		now, t api.Tick
		want   bool
	}{
		{5, 4, true}, {5, 5, true}, {5, 6, false}, {0, 0, true}, {0, 1, false}, {5, 0, true},
		{never - 1, never - 1, true}, {never - 2, never - 1, false}, {never, never - 1, true},
		{never, never, false}, {never + 1, never, false}, {math.MaxInt64, never, false},
		{math.MaxInt64, never + 1, false}, {math.MaxInt64, math.MaxInt64, false}, {5, never, false},
		{math.MaxInt64, never - 1, true}, {5, -1, true}, {0, math.MinInt64, true},
		{-1, 0, true}, {-1, -1, true}, {-5, -1, true}, {math.MinInt64, 0, true}, {-1, 1, false},
	} {
		if got := ticks.Past(c.now, c.t); got != c.want {
			t.Errorf("Past at %d of %d: %v", c.now, c.t, got)
		}
	}
}

// 3.1: all edges; Past and Left are at one about what has come.
func TestPast(t *testing.T) {
	for _, now := range edges {
		for _, at := range edges {
			want := nearest(at) != never && nearest(at) <= nearest(now)
			if got := ticks.Past(now, at); got != want {
				t.Errorf("Past at %d of %d: %v", now, at, got)
			}
			if none := ticks.Left(now, at) == 0; none != want {
				t.Errorf("at %d of %d: Past is %v, Left is %d", now, at, want, ticks.Left(now, at))
			}
		}
	}
}

// 3.1: how many ticks are left, by hand.
func TestLeftByHand(t *testing.T) {
	for _, c := range [][3]api.Tick{
		{3, 10, 7}, {9, 10, 1}, {10, 10, 0}, {11, 10, 0}, {0, 0, 0}, {0, 1, 1},
		{0, never - 1, never - 1}, {never - 2, never - 1, 1}, {never - 1, never - 1, 0}, {never, never - 1, 0},
		{0, never, never}, {5, never, never}, {never - 1, never, never}, {never, never, never},
		{math.MaxInt64, never, never}, {math.MaxInt64, math.MaxInt64, never}, {never, never + 1, never},
		{5, never + 1, never}, {5, math.MaxInt64, never}, {math.MinInt64, math.MaxInt64, never},
		{-5, 10, 10}, {math.MinInt64, 10, 10}, {math.MinInt64, never - 1, never - 1}, {math.MinInt64, never, never},
		{-5, -3, 0}, {-3, -5, 0}, {5, -3, 0}, {math.MaxInt64, math.MinInt64, 0}, {math.MaxInt64, 5, 0},
	} {
		if got := ticks.Left(c[0], c[1]); got != c[2] {
			t.Errorf("Left at %d to %d: %d", c[0], c[1], got)
		}
	}
}

// 3.1: all edges; what is left behind now is the time, if it has not come.
func TestLeft(t *testing.T) {
	for _, now := range edges {
		for _, at := range edges {
			got := ticks.Left(now, at)
			if got < 0 || got > never {
				t.Errorf("Left at %d to %d: %d", now, at, got)
			}
			if !ticks.Past(now, at) && ticks.After(now, got) != nearest(at) {
				t.Errorf("Left at %d to %d: %d", now, at, got)
			}
		}
	}
}

// 3.1: the document's example, and some more that are worked out by hand.
func TestTwiceByHand(t *testing.T) {
	for _, c := range []struct {
		n     api.Tick
		times int
		bound api.Tick
		want  api.Tick
	}{
		{3, 2, 100, 12}, {3, 0, 100, 3}, {3, 1, 100, 6}, {3, 3, 100, 24}, {1, 10, 2000, 1024},
		{3, -1, 100, 3}, {3, math.MinInt, 100, 3},
		{3, 2, 12, 12}, {3, 2, 13, 12}, {3, 2, 11, 11}, {3, 9, 7, 7}, {3, 2, 3, 3}, {3, 0, 2, 2}, {3, -1, 2, 2},
		{3, 5, 0, 0}, {3, 0, 0, 0}, {3, 5, -1, 0}, {3, 5, math.MinInt64, 0},
		{0, 5, 100, 0}, {0, math.MaxInt, never, 0}, {-1, 5, 100, 0}, {math.MinInt64, 64, 100, 0}, {math.MinInt64, 0, 100, 0},
		{1, 39, never, never / 2}, {1, 40, never, never}, {1, 41, never, never}, {1, 62, math.MaxInt64, never},
		{1, 63, never, never}, {1, 64, never, never}, {3, 39, never, never}, {3, 38, never, never / 4 * 3},
		{1, math.MaxInt, never, never}, {1, math.MaxInt, math.MaxInt64, never}, {1, math.MaxInt, 100, 100},
		{never, 0, never, never}, {never, 1, never, never}, {never, 1, 5, 5}, {never - 1, 1, never, never},
		{never + 1, 0, math.MaxInt64, never}, {math.MaxInt64, 0, math.MaxInt64, never}, {math.MaxInt64, 3, 9, 9},
		{never / 2, 1, never - 1, never - 1}, {never / 2, 1, never, never}, {never/2 - 1, 1, never, never - 2},
	} {
		if got := ticks.Twice(c.n, c.times, c.bound); got != c.want {
			t.Errorf("Twice of %d, %d times, at most %d: %d", c.n, c.times, c.bound, got)
		}
	}
}

// 3.1: all edges, against numbers that do not wrap round.
func TestTwice(t *testing.T) {
	for _, n := range edges {
		for _, times := range counts {
			for _, bound := range edges {
				if got := ticks.Twice(n, times, bound); got != double(n, times, bound) {
					t.Errorf("Twice of %d, %d times, at most %d: %d", n, times, bound, got)
				}
			}
		}
	}
}

// 3.1: the place of a time, by hand.
func TestSlotByHand(t *testing.T) {
	for _, c := range []struct {
		t, width api.Tick
		places   int
		want     int
	}{
		{0, 1, 4, 0}, {3, 1, 4, 3}, {4, 1, 4, 0}, {7, 1, 4, 3}, {9, 1, 1, 0},
		{7, 4, 3, 1}, {8, 4, 3, 2}, {11, 4, 3, 2}, {12, 4, 3, 0}, {3, 4, 3, 0},
		{never, 1, 7, int(never % 7)}, {never, 1, math.MaxInt, int(never)}, {never - 1, never, 5, 0}, {never, never, 5, 1},
		{never, never - 1, 5, 1}, {never, never / 2, 5, 2},
		// A time beyond counts as the nearest.
		{-1, 1, 4, 0}, {-3, 2, 4, 0}, {math.MinInt64, 1, 4, 0}, {math.MinInt64, 3, math.MaxInt, 0},
		{never + 1, 1, 7, int(never % 7)}, {math.MaxInt64, 1, 7, int(never % 7)}, {math.MaxInt64, never, 5, 1},
		// A width above Never is as it is.
		{never, never + 1, 5, 0}, {never - 1, never + 1, 5, 0}, {never + 1, never + 1, 5, 0},
		{math.MaxInt64, never + 1, 5, 0}, {math.MaxInt64, math.MaxInt64, 5, 0}, {9, math.MaxInt64, 5, 0},
		// Below 1.
		{9, 0, 4, 0}, {9, -1, 4, 0}, {9, math.MinInt64, 4, 0}, {9, 1, 0, 0}, {9, 1, -1, 0}, {9, 1, -4, 0},
		{9, 1, math.MinInt, 0}, {9, 0, 0, 0}, {9, -1, -1, 0}, {math.MinInt64, -1, 4, 0},
	} {
		if got := ticks.Slot(c.t, c.width, c.places); got != c.want {
			t.Errorf("Slot of %d, %d wide, of %d: %d", c.t, c.width, c.places, got)
		}
	}
}

// 3.1: time goes by place by place, so many ticks in each, and round again.
func TestSlotTickByTick(t *testing.T) {
	for width := api.Tick(1); width <= 6; width++ {
		for places := 1; places <= 6; places++ {
			var at api.Tick
			for range 3 {
				for place := range places {
					for range width {
						if got := ticks.Slot(at, width, places); got != place {
							t.Errorf("Slot of %d, %d wide, of %d: %d", at, width, places, got)
						}
						at++
					}
				}
			}
		}
	}
}

// 3.1: all edges; there is always such a place.
func TestSlot(t *testing.T) {
	for _, at := range edges {
		for _, width := range edges {
			for _, places := range counts {
				got, want := ticks.Slot(at, width, places), 0
				if width >= 1 && places >= 1 {
					by := new(big.Int).Div(big.NewInt(int64(nearest(at))), big.NewInt(int64(width)))
					want = int(by.Mod(by, big.NewInt(int64(places))).Int64())
				}
				if got != want {
					t.Errorf("Slot of %d, %d wide, of %d: %d", at, width, places, got)
				}
			}
		}
	}
}

// 3.1: from one on, below another, by hand.
func TestWithinByHand(t *testing.T) {
	for _, c := range []struct {
		t, from, to api.Tick
		want        bool
	}{
		{5, 3, 8, true}, {3, 3, 8, true}, {2, 3, 8, false}, {7, 3, 8, true}, {8, 3, 8, false}, {9, 3, 8, false},
		{5, 5, 6, true}, {5, 5, 5, false}, {5, 8, 3, false}, {0, 0, 1, true}, {0, 0, 0, false},
		{never - 1, 0, never, true}, {never - 1, never - 1, never, true}, {never, 0, never, false},
		{never, never, never, false}, {never, 0, never + 1, false}, {never, never, math.MaxInt64, false},
		{never + 1, 0, math.MaxInt64, false}, {math.MaxInt64, never, math.MaxInt64, false},
		{5, 0, math.MaxInt64, true}, {never - 1, 5, never + 1, true}, {5, never + 1, math.MaxInt64, false},
		{-1, 0, 5, true}, {math.MinInt64, 0, 1, true}, {-1, 1, 5, false}, {-5, -2, 5, true},
		{-5, -9, -2, false}, {0, -9, 0, false}, {0, -9, 1, true}, {0, math.MinInt64, math.MaxInt64, true},
		{5, 0, math.MinInt64, false}, {5, math.MaxInt64, math.MinInt64, false},
	} {
		if got := ticks.Within(c.t, c.from, c.to); got != c.want {
			t.Errorf("Within of %d from %d to %d: %v", c.t, c.from, c.to, got)
		}
	}
}

// 3.1: all edges.
func TestWithin(t *testing.T) {
	for _, at := range edges {
		for _, from := range edges {
			for _, to := range edges {
				want := nearest(at) >= nearest(from) && nearest(at) < nearest(to)
				if got := ticks.Within(at, from, to); got != want {
					t.Errorf("Within of %d from %d to %d: %v", at, from, to, got)
				}
			}
		}
	}
}

// 3.1: whatever comes in counts just as the nearest time does; but a width.
func TestOthersCountAsNearest(t *testing.T) {
	for _, a := range edges {
		for _, b := range edges {
			x, y := nearest(a), nearest(b)
			if ticks.After(a, b) != ticks.After(x, y) || ticks.Past(a, b) != ticks.Past(x, y) || ticks.Left(a, b) != ticks.Left(x, y) {
				t.Errorf("After, Past or Left of %d and %d", a, b)
			}
			if ticks.Twice(a, 3, b) != ticks.Twice(x, 3, y) || ticks.Slot(a, 3, 5) != ticks.Slot(x, 3, 5) {
				t.Errorf("Twice or Slot of %d and %d", a, b)
			}
			if ticks.Within(a, b, 8) != ticks.Within(x, y, 8) || ticks.Within(8, a, b) != ticks.Within(8, x, y) {
				t.Errorf("Within of %d and %d", a, b)
			}
		}
	}
	if ticks.Slot(never, never, 5) == ticks.Slot(never, never+1, 5) {
		t.Error("a width above Never counts as Never")
	}
}
