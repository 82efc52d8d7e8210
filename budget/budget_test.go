package budget_test

import (
	"math"
	"math/big"
	"testing"

	"cableway/api"
	"cableway/budget"
)

const (
	never = api.Never
	most  = 1 << 20 // as the chapter's given limit is
	tries = 15
)

// numbers are numbers, and what are none, beside each other.
var numbers = []int{
	math.MinInt, math.MinInt + 1, -most - 1, -most, -2, -1, 0, 1, 2, 3, 5, 13, 14, 15, 16,
	most/2 - 1, most / 2, most/2 + 1, most - 2, most - 1, most, most + 1, most + 2, 2 * most,
	math.MaxInt32, math.MaxInt - 1, math.MaxInt,
}

// times are times, and what are none, beside each other.
var times = []api.Tick{
	math.MinInt64, math.MinInt64 + 1, -never - 1, -never, -2, -1, 0, 1, 2, 3, 5, 8, 1000,
	most - 1, most, most + 1, never/2 - 1, never / 2, never/2 + 1, never - 2, never - 1,
	never, never + 1, never + 2, 2 * never, math.MaxInt64 - 1, math.MaxInt64,
}

// nearest is the number from 0 to the limit that counts for one, case by case.
func nearest(n, limit int) int {
	switch {
	case n < 0:
		return 0
	case n > limit:
		return limit
	}
	return n
}

// plain is a budget by hand: what it has, gets, gives and has room for, as these count.
type plain struct{ left, gain, cost, room int }

func newPlain(r api.Retries) *plain {
	room := nearest(r.Room, most)
	return &plain{left: room, gain: nearest(r.Gain, most), cost: nearest(r.Cost, most), room: room}
}

func (p *plain) well() {
	if p.room-p.left < p.gain {
		p.left = p.room
		return
	}
	p.left += p.gain
}

func (p *plain) take() bool {
	left := p.left - p.cost
	if left < 0 {
		return false
	}
	p.left = left
	return true
}

// wait is how long the n-th retry waits, by numbers that do not wrap round.
func wait(first, bound api.Tick, n int) api.Tick {
	within := func(t *big.Int, least, limit int64) *big.Int {
		if t.Cmp(big.NewInt(least)) < 0 {
			return big.NewInt(least)
		}
		if t.Cmp(big.NewInt(limit)) > 0 {
			return big.NewInt(limit)
		}
		return t
	}
	w := within(big.NewInt(int64(first)), 0, int64(never))
	if n > 1 {
		// 100 times are enough to have each number but 0 beyond all bounds.
		w = new(big.Int).Lsh(w, uint(min(n-1, 100)))
	}
	limit := within(big.NewInt(int64(bound)), 0, int64(never))
	w = within(w, 0, limit.Int64())
	return api.Tick(within(w, 1, int64(never)).Int64())
}

// takes is how often something can be taken in a row, at most so often.
func takes(b *budget.Budget, limit int) int {
	n := 0
	for n < limit && b.Take() {
		n++
	}
	return n
}

// 15.1: a new one has all that it has room for, whatever else it has.
func TestNew(t *testing.T) {
	want := map[int]int{
		0: 0, 1: 1, 10: 10, most - 1: most - 1, most: most, most + 1: most, 2 * most: most, math.MaxInt: most,
		-1: 0, -most: 0, math.MinInt: 0,
	}
	for room, w := range want {
		for _, n := range numbers {
			b := budget.New(api.Retries{Room: room, Gain: n, Cost: n, Most: n})
			if b == nil || b.Left() != w {
				t.Fatalf("of room for %d, with %d: %v", room, n, b.Left())
			}
		}
	}
}

// 15.1: what goes well brings more, what is taken leaves less, by hand.
func TestWellAndTakeByHand(t *testing.T) {
	b := budget.New(api.Retries{Gain: 2, Cost: 5, Room: 12})
	for i, c := range []struct {
		well, ok bool
		left     int
	}{
		{true, true, 12}, // all that it has room for, at most
		{false, true, 7}, {true, true, 9}, {false, true, 4},
		{false, false, 4}, {false, false, 4}, // so much is not left: nothing is taken
		{true, true, 6}, {false, true, 1}, {true, true, 3}, {false, false, 3}, {true, true, 5},
		{false, true, 0}, // the last of it
		{false, false, 0}, {true, true, 2}, {false, false, 2}, {true, true, 4}, {true, true, 6}, {true, true, 8},
		{true, true, 10}, {true, true, 12}, {true, true, 12}, {false, true, 7}, {true, true, 9}, {true, true, 11},
		{true, true, 12}, // not 13
	} {
		if c.well {
			b.Well()
		} else if ok := b.Take(); ok != c.ok {
			t.Errorf("%d: Take is %v", i, ok)
		}
		if b.Left() != c.left {
			t.Errorf("%d: left are %d, not %d", i, b.Left(), c.left)
		}
	}
}

// 15.1: where a retry costs nothing, it can be taken always; where it costs more than there is room for, never.
func TestTakeEdges(t *testing.T) {
	for _, c := range []struct{ cost, room, n, left int }{
		{0, 0, 50, 0}, {0, 7, 50, 7}, {-1, 0, 50, 0}, {-3, 7, 50, 7}, {math.MinInt, 7, 50, 7},
		{1, 0, 0, 0}, {1, 7, 7, 0}, {7, 7, 1, 0}, {8, 7, 0, 7}, {3, 7, 2, 1}, {6, 7, 1, 1},
		{most, most, 1, 0}, {most, most - 1, 0, most - 1}, {most - 1, most, 1, 1}, {most / 2, most, 2, 0}, {most/2 + 1, most, 1, most/2 - 1},
		// What is beyond counts as the nearest.
		{most + 1, most, 1, 0}, {math.MaxInt, most, 1, 0}, {math.MaxInt, math.MaxInt, 1, 0}, {most, math.MaxInt, 1, 0},
		{math.MaxInt, most - 1, 0, most - 1}, {1, -5, 0, 0}, {1, math.MinInt, 0, 0}, {0, math.MinInt, 50, 0},
	} {
		b := budget.New(api.Retries{Cost: c.cost, Room: c.room})
		if n := takes(b, 50); n != c.n || b.Left() != c.left {
			t.Errorf("of %d, a cost of %d: %d times, left are %d", c.room, c.cost, n, b.Left())
		}
	}
}

// 15.1: what goes well brings what it brings, and not less if nothing was taken.
func TestWellEdges(t *testing.T) {
	for _, c := range []struct{ gain, cost, room, left int }{
		{0, 7, 7, 0}, {1, 7, 7, 1}, {6, 7, 7, 6}, {7, 7, 7, 7}, {8, 7, 7, 7}, {-1, 7, 7, 0}, {math.MinInt, 7, 7, 0},
		{most - 1, most, most, most - 1}, {most, most, most, most}, {most + 1, most, most, most},
		{math.MaxInt, most, most, most}, {math.MaxInt, math.MaxInt, math.MaxInt, most}, {math.MaxInt, 7, 7, 7},
		{math.MaxInt, 1, most, most}, {5, 0, 0, 0}, {5, 0, -9, 0}, {math.MaxInt, 0, math.MinInt, 0},
	} {
		b := budget.New(api.Retries{Gain: c.gain, Cost: c.cost, Room: c.room})
		had := b.Left()
		if b.Well(); b.Left() != had {
			t.Errorf("of %d, a gain of %d: full, left are %d", c.room, c.gain, b.Left())
		}
		if !b.Take() {
			t.Fatalf("of %d: nothing is taken", c.room)
		}
		if b.Well(); b.Left() != c.left {
			t.Errorf("of %d, a gain of %d: left are %d, not %d", c.room, c.gain, b.Left(), c.left)
		}
	}
}

// 15.1: each order of few calls, at all edges of the numbers.
func TestAllOrders(t *testing.T) {
	for _, room := range numbers {
		for _, gain := range numbers {
			for _, cost := range numbers {
				r := api.Retries{Room: room, Gain: gain, Cost: cost}
				for order := range 1 << 5 {
					follow(t, r, order, 5)
				}
			}
		}
	}
}

// follow does calls, as the bits of an order say, beside a plain budget.
func follow(t *testing.T, r api.Retries, order, calls int) {
	t.Helper()
	b, p := budget.New(r), newPlain(r)
	for i := range calls {
		if order>>i&1 == 0 {
			b.Well()
			p.well()
		} else if got, want := b.Take(), p.take(); got != want {
			t.Fatalf("%+v, order %b, call %d: Take is %v", r, order, i, got)
		}
		if b.Left() != p.left {
			t.Fatalf("%+v, order %b, call %d: left are %d, not %d", r, order, i, b.Left(), p.left)
		}
	}
}

// 15.1: very many calls, drawn by a rule; what is left is from 0 to the room always.
func TestDrawn(t *testing.T) {
	seed := uint64(1)
	draw := func(n int) int {
		seed = seed*6364136223846793005 + 1442695040888963407
		return int(seed >> 33 % uint64(n))
	}
	for range 300 {
		r := api.Retries{Gain: draw(12) - 1, Cost: draw(30) - 1, Room: draw(100) - 1}
		b, p := budget.New(r), newPlain(r)
		for range 300 {
			if draw(3) > 0 {
				b.Well()
				p.well()
			} else if got, want := b.Take(), p.take(); got != want {
				t.Fatalf("%+v: Take is %v", r, got)
			}
			if left := b.Left(); left != p.left || left < 0 || left > p.room {
				t.Fatalf("%+v: left are %d, not %d", r, left, p.left)
			}
		}
	}
}

// 15.1: how often a call may be tried again: 14 times at most, as there are 15 tries.
func TestMost(t *testing.T) {
	if api.MostTry != tries || api.MostBudget != most {
		t.Fatal("the limits are others")
	}
	want := map[int]int{
		0: 0, 1: 1, 2: 2, 13: 13, 14: 14, 15: 14, 16: 14, 1000: 14, most: 14, math.MaxInt: 14,
		-1: 0, -14: 0, math.MinInt: 0,
	}
	for n, w := range want {
		if got := budget.New(api.Retries{Most: n}).Most(); got != w {
			t.Errorf("of %d: %d", n, got)
		}
	}
	for _, n := range numbers {
		if got := budget.New(api.Retries{Most: n, Gain: 3, Cost: 4, Room: 5}).Most(); got != nearest(n, tries-1) {
			t.Errorf("of %d: %d", n, got)
		}
	}
}

// 15.1: the document's example, and more that are worked out by hand.
func TestWaitByHand(t *testing.T) {
	for _, c := range []struct {
		first, bound api.Tick
		n            int
		want         api.Tick
	}{
		{2, 8, 3, 8}, {2, 8, 1, 2}, {2, 8, 2, 4}, {2, 8, 4, 8}, {2, 8, 14, 8}, {2, 8, math.MaxInt, 8},
		{2, 9, 3, 8}, {2, 9, 4, 9}, {2, 7, 3, 7}, {3, 100, 4, 24}, {3, 100, 6, 96}, {3, 100, 7, 100}, {1, 4096, 14, 4096}, {1, 9000, 14, 8192},
		// A number below 1 counts as 1.
		{2, 8, 0, 2}, {2, 8, -1, 2}, {2, 8, -100, 2}, {2, 8, math.MinInt, 2}, {2, 8, math.MinInt + 1, 2}, {20, 8, math.MinInt, 8},
		// The bound holds for the first one, too.
		{9, 8, 1, 8}, {9, 9, 1, 9}, {9, 10, 1, 9}, {9, 8, 3, 8}, {never, 8, 1, 8},
		// One tick at least.
		{0, 8, 1, 1}, {0, 8, 5, 1}, {0, 8, math.MaxInt, 1}, {0, 0, 1, 1}, {2, 0, 1, 1}, {2, 0, 9, 1}, {2, 1, 9, 1}, {1, 1, 9, 1}, {1, 2, 9, 2},
		{-5, 8, 1, 1}, {-5, 8, 3, 1}, {math.MinInt64, 8, 3, 1}, {2, -5, 3, 1}, {2, math.MinInt64, 3, 1}, {math.MinInt64, math.MinInt64, math.MinInt, 1},
		// These are times, so they go on beyond the numbers' most, to Never.
		{most, 4 * most, 1, most}, {most, 4 * most, 2, 2 * most}, {most + 1, never, 1, most + 1}, {3 * most, never, 2, 6 * most}, {1, never, 31, 1 << 30},
		{1, never, 40, never / 2}, {1, never, 41, never}, {1, never, 42, never}, {1, never, 65, never}, {1, never - 1, 41, never - 1},
		{3, never, 39, never / 4 * 3}, {3, never, 40, never}, {never - 1, never, 1, never - 1}, {never - 1, never, 2, never},
		{never, never, 1, never}, {never + 1, never, 1, never}, {math.MaxInt64, math.MaxInt64, 1, never}, {math.MaxInt64, math.MaxInt64, math.MaxInt, never},
		{1, math.MaxInt64, 63, never}, {1, math.MaxInt64, 64, never}, {1, math.MaxInt64, math.MaxInt, never}, {math.MaxInt64, 5, 2, 5},
	} {
		b := budget.New(api.Retries{Most: 2, Wait: c.first, Bound: c.bound})
		if got := b.Wait(c.n); got != c.want {
			t.Errorf("of %d, at most %d: the %d-th waits %d, not %d", c.first, c.bound, c.n, got, c.want)
		}
	}
}

// 15.1: how long retries wait, at all edges; of which call it is asked, and what is left, does not matter.
func TestWait(t *testing.T) {
	for _, first := range times {
		for _, bound := range times {
			b := budget.New(api.Retries{Most: 1, Gain: 1, Cost: 1, Room: 1, Wait: first, Bound: bound})
			for _, n := range append([]int{38, 39, 40, 41, 42, 62, 63, 64, 65, 66}, numbers...) {
				want := wait(first, bound, n)
				if got := b.Wait(n); got != want {
					t.Fatalf("of %d, at most %d: the %d-th waits %d, not %d", first, bound, n, got, want)
				}
				b.Take()
				if got := b.Wait(n); got != want {
					t.Fatalf("of %d, at most %d: the %d-th waits %d, now that less is left", first, bound, n, got)
				}
				b.Well()
			}
		}
	}
}

// 15.1: what is asked only changes nothing, and two of the same retries are two.
func TestAskedOnly(t *testing.T) {
	r := api.Retries{Most: 3, Gain: 2, Cost: 4, Room: 9, Wait: 2, Bound: 8}
	b, other := budget.New(r), budget.New(r)
	for range 3 {
		if b.Left() != 9 || b.Most() != 3 || b.Wait(1) != 2 || b.Wait(2) != 4 || b.Wait(9) != 8 {
			t.Error("it is another one")
		}
	}
	if !b.Take() || b.Left() != 5 || other.Left() != 9 {
		t.Error("two have one and the same")
	}
	if b.Most() != 3 || b.Wait(2) != 4 {
		t.Error("a retry was taken: how many may be, and how long they wait, is another thing")
	}
	if b.Well(); b.Left() != 7 || other.Left() != 9 {
		t.Errorf("left are %d and %d", b.Left(), other.Left())
	}
}

// 15.1: of none: 0, false, 1; it stays so, whatever is done.
func TestNone(t *testing.T) {
	var b *budget.Budget
	for range 3 {
		if b.Left() != 0 || b.Most() != 0 || b.Take() {
			t.Error("none has something")
		}
		for _, n := range numbers {
			if got := b.Wait(n); got != 1 {
				t.Errorf("of none the %d-th waits %d", n, got)
			}
		}
		b.Well()
	}
}

// 15.1: with retries of which nothing is told there is no room, and they take nothing; a plain one is the same.
func TestPlain(t *testing.T) {
	for _, b := range []*budget.Budget{budget.New(api.Retries{}), {}} {
		b.Well()
		if b.Left() != 0 || b.Most() != 0 || b.Wait(1) != 1 || b.Wait(math.MaxInt) != 1 || !b.Take() || b.Left() != 0 {
			t.Errorf("left are %d, of %d", b.Left(), b.Most())
		}
	}
}
