package route_test

import (
	"math"
	"math/big"
	"slices"
	"testing"

	"cableway/route"
)

// edges are loads and rooms, beside each other.
var edges = []int{
	math.MinInt, math.MinInt + 1, math.MinInt + 2, math.MinInt32, -3, -2, -1, 0, 1, 2, 3, 4, 63, 64, 65,
	math.MaxInt32, math.MaxInt - 2, math.MaxInt - 1, math.MaxInt,
}

// lists are all lists of so many of the numbers.
func lists(n int, numbers []int) [][]int {
	all := [][]int{nil}
	for range n {
		var longer [][]int
		for _, l := range all {
			for _, x := range numbers {
				longer = append(longer, append(slices.Clone(l), x))
			}
		}
		all = longer
	}
	return all
}

// drawing draws numbers by a rule.
func drawing(seed uint64) func(n int) int {
	return func(n int) int {
		seed = seed*6364136223846793005 + 1442695040888963407
		return int(seed >> 33 % uint64(n))
	}
}

// order takes the first of the least below the room away, again and again.
func order(load []int, room int) []int {
	var all []int
	for {
		best := -1
		for i := len(load) - 1; i >= 0; i-- {
			if load[i] < room && !slices.Contains(all, i) && (best < 0 || load[i] <= load[best]) {
				best = i
			}
		}
		if best < 0 {
			return all
		}
		all = append(all, best)
	}
}

// even holds each against each, by numbers that do not wrap round.
func even(load []int) bool {
	one := big.NewInt(1)
	for _, a := range load {
		for _, b := range load {
			more := new(big.Int).Sub(big.NewInt(int64(a)), big.NewInt(int64(b)))
			if more.Cmp(one) > 0 {
				return false
			}
		}
	}
	return true
}

// check holds all three against the plain ones.
func check(t *testing.T, load []int, room int) {
	t.Helper()
	before := slices.Clone(load)
	want := order(load, room)
	got := route.Order(load, room)
	if !slices.Equal(got, want) {
		t.Fatalf("Order(%v, %d) is %v, not %v", load, room, got, want)
	}
	first := -1
	if len(want) > 0 {
		first = want[0]
	}
	if l := route.Least(load, room); l != first {
		t.Fatalf("Least(%v, %d) is %d, not %d", load, room, l, first)
	}
	if e := route.Even(load); e != even(load) {
		t.Fatalf("Even(%v) is %v", load, e)
	}
	if !slices.Equal(load, before) {
		t.Fatalf("%v was changed to %v", before, load)
	}
}

// 24.1: the document's example, and what is plain.
func TestPlain(t *testing.T) {
	for _, c := range []struct {
		load        []int
		room, least int
		order       []int
		even        bool
	}{
		{[]int{2, 1, 1}, 3, 1, []int{1, 2, 0}, true},
		{[]int{2, 1, 1}, 2, 1, []int{1, 2}, true},
		{[]int{2, 1, 1}, 1, -1, nil, true},
		{[]int{2, 1, 1}, 0, -1, nil, true},
		{[]int{3, 0, 2, 0}, 4, 1, []int{1, 3, 2, 0}, false},
		{[]int{3, 0, 2, 0}, 3, 1, []int{1, 3, 2}, false},
		{[]int{0, 0, 0}, 1, 0, []int{0, 1, 2}, true},
		{[]int{1, 0, 1, 0}, 2, 1, []int{1, 3, 0, 2}, true},
		{[]int{2, 0}, 2, 1, []int{1}, false},
		{[]int{5}, 5, -1, nil, true},
		{[]int{5}, 6, 0, []int{0}, true},
	} {
		if l := route.Least(c.load, c.room); l != c.least {
			t.Errorf("Least(%v, %d) is %d, not %d", c.load, c.room, l, c.least)
		}
		if o := route.Order(c.load, c.room); !slices.Equal(o, c.order) {
			t.Errorf("Order(%v, %d) is %v, not %v", c.load, c.room, o, c.order)
		}
		if e := route.Even(c.load); e != c.even {
			t.Errorf("Even(%v) is %v, not %v", c.load, e, c.even)
		}
	}
}

// 24.1: of no loads, there is none, and none has more than another one.
func TestNone(t *testing.T) {
	for _, room := range edges {
		for _, load := range [][]int{nil, {}} {
			if l, o := route.Least(load, room), route.Order(load, room); l != -1 || len(o) != 0 {
				t.Errorf("of none, with room %d: %d, %v", room, l, o)
			}
		}
	}
	if !route.Even(nil) || !route.Even([]int{}) {
		t.Error("none are not even")
	}
}

// 24.1: all lists of up to three at all edges, with each room there.
func TestEdges(t *testing.T) {
	for n := range 3 {
		for _, load := range lists(n+1, edges) {
			for _, room := range edges {
				check(t, load, room)
			}
		}
	}
}

// 24.1: all lists of up to six of few numbers, as many are equal there.
func TestEqual(t *testing.T) {
	for n := range 7 {
		for _, load := range lists(n, []int{0, 1, 2, 3}) {
			for room := -1; room <= 4; room++ {
				check(t, load, room)
			}
		}
	}
}

// 24.1: long lists, drawn by a rule: equals stay in their order in these, too.
func TestDrawn(t *testing.T) {
	draw := drawing(24)
	for range 300 {
		load := make([]int, draw(120))
		span := 1 + draw(9)
		for i := range load {
			load[i] = draw(span)
		}
		check(t, load, draw(span+2))
	}
}

// 24.1: one that has two more than another one, wherever both are, is told.
func TestUneven(t *testing.T) {
	for low := range 12 {
		for high := range 12 {
			load := make([]int, 12)
			for i := range load {
				load[i] = 6
			}
			load[low], load[high] = 5, 7
			if route.Even(load) != (low == high) {
				t.Errorf("Even(%v) is %v", load, low != high)
			}
		}
	}
}

// R2: an order is the caller's own, and what is handed in may be changed later.
func TestOwn(t *testing.T) {
	load := []int{2, 1, 0}
	a := route.Order(load, 3)
	b := route.Order(load, 3)
	a[0], a[1], a[2] = 9, 9, 9
	load[0], load[1], load[2] = 0, 0, 0
	if !slices.Equal(b, []int{2, 1, 0}) {
		t.Errorf("it was changed to %v", b)
	}
	if !slices.Equal(route.Order(load, 3), []int{0, 1, 2}) {
		t.Error("what was handed in is kept")
	}
}

// Who goes to the least again and again keeps all even, until none has room.
func TestFill(t *testing.T) {
	load := make([]int, 5)
	for n := range 5*4 + 1 {
		if !route.Even(load) {
			t.Fatalf("%v are not even", load)
		}
		l := route.Least(load, 4)
		if n == 5*4 {
			if l != -1 {
				t.Errorf("%v are full, and %d is told", load, l)
			}
			return
		}
		if l != n%5 {
			t.Fatalf("of %v, it is %d, not %d", load, l, n%5)
		}
		load[l]++
	}
}
