package admit_test

import (
	"math"
	"slices"
	"testing"

	"cableway/admit"
	"cableway/api"
)

const (
	most     = 64 // as the chapter's given limit is
	services = 4
)

// numbers are how many may go on, also what may not be.
var numbers = []int{
	math.MinInt, math.MinInt + 1, math.MinInt32, -most - 1, -most, -2, -1, 0, 1, 2, 3, 5, 15, 16, 17, 31, 32, 33,
	most - 1, most, most + 1, most + 2, 2 * most, 1000, math.MaxInt32, math.MaxInt - 1, math.MaxInt,
}

// strange are numbers of services that there are not.
var strange = []int{
	math.MinInt, math.MinInt + 1, math.MinInt32, -services, -2, -1, services, services + 1, 2 * services, most, 1 << 32, 1<<32 + 1, math.MaxInt32, math.MaxInt - 1, math.MaxInt,
}

// nearest is the number from 0 to the limit that counts for one, case by case.
func nearest(n int) int {
	switch {
	case n < 0:
		return 0
	case n > most:
		return most
	}
	return n
}

// plain is all calls that go on, as a list of where they go.
type plain struct {
	all, each int
	calls     []int
}

func newPlain(all, each int) *plain { return &plain{all: nearest(all), each: nearest(each)} }

// count is how many of them go to a service.
func (p *plain) count(to int) int {
	n := 0
	for _, c := range p.calls {
		if c == to {
			n++
		}
	}
	return n
}

func (p *plain) take(to int) bool {
	if to < 0 || to >= services || len(p.calls) == p.all || p.count(to) == p.each {
		return false
	}
	p.calls = append(p.calls, to)
	return true
}

func (p *plain) give(to int) bool {
	i := slices.Index(p.calls, to)
	if i < 0 {
		return false
	}
	p.calls = slices.Delete(p.calls, i, i+1)
	return true
}

// counted fails where other calls go on than so many to each service, and none elsewhere.
func counted(t *testing.T, a *admit.Admit, want [services]int) {
	t.Helper()
	sum := 0
	for n, w := range want {
		sum += w
		if got := a.To(n); got != w {
			t.Fatalf("to %d: %d, not %d", n, got, w)
		}
	}
	if got := a.Len(); got != sum {
		t.Fatalf("in all: %d, not %d", got, sum)
	}
	for _, n := range strange {
		if got := a.To(n); got != 0 {
			t.Fatalf("to %d, which there is not: %d", n, got)
		}
	}
}

// takes fails where calls to these services may not all go on.
func takes(t *testing.T, a *admit.Admit, to ...int) {
	t.Helper()
	for _, n := range to {
		if !a.Take(n) {
			t.Fatalf("Take of %d: false", n)
		}
	}
}

// refuses fails where a call to one of these services may go on.
func refuses(t *testing.T, a *admit.Admit, to ...int) {
	t.Helper()
	for _, n := range to {
		if a.Take(n) {
			t.Fatalf("Take of %d: true", n)
		}
	}
}

// gives fails where calls to these services do not all go on.
func gives(t *testing.T, a *admit.Admit, to ...int) {
	t.Helper()
	for _, n := range to {
		if !a.Give(n) {
			t.Fatalf("Give of %d: false", n)
		}
	}
}

// lacks fails where a call to one of these services goes on.
func lacks(t *testing.T, a *admit.Admit, to ...int) {
	t.Helper()
	for _, n := range to {
		if a.Give(n) {
			t.Fatalf("Give of %d: true", n)
		}
	}
}

// 19.1: the document's example, at each service.
func TestExample(t *testing.T) {
	if api.MostFlight != most || api.MostServices != services {
		t.Fatal("the limits are other ones")
	}
	for n := range services {
		a := admit.New(1, 1)
		if first, second := a.Take(n), a.Take(n); !first || second {
			t.Errorf("to %d: %v, %v", n, first, second)
		}
	}
}

// 19.1: of a new one none goes on, whatever may.
func TestNew(t *testing.T) {
	for _, all := range numbers {
		for _, each := range numbers {
			a := admit.New(all, each)
			if a == nil {
				t.Fatalf("New of %d and %d: nil", all, each)
			}
			counted(t, a, [services]int{})
			lacks(t, a, 0, 1, 2, 3)
			counted(t, a, [services]int{})
		}
	}
}

// 19.1: so many go on in all, whichever services they go to.
func TestAll(t *testing.T) {
	a := admit.New(3, 3)
	takes(t, a, 0, 3, 0)
	counted(t, a, [services]int{2, 0, 0, 1})
	refuses(t, a, 0, 1, 2, 3)
	counted(t, a, [services]int{2, 0, 0, 1})
	// Where one goes, one may come, to any of them.
	gives(t, a, 0)
	takes(t, a, 2)
	refuses(t, a, 0, 1, 2, 3)
	counted(t, a, [services]int{1, 0, 1, 1})
	gives(t, a, 0, 2, 3)
	counted(t, a, [services]int{})
	takes(t, a, 1, 1, 1)
	refuses(t, a, 0, 1, 2, 3)
}

// 19.1: so many go on to each, which keeps none from the others.
func TestEach(t *testing.T) {
	a := admit.New(100, 2)
	takes(t, a, 1, 1)
	refuses(t, a, 1)
	takes(t, a, 0, 0, 2, 3)
	refuses(t, a, 0, 1)
	counted(t, a, [services]int{2, 2, 1, 1})
	takes(t, a, 2, 3)
	refuses(t, a, 0, 1, 2, 3)
	counted(t, a, [services]int{2, 2, 2, 2})
	// One that goes elsewhere makes no room here.
	gives(t, a, 3)
	refuses(t, a, 0, 1, 2)
	takes(t, a, 3)
	refuses(t, a, 3)
	counted(t, a, [services]int{2, 2, 2, 2})
}

// 19.1: the fewer of both counts: how many go on to one service, and to all, from one on in turns.
func TestBoth(t *testing.T) {
	for _, all := range numbers {
		for _, each := range numbers {
			one := admit.New(all, each)
			for range min(nearest(all), nearest(each)) {
				takes(t, one, 2)
			}
			refuses(t, one, 2)
			counted(t, one, [services]int{2: min(nearest(all), nearest(each))})
			turns, went := admit.New(all, each), 0
			for i := range 2 * services * most {
				if turns.Take(i % services) {
					went++
				}
			}
			if want := min(nearest(all), services*nearest(each)); went != want || turns.Len() != want {
				t.Fatalf("New of %d and %d: %d went, %d go on, not %d", all, each, went, turns.Len(), want)
			}
		}
	}
}

// 19.1: 0 to MostFlight; what is beyond counts as the nearest, for both.
func TestBeyond(t *testing.T) {
	for _, few := range []int{math.MinInt, -most, -1, 0} {
		refuses(t, admit.New(few, most), 0, 1, 2, 3)
		refuses(t, admit.New(most, few), 0, 1, 2, 3)
		refuses(t, admit.New(few, few), 0, 1, 2, 3)
	}
	for _, many := range []int{most, most + 1, 2 * most, math.MaxInt - 1, math.MaxInt} {
		a := admit.New(many, many)
		for range most {
			takes(t, a, 1)
		}
		refuses(t, a, 0, 1, 2, 3)
		a = admit.New(many, most/services)
		for i := range most {
			takes(t, a, i%services)
		}
		refuses(t, a, 0, 1, 2, 3)
		counted(t, a, [services]int{16, 16, 16, 16})
		a = admit.New(most-1, many)
		for range most - 1 {
			takes(t, a, 3)
		}
		refuses(t, a, 0, 1, 2, 3)
	}
}

// 19.1: none goes on to a service that there is not, also where there is room.
func TestStrange(t *testing.T) {
	for _, a := range []*admit.Admit{admit.New(most, most), admit.New(0, 0), admit.New(2, 1)} {
		refuses(t, a, strange...)
		lacks(t, a, strange...)
		counted(t, a, [services]int{})
	}
	a := admit.New(5, 3)
	takes(t, a, 0, 3)
	refuses(t, a, strange...)
	lacks(t, a, strange...)
	counted(t, a, [services]int{1, 0, 0, 1})
	takes(t, a, 0, 0, 3)
	refuses(t, a, strange...)
	lacks(t, a, strange...)
	counted(t, a, [services]int{3, 0, 0, 2})
}

// 19.1: one less goes on there; where none does, nothing is done, whatever goes on elsewhere.
func TestGive(t *testing.T) {
	a := admit.New(4, 2)
	lacks(t, a, 0, 1, 2, 3)
	takes(t, a, 1, 1, 2)
	lacks(t, a, 0, 3, 0)
	counted(t, a, [services]int{0, 2, 1, 0})
	gives(t, a, 1)
	counted(t, a, [services]int{0, 1, 1, 0})
	gives(t, a, 2)
	lacks(t, a, 2)
	counted(t, a, [services]int{0, 1, 0, 0})
	gives(t, a, 1)
	lacks(t, a, 0, 1, 2, 3)
	counted(t, a, [services]int{})
	// What was not there makes no more room.
	takes(t, a, 1, 1)
	refuses(t, a, 1)
}

// 19.1: what is refused takes nothing.
func TestRefusedTakesNothing(t *testing.T) {
	a := admit.New(2, 1)
	takes(t, a, 0)
	for range 100 {
		refuses(t, a, 0)
	}
	counted(t, a, [services]int{1, 0, 0, 0})
	takes(t, a, 1)
	for range 100 {
		refuses(t, a, 0, 1, 2, 3)
	}
	counted(t, a, [services]int{1, 1, 0, 0})
	gives(t, a, 0, 1)
	lacks(t, a, 0, 1, 2, 3)
}

// call does one of the calls that change something: from 0 on each service is taken (also -1 and services, that there are not), then each given.
func call(t *testing.T, a *admit.Admit, p *plain, n int) {
	t.Helper()
	to := n%(services+2) - 1
	if n < services+2 {
		if got, want := a.Take(to), p.take(to); got != want {
			t.Fatalf("%d and %d, of %v: Take of %d: %v", p.all, p.each, p.calls, to, got)
		}
		return
	}
	if got, want := a.Give(to), p.give(to); got != want {
		t.Fatalf("%d and %d, of %v: Give of %d: %v", p.all, p.each, p.calls, to, got)
	}
}

// same fails where other calls go on than those in the list.
func same(t *testing.T, a *admit.Admit, p *plain) {
	t.Helper()
	var want [services]int
	for n := range want {
		want[n] = p.count(n)
	}
	counted(t, a, want)
}

// 19.1: each order of five calls, against a plain list.
func TestAllOrders(t *testing.T) {
	const kinds, length = 2 * (services + 2), 5
	orders := 1
	for range length {
		orders *= kinds
	}
	for _, c := range []struct{ all, each int }{{0, 2}, {1, 1}, {2, 0}, {2, 1}, {3, 2}, {2, 3}, {most, 1}} {
		for order := range orders {
			a, p := admit.New(c.all, c.each), newPlain(c.all, c.each)
			rest := order
			for range length {
				call(t, a, p, rest%kinds)
				rest /= kinds
			}
			same(t, a, p)
		}
	}
}

// 19.1: long runs, drawn by a rule, against a plain list.
func TestDrawn(t *testing.T) {
	seed := uint64(1)
	draw := func(n int) int {
		seed = seed*6364136223846793005 + 1442695040888963407
		return int(seed >> 33 % uint64(n))
	}
	for range 200 {
		all, each := draw(most+8)-4, draw(most/2)-2
		a, p := admit.New(all, each), newPlain(all, each)
		// More is taken than given, or less: so it is often full, or empty.
		part := 1 + draw(9)
		for range 400 {
			n := draw(services + 2)
			if draw(10) >= part {
				n += services + 2
			}
			call(t, a, p, n)
			same(t, a, p)
		}
	}
}

// 19.1: what is asked only changes nothing, and two of the same are two.
func TestTwo(t *testing.T) {
	a, other := admit.New(2, 2), admit.New(2, 2)
	takes(t, a, 0, 1)
	for range 3 {
		counted(t, a, [services]int{1, 1, 0, 0})
		counted(t, other, [services]int{})
	}
	lacks(t, other, 0, 1)
	takes(t, other, 0, 0)
	refuses(t, a, 0)
	counted(t, a, [services]int{1, 1, 0, 0})
	counted(t, other, [services]int{2, 0, 0, 0})
}

// 19.1: of none: false, 0; it stays so, whatever is done. A plain one lets none go on, too.
func TestNone(t *testing.T) {
	for _, a := range []*admit.Admit{nil, {}} {
		for range 2 {
			counted(t, a, [services]int{})
			refuses(t, a, 0, 1, 2, 3)
			lacks(t, a, 0, 1, 2, 3)
			refuses(t, a, strange...)
			lacks(t, a, strange...)
		}
	}
}
