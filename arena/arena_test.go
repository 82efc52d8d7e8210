package arena_test

import (
	"math"
	"slices"
	"testing"

	"cableway/api"
	"cableway/arena"
)

// beyond are places that an arena of so many cells has not.
func beyond(n int) []int {
	return []int{-1, -2, -n, -n - 1, math.MinInt, math.MinInt + 1, n, n + 1, 2 * n, math.MaxInt - 1, math.MaxInt}
}

// holds is what each cell has.
func holds(a *arena.Arena) []uint64 {
	var l []uint64
	for at := range a.Len() {
		l = append(l, a.Look(at))
	}
	return l
}

// noted tells whether these cells, and so many others, were touched.
func noted(a *arena.Arena, stray int, cells ...int) bool {
	return slices.Equal(a.Touched(), cells) && a.Stray() == stray
}

// 2.1: from 1 to MostCells cells, all 0, and no touch.
func TestNew(t *testing.T) {
	for _, n := range []int{math.MinInt, -api.MostCells, -1, 0, api.MostCells + 1, 2 * api.MostCells, math.MaxInt} {
		if arena.New(n) != nil {
			t.Errorf("New of %d", n)
		}
	}
	for _, n := range []int{1, 2, 3, 100, api.MostCells - 1, api.MostCells} {
		a := arena.New(n)
		if a == nil {
			t.Fatalf("New of %d: nil", n)
		}
		if a.Len() != n || !noted(a, 0) {
			t.Errorf("New of %d: %d cells, %v, %d", n, a.Len(), a.Touched(), a.Stray())
		}
		if !slices.Equal(holds(a), make([]uint64, n)) {
			t.Errorf("New of %d: not all 0", n)
		}
		if a.Read(0) != 0 || a.Read(n-1) != 0 {
			t.Errorf("New of %d: Read is not 0", n)
		}
	}
}

// 2.1: a cell has what was written last, and all others have what they had.
func TestWrite(t *testing.T) {
	for _, n := range []int{1, 2, 9} {
		a := arena.New(n)
		want := make([]uint64, n)
		for at := range n {
			for _, w := range []uint64{5, math.MaxUint64, 0, uint64(at) + 1} {
				a.Write(at, w)
				want[at] = w
				if a.Read(at) != w || !slices.Equal(holds(a), want) {
					t.Errorf("Write of %x at %d: %x", w, at, holds(a))
				}
			}
		}
	}
	a := arena.New(api.MostCells)
	a.Write(api.MostCells-1, 7)
	if a.Read(api.MostCells-1) != 7 || a.Look(api.MostCells-1) != 7 || a.Look(api.MostCells-2) != 0 {
		t.Error("the last cell of the most")
	}
}

// 2.1: the document's example; a cell is swapped just if it has what it should.
func TestSwap(t *testing.T) {
	a := arena.New(3)
	a.Write(0, 5)
	if !a.Swap(0, 5, 6) || a.Read(0) != 6 {
		t.Error("the example")
	}
	if a.Swap(0, 5, 7) || a.Read(0) != 6 {
		t.Error("swapped from what it has no more")
	}
	if a.Swap(0, 0, 7) || a.Swap(0, 7, 7) || a.Swap(0, math.MaxUint64, 7) || a.Read(0) != 6 {
		t.Error("swapped from what it never had")
	}
	if !a.Swap(0, 6, 6) || a.Read(0) != 6 {
		t.Error("swapped to what it has")
	}
	if !a.Swap(2, 0, math.MaxUint64) || !a.Swap(2, math.MaxUint64, 0) || !a.Swap(2, 0, 1<<63) {
		t.Error("swapped from what it has")
	}
	if a.Swap(2, 1<<31, 1) || a.Swap(2, 0, 1) {
		t.Error("swapped where a part of the word is alike")
	}
	if !slices.Equal(holds(a), []uint64{6, 0, 1 << 63}) {
		t.Errorf("others are changed: %x", holds(a))
	}
}

// 2.1: reading, writing and swapping touch, each of them alone, a swap also where it fails.
func TestEachTouches(t *testing.T) {
	a := arena.New(4)
	touches := map[string]func(){
		"Read":                 func() { a.Read(2) },
		"Write":                func() { a.Write(2, 0) },
		"Swap":                 func() { a.Swap(2, 0, 0) },
		"Swap of what has not": func() { a.Swap(2, 9, 1) },
	}
	for name, touch := range touches {
		a.Begin()
		touch()
		if !noted(a, 0, 2) {
			t.Errorf("%s: %v, %d", name, a.Touched(), a.Stray())
		}
	}
}

// 2.1: what was touched is told in the order of the first touch, each cell once.
func TestTouched(t *testing.T) {
	a := arena.New(8)
	a.Read(6)
	a.Write(1, 4)
	a.Read(6)
	a.Swap(3, 1, 2)
	a.Read(1)
	a.Write(0, 0)
	a.Swap(7, 0, 1)
	a.Read(3)
	a.Write(6, 1)
	if !noted(a, 0, 6, 1, 3, 0, 7) {
		t.Errorf("%v", a.Touched())
	}
	if !noted(a, 0, 6, 1, 3, 0, 7) {
		t.Error("telling it changes it")
	}
}

// 2.1: the cells there are all can be touched in one step.
func TestTouchedMany(t *testing.T) {
	a := arena.New(api.MostCells)
	var want []int
	for range 3 {
		for at := api.MostCells - 1; at >= 0; at-- {
			a.Read(at)
		}
	}
	for at := api.MostCells - 1; at >= 0; at-- {
		want = append(want, at)
	}
	if !noted(a, 0, want...) {
		t.Error("not each once, in order")
	}
}

// 2.1: behind Begin none was touched, cells have what they had, and the same ones can be touched again.
func TestBegin(t *testing.T) {
	a := arena.New(5)
	a.Begin()
	if !noted(a, 0) {
		t.Error("at first")
	}
	a.Write(4, 9)
	a.Write(1, 8)
	a.Read(5)
	a.Begin()
	if !noted(a, 0) {
		t.Errorf("begun: %v, %d", a.Touched(), a.Stray())
	}
	if !slices.Equal(holds(a), []uint64{0, 8, 0, 0, 9}) {
		t.Errorf("begun: %x", holds(a))
	}
	a.Read(1)
	a.Read(2)
	a.Read(4)
	a.Write(-1, 0)
	if !noted(a, 1, 1, 2, 4) {
		t.Errorf("again: %v, %d", a.Touched(), a.Stray())
	}
	a.Begin()
	a.Begin()
	if !noted(a, 0) {
		t.Error("begun twice")
	}
}

// 2.1: of a cell that there is not: 0, nothing, false; each time counts as stray, and as no touch.
func TestStray(t *testing.T) {
	for _, n := range []int{1, 2, 5, api.MostCells} {
		a := arena.New(n)
		want := make([]uint64, n)
		for at := range n {
			want[at] = uint64(at) + 1
			a.Write(at, want[at])
		}
		a.Begin()
		stray := 0
		for _, at := range beyond(n) {
			if a.Read(at) != 0 {
				t.Errorf("Read at %d of %d", at, n)
			}
			a.Write(at, 7)
			for _, was := range []uint64{0, 1, 7, uint64(n)} {
				if a.Swap(at, was, 7) {
					t.Errorf("Swap from %d at %d of %d", was, at, n)
				}
			}
			stray += 6
			if !noted(a, stray) {
				t.Errorf("at %d of %d: %v, %d", at, n, a.Touched(), a.Stray())
			}
		}
		if !slices.Equal(holds(a), want) {
			t.Errorf("cells of %d are changed", n)
		}
	}
}

// 2.1: each of the three strays alone, and beside cells that there are.
func TestEachStrays(t *testing.T) {
	a := arena.New(2)
	a.Read(2)
	if !noted(a, 1) {
		t.Error("Read")
	}
	a.Write(-1, 0)
	if !noted(a, 2) {
		t.Error("Write")
	}
	a.Swap(math.MaxInt, 0, 0)
	if !noted(a, 3) {
		t.Error("Swap")
	}
	a.Read(1)
	a.Write(0, 1)
	if !noted(a, 3, 1, 0) {
		t.Error("cells that there are stray")
	}
	a.Read(2)
	if !noted(a, 4, 1, 0) {
		t.Error("the same again")
	}
}

// 2.1: looking tells what a cell has, and neither touches nor strays.
func TestLook(t *testing.T) {
	a := arena.New(3)
	a.Write(1, 5)
	a.Swap(2, 0, 6)
	a.Begin()
	if a.Look(0) != 0 || a.Look(1) != 5 || a.Look(2) != 6 || a.Len() != 3 {
		t.Errorf("%x", holds(a))
	}
	for _, at := range beyond(3) {
		if a.Look(at) != 0 {
			t.Errorf("Look at %d", at)
		}
	}
	if !noted(a, 0) {
		t.Errorf("%v, %d", a.Touched(), a.Stray())
	}
	a.Read(0)
	a.Read(9)
	a.Look(1)
	a.Look(9)
	if !noted(a, 1, 0) {
		t.Errorf("beside others: %v, %d", a.Touched(), a.Stray())
	}
}

// 2.1: of none there is nothing.
func TestNil(t *testing.T) {
	var a *arena.Arena
	for _, at := range append(beyond(1), 0, 1) {
		a.Begin()
		a.Write(at, 7)
		if a.Read(at) != 0 || a.Swap(at, 0, 7) || a.Swap(at, 7, 7) || a.Look(at) != 0 {
			t.Errorf("at %d", at)
		}
		if a.Len() != 0 || !noted(a, 0) {
			t.Errorf("at %d: %d, %v, %d", at, a.Len(), a.Touched(), a.Stray())
		}
	}
}

// R1: one that New did not make has no cells.
func TestNoCells(t *testing.T) {
	var a arena.Arena
	a.Begin()
	a.Write(0, 7)
	if a.Read(0) != 0 || a.Swap(0, 0, 7) || a.Look(0) != 0 || a.Len() != 0 || !noted(&a, 3) {
		t.Error("it has one")
	}
}

// R2: what was answered is the caller's own, and stays as it was.
func TestAnswersAreOwn(t *testing.T) {
	a := arena.New(6)
	a.Read(5)
	a.Read(2)
	l := a.Touched()
	l[0] = 4
	l = append(l[:1], 3, 3, 3)
	if !noted(a, 0, 5, 2) {
		t.Errorf("changed from outside: %v of %v", a.Touched(), l)
	}
	l = a.Touched()
	_ = append(l, 1)
	a.Read(0)
	if !noted(a, 0, 5, 2, 0) {
		t.Errorf("room is shared: %v", a.Touched())
	}
	a.Begin()
	a.Read(3)
	a.Read(4)
	if !slices.Equal(l, []int{5, 2}) {
		t.Errorf("an elder answer is changed: %v", l)
	}
}

// R2: two arenas share nothing.
func TestTwo(t *testing.T) {
	a, b := arena.New(3), arena.New(3)
	a.Write(1, 5)
	a.Read(9)
	if b.Look(1) != 0 || !noted(b, 0) {
		t.Error("what is done to one is done to the other")
	}
	b.Begin()
	if !noted(a, 1, 1) {
		t.Error("a step of one is a step of the other")
	}
}

// plain is what an arena must be, told as shortly as can be.
type plain struct {
	cells   map[int]uint64
	touched []int
	stray   int
}

func (p *plain) touch(n, at int) bool {
	if at < 0 || at >= n {
		p.stray++
		return false
	}
	if !slices.Contains(p.touched, at) {
		p.touched = append(p.touched, at)
	}
	return true
}

// do does one thing to an arena and to the plain one, and tells whether both answer the same.
func (p *plain) do(a *arena.Arena, what, at int, was, w uint64) bool {
	n := a.Len()
	switch what {
	case 0:
		a.Begin()
		p.touched, p.stray = nil, 0
		return true
	case 1, 2:
		got, want := a.Read(at), uint64(0)
		if p.touch(n, at) {
			want = p.cells[at]
		}
		return got == want
	case 3, 4:
		a.Write(at, w)
		if p.touch(n, at) {
			p.cells[at] = w
		}
		return true
	case 5, 6:
		got, want := a.Swap(at, was, w), false
		if p.touch(n, at) && p.cells[at] == was {
			p.cells[at], want = w, true
		}
		return got == want
	}
	return a.Look(at) == p.cells[at]
}

// 2.1: many things one behind the other, drawn by a rule, against the plain one.
func TestAgainstPlain(t *testing.T) {
	seed := uint64(1)
	draw := func(n int) int {
		seed = seed*6364136223846793005 + 1442695040888963407
		return int(seed >> 33 % uint64(n))
	}
	for _, n := range []int{1, 2, 3, 9, 40} {
		a := arena.New(n)
		p := &plain{cells: map[int]uint64{}}
		for i := range 5000 {
			what, at, was, w := draw(8), draw(n+4)-2, uint64(draw(3)), uint64(draw(3))
			if !p.do(a, what, at, was, w) {
				t.Fatalf("%d cells, %d: %d at %d, from %d to %d", n, i, what, at, was, w)
			}
			if !noted(a, p.stray, p.touched...) {
				t.Fatalf("%d cells, %d: %v, %d", n, i, a.Touched(), a.Stray())
			}
		}
		for at := range n {
			if a.Look(at) != p.cells[at] {
				t.Fatalf("%d cells: %d at %d", n, a.Look(at), at)
			}
		}
	}
}
