package ring_test

import (
	"math"
	"slices"
	"testing"

	"cableway/api"
	"cableway/arena"
	"cableway/ring"
)

// powers are how many places a ring may have.
var powers = []int{2, 4, 8, 16, 32, 64}

// turns are turns near 0, near powers of 2, and near the last one that there is.
var turns = []uint64{
	0, 1, 2, 3, 4, 5, 7, 8, 9, 31, 32, 33, 63, 64, 65, 127, 128, 1000,
	1<<31 - 1, 1 << 31, 1<<32 - 1, 1 << 32, 1<<62 + 3, 1<<63 - 1, 1 << 63, 1<<63 + 1, 1<<63 + 63,
	math.MaxUint64 - 65, math.MaxUint64 - 64, math.MaxUint64 - 63, math.MaxUint64 - 1, math.MaxUint64,
}

// bad are rings that may not be.
var bad = []api.Ring{
	{}, {Base: 5}, {Places: -2}, {Places: 1}, {Places: 3}, {Places: 5}, {Places: 6}, {Places: 63}, {Places: 65}, {Places: 128},
	{Places: math.MinInt}, {Places: math.MinInt + 2}, {Places: math.MaxInt}, {Places: 1 << 32}, {Places: 1<<32 + 2}, {Places: 1 << 62},
	{Base: -1, Places: 2}, {Base: -9, Places: 2}, {Base: math.MinInt, Places: 2}, {Base: math.MinInt, Places: 64},
	{Base: math.MaxInt, Places: 2}, {Base: math.MaxInt - 8, Places: 2}, {Base: math.MaxInt - 256, Places: 64},
	{Base: 1<<14 - 8, Places: 2}, {Base: 1 << 14, Places: 2}, {Base: 1<<14 - 256, Places: 64}, {Base: 1 << 32, Places: 4},
}

// rings are rings that may be: of each number of places, at the first cells, elsewhere, and at the last ones.
func rings() []api.Ring {
	var l []api.Ring
	for _, places := range powers {
		for _, base := range []int{0, 1, 7, 1000, 1<<14 - 1 - 4*places} {
			l = append(l, api.Ring{Base: base, Places: places})
		}
	}
	return l
}

// bare is an arena that just has the cells of a ring, and those ahead of it.
func bare(r api.Ring) *arena.Arena { return arena.New(r.Base + 1 + 4*r.Places) }

// begun is an arena with a ring that Init let be empty.
func begun(t *testing.T, r api.Ring) *arena.Arena {
	t.Helper()
	a := bare(r)
	if err := ring.Init(a, r); err != api.OK {
		t.Fatalf("Init of %+v: %d", r, err)
	}
	return a
}

// litter lets each cell have another number, that no place can stand at but its own cell's.
func litter(a *arena.Arena) {
	for at := range a.Len() {
		a.Write(at, 1<<40+uint64(at)*1001)
	}
}

// all is what each cell has.
func all(a *arena.Arena) []uint64 {
	var l []uint64
	for at := range a.Len() {
		l = append(l, a.Look(at))
	}
	return l
}

// at is the cell that tells how a turn's place stands, worked out by a sum.
func at(r api.Ring, turn uint64) int { return r.Base + 1 + 4*int(turn%uint64(r.Places)) }

// looks looks what Ready, Open and Held answer of a turn.
func looks(t *testing.T, a *arena.Arena, r api.Ring, turn uint64, ready, open bool, held int) {
	t.Helper()
	if got := ring.Ready(a, r, turn); got != ready {
		t.Errorf("%+v: Ready of %d: %v", r, turn, got)
	}
	if got := ring.Open(a, r, turn); got != open {
		t.Errorf("%+v: Open of %d: %v", r, turn, got)
	}
	if got := ring.Held(a, r, turn); got != held {
		t.Errorf("%+v: Held from %d: %d, not %d", r, turn, got, held)
	}
}

// 6.1: of all numbers of places just the powers of 2 from LeastPlaces to MostPlaces may be.
func TestMayPlaces(t *testing.T) {
	for places := -300; places <= 5000; places++ {
		want := slices.Contains(powers, places)
		for _, base := range []int{0, 1, 1000} {
			if got := ring.May(api.Ring{Base: base, Places: places}); got != want {
				t.Errorf("May of %d places at %d: %v", places, base, got)
			}
		}
	}
	for bit := range 64 {
		if places := 1 << bit; ring.May(api.Ring{Places: places}) != (bit >= 1 && bit <= 6) {
			t.Errorf("May of %d places", places)
		}
	}
}

// 6.1: all cells are from 0 on, below MostCells.
func TestMayBase(t *testing.T) {
	for _, places := range powers {
		cells := 1 + 4*places
		for base := -cells - 2; base <= 1<<14+cells; base++ {
			want := base >= 0 && base+cells-1 < 1<<14
			if got := ring.May(api.Ring{Base: base, Places: places}); got != want {
				t.Fatalf("May of %d places at %d: %v", places, base, got)
			}
		}
		for off := range 2*cells + 4 {
			for _, base := range []int{math.MinInt + off, math.MaxInt - off, 1<<32 + off, -1<<32 + off} {
				if ring.May(api.Ring{Base: base, Places: places}) {
					t.Errorf("May of %d places at %d", places, base)
				}
			}
		}
	}
	for _, r := range rings() {
		if !ring.May(r) {
			t.Errorf("May of %+v", r)
		}
	}
	for _, r := range bad {
		if ring.May(r) {
			t.Errorf("May of %+v", r)
		}
	}
}

// 6.1: the document's example; 1, and PlaceCells each; beyond 0 and MostPlaces it is as there.
func TestCells(t *testing.T) {
	if ring.Cells(2) != 9 {
		t.Errorf("Cells of 2: %d", ring.Cells(2))
	}
	want := 1
	for places := range 65 {
		if got := ring.Cells(places); got != want {
			t.Errorf("Cells of %d: %d", places, got)
		}
		want += 4
	}
	for _, places := range []int{-1, -2, -64, math.MinInt, math.MinInt + 1, -1 << 62} {
		if got := ring.Cells(places); got != 1 {
			t.Errorf("Cells of %d: %d", places, got)
		}
	}
	for _, places := range []int{65, 66, 128, 1 << 32, 1 << 61, 1 << 62, math.MaxInt - 1, math.MaxInt} {
		if got := ring.Cells(places); got != 257 {
			t.Errorf("Cells of %d: %d", places, got)
		}
	}
}

// 6.1: a small ring's cells, by hand.
func TestCellsByHand(t *testing.T) {
	r := api.Ring{Base: 10, Places: 2}
	if ring.Tail(r) != 10 {
		t.Errorf("Tail: %d", ring.Tail(r))
	}
	for turn, first := range map[uint64]int{0: 11, 1: 15, 2: 11, 3: 15, 4: 11, 1 << 63: 11, math.MaxUint64: 15} {
		got := []int{ring.Stand(r, turn), ring.Data(r, turn, 0), ring.Data(r, turn, 1), ring.Data(r, turn, 2)}
		if want := []int{first, first + 1, first + 2, first + 3}; !slices.Equal(got, want) {
			t.Errorf("turn %d: %v", turn, got)
		}
	}
}

// 6.1: the cells of each ring that may be; its turns' ones, of one round, are all that it has, each once.
func TestEachCell(t *testing.T) {
	for _, r := range rings() {
		if ring.Tail(r) != r.Base {
			t.Errorf("%+v: Tail: %d", r, ring.Tail(r))
		}
		for _, turn := range turns {
			if got := ring.Stand(r, turn); got != at(r, turn) {
				t.Errorf("%+v: Stand of %d: %d", r, turn, got)
			}
			for i := range 3 {
				if got := ring.Data(r, turn, i); got != at(r, turn)+1+i {
					t.Errorf("%+v: Data of %d, %d: %d", r, turn, i, got)
				}
			}
		}
		for _, first := range turns {
			l := []int{ring.Tail(r)}
			for n := range uint64(r.Places) {
				turn := first + n
				l = append(l, ring.Stand(r, turn), ring.Data(r, turn, 0), ring.Data(r, turn, 1), ring.Data(r, turn, 2))
			}
			slices.Sort(l)
			for i, cell := range l {
				if cell != r.Base+i {
					t.Fatalf("%+v, from %d on: %v", r, first, l)
				}
			}
			if len(l) != ring.Cells(r.Places) {
				t.Errorf("%+v: %d cells", r, len(l))
			}
		}
	}
}

// 6.1: of a ring that may not be there is no cell, nor of a word that there is not.
func TestNoCell(t *testing.T) {
	for _, r := range bad {
		if got := ring.Tail(r); got != -1 {
			t.Errorf("Tail of %+v: %d", r, got)
		}
		for _, turn := range turns {
			if got := ring.Stand(r, turn); got != -1 {
				t.Errorf("Stand of %+v, %d: %d", r, turn, got)
			}
			for i := -1; i <= 3; i++ {
				if got := ring.Data(r, turn, i); got != -1 {
					t.Errorf("Data of %+v, %d, %d: %d", r, turn, i, got)
				}
			}
		}
	}
	for _, r := range rings() {
		for _, turn := range turns {
			for _, i := range []int{-1, -2, -4, 3, 4, 5, 1 << 32, math.MinInt, math.MinInt + 1, math.MaxInt - 1, math.MaxInt} {
				if got := ring.Data(r, turn, i); got != -1 {
					t.Errorf("Data of %+v, %d, %d: %d", r, turn, i, got)
				}
			}
		}
	}
}

// 6.1: Init lets a ring be empty from the turn 0 on, whatever its cells had; all other cells stay as they are.
func TestInit(t *testing.T) {
	for _, r := range rings() {
		for _, more := range []int{0, 1, 50} {
			a := arena.New(min(r.Base+1+4*r.Places+more, 1<<14))
			litter(a)
			want := all(a)
			if err := ring.Init(a, r); err != api.OK {
				t.Fatalf("Init of %+v: %d", r, err)
			}
			if a.Look(r.Base) != 0 {
				t.Errorf("%+v: the next turn is %d", r, a.Look(r.Base))
			}
			for turn := range uint64(r.Places) {
				if got := a.Look(at(r, turn)); got != turn {
					t.Errorf("%+v: the place of %d stands at %d", r, turn, got)
				}
				looks(t, a, r, turn, false, true, 0)
				looks(t, a, r, turn+uint64(r.Places), false, false, 0)
				looks(t, a, r, turn-uint64(r.Places), false, false, 0)
			}
			end := r.Base + 1 + 4*r.Places
			if got := all(a); !slices.Equal(got[:r.Base], want[:r.Base]) || !slices.Equal(got[end:], want[end:]) {
				t.Errorf("%+v: cells of others are changed", r)
			}
		}
	}
}

// 6.1: of a ring that was used, Init makes an empty one again.
func TestInitAgain(t *testing.T) {
	r := api.Ring{Base: 3, Places: 4}
	a := begun(t, r)
	a.Write(3, 9)
	for turn := range uint64(4) {
		a.Write(at(r, turn), turn+9)
	}
	if ring.Init(a, r) != api.OK || a.Look(3) != 0 {
		t.Errorf("the next turn is %d", a.Look(3))
	}
	for turn := range uint64(4) {
		looks(t, a, r, turn, false, true, 0)
	}
}

// 6.1: ErrInput: the ring may not be, or the arena has fewer cells; nothing is done then.
func TestInitInput(t *testing.T) {
	refused := func(a *arena.Arena, r api.Ring) {
		t.Helper()
		litter(a)
		a.Begin()
		want := all(a)
		if err := ring.Init(a, r); err != api.ErrInput {
			t.Errorf("Init of %+v in %d cells: %d", r, a.Len(), err)
		}
		if !slices.Equal(all(a), want) || len(a.Touched()) != 0 || a.Stray() != 0 {
			t.Errorf("Init of %+v in %d cells does something", r, a.Len())
		}
	}
	for _, r := range bad {
		refused(arena.New(1<<14), r)
		refused(arena.New(1), r)
		refused(nil, r)
		refused(&arena.Arena{}, r)
	}
	for _, r := range rings() {
		refused(nil, r)
		refused(&arena.Arena{}, r)
		end := r.Base + 1 + 4*r.Places
		for _, n := range []int{1, r.Base, r.Base + 1, end - 4, end - 2, end - 1} {
			if n >= 1 && n < end {
				refused(arena.New(n), r)
			}
		}
	}
}

// 6.1: what each number that a place can stand at comes to, for turns far and near.
func TestStands(t *testing.T) {
	for _, r := range rings() {
		a := bare(r)
		size := uint64(r.Places)
		for _, turn := range turns {
			for _, c := range []struct {
				stands      uint64
				ready, open bool
			}{
				{turn, false, true},
				{turn + 1, true, false},
				{turn - 1, false, false},
				{turn + 2, false, false},
				{turn + size, false, false},
				{turn - size, false, false},
				{turn + size + 1, false, false},
				{turn - size + 1, false, false},
				{turn ^ 1<<32, false, false},
				{turn ^ 1<<63, false, false},
				{(turn + 1) ^ 1<<63, false, false},
			} {
				litter(a)
				a.Write(at(r, turn), c.stands)
				held := 0
				if c.ready {
					held = 1
				}
				looks(t, a, r, turn, c.ready, c.open, held)
			}
		}
	}
}

// 6.1: the place of a turn alone tells of it, and neither the next turn nor a frame's words do.
func TestStandsAlone(t *testing.T) {
	for _, turn := range []uint64{0, 1, 2, 5, 1 << 40} {
		r := api.Ring{Base: 2, Places: 4}
		for _, stands := range []uint64{turn, turn + 1} {
			a := bare(r)
			for cell := range a.Len() {
				a.Write(cell, stands)
			}
			a.Write(at(r, turn), turn+2)
			if ring.Ready(a, r, turn) || ring.Open(a, r, turn) || ring.Held(a, r, turn) != 0 {
				t.Errorf("turn %d: told by other cells", turn)
			}
		}
	}
}

// 6.1: Held counts from a turn on what is there one behind the other: till the first that is not, a round at most.
func TestHeld(t *testing.T) {
	for _, places := range powers {
		r := api.Ring{Base: 7, Places: places}
		for _, first := range turns {
			for n := range r.Places + 1 {
				a := bare(r)
				litter(a)
				for i := range uint64(n) {
					a.Write(at(r, first+i), first+i+1)
				}
				if n < r.Places {
					a.Write(at(r, first+uint64(n)), first+uint64(n))
				}
				for _, from := range []int{0, 1, n / 2, n - 1, n} {
					if from < 0 || from > n {
						continue
					}
					if got := ring.Held(a, r, first+uint64(from)); got != n-from {
						t.Fatalf("%+v: %d frames from %d on, Held from the %d-th: %d", r, n, first, from, got)
					}
				}
				if got := ring.Held(a, r, first-1); got != 0 {
					t.Fatalf("%+v: %d frames from %d on, Held from ahead: %d", r, n, first, got)
				}
			}
		}
	}
}

// 6.1: Held stops where one is missing, whatever is behind it.
func TestHeldGap(t *testing.T) {
	for _, r := range rings() {
		for _, first := range []uint64{0, 5, math.MaxUint64 - 2} {
			for gap := range r.Places {
				for _, less := range []uint64{0, 1, uint64(r.Places)} {
					a := bare(r)
					for i := range uint64(r.Places) {
						a.Write(at(r, first+i), first+i+1)
					}
					missing := first + uint64(gap)
					a.Write(at(r, missing), missing-less)
					if got := ring.Held(a, r, first); got != gap {
						t.Fatalf("%+v from %d on, the %d-th is missing: %d", r, first, gap, got)
					}
					if got := ring.Held(a, r, missing+1); got != r.Places-gap-1 {
						t.Fatalf("%+v from %d on, behind the %d-th: %d", r, first, gap, got)
					}
				}
			}
		}
	}
}

// 6.1: Ready, Open and Held look: they touch nothing, neither where there are cells nor where there are none.
func TestTheyLook(t *testing.T) {
	r := api.Ring{Base: 5, Places: 4}
	short := arena.New(12)
	for _, a := range []*arena.Arena{begun(t, r), short} {
		for turn := range uint64(2) {
			a.Write(at(r, turn), turn+1)
		}
		a.Begin()
		a.Read(1)
		a.Read(-1)
		want := all(a)
		for _, s := range append([]api.Ring{r}, bad...) {
			for _, turn := range turns {
				ring.Ready(a, s, turn)
				ring.Open(a, s, turn)
				ring.Held(a, s, turn)
			}
		}
		if !slices.Equal(a.Touched(), []int{1}) || a.Stray() != 1 || !slices.Equal(all(a), want) {
			t.Errorf("touched: %v, %d", a.Touched(), a.Stray())
		}
	}
}

// 6.1: of no arena, of a ring that may not be, and of places that the arena has not, there is nothing, also at 0.
func TestLooksAtNothing(t *testing.T) {
	for _, turn := range turns {
		for _, r := range rings() {
			looks(t, nil, r, turn, false, false, 0)
			looks(t, &arena.Arena{}, r, turn, false, false, 0)
			if r.Base > 0 {
				looks(t, arena.New(r.Base), r, turn, false, false, 0)
			}
			looks(t, arena.New(at(r, 0)), r, turn, false, false, 0)
		}
		for _, r := range bad {
			// The numbers that a ring of these cells would be open and ready at.
			for _, stands := range []uint64{0, turn, turn + 1} {
				a := arena.New(1 << 10)
				for cell := range a.Len() {
					a.Write(cell, stands)
				}
				looks(t, a, r, turn, false, false, 0)
				looks(t, nil, r, turn, false, false, 0)
			}
		}
	}
}

// 6.1: where the arena ends within a ring, its places tell how they stand as far as they are there.
func TestLooksAtPart(t *testing.T) {
	r := api.Ring{Places: 4}
	for n := 1; n <= 17; n++ {
		a := arena.New(n)
		for turn := range uint64(4) {
			a.Write(at(r, turn), turn+1)
		}
		held := (n + 2) / 4
		for turn := range uint64(4) {
			left := max(0, held-int(turn))
			looks(t, a, r, turn, left > 0, false, left)
		}
	}
}

// 6.1: two rings beside each other in one arena: what is done to one is not done to the other.
func TestTwo(t *testing.T) {
	r, s := api.Ring{Base: 0, Places: 4}, api.Ring{Base: 17, Places: 2}
	a := arena.New(17 + 9)
	if ring.Init(a, r) != api.OK || ring.Init(a, s) != api.OK {
		t.Fatal("Init")
	}
	for turn := range uint64(4) {
		a.Write(at(r, turn), turn+1)
	}
	for turn := range uint64(2) {
		looks(t, a, s, turn, false, true, 0)
	}
	before := all(a)[:17]
	if ring.Init(a, s) != api.OK || !slices.Equal(all(a)[:17], before) || ring.Held(a, r, 0) != 4 {
		t.Error("Init of one changes the other")
	}
}

// 6.1: frames pass, in an order drawn by a rule, over many rounds: the looks tell what is there.
func TestPassing(t *testing.T) {
	seed := uint64(3)
	draw := func(n int) int {
		seed = seed*6364136223846793005 + 1442695040888963407
		return int(seed >> 33 % uint64(n))
	}
	for _, places := range powers {
		r := api.Ring{Base: 4, Places: places}
		a := begun(t, r)
		size, sent, got := uint64(places), uint64(0), uint64(0)
		for range 3000 {
			// More is sent than fetched for a while, and then less, so that it comes to be full and empty.
			if fill := sent/(3*size)%2 == 0; draw(4) > 0 == fill {
				if ring.Open(a, r, sent) != (sent-got < size) {
					t.Fatalf("%d places: Open of %d, %d fetched", places, sent, got)
				}
				if sent-got < size {
					a.Write(at(r, sent), sent+1)
					sent++
				}
			} else {
				if ring.Ready(a, r, got) != (got < sent) {
					t.Fatalf("%d places: Ready of %d, %d sent", places, got, sent)
				}
				if got < sent {
					a.Write(at(r, got), got+size)
					got++
				}
			}
			for turn := got - min(got, size); turn <= sent+size; turn++ {
				there := turn >= got && turn < sent
				open := turn >= sent && turn < got+size
				held := 0
				if there {
					held = int(sent - turn)
				}
				looks(t, a, r, turn, there, open, held)
			}
		}
		if sent < 10*size {
			t.Errorf("%d places: only %d are sent", places, sent)
		}
	}
}
