package settle_test

import (
	"math"
	"slices"
	"testing"

	"cableway/api"
	"cableway/arena"
	"cableway/settle"
)

const mostGen = 1<<24 - 1

// gens are turns that may be; beyond, numbers that are none, some like one that is in their lower bits.
var (
	gens   = []int{0, 1, 2, 5, 0xff, 0xabcdef, 1 << 23, mostGen - 1, mostGen}
	beyond = []int{
		-1, -2, -5, -mostGen, -mostGen - 1, math.MinInt32, math.MinInt + 5, math.MinInt,
		mostGen + 1, mostGen + 2, 1<<24 + 5, 1<<25 + 5, 1<<32 + 5, math.MaxInt32, 1<<62 + 5, math.MaxInt,
	}
)

// mosts are numbers of turns that a slot may be told to have.
var mosts = []int{math.MinInt, -1, 0, 1, 2, 3, 4, 5, 6, 0xff, 0xabcdee, 0xabcdef, 0xabcdf0, mostGen - 1, mostGen, mostGen + 1, 1 << 40, math.MaxInt}

// states are how a slot can stand; live, those of a turn that goes on.
var (
	states = []int{api.SlotFree, api.SlotPending, api.SlotStreams, api.SlotRetired}
	live   = []int{api.SlotPending, api.SlotStreams}
)

// cells are some of the arena's cells, its first and its last one among them.
var cells = []int{0, 1, 7, 39}

// word is a slot's word, worked out by a sum.
func word(g, s int) uint64 { return uint64(g) + uint64(s)*(1<<24) }

// closed is what a slot of so many turns has behind the end of one.
func closed(g, most int) uint64 {
	if g >= most || g >= mostGen {
		return word(g, api.SlotRetired)
	}
	return word(g, api.SlotFree)
}

// holding is cells, of which none is as another, but that one has a word.
func holding(cell int, w uint64) *arena.Arena {
	a := arena.New(40)
	for i := range a.Len() {
		a.Write(i, 1<<40+uint64(i)*1001)
	}
	a.Write(cell, w)
	return a
}

// all is what each cell has.
func all(a *arena.Arena) []uint64 {
	var l []uint64
	for cell := range a.Len() {
		l = append(l, a.Look(cell))
	}
	return l
}

// step does a step, and looks whether it touches just that cell (so that no other is changed), and lets it have that.
func step(t *testing.T, a *arena.Arena, task settle.Task, cell int, w uint64) settle.Task {
	t.Helper()
	a.Begin()
	next := task.Step(a)
	if l := a.Touched(); !slices.Equal(l, []int{cell}) || a.Stray() != 0 {
		t.Fatalf("it touches %v, and %d others, not %d", l, a.Stray(), cell)
	}
	if got := a.Look(cell); got != w {
		t.Fatalf("cell %d has %x, not %x", cell, got, w)
	}
	return next
}

// idle does a step of a task, and looks whether it stays as it is and touches nothing.
func idle(t *testing.T, a *arena.Arena, task settle.Task) {
	t.Helper()
	was := all(a)
	a.Begin()
	if task.Step(a) != task {
		t.Fatal("it does not stay as it is")
	}
	if len(a.Touched()) != 0 || a.Stray() != 0 || !slices.Equal(all(a), was) {
		t.Fatalf("it touches %v, and %d others", a.Touched(), a.Stray())
	}
}

// goes looks what a task tells of itself that is not done.
func goes(t *testing.T, task settle.Task) {
	t.Helper()
	if err, done := task.Done(); err != api.OK || done || task.Word() != 0 {
		t.Fatalf("Done: %d, %v; Word: %x", err, done, task.Word())
	}
}

// ended looks what a task tells of itself that ended its turn; stale, what one tells whose turn did not go on.
func ended(t *testing.T, task settle.Task, w uint64) {
	t.Helper()
	if err, done := task.Done(); err != api.OK || !done || task.Word() != w {
		t.Fatalf("Done: %d, %v; Word: %x, not %x", err, done, task.Word(), w)
	}
}

func stale(t *testing.T, task settle.Task) {
	t.Helper()
	if err, done := task.Done(); err != api.ErrStale || !done || task.Word() != 0 {
		t.Fatalf("Done: %d, %v; Word: %x", err, done, task.Word())
	}
}

// ends does the two steps of a task whose turn goes on.
func ends(t *testing.T, a *arena.Arena, cell, gen, most int) settle.Task {
	t.Helper()
	task := settle.New(cell, gen, most)
	goes(t, task)
	task = step(t, a, task, cell, a.Look(cell))
	goes(t, task)
	task = step(t, a, task, cell, closed(gen, most))
	ended(t, task, closed(gen, most))
	return task
}

// finds does the one step of a task whose turn does not go on.
func finds(t *testing.T, a *arena.Arena, cell, gen, most int) settle.Task {
	t.Helper()
	task := settle.New(cell, gen, most)
	goes(t, task)
	task = step(t, a, task, cell, a.Look(cell))
	stale(t, task)
	return task
}

// 11.1: the document's example, by hand: one behind the other, and step by step in turn.
func TestExample(t *testing.T) {
	a := arena.New(1)
	a.Write(0, 0x1000003)
	one, two := settle.New(0, 3, 5), settle.New(0, 3, 5)
	one = one.Step(a).Step(a)
	two = two.Step(a)
	ended(t, one, 3)
	stale(t, two)
	if a.Look(0) != 3 {
		t.Errorf("the slot has %x", a.Look(0))
	}

	a.Write(0, 0x2000005)
	one, two = settle.New(0, 5, 5), settle.New(0, 5, 5)
	one = one.Step(a)
	two = two.Step(a)
	two = two.Step(a)
	one = one.Step(a)
	goes(t, one)
	one = one.Step(a)
	ended(t, two, 0x3000005)
	stale(t, one)
	if a.Look(0) != 0x3000005 {
		t.Errorf("the slot has %x", a.Look(0))
	}
}

// 11.1: each turn that goes on, of each number of turns, in each cell: two steps, and the slot is free, or retired.
func TestEnds(t *testing.T) {
	for _, cell := range cells {
		for _, gen := range gens {
			for _, s := range live {
				for _, most := range mosts {
					a := holding(cell, word(gen, s))
					want := all(a)
					want[cell] = closed(gen, most)
					idle(t, a, ends(t, a, cell, gen, most))
					if !slices.Equal(all(a), want) {
						t.Fatalf("cell %d, turn %d: others have changed", cell, gen)
					}
					finds(t, a, cell, gen, most)
				}
			}
		}
	}
}

// 11.1: a word that is not of the turn, or does not go on: ErrStale behind one step, and the slot has what it had.
func TestStale(t *testing.T) {
	for _, cell := range cells {
		for _, gen := range append(append([]int(nil), gens...), beyond...) {
			for _, g := range gens {
				for _, s := range states {
					if g == gen && (s == api.SlotPending || s == api.SlotStreams) {
						continue
					}
					for _, most := range []int{-1, 0, 1, g, g + 1, gen, mostGen} {
						a := holding(cell, word(g, s))
						idle(t, a, finds(t, a, cell, gen, most))
						if a.Look(cell) != word(g, s) {
							t.Fatalf("turn %d of %x: it has %x", gen, word(g, s), a.Look(cell))
						}
					}
				}
			}
		}
	}
}

// 11.1: a turn one bit beside the one that goes on is another one.
func TestOneBitBeside(t *testing.T) {
	for _, gen := range gens {
		for bit := range 24 {
			for _, s := range live {
				finds(t, holding(2, word(gen^1<<bit, s)), 2, gen, mostGen)
			}
		}
	}
}

// 11.1: bits that no field has are nothing to it; behind the end they are 0, as slots' words have them.
func TestOtherBits(t *testing.T) {
	for bit := 26; bit < 64; bit++ {
		for _, gen := range gens {
			for _, s := range live {
				ends(t, holding(4, word(gen, s)|1<<bit), 4, gen, 6)
			}
			finds(t, holding(4, word(gen, api.SlotFree)|1<<bit), 4, gen, 6)
			finds(t, holding(4, word(gen, api.SlotRetired)|1<<bit), 4, gen, 6)
		}
	}
}

// 11.1: where the word was changed since it was read: from the beginning, with what the slot has then.
func TestFromTheBeginning(t *testing.T) {
	for _, gen := range gens {
		for _, s := range live {
			for _, other := range []uint64{word(gen, 3-s), word(gen, s) | 1<<26, word(gen, s) | 1<<63, word(gen, 3-s) | 1<<40} {
				a := holding(3, word(gen, s))
				task := settle.New(3, gen, 5)
				for range 3 {
					// Each time the word is another one than was read.
					task = step(t, a, task, 3, a.Look(3))
					goes(t, task)
					a.Write(3, a.Look(3)^word(gen, s)^other)
					task = step(t, a, task, 3, a.Look(3))
					goes(t, task)
					if task != settle.New(3, gen, 5) {
						t.Fatal("something is kept of what it had read")
					}
				}
				task = step(t, a, task, 3, a.Look(3))
				goes(t, task)
				ended(t, step(t, a, task, 3, closed(gen, 5)), closed(gen, 5))
			}
		}
	}
}

// 11.1: where the turn was ended since its word was read: ErrStale behind two steps more, and the slot has what it had, be it of a later turn that goes on.
func TestEndedSince(t *testing.T) {
	for _, gen := range gens {
		for _, s := range live {
			for _, other := range []uint64{
				word(gen, api.SlotFree), word(gen, api.SlotRetired), 0, math.MaxUint64, word(gen, s) ^ 1<<23, word(gen^1, s),
				word((gen+1)%(1<<24), api.SlotPending), word((gen+1)%(1<<24), api.SlotStreams),
			} {
				if other == word(gen, s) || other&0xffffff == uint64(gen) && other>>24&3 == uint64(s) {
					continue
				}
				a := holding(3, word(gen, s))
				task := step(t, a, settle.New(3, gen, 9), 3, word(gen, s))
				a.Write(3, other)
				task = step(t, a, task, 3, other)
				goes(t, task)
				task = step(t, a, task, 3, other)
				stale(t, task)
				idle(t, a, task)
			}
		}
	}
}

// 11.1: a word that was changed since it was read, and is again as it was, is ended.
func TestAsItWas(t *testing.T) {
	a := holding(3, word(7, api.SlotPending))
	task := step(t, a, settle.New(3, 7, 9), 3, word(7, api.SlotPending))
	a.Write(3, word(7, api.SlotStreams))
	a.Write(3, word(7, api.SlotPending))
	ended(t, step(t, a, task, 3, 7), 7)
}

// 11.1: of a cell that there is not, or of no arena: nothing is there, so ErrStale behind one step.
func TestNoCell(t *testing.T) {
	for _, gen := range append(append([]int(nil), gens...), beyond...) {
		for _, cell := range []int{math.MinInt, -40, -1, 40, 41, 1 << 14, 1 << 32, math.MaxInt} {
			a := holding(3, word(max(gen, 0)%(1<<24), api.SlotPending))
			was := all(a)
			a.Begin()
			task := settle.New(cell, gen, 5).Step(a)
			stale(t, task)
			if len(a.Touched()) != 0 || a.Stray() != 1 || !slices.Equal(all(a), was) {
				t.Fatalf("cell %d: it touches %v, and %d others", cell, a.Touched(), a.Stray())
			}
			idle(t, a, task)
		}
		for _, a := range []*arena.Arena{nil, {}} {
			stale(t, settle.New(0, gen, 5).Step(a))
		}
	}
}

// R1: in an arena that has not the cell any more each step ends, and it is found stale at last.
func TestCellGone(t *testing.T) {
	for _, b := range []*arena.Arena{nil, {}, arena.New(3)} {
		task := settle.New(3, 7, 9).Step(holding(3, word(7, api.SlotPending)))
		goes(t, task)
		task = task.Step(b)
		goes(t, task)
		stale(t, task.Step(b))
	}
}

// 11.1: a plain Task is one of the turn 0 of the first cell, that is not done.
func TestPlainTask(t *testing.T) {
	var task settle.Task
	goes(t, task)
	stale(t, task.Step(arena.New(1)))
	if task != settle.New(0, 0, 0) {
		t.Error("it is another one than New's")
	}
}

// 11.1: what is done stays as it is, whatever the slot has.
func TestDoneStays(t *testing.T) {
	won := ends(t, holding(3, word(7, api.SlotPending)), 3, 7, 9)
	last := ends(t, holding(3, word(7, api.SlotStreams)), 3, 7, 7)
	lost := finds(t, holding(3, word(7, api.SlotFree)), 3, 7, 9)
	for _, w := range []uint64{word(7, api.SlotPending), word(7, api.SlotStreams), word(7, api.SlotFree), word(7, api.SlotRetired), word(8, api.SlotPending), 0, math.MaxUint64} {
		for _, task := range []settle.Task{won, last, lost} {
			idle(t, holding(3, w), task)
			idle(t, nil, task)
			idle(t, arena.New(1), task)
		}
	}
	ended(t, won, 7)
	ended(t, last, 0x3000007)
	stale(t, lost)
}

// R2: a step changes no task: each of those met can be gone on with again, and comes to the same.
func TestStepKeepsTask(t *testing.T) {
	a := holding(3, word(7, api.SlotStreams))
	var met []settle.Task
	task := settle.New(3, 7, 9)
	for done := false; !done; _, done = task.Done() {
		was := task
		met = append(met, task)
		if task = task.Step(a); task == was || met[len(met)-1] != was {
			t.Fatal("the elder task is changed, or the step did nothing")
		}
	}
	if len(met) != 2 {
		t.Errorf("%d steps", len(met))
	}
	for i, again := range met {
		b := holding(3, word(7, api.SlotStreams))
		for done := false; !done; _, done = again.Done() {
			again = again.Step(b)
		}
		if again != task || !slices.Equal(all(b), all(a)) {
			t.Errorf("from the step %d on it comes to something else", i)
		}
	}
}

// 11.1: tasks of other cells, turns, or numbers of turns are others.
func TestOthers(t *testing.T) {
	a := arena.New(4)
	for cell := range a.Len() {
		a.Write(cell, word(7, api.SlotPending))
	}
	ends(t, a, 1, 7, 9)
	ends(t, a, 3, 7, 7)
	finds(t, a, 1, 7, 9)
	finds(t, a, 0, 8, 9)
	ends(t, a, 0, 7, 6)
	if want := []uint64{0x3000007, 7, 0x1000007, 0x3000007}; !slices.Equal(all(a), want) {
		t.Errorf("cells: %x, not %x", all(a), want)
	}
}

// world is how a slot stands, some who try to end its turns, and one who changes its word.
type world struct {
	word  uint64
	tasks [5]settle.Task
	opens int // how often its next turn is still to be opened
	turns int // how often its word is still to be changed within its turn
}

// behind is the world behind a step of one of those who try; false: that one is done.
func (w world) behind(i int) (world, bool) {
	if _, done := w.tasks[i].Done(); done {
		return w, false
	}
	a := arena.New(1)
	a.Write(0, w.word)
	w.tasks[i] = w.tasks[i].Step(a)
	w.word = a.Look(0)
	return w, true
}

// next are the worlds behind a step of one of those who are not done.
func (w world) next(many int) []world {
	var l []world
	for i := range many {
		if n, ok := w.behind(i); ok {
			l = append(l, n)
		}
	}
	g, s := int(w.word&0xffffff), int(w.word>>24)
	if w.opens > 0 && s == api.SlotFree {
		n := w
		n.word, n.opens = word(g+1, api.SlotPending), w.opens-1
		l = append(l, n)
	}
	if w.turns > 0 && (s == api.SlotPending || s == api.SlotStreams) {
		n := w
		n.word, n.turns = word(g, 3-s), w.turns-1
		l = append(l, n)
	}
	return l
}

// winners is how many of those who try have ended this turn, where each is done, and the i-th one's turn is turn(i).
func (w world) winners(t *testing.T, many, gen, most int, turn func(i int) int) int {
	t.Helper()
	n := 0
	for i, task := range w.tasks[:many] {
		err, done := task.Done()
		if !done {
			t.Fatal("one is not done")
		}
		if err == api.OK && turn(i) == gen {
			ended(t, task, closed(gen, most))
			n++
		}
	}
	return n
}

// orders goes through all orders of steps from a world on: all worlds in which nobody has anything to do.
func orders(first world, many int) []world {
	var ends []world
	met := map[world]bool{first: true}
	for l := []world{first}; len(l) > 0; {
		w := l[len(l)-1]
		l = l[:len(l)-1]
		next := w.next(many)
		for _, n := range next {
			if !met[n] {
				met[n] = true
				l = append(l, n)
			}
		}
		if len(next) == 0 {
			ends = append(ends, w)
		}
	}
	return ends
}

// 11.2: in all orders of steps of some who try to end one turn just one does, also while its word is changed.
func TestJustOne(t *testing.T) {
	for many := 1; many <= 5; many++ {
		for turns := range 3 {
			for _, most := range []int{7, 9} {
				first := world{word: word(7, api.SlotPending), turns: turns}
				for i := range many {
					first.tasks[i] = settle.New(0, 7, most)
				}
				won := map[int]bool{}
				for _, w := range orders(first, many) {
					if n := w.winners(t, many, 7, most, func(int) int { return 7 }); n != 1 || w.word != closed(7, most) {
						t.Fatalf("%d of %d end it; the slot has %x", n, many, w.word)
					}
					for i, task := range w.tasks[:many] {
						if err, _ := task.Done(); err == api.OK {
							won[i] = true
						}
					}
				}
				if len(won) != many {
					t.Errorf("just %d of %d may win", len(won), many)
				}
			}
		}
	}
}

// 11.2: in all orders of steps of some who try to end a turn, and others the next one, just one does of each that is opened while they try; no one ends another's.
func TestTwoTurns(t *testing.T) {
	for many := 2; many <= 5; many++ {
		for elder := 1; elder <= many; elder++ {
			turn := func(i int) int {
				if i < elder {
					return 7
				}
				return 8
			}
			first := world{word: word(7, api.SlotStreams), opens: 1, turns: 1}
			for i := range many {
				first.tasks[i] = settle.New(0, turn(i), 8)
			}
			var later [2]int
			for _, w := range orders(first, many) {
				if n := w.winners(t, many, 7, 8, turn); n != 1 {
					t.Fatalf("%d end the elder turn", n)
				}
				// The later one goes on, if all who would end it came ahead of its beginning.
				n, goesOn := w.winners(t, many, 8, 8, turn), w.word>>24 != api.SlotRetired
				if n > 1 || (n == 1) == goesOn || w.word&0xffffff != 8 {
					t.Fatalf("%d end the later turn; the slot has %x", n, w.word)
				}
				later[n]++
			}
			if later[0] == 0 || (later[1] == 0) != (elder == many) {
				t.Errorf("%d elder of %d: the later turn goes on %d times, and is ended %d times", elder, many, later[0], later[1])
			}
		}
	}
}

// 11.2: many try, in an order of steps drawn by a rule, turn behind turn: of each turn one ends it, till the slot is retired.
func TestTurnBehindTurn(t *testing.T) {
	seed := uint64(5)
	draw := func(n int) int {
		seed = seed*6364136223846793005 + 1442695040888963407
		return int(seed >> 33 % uint64(n))
	}
	const most, many = 2000, 40
	a := arena.New(2)
	a.Write(1, word(1, api.SlotPending))
	var tasks [many]settle.Task
	var turn [many]int
	for i := range tasks {
		tasks[i], turn[i] = settle.New(1, 1, most), 1
	}
	winners := map[int]int{}
	lost := 0
	for n := 0; a.Look(1)>>24 != api.SlotRetired; n++ {
		if n == 1<<20 {
			t.Fatal("the slot is never retired")
		}
		g, s := int(a.Look(1)&0xffffff), int(a.Look(1)>>24)
		if s == api.SlotFree {
			a.Write(1, word(g+1, live[draw(2)]))
		} else if draw(30) == 0 {
			a.Write(1, word(g, 3-s))
		}
		i := draw(many)
		tasks[i] = tasks[i].Step(a)
		if err, done := tasks[i].Done(); done {
			if err == api.OK {
				winners[turn[i]]++
				ended(t, tasks[i], closed(turn[i], most))
			} else {
				lost++
			}
			turn[i] = int(a.Look(1)&0xffffff) + draw(2)
			tasks[i] = settle.New(1, turn[i], most)
		}
	}
	for g := 1; g <= most; g++ {
		if winners[g] != 1 {
			t.Fatalf("%d end the turn %d", winners[g], g)
		}
	}
	if len(winners) != most || lost == 0 || a.Look(0) != 0 {
		t.Errorf("%d turns are ended, %d were too late, the other cell has %x", len(winners), lost, a.Look(0))
	}
}
